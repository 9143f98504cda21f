/- What the drawings of an object and of a text of a tuple answer: an object of short strings, a short string; nothing that was there is touched. -/
import Derived.Test.YtacboillcpollaaHurt
import Derived.Test.YtacboillcpollaaTupText
namespace Go.Proofs.Ytacboillcpollaa
open Go.ChangeShapes Go.WideShapes Go.ChangeAt Go.RowKit
open Pl

theorem drawObj_any (ad : Option Addr) (len cap : Nat) (w : World) (h : Bytes w ad len) :
    Calls Try.prog 13 #[.slice ad len cap] w fun e w' => (∃ a b : ByteArray, e = .returned (.agg #[.string a, .string b]) ∧ a.size ≤ 20 ∧ b.size ≤ 20) ∧ Below w.heap.size w w' := by
  have H : Hid (Bytes w ad len) := h
  clear h
  go_enter Try.func13, Try.ntmps13
  go_wp2_with fail
  refine (open_any ad len cap _ (H.out.below ((Below.refl _ _).alloc (Nat.le_refl _) _))).mono ?_
  rintro e w1 ⟨rfl, hR1, hb1⟩
  simp only [World.size_alloc] at hR1
  have HB1 : Hid (Below w.heap.size w w1) := ((Below.refl w.heap.size w).alloc (Nat.le_refl _) _).trans (hb1.mono (by simp))
  have HR1 : Hid (Rd w1 (w.heap.size + 1) ad len cap) := hR1
  have hl1 : w.heap.size < w1.heap.size := by have := hb1.size; simp at this; omega
  have n0 : w1.cell? ⟨w.heap.size, 0, none⟩ = some (.string ⟨#[]⟩) := by rw [hb1.cell (p := ⟨w.heap.size, 0, none⟩) (by simp)]; simp
  have n1 : w1.cell? ⟨w.heap.size, 1, none⟩ = some (.string ⟨#[]⟩) := by rw [hb1.cell (p := ⟨w.heap.size, 1, none⟩) (by simp)]; simp
  have nf : ∀ o, w1.frozen? ⟨w.heap.size, o, none⟩ = false := fun o => by rw [hb1.frozen (p := ⟨w.heap.size, o, none⟩) (by simp)]; simp
  clear hR1 hb1
  go_wp2_with fail
  refine (object_any (w.heap.size + 1) ad len cap _ HR1.out).mono ?_
  rintro e w2 ⟨⟨a, b, rfl, ha, hb⟩, hR2, hO2⟩
  have HB2 : Hid (Below w.heap.size w w2) := Only.toBelow HB1.out hO2 HB1.out.size (by omega)
  have m0 := (hO2.cell (o := 0) hl1 (by omega)).trans n0
  have m1 := (hO2.cell (o := 1) hl1 (by omega)).trans n1
  have mf := fun o => (hO2.frozen (o := o) hl1 (by omega)).trans (nf o)
  clear n0 n1 nf hR2 hO2 HR1
  go_wp2
  exact bodyPost_ret (v := .agg #[.string a, .string b]) (by simp [results, Try.results13, go_sem, *]) rfl ⟨⟨_, _, rfl, ha, hb⟩, (HB2.out.setCell (p := ⟨w.heap.size, 0, none⟩) (Nat.le_refl _) _).setCell (p := ⟨w.heap.size, 1, none⟩) (Nat.le_refl _) _⟩

theorem tupText_size {a b r c d s : ByteArray} (hr : r.size ≤ 20) (hs : s.size ≤ 20) : (tupText a b r c d s).size ≤ 150 := by
  have h1 := objText_size a b
  have h2 := objText_size c d
  have e1 : (⟨#[35]⟩ : ByteArray).size = 1 := rfl
  have e2 : (⟨#[64]⟩ : ByteArray).size = 1 := rfl
  have e0 : (⟨#[]⟩ : ByteArray).size = 0 := rfl
  unfold tupText
  split
  · split <;> simp only [ByteArray.size_append] <;> omega
  · omega
theorem le20' {a : ByteArray} (h : a.size ≤ 20) : a.size ≤ maxLen := by unfold maxLen; omega

set_option maxHeartbeats 1000000 in
theorem drawRead_any (ad : Option Addr) (len cap : Nat) (w : World) (h : Bytes w ad len) :
    Calls Try.prog 17 #[.slice ad len cap] w fun e w' => (∃ t : ByteArray, e = .returned (.string t) ∧ t.size ≤ 500) ∧ Below w.heap.size w w' := by
  have H : Hid (Bytes w ad len) := h
  clear h
  go_enter Try.func17, Try.ntmps17
  go_wp2_with fail
  refine (open_any ad len cap _ H.out).mono ?_
  rintro e w1 ⟨rfl, hR1, hb1⟩
  have HB1 : Hid (Below w.heap.size w w1) := hb1
  have HR1 : Hid (Rd w1 w.heap.size ad len cap) := hR1
  clear hR1 hb1
  go_wp2_with fail
  refine (tuple_any w.heap.size ad len cap _ HR1.out).mono ?_
  rintro e w2 ⟨⟨a, b, r, c, d, s, rfl, ha, hb, hr, hc, hd, hs⟩, hR2, hO2⟩
  have HB2 : Hid (Below w.heap.size w w2) := Only.toBelow HB1.out hO2 HB1.out.size (Nat.le_refl _)
  have HR2 : Hid (Rd w2 w.heap.size ad len cap) := hR2
  clear hR2 hO2 HB1 HR1
  go_wp2_with fail
  refine (specTupText_any a b r c d s _ (le20' ha) (le20' hb) (le20' hr) (le20' hc) (le20' hd) (le20' hs)).mono ?_
  rintro e w3 ⟨rfl, hb3⟩
  have HB3 : Hid (Below w.heap.size w w3) := HB2.out.trans (hb3.mono HB2.out.size)
  have HR3 : Hid (Rd w3 w.heap.size ad len cap) := HR2.out.below hb3
  have hts := tupText_size (a := a) (b := b) (c := c) (d := d) hr hs
  clear hb3 HB2 HR2
  go_wp2_with fail
  refine (hurt_any w.heap.size ad len cap _ _ HR3.out hts).mono ?_
  rintro e w4 ⟨⟨t, rfl, ht⟩, hR4, hO4⟩
  have HB4 : Hid (Below w.heap.size w w4) := Only.toBelow HB3.out hO4 HB3.out.size (Nat.le_refl _)
  have HR4 : Hid (Rd w4 w.heap.size ad len cap) := hR4
  have hl4 : w.heap.size < w4.heap.size := hR4.lt
  clear hR4 hO4 HB3 HR3
  go_wp2_with fail
  refine (below_any w.heap.size ad len cap 5 _ (HR4.out.alloc _) (by omega) (by omega)).mono ?_
  rintro e w5 ⟨⟨x, rfl, hx0, hx1⟩, hR5, hO5⟩
  obtain ⟨x, rfl⟩ : ∃ y : Nat, x = (y : Int) := ⟨x.toNat, by omega⟩
  have hSt := (strs_new w4 w.heap.size hl4 (t := 9) (xs := [⟨#[]⟩, ⟨#[]⟩, ⟨#[]⟩, ⟨#[35]⟩, ⟨#[35, 109, 101, 109, 98, 101, 114]⟩]) (by decide)).only hO5
  obtain ⟨u, hu, hcu⟩ := hSt.2.2 x (by simp; omega)
  have HB5 : Hid (Below w.heap.size w w5) := Only.toBelow (HB4.out.alloc HB4.out.size _) hO5 (by simp; have := HB4.out.size; omega) (Nat.le_refl _)
  clear hR5 hO5 HB4 HR4 hSt
  go_wp2
  go_ret
  exact ⟨⟨_, rfl, by rw [ByteArray.size_append]; omega⟩, HB5.out⟩

end Go.Proofs.Ytacboillcpollaa
