/- What the drawings of the laws on changes' texts answer: a change of short strings, a short string; nothing that was there is touched. -/
import Derived.Test.YtgifbgcnlijjiaaDrawChg
namespace Go.Proofs.Ytgifbgcnlijjiaa
open Go.ChangeShapes Go.WideShapes Go.ChangeAt Go.RowKit Go.Maps
open Pl

theorem le20m {a : ByteArray} (h : a.size ≤ 20) : a.size ≤ maxLen := by unfold maxLen; omega
theorem chgText_size (k : Int) (a b r c d s : ByteArray) : (chgText k a b r c d s).size ≤ 100 := by
  have h := tupText_77 a b r c d s
  cases hk : chgB k with
  | false => rw [chgText_no2 hk]; exact Nat.zero_le _
  | true =>
    cases ht : tupB a b r c d s with
    | false => rw [chgText_no1 ht]; exact Nat.zero_le _
    | true =>
      have h4 : (chgW k).size ≤ 4 := by rcases chgB_of hk with rfl | rfl <;> decide
      have e1 : (⟨#[32]⟩ : ByteArray).size = 1 := rfl
      rw [chgText_yes hk ht]; simp only [ByteArray.size_append]; omega

/-- what the drawing of a change answers -/
def DCPost (w : World) (e : Ending) (w' : World) : Prop := (∃ (k : Int) (a b r c d s : ByteArray), e = .returned (.agg #[.int .i64 k, .string a, .string b, .string r, .string c, .string d, .string s]) ∧ a.size ≤ 20 ∧ b.size ≤ 20 ∧ r.size ≤ 20 ∧ c.size ≤ 20 ∧ d.size ≤ 20 ∧ s.size ≤ 20) ∧ Below w.heap.size w w'
theorem dc_mk {w w' : World} {k : Int} {a b r c d s : ByteArray} (ht : a.size ≤ 20 ∧ b.size ≤ 20 ∧ r.size ≤ 20 ∧ c.size ≤ 20 ∧ d.size ≤ 20 ∧ s.size ≤ 20) (hB : Below w.heap.size w w') : DCPost w (.returned (.agg #[.int .i64 k, .string a, .string b, .string r, .string c, .string d, .string s])) w' := ⟨⟨k, a, b, r, c, d, s, rfl, ht⟩, hB⟩

set_option maxHeartbeats 2000000 in
theorem drawChangeText_any (ad : Option Addr) (len cap : Nat) (w : World) (h : Bytes w ad len) :
    Calls Try.prog 9 #[.slice ad len cap] w fun e w' => DCPost w e w' := by
  have H : Hid (Bytes w ad len) := h
  clear h
  obtain ⟨W0, hW0⟩ : ∃ W0, W0 = w.alloc (.cells #[.int .i64 0, .string ⟨#[]⟩, .string ⟨#[]⟩, .string ⟨#[]⟩, .string ⟨#[]⟩, .string ⟨#[]⟩, .string ⟨#[]⟩] 29) := ⟨_, rfl⟩
  have HB0 : Hid (Below w.heap.size w W0) := by show Below _ _ _; rw [hW0]; exact (Below.refl _ _).alloc (Nat.le_refl _) _
  have HZ0 : Hid (W0.heap.size = w.heap.size + 1) := by show _ = _; rw [hW0]; simp
  have HS0 : Hid (Sev W0 (w.heap.size + 1) w.heap.size 0 ⟨#[]⟩ ⟨#[]⟩ ⟨#[]⟩ ⟨#[]⟩ ⟨#[]⟩ ⟨#[]⟩) := by
    show Sev _ _ _ _ _ _ _ _ _ _
    rw [hW0]
    refine ⟨by omega, by simp, fun o => by simp, ?_, ?_, ?_, ?_, ?_, ?_, ?_⟩ <;> simp
  go_enter Try.func9, Try.ntmps9
  go_wp2_with fail
  rw [← hW0]
  clear hW0
  refine (open_any ad len cap _ (H.out.below HB0.out)).mono ?_
  rintro e w1 ⟨rfl, hR1, hb1⟩
  rw [HZ0.out] at hR1 ⊢
  have HR1 : Hid (Rd w1 (w.heap.size + 1) ad len cap) := hR1
  have HO1 : Hid (Only (w.heap.size + 1) W0 w1) := Only.of_below hb1
  have HB1 : Hid (Below w.heap.size w w1) := HB0.out.trans (hb1.mono HB0.out.size)
  have HS1 := HID (HS0.out.only HO1.out)
  clear hR1 hb1
  go_wp2_with fail
  refine (tuples4_any (w.heap.size + 1) ad len cap _ HR1.out).mono ?_
  rintro e w2 ⟨⟨g, c0, ts, rfl, hlen, hsh, hown⟩, hR2, hO2⟩
  obtain ⟨hrow, hg, -, hbg⟩ := own_row hown rfl
  have hR1l := HR1.out.lt
  have HS2 := HID (HS1.out.only hO2)
  have HB2 : Hid (Below w.heap.size w w2) := Only.toBelow HB1.out hO2 HB1.out.size (by omega)
  have HC := HID (change_any (w.heap.size + 1) ad len cap g c0 ts w2 hR2 hlen hsh hrow hg (by omega))
  clear hlen hsh hown hR2 hO2 hrow hg hbg HR1 HO1 HS1 HB1 HB0 HS0
  go_wp2_with fail
  refine HC.out.mono ?_
  rintro e w3 ⟨⟨k, a, b, r, c, d, s, rfl, ht⟩, hR3, hO3⟩
  have HT : Hid (a.size ≤ 20 ∧ b.size ≤ 20 ∧ r.size ≤ 20 ∧ c.size ≤ 20 ∧ d.size ≤ 20 ∧ s.size ≤ 20) := ht
  have HB3 : Hid (Below w.heap.size w w3) := Only.toBelow HB2.out hO3 HB2.out.size (by omega)
  obtain ⟨s1, s2, s3, d0, d1, d2, d3, d4, d5, d6⟩ := HS2.out.only hO3
  clear ht hR3 hO3 HC HS2 HB2
  go_wp2
  exact bodyPost_ret (v := .agg #[.int .i64 k, .string a, .string b, .string r, .string c, .string d, .string s]) (by simp [results, Try.results9, go_sem, *]) rfl (dc_mk HT.out (by
    repeat' (first | with_reducible exact HB3.out | (with_reducible refine Below.setCell ?_ ?_ _) | omega | (simp; done) | (simp; omega))))

set_option maxHeartbeats 2000000 in
theorem drawReadChange_any (ad : Option Addr) (len cap : Nat) (w : World) (h : Bytes w ad len) :
    Calls Try.prog 13 #[.slice ad len cap] w fun e w' => (∃ t : ByteArray, e = .returned (.string t) ∧ t.size ≤ 400) ∧ Below w.heap.size w w' := by
  have H : Hid (Bytes w ad len) := h
  clear h
  go_enter Try.func13, Try.ntmps13
  go_wp2_with fail
  refine (open_any ad len cap _ H.out).mono ?_
  rintro e w1 ⟨rfl, hR1, hb1⟩
  have HR1 : Hid (Rd w1 w.heap.size ad len cap) := hR1
  have HB1 : Hid (Below w.heap.size w w1) := hb1
  have hR1l := hR1.lt
  clear hR1 hb1
  go_wp2_with fail
  refine (tuples4_any w.heap.size ad len cap _ HR1.out).mono ?_
  rintro e w2 ⟨⟨g, c0, ts, rfl, hlen, hsh, hown⟩, hR2, hO2⟩
  obtain ⟨hrow, hg, -, hbg⟩ := own_row hown rfl
  have HB2 : Hid (Below w.heap.size w w2) := Only.toBelow HB1.out hO2 HB1.out.size (by omega)
  have HC := HID (change_any w.heap.size ad len cap g c0 ts w2 hR2 hlen hsh hrow hg (by omega))
  clear hlen hsh hown hR2 hO2 hrow hg hbg HR1 HB1
  go_wp2_with fail
  refine HC.out.mono ?_
  rintro e w3 ⟨⟨k, a, b, r, c, d, s, rfl, ha, hb, hr, hc, hd, hs⟩, hR3, hO3⟩
  have HR3 := HID hR3
  have HB3 : Hid (Below w.heap.size w w3) := Only.toBelow HB2.out hO3 HB2.out.size (by omega)
  clear hR3 hO3 HC HB2
  go_wp2_with fail
  refine (specChg_any k a b r c d s _ (le20m ha) (le20m hb) (le20m hr) (le20m hc) (le20m hd) (le20m hs)).mono ?_
  rintro e w4 ⟨rfl, hb4⟩
  have HR4 : Hid (Rd w4 w.heap.size ad len cap) := HR3.out.below hb4
  have HB4 : Hid (Below w.heap.size w w4) := HB3.out.trans (hb4.mono HB3.out.size)
  have hcs := chgText_size k a b r c d s
  clear hb4 HR3 HB3
  go_wp2_with fail
  refine (hurt_any w.heap.size ad len cap _ _ HR4.out (by omega)).mono ?_
  rintro e w5 ⟨⟨t, rfl, ht⟩, hR5, hO5⟩
  have HB5 : Hid (Below w.heap.size w w5) := Only.toBelow HB4.out hO5 HB4.out.size (by omega)
  clear hR5 hO5 HB4 HR4
  go_wp2
  go_ret
  exact ⟨⟨_, rfl, ht⟩, HB5.out⟩
end Go.Proofs.Ytgifbgcnlijjiaa
