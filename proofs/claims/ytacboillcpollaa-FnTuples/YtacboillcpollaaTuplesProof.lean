/- Proved here: FnTuples answers true for every slice of bytes and leaves it as it was, with no condition on it; whatever the package variable internal/bytealg.MaxLen holds. -/
import Derived.Test.YtacboillcpollaaDrawLaw2
import Derived.Test.YtacboillcpollaaReadTup
import Derived.OpenShut
import Derived.ShutString
import Derived.HandedShaped
namespace Go.Proofs.Ytacboillcpollaa.fnTuples
open Go.ChangeShapes Go.WideShapes Go.ChangeAt Go.RowKit
open Pl
set_option linter.unusedVariables false

/-- six cells that hold a tuple -/
def Six (w : World) (n : Nat) (a b r c d s : ByteArray) : Prop := n < w.heap.size ∧ w.cell? ⟨n, 0, none⟩ = some (.string a) ∧ w.cell? ⟨n, 1, none⟩ = some (.string b) ∧ w.cell? ⟨n, 2, none⟩ = some (.string r) ∧ w.cell? ⟨n, 3, none⟩ = some (.string c) ∧ w.cell? ⟨n, 4, none⟩ = some (.string d) ∧ w.cell? ⟨n, 5, none⟩ = some (.string s)
theorem Six.below {w w' : World} {n : Nat} {a b r c d s : ByteArray} (h : Six w n a b r c d s) (hb : Below w.heap.size w w') : Six w' n a b r c d s := by
  obtain ⟨h, h0, h1, h2, h3, h4, h5⟩ := h
  exact ⟨Nat.lt_of_lt_of_le h hb.size, by rw [hb.cell (p := ⟨n, 0, none⟩) h]; exact h0, by rw [hb.cell (p := ⟨n, 1, none⟩) h]; exact h1, by rw [hb.cell (p := ⟨n, 2, none⟩) h]; exact h2, by rw [hb.cell (p := ⟨n, 3, none⟩) h]; exact h3, by rw [hb.cell (p := ⟨n, 4, none⟩) h]; exact h4, by rw [hb.cell (p := ⟨n, 5, none⟩) h]; exact h5⟩
theorem six_new (w : World) (t : TypeId) (a b r c d s : ByteArray) : Six (w.alloc (.cells #[.string a, .string b, .string r, .string c, .string d, .string s] t)) w.heap.size a b r c d s := by
  refine ⟨by simp, ?_, ?_, ?_, ?_, ?_, ?_⟩ <;> simp
/-- two cells that hold an object -/
def Two (w : World) (n : Nat) (a b : ByteArray) : Prop := n < w.heap.size ∧ w.cell? ⟨n, 0, none⟩ = some (.string a) ∧ w.cell? ⟨n, 1, none⟩ = some (.string b)
theorem Two.below {w w' : World} {n : Nat} {a b : ByteArray} (h : Two w n a b) (hb : Below w.heap.size w w') : Two w' n a b := by
  obtain ⟨h, h0, h1⟩ := h
  exact ⟨Nat.lt_of_lt_of_le h hb.size, by rw [hb.cell (p := ⟨n, 0, none⟩) h]; exact h0, by rw [hb.cell (p := ⟨n, 1, none⟩) h]; exact h1⟩
theorem two_new (w : World) (t : TypeId) (a b : ByteArray) : Two (w.alloc (.cells #[.string a, .string b] t)) w.heap.size a b := by
  refine ⟨by simp, ?_, ?_⟩ <;> simp

theorem some_of_size {s : ByteArray} (h : 0 < s.size) : s.toList.isEmpty = false := by
  cases k : s.toList.isEmpty with
  | false => rfl
  | true => have := toList_isEmpty k; omega
theorem text_some' {a b r c d s : ByteArray} (h : tupB a b r c d s = true) : (tupText a b r c d s).toList.isEmpty = false := by
  apply some_of_size
  have e1 : (⟨#[35]⟩ : ByteArray).size = 1 := rfl
  cases hs : s.toList.isEmpty with
  | true => rw [tupText_one h hs]; simp only [ByteArray.size_append]; omega
  | false => rw [tupText_two h hs]; simp only [ByteArray.size_append]; omega
theorem objText_some {a b : ByteArray} (h : objB a b = true) : (objText a b).toList.isEmpty = false := by
  apply some_of_size
  have e1 : (⟨#[58]⟩ : ByteArray).size = 1 := rfl
  rw [objText_yes h]; simp only [ByteArray.size_append]; omega
theorem rd_empty : rdB ⟨#[]⟩ = false ∧ rdT ⟨#[]⟩ = ⟨#[]⟩ ∧ rdI ⟨#[]⟩ = ⟨#[]⟩ := by
  have h : rdB ⟨#[]⟩ = false := by decide
  exact ⟨h, rd_no h⟩
theorem read_empty : ReadAs ⟨#[]⟩ ⟨#[]⟩ ⟨#[]⟩ ⟨#[]⟩ ⟨#[]⟩ ⟨#[]⟩ ⟨#[]⟩ false :=
  Or.inr ⟨rfl, ⟨rfl, rfl, rfl, rfl, rfl, rfl⟩, fun a b r c d t h e => by
    have := text_some' h
    rw [e, Go.ByteArray.toList_eq] at this
    simp at this⟩
theorem readAs_true {x a b r c d t : ByteArray} (h : ReadAs x a b r c d t true) : tupB a b r c d t = true ∧ tupText a b r c d t = x := by
  rcases h with ⟨-, h1, h2⟩ | ⟨h, -⟩
  · exact ⟨h1, h2⟩
  · cases h
theorem readAs_sizes {x a b r c d t : ByteArray} (h : ReadAs x a b r c d t true) : a.size ≤ maxLen ∧ b.size ≤ maxLen ∧ r.size ≤ maxLen ∧ c.size ≤ maxLen ∧ d.size ≤ maxLen ∧ t.size ≤ maxLen := by
  obtain ⟨h1, -⟩ := readAs_true h
  obtain ⟨p1, p2, p3, p4⟩ := tupB_parts h1
  have q1 := objB_le p1
  have q2 := nameB_le p2
  have q3 := objB_le p3
  have q4 := setB_le p4
  unfold maxLen
  omega

set_option maxHeartbeats 8000000 in
theorem walk (ad : Option Addr) (len cap : Nat) (w : World) (h : Bytes w ad len) (hsh : w.ShapedOpen Try.prog) :
    Calls Try.prog 4 #[.slice ad len cap] w fun e w' => e = .returned (.bool true) ∧ Below w.heap.size w w' := by
  obtain ⟨m, hm⟩ := Try.laysM145.s1_3 w hsh
  have H : Hid (Bytes w ad len) := h
  have HL0 : Hid (w.cell? ⟨0, 0, none⟩ = some (.int .i64 m)) := hm
  have HW0 : Hid (Below w.heap.size w w) := Below.refl _ _
  clear h hm hsh
  by_cases hbig : (1048576 : Int) < (len : Int)
  · go_enter Try.func4, Try.ntmps4
    go_wp2_with (go_at_call 5; refine (big_any _ _ _ _).mono ?_; rintro e w ⟨rfl, rfl⟩)
    go_ret
    exact ⟨rfl, Below.refl _ _⟩
  go_enter Try.func4, Try.ntmps4
  go_wp2_with (first | (go_at_call 5; refine (big_any _ _ _ _).mono ?_; rintro e w ⟨rfl, rfl⟩) | fail)
  go_wp2_with fail
  refine (drawTuple_any ad len cap _ H.out).mono ?_
  rintro e w1 ⟨⟨a, b, r, c, d, s, rfl, ha, hb, hr, hc, hd, hs⟩, hb1⟩
  have HW1 : Hid (Below w.heap.size w w1) := HW0.out.trans (hb1.mono HW0.out.size)
  have HL1 : Hid (w1.cell? ⟨0, 0, none⟩ = some (.int .i64 m)) := cell_later hb1 HL0.out
  clear hb1  HW0 HL0
  have HT1 : Hid (Six (w1.alloc (.cells #[.string a, .string b, .string r, .string c, .string d, .string s] 27)) (w1.heap.size) a b r c d s) := six_new _ _ a b r c d s
  replace HW1 : Hid (Below w.heap.size w (w1.alloc (.cells #[.string a, .string b, .string r, .string c, .string d, .string s] 27))) := HW1.out.alloc HW1.out.size _
  replace HL1 : Hid ((w1.alloc (.cells #[.string a, .string b, .string r, .string c, .string d, .string s] 27)).cell? ⟨0, 0, none⟩ = some (.int .i64 m)) := cell_later ((Below.refl _ _).alloc (Nat.le_refl _) _) HL1.out
  obtain ⟨-, cT0, cT1, cT2, cT3, cT4, cT5⟩ := HT1.out
  go_wp2_with fail
  refine (implTupText_any a b r c d s _ (le20' ha) (le20' hb) (le20' hr) (le20' hc) (le20' hd) (le20' hs)).mono ?_
  rintro e w2 ⟨rfl, hb2⟩
  clear cT0 cT1 cT2 cT3 cT4 cT5
  have HT2 : Hid (Six w2 (w1.heap.size) a b r c d s) := HT1.out.below hb2
  have HW2 : Hid (Below w.heap.size w w2) := HW1.out.trans (hb2.mono HW1.out.size)
  have HL2 : Hid (w2.cell? ⟨0, 0, none⟩ = some (.int .i64 m)) := cell_later hb2 HL1.out
  clear hb2 HT1 HW1 HL1
  obtain ⟨-, cT0, cT1, cT2, cT3, cT4, cT5⟩ := HT2.out
  have hts := tupText_size (a := a) (b := b) (c := c) (d := d) hr hs
  cases ht : tupB a b r c d s with
  | true =>
    have hn := text_some' ht
    go_wp2_with fail
    refine (implReadTup_any (tupText a b r c d s) m _ (by omega) HL2.out).mono ?_
    rintro e w3 ⟨a', b', r', c', d', s', f, rfl, hRA, hb3⟩
    clear cT0 cT1 cT2 cT3 cT4 cT5
    have HT3 : Hid (Six w3 (w1.heap.size) a b r c d s) := HT2.out.below hb3
    have HW3 : Hid (Below w.heap.size w w3) := HW2.out.trans (hb3.mono HW2.out.size)
    have HL3 : Hid (w3.cell? ⟨0, 0, none⟩ = some (.int .i64 m)) := cell_later hb3 HL2.out
    clear hb3 HT2 HW2 HL2
    obtain ⟨⟨rfl, rfl, rfl, rfl, rfl, rfl⟩, rfl⟩ := ReadAs.one (Or.inl ⟨rfl, ht, rfl⟩ : ReadAs _ a b r c d s true) hRA
    clear hRA
    obtain ⟨-, cT0, cT1, cT2, cT3, cT4, cT5⟩ := HT3.out
    clear cT0 cT1 cT2 cT3 cT4 cT5
    replace HT3 : Hid (Six (w3.alloc (.cells #[.string a, .string b, .string r, .string c, .string d, .string s] 27)) (w1.heap.size) a b r c d s) := HT3.out.below ((Below.refl _ _).alloc (Nat.le_refl _) _)
    have HU3 : Hid (Six (w3.alloc (.cells #[.string a, .string b, .string r, .string c, .string d, .string s] 27)) (w3.heap.size) a b r c d s) := six_new _ _ a b r c d s
    replace HW3 : Hid (Below w.heap.size w (w3.alloc (.cells #[.string a, .string b, .string r, .string c, .string d, .string s] 27))) := HW3.out.alloc HW3.out.size _
    replace HL3 : Hid ((w3.alloc (.cells #[.string a, .string b, .string r, .string c, .string d, .string s] 27)).cell? ⟨0, 0, none⟩ = some (.int .i64 m)) := cell_later ((Below.refl _ _).alloc (Nat.le_refl _) _) HL3.out
    obtain ⟨-, cT0, cT1, cT2, cT3, cT4, cT5⟩ := HT3.out
    obtain ⟨-, cU0, cU1, cU2, cU3, cU4, cU5⟩ := HU3.out
    go_wp2_with fail
    refine (specTupText_any a b r c d s _ (le20' ha) (le20' hb) (le20' hr) (le20' hc) (le20' hd) (le20' hs)).mono ?_
    rintro e w4 ⟨rfl, hb4⟩
    clear cT0 cT1 cT2 cT3 cT4 cT5 cU0 cU1 cU2 cU3 cU4 cU5
    have HT4 : Hid (Six w4 (w1.heap.size) a b r c d s) := HT3.out.below hb4
    have HU4 : Hid (Six w4 (w3.heap.size) a b r c d s) := HU3.out.below hb4
    have HW4 : Hid (Below w.heap.size w w4) := HW3.out.trans (hb4.mono HW3.out.size)
    have HL4 : Hid (w4.cell? ⟨0, 0, none⟩ = some (.int .i64 m)) := cell_later hb4 HL3.out
    clear hb4 HT3 HU3 HW3 HL3
    obtain ⟨-, cT0, cT1, cT2, cT3, cT4, cT5⟩ := HT4.out
    obtain ⟨-, cU0, cU1, cU2, cU3, cU4, cU5⟩ := HU4.out
    go_wp2_with fail
    refine (drawObj_any ad len cap _ (H.out.below HW4.out)).mono ?_
    rintro e w5 ⟨⟨oa, ob, rfl, hoa, hob⟩, hb5⟩
    clear cT0 cT1 cT2 cT3 cT4 cT5 cU0 cU1 cU2 cU3 cU4 cU5
    have HT5 : Hid (Six w5 (w1.heap.size) a b r c d s) := HT4.out.below hb5
    have HU5 : Hid (Six w5 (w3.heap.size) a b r c d s) := HU4.out.below hb5
    have HW5 : Hid (Below w.heap.size w w5) := HW4.out.trans (hb5.mono HW4.out.size)
    have HL5 : Hid (w5.cell? ⟨0, 0, none⟩ = some (.int .i64 m)) := cell_later hb5 HL4.out
    clear hb5 HT4 HU4 HW4 HL4
    obtain ⟨-, cT0, cT1, cT2, cT3, cT4, cT5⟩ := HT5.out
    obtain ⟨-, cU0, cU1, cU2, cU3, cU4, cU5⟩ := HU5.out
    clear HT5 cT0 cT1 cT2 cT3 cT4 cT5
    clear HU5 cU0 cU1 cU2 cU3 cU4 cU5
    have HO5 : Hid (Two (w5.alloc (.cells #[.string oa, .string ob] 25)) (w5.heap.size) oa ob) := two_new _ _ oa ob
    replace HW5 : Hid (Below w.heap.size w (w5.alloc (.cells #[.string oa, .string ob] 25))) := HW5.out.alloc HW5.out.size _
    replace HL5 : Hid ((w5.alloc (.cells #[.string oa, .string ob] 25)).cell? ⟨0, 0, none⟩ = some (.int .i64 m)) := cell_later ((Below.refl _ _).alloc (Nat.le_refl _) _) HL5.out
    obtain ⟨-, cO0, cO1⟩ := HO5.out
    go_wp2_with fail
    refine (implObjText_any oa ob _ (le20' hoa) (le20' hob)).mono ?_
    rintro e w6 ⟨rfl, hb6⟩
    clear cO0 cO1
    have HO6 : Hid (Two w6 (w5.heap.size) oa ob) := HO5.out.below hb6
    have HW6 : Hid (Below w.heap.size w w6) := HW5.out.trans (hb6.mono HW5.out.size)
    have HL6 : Hid (w6.cell? ⟨0, 0, none⟩ = some (.int .i64 m)) := cell_later hb6 HL5.out
    clear hb6 HO5 HW5 HL5
    obtain ⟨-, cO0, cO1⟩ := HO6.out
    have hos := objText_size oa ob
    cases ho : objB oa ob with
    | true =>
      obtain ⟨q1, q2, q3⟩ := rd_objText ho
      have hn := objText_some ho
      go_wp2_with fail
      refine (implReadObj_any (objText oa ob) m _ (by unfold maxLen; omega) (by omega) HL6.out).mono ?_
      rintro e w7 ⟨he, hb7⟩
      clear cO0 cO1
      have HO7 : Hid (Two w7 (w5.heap.size) oa ob) := HO6.out.below hb7
      have HW7 : Hid (Below w.heap.size w w7) := HW6.out.trans (hb7.mono HW6.out.size)
      have HL7 : Hid (w7.cell? ⟨0, 0, none⟩ = some (.int .i64 m)) := cell_later hb7 HL6.out
      clear hb7 HO6 HW6 HL6
      rw [q1, q2, q3] at he
      subst he
      obtain ⟨-, cO0, cO1⟩ := HO7.out
      clear cO0 cO1
      replace HO7 : Hid (Two (w7.alloc (.cells #[.string oa, .string ob] 25)) (w5.heap.size) oa ob) := HO7.out.below ((Below.refl _ _).alloc (Nat.le_refl _) _)
      have HP7 : Hid (Two (w7.alloc (.cells #[.string oa, .string ob] 25)) (w7.heap.size) oa ob) := two_new _ _ oa ob
      replace HW7 : Hid (Below w.heap.size w (w7.alloc (.cells #[.string oa, .string ob] 25))) := HW7.out.alloc HW7.out.size _
      replace HL7 : Hid ((w7.alloc (.cells #[.string oa, .string ob] 25)).cell? ⟨0, 0, none⟩ = some (.int .i64 m)) := cell_later ((Below.refl _ _).alloc (Nat.le_refl _) _) HL7.out
      obtain ⟨-, cO0, cO1⟩ := HO7.out
      obtain ⟨-, cP0, cP1⟩ := HP7.out
      go_wp2_with fail
      refine (specObjText_any oa ob _ (le20' hoa) (le20' hob)).mono ?_
      rintro e w8 ⟨he, hb8⟩
      clear cO0 cO1 cP0 cP1
      have HO8 : Hid (Two w8 (w5.heap.size) oa ob) := HO7.out.below hb8
      have HP8 : Hid (Two w8 (w7.heap.size) oa ob) := HP7.out.below hb8
      have HW8 : Hid (Below w.heap.size w w8) := HW7.out.trans (hb8.mono HW7.out.size)
      have HL8 : Hid (w8.cell? ⟨0, 0, none⟩ = some (.int .i64 m)) := cell_later hb8 HL7.out
      clear hb8 HO7 HP7 HW7 HL7
      subst he
      obtain ⟨-, cO0, cO1⟩ := HO8.out
      obtain ⟨-, cP0, cP1⟩ := HP8.out
      go_wp2_with fail
      refine (drawRead_any ad len cap _ (H.out.below HW8.out)).mono ?_
      rintro e w9 ⟨⟨x, rfl, hx⟩, hb9⟩
      clear cO0 cO1 cP0 cP1
      have HO9 : Hid (Two w9 (w5.heap.size) oa ob) := HO8.out.below hb9
      have HP9 : Hid (Two w9 (w7.heap.size) oa ob) := HP8.out.below hb9
      have HW9 : Hid (Below w.heap.size w w9) := HW8.out.trans (hb9.mono HW8.out.size)
      have HL9 : Hid (w9.cell? ⟨0, 0, none⟩ = some (.int .i64 m)) := cell_later hb9 HL8.out
      clear hb9 HO8 HP8 HW8 HL8
      obtain ⟨-, cO0, cO1⟩ := HO9.out
      obtain ⟨-, cP0, cP1⟩ := HP9.out
      clear HO9 cO0 cO1
      clear HP9 cP0 cP1
      go_wp2_with fail
      refine (implReadTup_any x m _ (by omega) HL9.out).mono ?_
      rintro e w10 ⟨xa, xb, xr, xc, xd, xt, f, rfl, hRA, hb10⟩
      have HW10 : Hid (Below w.heap.size w w10) := HW9.out.trans (hb10.mono HW9.out.size)
      have HL10 : Hid (w10.cell? ⟨0, 0, none⟩ = some (.int .i64 m)) := cell_later hb10 HL9.out
      clear hb10  HW9 HL9
      have HY10 : Hid (Six (w10.alloc (.cells #[.string xa, .string xb, .string xr, .string xc, .string xd, .string xt] 27)) (w10.heap.size) xa xb xr xc xd xt) := six_new _ _ xa xb xr xc xd xt
      replace HW10 : Hid (Below w.heap.size w (w10.alloc (.cells #[.string xa, .string xb, .string xr, .string xc, .string xd, .string xt] 27))) := HW10.out.alloc HW10.out.size _
      replace HL10 : Hid ((w10.alloc (.cells #[.string xa, .string xb, .string xr, .string xc, .string xd, .string xt] 27)).cell? ⟨0, 0, none⟩ = some (.int .i64 m)) := cell_later ((Below.refl _ _).alloc (Nat.le_refl _) _) HL10.out
      obtain ⟨-, cY0, cY1, cY2, cY3, cY4, cY5⟩ := HY10.out
      go_wp2_with fail
      refine (specReadTup_any x _ (by unfold maxLen; omega)).mono ?_
      rintro e w11 ⟨ya, yb, yr, yc, yd, yt, f', rfl, hRB, hb11⟩
      clear cY0 cY1 cY2 cY3 cY4 cY5
      have HY11 : Hid (Six w11 (w10.heap.size) xa xb xr xc xd xt) := HY10.out.below hb11
      have HW11 : Hid (Below w.heap.size w w11) := HW10.out.trans (hb11.mono HW10.out.size)
      have HL11 : Hid (w11.cell? ⟨0, 0, none⟩ = some (.int .i64 m)) := cell_later hb11 HL10.out
      clear hb11 HY10 HW10 HL10
      obtain ⟨-, cY0, cY1, cY2, cY3, cY4, cY5⟩ := HY11.out
      obtain ⟨-, e1⟩ := ReadAs.one hRA hRB
      subst e1
      cases f with
      | true =>
        obtain ⟨g1, g2⟩ := readAs_true hRA
        have hz := readAs_sizes hRA
        obtain ⟨z0, z1, z2, z3, z4, z5⟩ := hz
        clear hRA hRB
        clear cY0 cY1 cY2 cY3 cY4 cY5
        replace HY11 : Hid (Six (w11.alloc (.cells #[.string ya, .string yb, .string yr, .string yc, .string yd, .string yt] 27)) (w10.heap.size) xa xb xr xc xd xt) := HY11.out.below ((Below.refl _ _).alloc (Nat.le_refl _) _)
        have HZ11 : Hid (Six (w11.alloc (.cells #[.string ya, .string yb, .string yr, .string yc, .string yd, .string yt] 27)) (w11.heap.size) ya yb yr yc yd yt) := six_new _ _ ya yb yr yc yd yt
        replace HW11 : Hid (Below w.heap.size w (w11.alloc (.cells #[.string ya, .string yb, .string yr, .string yc, .string yd, .string yt] 27))) := HW11.out.alloc HW11.out.size _
        replace HL11 : Hid ((w11.alloc (.cells #[.string ya, .string yb, .string yr, .string yc, .string yd, .string yt] 27)).cell? ⟨0, 0, none⟩ = some (.int .i64 m)) := cell_later ((Below.refl _ _).alloc (Nat.le_refl _) _) HL11.out
        obtain ⟨-, cY0, cY1, cY2, cY3, cY4, cY5⟩ := HY11.out
        obtain ⟨-, cZ0, cZ1, cZ2, cZ3, cZ4, cZ5⟩ := HZ11.out
        go_wp2_with fail
        refine (implTupText_any xa xb xr xc xd xt _ z0 z1 z2 z3 z4 z5).mono ?_
        rintro e w12 ⟨he, hb12⟩
        clear cY0 cY1 cY2 cY3 cY4 cY5 cZ0 cZ1 cZ2 cZ3 cZ4 cZ5
        have HY12 : Hid (Six w12 (w10.heap.size) xa xb xr xc xd xt) := HY11.out.below hb12
        have HZ12 : Hid (Six w12 (w11.heap.size) ya yb yr yc yd yt) := HZ11.out.below hb12
        have HW12 : Hid (Below w.heap.size w w12) := HW11.out.trans (hb12.mono HW11.out.size)
        have HL12 : Hid (w12.cell? ⟨0, 0, none⟩ = some (.int .i64 m)) := cell_later hb12 HL11.out
        clear hb12 HY11 HZ11 HW11 HL11
        rw [g2] at he
        subst he
        obtain ⟨-, cY0, cY1, cY2, cY3, cY4, cY5⟩ := HY12.out
        obtain ⟨-, cZ0, cZ1, cZ2, cZ3, cZ4, cZ5⟩ := HZ12.out
        go_wp2
        go_ret
        exact ⟨rfl, HW12.out⟩
      | false =>
        clear hRA hRB
        clear cY0 cY1 cY2 cY3 cY4 cY5
        have HW11' : Hid (Below w.heap.size w (w11.alloc (.cells #[.string ya, .string yb, .string yr, .string yc, .string yd, .string yt] 27))) := HW11.out.alloc HW11.out.size _
        go_wp2
        go_ret
        exact ⟨rfl, HW11'.out⟩
    | false =>
      have hn := objText_no ho
      obtain ⟨q1, q2, q3⟩ := rd_empty
      rw [hn] at hos ⊢
      go_wp2_with fail
      refine (implReadObj_any ⟨#[]⟩ m _ (by unfold maxLen; omega) (by omega) HL6.out).mono ?_
      rintro e w7 ⟨he, hb7⟩
      clear cO0 cO1
      have HO7 : Hid (Two w7 (w5.heap.size) oa ob) := HO6.out.below hb7
      have HW7 : Hid (Below w.heap.size w w7) := HW6.out.trans (hb7.mono HW6.out.size)
      have HL7 : Hid (w7.cell? ⟨0, 0, none⟩ = some (.int .i64 m)) := cell_later hb7 HL6.out
      clear hb7 HO6 HW6 HL6
      rw [q1, q2, q3] at he
      subst he
      obtain ⟨-, cO0, cO1⟩ := HO7.out
      clear cO0 cO1
      replace HO7 : Hid (Two (w7.alloc (.cells #[.string ⟨#[]⟩, .string ⟨#[]⟩] 25)) (w5.heap.size) oa ob) := HO7.out.below ((Below.refl _ _).alloc (Nat.le_refl _) _)
      have HP7 : Hid (Two (w7.alloc (.cells #[.string ⟨#[]⟩, .string ⟨#[]⟩] 25)) (w7.heap.size) ⟨#[]⟩ ⟨#[]⟩) := two_new _ _ ⟨#[]⟩ ⟨#[]⟩
      replace HW7 : Hid (Below w.heap.size w (w7.alloc (.cells #[.string ⟨#[]⟩, .string ⟨#[]⟩] 25))) := HW7.out.alloc HW7.out.size _
      replace HL7 : Hid ((w7.alloc (.cells #[.string ⟨#[]⟩, .string ⟨#[]⟩] 25)).cell? ⟨0, 0, none⟩ = some (.int .i64 m)) := cell_later ((Below.refl _ _).alloc (Nat.le_refl _) _) HL7.out
      obtain ⟨-, cO0, cO1⟩ := HO7.out
      obtain ⟨-, cP0, cP1⟩ := HP7.out
      go_wp2_with fail
      refine (specObjText_any oa ob _ (le20' hoa) (le20' hob)).mono ?_
      rintro e w8 ⟨he, hb8⟩
      clear cO0 cO1 cP0 cP1
      have HO8 : Hid (Two w8 (w5.heap.size) oa ob) := HO7.out.below hb8
      have HP8 : Hid (Two w8 (w7.heap.size) ⟨#[]⟩ ⟨#[]⟩) := HP7.out.below hb8
      have HW8 : Hid (Below w.heap.size w w8) := HW7.out.trans (hb8.mono HW7.out.size)
      have HL8 : Hid (w8.cell? ⟨0, 0, none⟩ = some (.int .i64 m)) := cell_later hb8 HL7.out
      clear hb8 HO7 HP7 HW7 HL7
      rw [hn] at he
      subst he
      obtain ⟨-, cO0, cO1⟩ := HO8.out
      obtain ⟨-, cP0, cP1⟩ := HP8.out
      go_wp2_with fail
      refine (drawRead_any ad len cap _ (H.out.below HW8.out)).mono ?_
      rintro e w9 ⟨⟨x, rfl, hx⟩, hb9⟩
      clear cO0 cO1 cP0 cP1
      have HO9 : Hid (Two w9 (w5.heap.size) oa ob) := HO8.out.below hb9
      have HP9 : Hid (Two w9 (w7.heap.size) ⟨#[]⟩ ⟨#[]⟩) := HP8.out.below hb9
      have HW9 : Hid (Below w.heap.size w w9) := HW8.out.trans (hb9.mono HW8.out.size)
      have HL9 : Hid (w9.cell? ⟨0, 0, none⟩ = some (.int .i64 m)) := cell_later hb9 HL8.out
      clear hb9 HO8 HP8 HW8 HL8
      obtain ⟨-, cO0, cO1⟩ := HO9.out
      obtain ⟨-, cP0, cP1⟩ := HP9.out
      clear HO9 cO0 cO1
      clear HP9 cP0 cP1
      go_wp2_with fail
      refine (implReadTup_any x m _ (by omega) HL9.out).mono ?_
      rintro e w10 ⟨xa, xb, xr, xc, xd, xt, f, rfl, hRA, hb10⟩
      have HW10 : Hid (Below w.heap.size w w10) := HW9.out.trans (hb10.mono HW9.out.size)
      have HL10 : Hid (w10.cell? ⟨0, 0, none⟩ = some (.int .i64 m)) := cell_later hb10 HL9.out
      clear hb10  HW9 HL9
      have HY10 : Hid (Six (w10.alloc (.cells #[.string xa, .string xb, .string xr, .string xc, .string xd, .string xt] 27)) (w10.heap.size) xa xb xr xc xd xt) := six_new _ _ xa xb xr xc xd xt
      replace HW10 : Hid (Below w.heap.size w (w10.alloc (.cells #[.string xa, .string xb, .string xr, .string xc, .string xd, .string xt] 27))) := HW10.out.alloc HW10.out.size _
      replace HL10 : Hid ((w10.alloc (.cells #[.string xa, .string xb, .string xr, .string xc, .string xd, .string xt] 27)).cell? ⟨0, 0, none⟩ = some (.int .i64 m)) := cell_later ((Below.refl _ _).alloc (Nat.le_refl _) _) HL10.out
      obtain ⟨-, cY0, cY1, cY2, cY3, cY4, cY5⟩ := HY10.out
      go_wp2_with fail
      refine (specReadTup_any x _ (by unfold maxLen; omega)).mono ?_
      rintro e w11 ⟨ya, yb, yr, yc, yd, yt, f', rfl, hRB, hb11⟩
      clear cY0 cY1 cY2 cY3 cY4 cY5
      have HY11 : Hid (Six w11 (w10.heap.size) xa xb xr xc xd xt) := HY10.out.below hb11
      have HW11 : Hid (Below w.heap.size w w11) := HW10.out.trans (hb11.mono HW10.out.size)
      have HL11 : Hid (w11.cell? ⟨0, 0, none⟩ = some (.int .i64 m)) := cell_later hb11 HL10.out
      clear hb11 HY10 HW10 HL10
      obtain ⟨-, cY0, cY1, cY2, cY3, cY4, cY5⟩ := HY11.out
      obtain ⟨-, e1⟩ := ReadAs.one hRA hRB
      subst e1
      cases f with
      | true =>
        obtain ⟨g1, g2⟩ := readAs_true hRA
        have hz := readAs_sizes hRA
        obtain ⟨z0, z1, z2, z3, z4, z5⟩ := hz
        clear hRA hRB
        clear cY0 cY1 cY2 cY3 cY4 cY5
        replace HY11 : Hid (Six (w11.alloc (.cells #[.string ya, .string yb, .string yr, .string yc, .string yd, .string yt] 27)) (w10.heap.size) xa xb xr xc xd xt) := HY11.out.below ((Below.refl _ _).alloc (Nat.le_refl _) _)
        have HZ11 : Hid (Six (w11.alloc (.cells #[.string ya, .string yb, .string yr, .string yc, .string yd, .string yt] 27)) (w11.heap.size) ya yb yr yc yd yt) := six_new _ _ ya yb yr yc yd yt
        replace HW11 : Hid (Below w.heap.size w (w11.alloc (.cells #[.string ya, .string yb, .string yr, .string yc, .string yd, .string yt] 27))) := HW11.out.alloc HW11.out.size _
        replace HL11 : Hid ((w11.alloc (.cells #[.string ya, .string yb, .string yr, .string yc, .string yd, .string yt] 27)).cell? ⟨0, 0, none⟩ = some (.int .i64 m)) := cell_later ((Below.refl _ _).alloc (Nat.le_refl _) _) HL11.out
        obtain ⟨-, cY0, cY1, cY2, cY3, cY4, cY5⟩ := HY11.out
        obtain ⟨-, cZ0, cZ1, cZ2, cZ3, cZ4, cZ5⟩ := HZ11.out
        go_wp2_with fail
        refine (implTupText_any xa xb xr xc xd xt _ z0 z1 z2 z3 z4 z5).mono ?_
        rintro e w12 ⟨he, hb12⟩
        clear cY0 cY1 cY2 cY3 cY4 cY5 cZ0 cZ1 cZ2 cZ3 cZ4 cZ5
        have HY12 : Hid (Six w12 (w10.heap.size) xa xb xr xc xd xt) := HY11.out.below hb12
        have HZ12 : Hid (Six w12 (w11.heap.size) ya yb yr yc yd yt) := HZ11.out.below hb12
        have HW12 : Hid (Below w.heap.size w w12) := HW11.out.trans (hb12.mono HW11.out.size)
        have HL12 : Hid (w12.cell? ⟨0, 0, none⟩ = some (.int .i64 m)) := cell_later hb12 HL11.out
        clear hb12 HY11 HZ11 HW11 HL11
        rw [g2] at he
        subst he
        obtain ⟨-, cY0, cY1, cY2, cY3, cY4, cY5⟩ := HY12.out
        obtain ⟨-, cZ0, cZ1, cZ2, cZ3, cZ4, cZ5⟩ := HZ12.out
        go_wp2
        go_ret
        exact ⟨rfl, HW12.out⟩
      | false =>
        clear hRA hRB
        clear cY0 cY1 cY2 cY3 cY4 cY5
        have HW11' : Hid (Below w.heap.size w (w11.alloc (.cells #[.string ya, .string yb, .string yr, .string yc, .string yd, .string yt] 27))) := HW11.out.alloc HW11.out.size _
        go_wp2
        go_ret
        exact ⟨rfl, HW11'.out⟩
  | false =>
    have hn := tupText_no ht
    rw [hn] at hts ⊢
    go_wp2_with fail
    refine (implReadTup_any ⟨#[]⟩ m _ (by omega) HL2.out).mono ?_
    rintro e w3 ⟨a', b', r', c', d', s', f, rfl, hRA, hb3⟩
    clear cT0 cT1 cT2 cT3 cT4 cT5
    have HT3 : Hid (Six w3 (w1.heap.size) a b r c d s) := HT2.out.below hb3
    have HW3 : Hid (Below w.heap.size w w3) := HW2.out.trans (hb3.mono HW2.out.size)
    have HL3 : Hid (w3.cell? ⟨0, 0, none⟩ = some (.int .i64 m)) := cell_later hb3 HL2.out
    clear hb3 HT2 HW2 HL2
    obtain ⟨⟨rfl, rfl, rfl, rfl, rfl, rfl⟩, rfl⟩ := ReadAs.one read_empty hRA
    clear hRA
    obtain ⟨-, cT0, cT1, cT2, cT3, cT4, cT5⟩ := HT3.out
    clear cT0 cT1 cT2 cT3 cT4 cT5
    replace HT3 : Hid (Six (w3.alloc (.cells #[.string ⟨#[]⟩, .string ⟨#[]⟩, .string ⟨#[]⟩, .string ⟨#[]⟩, .string ⟨#[]⟩, .string ⟨#[]⟩] 27)) (w1.heap.size) a b r c d s) := HT3.out.below ((Below.refl _ _).alloc (Nat.le_refl _) _)
    have HU3 : Hid (Six (w3.alloc (.cells #[.string ⟨#[]⟩, .string ⟨#[]⟩, .string ⟨#[]⟩, .string ⟨#[]⟩, .string ⟨#[]⟩, .string ⟨#[]⟩] 27)) (w3.heap.size) ⟨#[]⟩ ⟨#[]⟩ ⟨#[]⟩ ⟨#[]⟩ ⟨#[]⟩ ⟨#[]⟩) := six_new _ _ ⟨#[]⟩ ⟨#[]⟩ ⟨#[]⟩ ⟨#[]⟩ ⟨#[]⟩ ⟨#[]⟩
    replace HW3 : Hid (Below w.heap.size w (w3.alloc (.cells #[.string ⟨#[]⟩, .string ⟨#[]⟩, .string ⟨#[]⟩, .string ⟨#[]⟩, .string ⟨#[]⟩, .string ⟨#[]⟩] 27))) := HW3.out.alloc HW3.out.size _
    replace HL3 : Hid ((w3.alloc (.cells #[.string ⟨#[]⟩, .string ⟨#[]⟩, .string ⟨#[]⟩, .string ⟨#[]⟩, .string ⟨#[]⟩, .string ⟨#[]⟩] 27)).cell? ⟨0, 0, none⟩ = some (.int .i64 m)) := cell_later ((Below.refl _ _).alloc (Nat.le_refl _) _) HL3.out
    obtain ⟨-, cT0, cT1, cT2, cT3, cT4, cT5⟩ := HT3.out
    obtain ⟨-, cU0, cU1, cU2, cU3, cU4, cU5⟩ := HU3.out
    go_wp2_with fail
    refine (specTupText_any a b r c d s _ (le20' ha) (le20' hb) (le20' hr) (le20' hc) (le20' hd) (le20' hs)).mono ?_
    rintro e w4 ⟨he, hb4⟩
    clear cT0 cT1 cT2 cT3 cT4 cT5 cU0 cU1 cU2 cU3 cU4 cU5
    have HT4 : Hid (Six w4 (w1.heap.size) a b r c d s) := HT3.out.below hb4
    have HU4 : Hid (Six w4 (w3.heap.size) ⟨#[]⟩ ⟨#[]⟩ ⟨#[]⟩ ⟨#[]⟩ ⟨#[]⟩ ⟨#[]⟩) := HU3.out.below hb4
    have HW4 : Hid (Below w.heap.size w w4) := HW3.out.trans (hb4.mono HW3.out.size)
    have HL4 : Hid (w4.cell? ⟨0, 0, none⟩ = some (.int .i64 m)) := cell_later hb4 HL3.out
    clear hb4 HT3 HU3 HW3 HL3
    rw [hn] at he
    subst he
    obtain ⟨-, cT0, cT1, cT2, cT3, cT4, cT5⟩ := HT4.out
    obtain ⟨-, cU0, cU1, cU2, cU3, cU4, cU5⟩ := HU4.out
    go_wp2_with fail
    refine (drawObj_any ad len cap _ (H.out.below HW4.out)).mono ?_
    rintro e w5 ⟨⟨oa, ob, rfl, hoa, hob⟩, hb5⟩
    clear cT0 cT1 cT2 cT3 cT4 cT5 cU0 cU1 cU2 cU3 cU4 cU5
    have HT5 : Hid (Six w5 (w1.heap.size) a b r c d s) := HT4.out.below hb5
    have HU5 : Hid (Six w5 (w3.heap.size) ⟨#[]⟩ ⟨#[]⟩ ⟨#[]⟩ ⟨#[]⟩ ⟨#[]⟩ ⟨#[]⟩) := HU4.out.below hb5
    have HW5 : Hid (Below w.heap.size w w5) := HW4.out.trans (hb5.mono HW4.out.size)
    have HL5 : Hid (w5.cell? ⟨0, 0, none⟩ = some (.int .i64 m)) := cell_later hb5 HL4.out
    clear hb5 HT4 HU4 HW4 HL4
    obtain ⟨-, cT0, cT1, cT2, cT3, cT4, cT5⟩ := HT5.out
    obtain ⟨-, cU0, cU1, cU2, cU3, cU4, cU5⟩ := HU5.out
    clear HT5 cT0 cT1 cT2 cT3 cT4 cT5
    clear HU5 cU0 cU1 cU2 cU3 cU4 cU5
    have HO5 : Hid (Two (w5.alloc (.cells #[.string oa, .string ob] 25)) (w5.heap.size) oa ob) := two_new _ _ oa ob
    replace HW5 : Hid (Below w.heap.size w (w5.alloc (.cells #[.string oa, .string ob] 25))) := HW5.out.alloc HW5.out.size _
    replace HL5 : Hid ((w5.alloc (.cells #[.string oa, .string ob] 25)).cell? ⟨0, 0, none⟩ = some (.int .i64 m)) := cell_later ((Below.refl _ _).alloc (Nat.le_refl _) _) HL5.out
    obtain ⟨-, cO0, cO1⟩ := HO5.out
    go_wp2_with fail
    refine (implObjText_any oa ob _ (le20' hoa) (le20' hob)).mono ?_
    rintro e w6 ⟨rfl, hb6⟩
    clear cO0 cO1
    have HO6 : Hid (Two w6 (w5.heap.size) oa ob) := HO5.out.below hb6
    have HW6 : Hid (Below w.heap.size w w6) := HW5.out.trans (hb6.mono HW5.out.size)
    have HL6 : Hid (w6.cell? ⟨0, 0, none⟩ = some (.int .i64 m)) := cell_later hb6 HL5.out
    clear hb6 HO5 HW5 HL5
    obtain ⟨-, cO0, cO1⟩ := HO6.out
    have hos := objText_size oa ob
    cases ho : objB oa ob with
    | true =>
      obtain ⟨q1, q2, q3⟩ := rd_objText ho
      have hn := objText_some ho
      go_wp2_with fail
      refine (implReadObj_any (objText oa ob) m _ (by unfold maxLen; omega) (by omega) HL6.out).mono ?_
      rintro e w7 ⟨he, hb7⟩
      clear cO0 cO1
      have HO7 : Hid (Two w7 (w5.heap.size) oa ob) := HO6.out.below hb7
      have HW7 : Hid (Below w.heap.size w w7) := HW6.out.trans (hb7.mono HW6.out.size)
      have HL7 : Hid (w7.cell? ⟨0, 0, none⟩ = some (.int .i64 m)) := cell_later hb7 HL6.out
      clear hb7 HO6 HW6 HL6
      rw [q1, q2, q3] at he
      subst he
      obtain ⟨-, cO0, cO1⟩ := HO7.out
      clear cO0 cO1
      replace HO7 : Hid (Two (w7.alloc (.cells #[.string oa, .string ob] 25)) (w5.heap.size) oa ob) := HO7.out.below ((Below.refl _ _).alloc (Nat.le_refl _) _)
      have HP7 : Hid (Two (w7.alloc (.cells #[.string oa, .string ob] 25)) (w7.heap.size) oa ob) := two_new _ _ oa ob
      replace HW7 : Hid (Below w.heap.size w (w7.alloc (.cells #[.string oa, .string ob] 25))) := HW7.out.alloc HW7.out.size _
      replace HL7 : Hid ((w7.alloc (.cells #[.string oa, .string ob] 25)).cell? ⟨0, 0, none⟩ = some (.int .i64 m)) := cell_later ((Below.refl _ _).alloc (Nat.le_refl _) _) HL7.out
      obtain ⟨-, cO0, cO1⟩ := HO7.out
      obtain ⟨-, cP0, cP1⟩ := HP7.out
      go_wp2_with fail
      refine (specObjText_any oa ob _ (le20' hoa) (le20' hob)).mono ?_
      rintro e w8 ⟨he, hb8⟩
      clear cO0 cO1 cP0 cP1
      have HO8 : Hid (Two w8 (w5.heap.size) oa ob) := HO7.out.below hb8
      have HP8 : Hid (Two w8 (w7.heap.size) oa ob) := HP7.out.below hb8
      have HW8 : Hid (Below w.heap.size w w8) := HW7.out.trans (hb8.mono HW7.out.size)
      have HL8 : Hid (w8.cell? ⟨0, 0, none⟩ = some (.int .i64 m)) := cell_later hb8 HL7.out
      clear hb8 HO7 HP7 HW7 HL7
      subst he
      obtain ⟨-, cO0, cO1⟩ := HO8.out
      obtain ⟨-, cP0, cP1⟩ := HP8.out
      go_wp2_with fail
      refine (drawRead_any ad len cap _ (H.out.below HW8.out)).mono ?_
      rintro e w9 ⟨⟨x, rfl, hx⟩, hb9⟩
      clear cO0 cO1 cP0 cP1
      have HO9 : Hid (Two w9 (w5.heap.size) oa ob) := HO8.out.below hb9
      have HP9 : Hid (Two w9 (w7.heap.size) oa ob) := HP8.out.below hb9
      have HW9 : Hid (Below w.heap.size w w9) := HW8.out.trans (hb9.mono HW8.out.size)
      have HL9 : Hid (w9.cell? ⟨0, 0, none⟩ = some (.int .i64 m)) := cell_later hb9 HL8.out
      clear hb9 HO8 HP8 HW8 HL8
      obtain ⟨-, cO0, cO1⟩ := HO9.out
      obtain ⟨-, cP0, cP1⟩ := HP9.out
      clear HO9 cO0 cO1
      clear HP9 cP0 cP1
      go_wp2_with fail
      refine (implReadTup_any x m _ (by omega) HL9.out).mono ?_
      rintro e w10 ⟨xa, xb, xr, xc, xd, xt, f, rfl, hRA, hb10⟩
      have HW10 : Hid (Below w.heap.size w w10) := HW9.out.trans (hb10.mono HW9.out.size)
      have HL10 : Hid (w10.cell? ⟨0, 0, none⟩ = some (.int .i64 m)) := cell_later hb10 HL9.out
      clear hb10  HW9 HL9
      have HY10 : Hid (Six (w10.alloc (.cells #[.string xa, .string xb, .string xr, .string xc, .string xd, .string xt] 27)) (w10.heap.size) xa xb xr xc xd xt) := six_new _ _ xa xb xr xc xd xt
      replace HW10 : Hid (Below w.heap.size w (w10.alloc (.cells #[.string xa, .string xb, .string xr, .string xc, .string xd, .string xt] 27))) := HW10.out.alloc HW10.out.size _
      replace HL10 : Hid ((w10.alloc (.cells #[.string xa, .string xb, .string xr, .string xc, .string xd, .string xt] 27)).cell? ⟨0, 0, none⟩ = some (.int .i64 m)) := cell_later ((Below.refl _ _).alloc (Nat.le_refl _) _) HL10.out
      obtain ⟨-, cY0, cY1, cY2, cY3, cY4, cY5⟩ := HY10.out
      go_wp2_with fail
      refine (specReadTup_any x _ (by unfold maxLen; omega)).mono ?_
      rintro e w11 ⟨ya, yb, yr, yc, yd, yt, f', rfl, hRB, hb11⟩
      clear cY0 cY1 cY2 cY3 cY4 cY5
      have HY11 : Hid (Six w11 (w10.heap.size) xa xb xr xc xd xt) := HY10.out.below hb11
      have HW11 : Hid (Below w.heap.size w w11) := HW10.out.trans (hb11.mono HW10.out.size)
      have HL11 : Hid (w11.cell? ⟨0, 0, none⟩ = some (.int .i64 m)) := cell_later hb11 HL10.out
      clear hb11 HY10 HW10 HL10
      obtain ⟨-, cY0, cY1, cY2, cY3, cY4, cY5⟩ := HY11.out
      obtain ⟨-, e1⟩ := ReadAs.one hRA hRB
      subst e1
      cases f with
      | true =>
        obtain ⟨g1, g2⟩ := readAs_true hRA
        have hz := readAs_sizes hRA
        obtain ⟨z0, z1, z2, z3, z4, z5⟩ := hz
        clear hRA hRB
        clear cY0 cY1 cY2 cY3 cY4 cY5
        replace HY11 : Hid (Six (w11.alloc (.cells #[.string ya, .string yb, .string yr, .string yc, .string yd, .string yt] 27)) (w10.heap.size) xa xb xr xc xd xt) := HY11.out.below ((Below.refl _ _).alloc (Nat.le_refl _) _)
        have HZ11 : Hid (Six (w11.alloc (.cells #[.string ya, .string yb, .string yr, .string yc, .string yd, .string yt] 27)) (w11.heap.size) ya yb yr yc yd yt) := six_new _ _ ya yb yr yc yd yt
        replace HW11 : Hid (Below w.heap.size w (w11.alloc (.cells #[.string ya, .string yb, .string yr, .string yc, .string yd, .string yt] 27))) := HW11.out.alloc HW11.out.size _
        replace HL11 : Hid ((w11.alloc (.cells #[.string ya, .string yb, .string yr, .string yc, .string yd, .string yt] 27)).cell? ⟨0, 0, none⟩ = some (.int .i64 m)) := cell_later ((Below.refl _ _).alloc (Nat.le_refl _) _) HL11.out
        obtain ⟨-, cY0, cY1, cY2, cY3, cY4, cY5⟩ := HY11.out
        obtain ⟨-, cZ0, cZ1, cZ2, cZ3, cZ4, cZ5⟩ := HZ11.out
        go_wp2_with fail
        refine (implTupText_any xa xb xr xc xd xt _ z0 z1 z2 z3 z4 z5).mono ?_
        rintro e w12 ⟨he, hb12⟩
        clear cY0 cY1 cY2 cY3 cY4 cY5 cZ0 cZ1 cZ2 cZ3 cZ4 cZ5
        have HY12 : Hid (Six w12 (w10.heap.size) xa xb xr xc xd xt) := HY11.out.below hb12
        have HZ12 : Hid (Six w12 (w11.heap.size) ya yb yr yc yd yt) := HZ11.out.below hb12
        have HW12 : Hid (Below w.heap.size w w12) := HW11.out.trans (hb12.mono HW11.out.size)
        have HL12 : Hid (w12.cell? ⟨0, 0, none⟩ = some (.int .i64 m)) := cell_later hb12 HL11.out
        clear hb12 HY11 HZ11 HW11 HL11
        rw [g2] at he
        subst he
        obtain ⟨-, cY0, cY1, cY2, cY3, cY4, cY5⟩ := HY12.out
        obtain ⟨-, cZ0, cZ1, cZ2, cZ3, cZ4, cZ5⟩ := HZ12.out
        go_wp2
        go_ret
        exact ⟨rfl, HW12.out⟩
      | false =>
        clear hRA hRB
        clear cY0 cY1 cY2 cY3 cY4 cY5
        have HW11' : Hid (Below w.heap.size w (w11.alloc (.cells #[.string ya, .string yb, .string yr, .string yc, .string yd, .string yt] 27))) := HW11.out.alloc HW11.out.size _
        go_wp2
        go_ret
        exact ⟨rfl, HW11'.out⟩
    | false =>
      have hn := objText_no ho
      obtain ⟨q1, q2, q3⟩ := rd_empty
      rw [hn] at hos ⊢
      go_wp2_with fail
      refine (implReadObj_any ⟨#[]⟩ m _ (by unfold maxLen; omega) (by omega) HL6.out).mono ?_
      rintro e w7 ⟨he, hb7⟩
      clear cO0 cO1
      have HO7 : Hid (Two w7 (w5.heap.size) oa ob) := HO6.out.below hb7
      have HW7 : Hid (Below w.heap.size w w7) := HW6.out.trans (hb7.mono HW6.out.size)
      have HL7 : Hid (w7.cell? ⟨0, 0, none⟩ = some (.int .i64 m)) := cell_later hb7 HL6.out
      clear hb7 HO6 HW6 HL6
      rw [q1, q2, q3] at he
      subst he
      obtain ⟨-, cO0, cO1⟩ := HO7.out
      clear cO0 cO1
      replace HO7 : Hid (Two (w7.alloc (.cells #[.string ⟨#[]⟩, .string ⟨#[]⟩] 25)) (w5.heap.size) oa ob) := HO7.out.below ((Below.refl _ _).alloc (Nat.le_refl _) _)
      have HP7 : Hid (Two (w7.alloc (.cells #[.string ⟨#[]⟩, .string ⟨#[]⟩] 25)) (w7.heap.size) ⟨#[]⟩ ⟨#[]⟩) := two_new _ _ ⟨#[]⟩ ⟨#[]⟩
      replace HW7 : Hid (Below w.heap.size w (w7.alloc (.cells #[.string ⟨#[]⟩, .string ⟨#[]⟩] 25))) := HW7.out.alloc HW7.out.size _
      replace HL7 : Hid ((w7.alloc (.cells #[.string ⟨#[]⟩, .string ⟨#[]⟩] 25)).cell? ⟨0, 0, none⟩ = some (.int .i64 m)) := cell_later ((Below.refl _ _).alloc (Nat.le_refl _) _) HL7.out
      obtain ⟨-, cO0, cO1⟩ := HO7.out
      obtain ⟨-, cP0, cP1⟩ := HP7.out
      go_wp2_with fail
      refine (specObjText_any oa ob _ (le20' hoa) (le20' hob)).mono ?_
      rintro e w8 ⟨he, hb8⟩
      clear cO0 cO1 cP0 cP1
      have HO8 : Hid (Two w8 (w5.heap.size) oa ob) := HO7.out.below hb8
      have HP8 : Hid (Two w8 (w7.heap.size) ⟨#[]⟩ ⟨#[]⟩) := HP7.out.below hb8
      have HW8 : Hid (Below w.heap.size w w8) := HW7.out.trans (hb8.mono HW7.out.size)
      have HL8 : Hid (w8.cell? ⟨0, 0, none⟩ = some (.int .i64 m)) := cell_later hb8 HL7.out
      clear hb8 HO7 HP7 HW7 HL7
      rw [hn] at he
      subst he
      obtain ⟨-, cO0, cO1⟩ := HO8.out
      obtain ⟨-, cP0, cP1⟩ := HP8.out
      go_wp2_with fail
      refine (drawRead_any ad len cap _ (H.out.below HW8.out)).mono ?_
      rintro e w9 ⟨⟨x, rfl, hx⟩, hb9⟩
      clear cO0 cO1 cP0 cP1
      have HO9 : Hid (Two w9 (w5.heap.size) oa ob) := HO8.out.below hb9
      have HP9 : Hid (Two w9 (w7.heap.size) ⟨#[]⟩ ⟨#[]⟩) := HP8.out.below hb9
      have HW9 : Hid (Below w.heap.size w w9) := HW8.out.trans (hb9.mono HW8.out.size)
      have HL9 : Hid (w9.cell? ⟨0, 0, none⟩ = some (.int .i64 m)) := cell_later hb9 HL8.out
      clear hb9 HO8 HP8 HW8 HL8
      obtain ⟨-, cO0, cO1⟩ := HO9.out
      obtain ⟨-, cP0, cP1⟩ := HP9.out
      clear HO9 cO0 cO1
      clear HP9 cP0 cP1
      go_wp2_with fail
      refine (implReadTup_any x m _ (by omega) HL9.out).mono ?_
      rintro e w10 ⟨xa, xb, xr, xc, xd, xt, f, rfl, hRA, hb10⟩
      have HW10 : Hid (Below w.heap.size w w10) := HW9.out.trans (hb10.mono HW9.out.size)
      have HL10 : Hid (w10.cell? ⟨0, 0, none⟩ = some (.int .i64 m)) := cell_later hb10 HL9.out
      clear hb10  HW9 HL9
      have HY10 : Hid (Six (w10.alloc (.cells #[.string xa, .string xb, .string xr, .string xc, .string xd, .string xt] 27)) (w10.heap.size) xa xb xr xc xd xt) := six_new _ _ xa xb xr xc xd xt
      replace HW10 : Hid (Below w.heap.size w (w10.alloc (.cells #[.string xa, .string xb, .string xr, .string xc, .string xd, .string xt] 27))) := HW10.out.alloc HW10.out.size _
      replace HL10 : Hid ((w10.alloc (.cells #[.string xa, .string xb, .string xr, .string xc, .string xd, .string xt] 27)).cell? ⟨0, 0, none⟩ = some (.int .i64 m)) := cell_later ((Below.refl _ _).alloc (Nat.le_refl _) _) HL10.out
      obtain ⟨-, cY0, cY1, cY2, cY3, cY4, cY5⟩ := HY10.out
      go_wp2_with fail
      refine (specReadTup_any x _ (by unfold maxLen; omega)).mono ?_
      rintro e w11 ⟨ya, yb, yr, yc, yd, yt, f', rfl, hRB, hb11⟩
      clear cY0 cY1 cY2 cY3 cY4 cY5
      have HY11 : Hid (Six w11 (w10.heap.size) xa xb xr xc xd xt) := HY10.out.below hb11
      have HW11 : Hid (Below w.heap.size w w11) := HW10.out.trans (hb11.mono HW10.out.size)
      have HL11 : Hid (w11.cell? ⟨0, 0, none⟩ = some (.int .i64 m)) := cell_later hb11 HL10.out
      clear hb11 HY10 HW10 HL10
      obtain ⟨-, cY0, cY1, cY2, cY3, cY4, cY5⟩ := HY11.out
      obtain ⟨-, e1⟩ := ReadAs.one hRA hRB
      subst e1
      cases f with
      | true =>
        obtain ⟨g1, g2⟩ := readAs_true hRA
        have hz := readAs_sizes hRA
        obtain ⟨z0, z1, z2, z3, z4, z5⟩ := hz
        clear hRA hRB
        clear cY0 cY1 cY2 cY3 cY4 cY5
        replace HY11 : Hid (Six (w11.alloc (.cells #[.string ya, .string yb, .string yr, .string yc, .string yd, .string yt] 27)) (w10.heap.size) xa xb xr xc xd xt) := HY11.out.below ((Below.refl _ _).alloc (Nat.le_refl _) _)
        have HZ11 : Hid (Six (w11.alloc (.cells #[.string ya, .string yb, .string yr, .string yc, .string yd, .string yt] 27)) (w11.heap.size) ya yb yr yc yd yt) := six_new _ _ ya yb yr yc yd yt
        replace HW11 : Hid (Below w.heap.size w (w11.alloc (.cells #[.string ya, .string yb, .string yr, .string yc, .string yd, .string yt] 27))) := HW11.out.alloc HW11.out.size _
        replace HL11 : Hid ((w11.alloc (.cells #[.string ya, .string yb, .string yr, .string yc, .string yd, .string yt] 27)).cell? ⟨0, 0, none⟩ = some (.int .i64 m)) := cell_later ((Below.refl _ _).alloc (Nat.le_refl _) _) HL11.out
        obtain ⟨-, cY0, cY1, cY2, cY3, cY4, cY5⟩ := HY11.out
        obtain ⟨-, cZ0, cZ1, cZ2, cZ3, cZ4, cZ5⟩ := HZ11.out
        go_wp2_with fail
        refine (implTupText_any xa xb xr xc xd xt _ z0 z1 z2 z3 z4 z5).mono ?_
        rintro e w12 ⟨he, hb12⟩
        clear cY0 cY1 cY2 cY3 cY4 cY5 cZ0 cZ1 cZ2 cZ3 cZ4 cZ5
        have HY12 : Hid (Six w12 (w10.heap.size) xa xb xr xc xd xt) := HY11.out.below hb12
        have HZ12 : Hid (Six w12 (w11.heap.size) ya yb yr yc yd yt) := HZ11.out.below hb12
        have HW12 : Hid (Below w.heap.size w w12) := HW11.out.trans (hb12.mono HW11.out.size)
        have HL12 : Hid (w12.cell? ⟨0, 0, none⟩ = some (.int .i64 m)) := cell_later hb12 HL11.out
        clear hb12 HY11 HZ11 HW11 HL11
        rw [g2] at he
        subst he
        obtain ⟨-, cY0, cY1, cY2, cY3, cY4, cY5⟩ := HY12.out
        obtain ⟨-, cZ0, cZ1, cZ2, cZ3, cZ4, cZ5⟩ := HZ12.out
        go_wp2
        go_ret
        exact ⟨rfl, HW12.out⟩
      | false =>
        clear hRA hRB
        clear cY0 cY1 cY2 cY3 cY4 cY5
        have HW11' : Hid (Below w.heap.size w (w11.alloc (.cells #[.string ya, .string yb, .string yr, .string yc, .string yd, .string yt] 27))) := HW11.out.alloc HW11.out.size _
        go_wp2
        go_ret
        exact ⟨rfl, HW11'.out⟩

theorem own : ownKnob Try.prog.godebug = none := by kernel_rfl
theorem laidOut : laidOutB Try.prog = true := by kernel_rfl

set_option maxRecDepth 100000 in
theorem lifted (os : Os) (started : os.Started) (H : Type) (enc : TypeId × Value → H) :
    ReturnsInHanded {} Try.checked os 4 .any (Rows.fnTuplesSpec.pre6 enc Try.prog Try.f4 Rows.fnTuplesRow.domain false) (Rows.fnTuplesSpec.post enc Try.prog Try.f4 false true false false) := by
  refine returnsInHanded_of_change_shaped (C := Try.checked) own started (by kernel_rfl) Try.func4
    (ChangeSpec.witness6 (enc := enc) (C := Try.checked) false ⟨#[], #[.slice none 0 0], []⟩ 8 (by kernel_rfl) (by kernel_rfl) (by kernel_rfl) (by kernel_rfl)) ?_
  intro W base args ds gs before hval0 hW hcnd _ hsh _
  have hval : ∀ (j : Nat) t v, Try.f4.params[j]? = some t → args[j]? = some v → Value.okWide Try.prog W .any base t v := hval0
  have hW' := hW
  obtain ⟨p, q, hA0, hV, rfl, hfz, hnd⟩ := hW
  have hA : DataW.TrodAll enc Try.prog W 0 (fun _ => true) true Try.f4.params.toList args.toList ds p := hA0
  rw [Try.params4] at hA hval
  obtain ⟨v0, vs0, d0, ds0, p0, q0, hargs, rfl, rfl, h0, r0⟩ := trodAll_cons hA
  obtain ⟨rfl, rfl, rfl⟩ := trodAll_nil r0
  obtain rfl : args = #[v0] := by cases args; simp_all
  obtain ⟨rfl, rfl⟩ := trodVars_none hV
  have k0 := h0
  have lt0 : ∀ x ∈ p0, x.block < W.heap.size := by obtain ⟨m, hm⟩ := k0; exact DataW.trod_lt m _ _ _ hm
  obtain ⟨ad0, len0, cap0, hv0⟩ := okWide_slice Try.underlying22 (hval 0 22 v0 rfl rfl)
  subst hv0
  obtain ⟨fuel0, hf0⟩ := h0
  have hby0 := open_bytes (by simpa [Value.cells] using hf0)
  clear hA0 hval0
  refine (walk ad0 len0 cap0 W hby0 hsh).mono fun e W' ⟨he, bel⟩ => ?_
  subst he
  exact ⟨_, rfl, _, _, _, [], _, [], hW', trodAll_mk1 (shut_bool Try.underlying4 _), (trodAll_cons_mk (Below.trod laidOut (by kernel_rfl) (of_decide_eq_true (by kernel_rfl)) k0 bel lt0) trodAll_mk0), rfl, bel.frame _, fun h => by cases h⟩

theorem over : Rows.fnTuplesRow.holds Try.pinned (OpenSpec.ofChange Rows.fnTuplesSpec) :=
  OpenClaim.holds_of_wide 4 Try.f4 rfl rfl rfl rfl rfl rfl rfl ⟨rfl, rfl, rfl, rfl, rfl⟩ rfl rfl rfl rfl rfl (by kernel_rfl) Try.func4 (by kernel_rfl)
    (of_decide_eq_true (by kernel_rfl)) (by unfold Func.isWrapper; first | (rw [if_pos (by decide +kernel)]; kernel_rfl) | (rw [if_neg (by decide +kernel)]; exact ⟨rfl, rfl⟩))
    (fun os started H enc _ => lifted os started H enc)

end Go.Proofs.Ytacboillcpollaa.fnTuples
namespace Go.Proofs.Ytacboillcpollaa
theorem FnTuples_holds : Rows.FnTuplesSaid := fnTuples.over
end Go.Proofs.Ytacboillcpollaa
