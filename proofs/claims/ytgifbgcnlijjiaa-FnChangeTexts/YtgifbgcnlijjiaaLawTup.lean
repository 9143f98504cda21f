/- Contracts of the laws' own helpers on tuples: the count of what is read, and the copy into the program's type. -/
import Derived.Test.YtgifbgcnlijjiaaTuples
import Derived.Test.YtgifbgcnlijjiaaLawObj
namespace Go.Proofs.Ytgifbgcnlijjiaa
open Go.ChangeShapes Go.WideShapes Go.ChangeAt Go.RowKit
open Pl

theorem szObj_le (t i : ByteArray) (left : Int) : szObj t i left ≤ left ∨ szObj t i left = -1 := by
  unfold szObj; split
  · exact .inr rfl
  · split
    · exact .inr rfl
    · exact .inl (by omega)

/-- what is left of a purse when a tuple's letters are paid -/
def szTup (a b r c d s : ByteArray) (left : Int) : Int :=
  if szObj a b left < 0 then -1 else if szObj a b left - r.size < 0 then -1
  else if szObj c d (szObj a b left - r.size) < 0 then -1 else if szObj c d (szObj a b left - r.size) - s.size < 0 then -1
  else szObj c d (szObj a b left - r.size) - s.size

theorem szTup_le (a b r c d s : ByteArray) (left : Int) : szTup a b r c d s left ≤ left ∨ szTup a b r c d s left = -1 := by
  unfold szTup
  split
  · exact .inr rfl
  split
  · exact .inr rfl
  split
  · exact .inr rfl
  split
  · exact .inr rfl
  · refine .inl ?_
    have h1 := szObj_le a b left
    have h2 := szObj_le c d (szObj a b left - r.size)
    omega

theorem szTuple_any (a b r c d s : ByteArray) (left : Int) (w : World) (ha : a.size ≤ maxLen) (hb : b.size ≤ maxLen) (hr : r.size ≤ maxLen) (hc : c.size ≤ maxLen) (hd : d.size ≤ maxLen) (hs : s.size ≤ maxLen) (h0 : 0 ≤ left) (h1 : left ≤ 1048576) :
    Calls Try.prog 24 #[.agg #[.string a, .string b, .string r, .string c, .string d, .string s], .int .i64 left] w fun e w' => e = .returned (.int .i64 (szTup a b r c d s left)) ∧ Below w.heap.size w w' := by
  have hr' := hr
  have hs' := hs
  unfold maxLen at hr' hs'
  have e1 := szObj_le a b left
  have e2 := szObj_le c d (szObj a b left - r.size)
  go_enter Try.func24, Try.ntmps24
  go_wp2_with fail
  refine (szObject_any _ _ _ _ ha hb h0 h1).mono ?_
  rintro e w1 ⟨rfl, hb1⟩
  obtain ⟨hc1, hf1⟩ := bcell hb1
  have hz1 : w.heap.size < w1.heap.size := by have := hb1.size; simp at this; omega
  have HB1 : Below w.heap.size w w1 := ((Below.refl _ _).alloc (Nat.le_refl _) _).trans (hb1.mono (by simp))
  by_cases n1 : szObj a b left < 0
  · go_wp2
    go_ret
    exact ⟨ret_int (by rw [szTup, if_pos (by omega)]), HB1⟩
  by_cases n2 : szObj a b left - r.size < 0
  · go_wp2
    go_ret
    exact ⟨ret_int (by rw [szTup, if_neg (by omega), if_pos (by omega)]), HB1⟩
  go_wp2_with fail
  refine (szObject_any _ _ _ _ hc hd (by omega) (by omega)).mono ?_
  rintro e w2 ⟨rfl, hb2⟩
  obtain ⟨hc2, hf2⟩ := bcell hb2
  have hz2 : w.heap.size < w2.heap.size := by have := hb2.size; omega
  by_cases n3 : szObj c d (szObj a b left - r.size) < 0
  · go_wp2
    go_ret
    exact ⟨ret_int (by rw [szTup, if_neg (by omega), if_neg (by omega), if_pos (by omega)]), HB1.trans (hb2.mono (by omega))⟩
  by_cases n4 : szObj c d (szObj a b left - r.size) - s.size < 0
  · go_wp2
    go_ret
    exact ⟨ret_int (by rw [szTup, if_neg (by omega), if_neg (by omega), if_neg (by omega), if_pos (by omega)]), HB1.trans (hb2.mono (by omega))⟩
  go_wp2
  go_ret
  exact ⟨ret_int (by rw [szTup, if_neg (by omega), if_neg (by omega), if_neg (by omega), if_neg (by omega)]), HB1.trans (hb2.mono (by omega))⟩

set_option maxHeartbeats 400000 in
theorem toTuple_any (a b r c d s : ByteArray) (w : World) :
    Calls Try.prog 26 #[.agg #[.string a, .string b, .string r, .string c, .string d, .string s]] w fun e w' => e = .returned (.agg #[.string a, .string b, .string r, .string c, .string d, .string s]) ∧ Below w.heap.size w w' := by
  go_enter Try.func26, Try.ntmps26
  go_wp2_with fail
  refine (toObject_any _ _ _).mono ?_
  rintro e w1 ⟨rfl, hb1⟩
  obtain ⟨hc1, hf1⟩ := bcell hb1
  have hz1 : w.heap.size + 1 + 1 < w1.heap.size := by have := hb1.size; simp at this; omega
  have hy1 : w.heap.size + 1 < w1.heap.size := by omega
  have hx1 : w.heap.size < w1.heap.size := by omega
  go_wp2_with fail
  refine (toObject_any _ _ _).mono ?_
  rintro e w2 ⟨rfl, hb2⟩
  obtain ⟨hc2, hf2⟩ := bcell hb2
  have hz2 : w.heap.size + 1 + 1 < w2.heap.size := by have := hb2.size; simp at this; omega
  have hy2 : w.heap.size + 1 < w2.heap.size := by omega
  have hx2 : w.heap.size < w2.heap.size := by omega
  have HB1 : Below w.heap.size w w1 := Below.trans (by
    repeat (first | exact Below.refl _ _ | refine Below.setCell ?_ (by first | (simp; done) | (simp; omega)) _ | refine Below.alloc ?_ (by first | (simp; done) | (simp; omega)) _)) (hb1.mono (by simp; omega))
  have HB2 : Below w.heap.size w w2 := Below.trans (by
    repeat (first | refine Below.setCell ?_ (by first | (simp; done) | (simp; omega)) _ | with_reducible exact HB1)) (hb2.mono (by simp; omega))
  clear hb1 hb2
  go_wp2
  exact bodyPost_ret (v := .agg #[.string a, .string b, .string r, .string c, .string d, .string s]) (by simp [results, Try.results26, go_sem, *]) rfl ⟨rfl, by
    repeat (first | refine Below.setCell ?_ (by first | (simp; done) | (simp; omega)) _ | with_reducible exact HB2)⟩

end Go.Proofs.Ytgifbgcnlijjiaa
