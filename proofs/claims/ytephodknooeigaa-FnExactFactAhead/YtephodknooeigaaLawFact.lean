/- Contracts of the laws' own helpers on facts, and of the two functions that hold two facts against one another. -/
import Derived.Test.YtephodknooeigaaAhead
import Derived.Test.YtephodknooeigaaLawObj
namespace Go.Proofs.Ytephodknooeigaa
open Go.ChangeShapes Go.WideShapes Go.ChangeAt Go.RowKit
open Pl
attribute [local go_sem ↓] Go.wp_at_zero Go.wp_at_succ

theorem szObjF_le (t i : ByteArray) (left : Int) : szObj t i left ≤ left ∨ szObj t i left = -1 := by
  unfold szObj; split
  · exact .inr rfl
  · split
    · exact .inr rfl
    · exact .inl (by omega)

/-- what is left of a purse when a fact's letters are paid -/
def szFac (a b r c d : ByteArray) (left : Int) : Int :=
  if szObj a b left < 0 then -1 else if szObj a b left - r.size < 0 then -1
  else if szObj c d (szObj a b left - r.size) < 0 then -1 else szObj c d (szObj a b left - r.size)

theorem szFac_le (a b r c d : ByteArray) (left : Int) : szFac a b r c d left ≤ left ∨ szFac a b r c d left = -1 := by
  unfold szFac
  split
  · exact .inr rfl
  split
  · exact .inr rfl
  split
  · exact .inr rfl
  · refine .inl ?_
    have h1 := szObjF_le a b left
    have h2 := szObjF_le c d (szObj a b left - r.size)
    omega

theorem szFact_any (a b r c d : ByteArray) (left : Int) (w : World) (ha : a.size ≤ maxLen) (hb : b.size ≤ maxLen) (hr : r.size ≤ maxLen) (hc : c.size ≤ maxLen) (hd : d.size ≤ maxLen) (h0 : 0 ≤ left) (h1 : left ≤ 1048576) :
    Calls Try.prog 4 #[.agg #[.string a, .string b, .string r, .string c, .string d], .int .i64 left] w fun e w' => e = .returned (.int .i64 (szFac a b r c d left)) ∧ Below w.heap.size w w' := by
  have hr' := hr
  unfold maxLen at hr'
  have e1 := szObjF_le a b left
  have e2 := szObjF_le c d (szObj a b left - r.size)
  go_enter Try.func4, Try.ntmps4
  go_wp2_with fail
  refine (szObject_any _ _ _ _ ha hb h0 h1).mono ?_
  rintro e w1 ⟨rfl, hb1⟩
  obtain ⟨hc1, hf1⟩ := bcell hb1
  have hz1 : w.heap.size < w1.heap.size := by have := hb1.size; simp at this; omega
  have HB1 : Below w.heap.size w w1 := ((Below.refl _ _).alloc (Nat.le_refl _) _).trans (hb1.mono (by simp))
  by_cases n1 : szObj a b left < 0
  · go_wp2
    go_ret
    exact ⟨ret_int (by rw [szFac, if_pos (by omega)]), HB1⟩
  by_cases n2 : szObj a b left - r.size < 0
  · go_wp2
    go_ret
    exact ⟨ret_int (by rw [szFac, if_neg (by omega), if_pos (by omega)]), HB1⟩
  go_wp2_with fail
  refine (szObject_any _ _ _ _ hc hd (by omega) (by omega)).mono ?_
  rintro e w2 ⟨rfl, hb2⟩
  obtain ⟨hc2, hf2⟩ := bcell hb2
  have hz2 : w.heap.size < w2.heap.size := by have := hb2.size; omega
  by_cases n3 : szObj c d (szObj a b left - r.size) < 0
  · go_wp2
    go_ret
    exact ⟨ret_int (by rw [szFac, if_neg (by omega), if_neg (by omega), if_pos (by omega)]), HB1.trans (hb2.mono (by omega))⟩
  go_wp2
  go_ret
  exact ⟨ret_int (by rw [szFac, if_neg (by omega), if_neg (by omega), if_neg (by omega)]), HB1.trans (hb2.mono (by omega))⟩

set_option maxHeartbeats 400000 in
theorem toFact_any (a b r c d : ByteArray) (w : World) :
    Calls Try.prog 6 #[.agg #[.string a, .string b, .string r, .string c, .string d]] w fun e w' => e = .returned (.agg #[.string a, .string b, .string r, .string c, .string d]) ∧ Below w.heap.size w w' := by
  go_enter Try.func6, Try.ntmps6
  go_wp2_with fail
  refine (toObject_any _ _ _).mono ?_
  rintro e w1 ⟨rfl, hb1⟩
  obtain ⟨hc1, hf1⟩ := bcell hb1
  have hz1 : w.heap.size + 1 + 1 < w1.heap.size := by have := hb1.size; simp at this; omega
  have hy1 : w.heap.size + 1 < w1.heap.size := by omega
  have hx1 : w.heap.size < w1.heap.size := by omega
  go_wp2_with fail
  refine (toObject_any _ _ _).mono ?_
  rintro e w2 ⟨rfl, hb2⟩
  obtain ⟨hc2, hf2⟩ := bcell hb2
  have hz2 : w.heap.size + 1 + 1 < w2.heap.size := by have := hb2.size; simp at this; omega
  have hy2 : w.heap.size + 1 < w2.heap.size := by omega
  have hx2 : w.heap.size < w2.heap.size := by omega
  have HB1 : Below w.heap.size w w1 := Below.trans (by
    repeat (first | exact Below.refl _ _ | refine Below.setCell ?_ (by first | (simp; done) | (simp; omega)) _ | refine Below.alloc ?_ (by first | (simp; done) | (simp; omega)) _)) (hb1.mono (by simp; omega))
  have HB2 : Below w.heap.size w w2 := Below.trans (by
    repeat (first | refine Below.setCell ?_ (by first | (simp; done) | (simp; omega)) _ | with_reducible exact HB1)) (hb2.mono (by simp; omega))
  clear hb1 hb2
  go_wp2
  exact bodyPost_ret (v := .agg #[.string a, .string b, .string r, .string c, .string d]) (by simp [results, Try.results6, go_sem, *]) rfl ⟨rfl, by
    repeat (first | refine Below.setCell ?_ (by first | (simp; done) | (simp; omega)) _ | with_reducible exact HB2)⟩

set_option maxHeartbeats 400000 in
theorem l4Key_any (a b r c d : ByteArray) (w : World) :
    Calls Try.prog 10 #[.agg #[.string a, .string b, .string r, .string c, .string d]] w fun e w' => e = .returned (.agg #[.string a, .string b, .string r, .string c, .string d, .string ⟨#[]⟩]) ∧ Below w.heap.size w w' := by
  go_enter Try.func10, Try.ntmps10
  go_wp2
  exact bodyPost_ret (v := .agg #[.string a, .string b, .string r, .string c, .string d, .string ⟨#[]⟩]) (by simp [results, Try.results10, go_sem, *]) rfl ⟨rfl, by
    repeat (first | exact Below.refl _ _ | refine Below.setCell ?_ (by first | (simp; done) | (simp; omega)) _ | refine Below.alloc ?_ (by first | (simp; done) | (simp; omega)) _)⟩

set_option maxHeartbeats 400000 in
theorem factTuple_any (a b r c d : ByteArray) (w : World) :
    Calls Try.prog 13 #[.agg #[.string a, .string b, .string r, .string c, .string d]] w fun e w' => e = .returned (.agg #[.string a, .string b, .string r, .string c, .string d, .string ⟨#[]⟩]) ∧ Below w.heap.size w w' := by
  go_enter Try.func13, Try.ntmps13
  go_wp2
  exact bodyPost_ret (v := .agg #[.string a, .string b, .string r, .string c, .string d, .string ⟨#[]⟩]) (by simp [results, Try.results13, go_sem, *]) rfl ⟨rfl, by
    repeat (first | exact Below.refl _ _ | refine Below.setCell ?_ (by first | (simp; done) | (simp; omega)) _ | refine Below.alloc ?_ (by first | (simp; done) | (simp; omega)) _)⟩

/-- ten cells of two blocks: what a call that only makes memory leaves of them -/
theorem keep10 {w W w' : World} {n m k : Nat} {x0 x1 x2 x3 x4 y0 y1 y2 y3 y4 : Value} (hk : k ≤ n) (h : W.cell? ⟨n, 0, none⟩ = some x0 ∧ W.cell? ⟨n, 1, none⟩ = some x1 ∧ W.cell? ⟨n, 2, none⟩ = some x2 ∧ W.cell? ⟨n, 3, none⟩ = some x3 ∧ W.cell? ⟨n, 4, none⟩ = some x4 ∧ W.cell? ⟨m, 0, none⟩ = some y0 ∧ W.cell? ⟨m, 1, none⟩ = some y1 ∧ W.cell? ⟨m, 2, none⟩ = some y2 ∧ W.cell? ⟨m, 3, none⟩ = some y3 ∧ W.cell? ⟨m, 4, none⟩ = some y4 ∧ n < W.heap.size ∧ m < W.heap.size ∧ Below k w W) (hb : Below W.heap.size W w') : w'.cell? ⟨n, 0, none⟩ = some x0 ∧ w'.cell? ⟨n, 1, none⟩ = some x1 ∧ w'.cell? ⟨n, 2, none⟩ = some x2 ∧ w'.cell? ⟨n, 3, none⟩ = some x3 ∧ w'.cell? ⟨n, 4, none⟩ = some x4 ∧ w'.cell? ⟨m, 0, none⟩ = some y0 ∧ w'.cell? ⟨m, 1, none⟩ = some y1 ∧ w'.cell? ⟨m, 2, none⟩ = some y2 ∧ w'.cell? ⟨m, 3, none⟩ = some y3 ∧ w'.cell? ⟨m, 4, none⟩ = some y4 ∧ n < w'.heap.size ∧ m < w'.heap.size ∧ Below k w w' := by
  obtain ⟨h0, h1, h2, h3, h4, h5, h6, h7, h8, h9, hn, hm, hB⟩ := h
  have hc : ∀ o, w'.cell? ⟨n, o, none⟩ = W.cell? ⟨n, o, none⟩ := fun o => hb.cell (p := ⟨n, o, none⟩) hn
  have hd : ∀ o, w'.cell? ⟨m, o, none⟩ = W.cell? ⟨m, o, none⟩ := fun o => hb.cell (p := ⟨m, o, none⟩) hm
  exact ⟨by rw [hc]; exact h0, by rw [hc]; exact h1, by rw [hc]; exact h2, by rw [hc]; exact h3, by rw [hc]; exact h4, by rw [hd]; exact h5, by rw [hd]; exact h6, by rw [hd]; exact h7, by rw [hd]; exact h8, by rw [hd]; exact h9, Nat.lt_of_lt_of_le hn hb.size, Nat.lt_of_lt_of_le hm hb.size, hB.trans (hb.mono (by omega))⟩

set_option maxHeartbeats 1000000 in
theorem specFactAhead_any (a b r c d a' b' r' c' d' : ByteArray) (w : World) (ha : a.size ≤ maxLen) (hb : b.size ≤ maxLen) (hr : r.size ≤ maxLen) (hc : c.size ≤ maxLen) (hd : d.size ≤ maxLen) (ga : a'.size ≤ maxLen) (gb : b'.size ≤ maxLen) (gr : r'.size ≤ maxLen) (gc : c'.size ≤ maxLen) (gd : d'.size ≤ maxLen) :
    Calls Try.prog 5 #[.agg #[.string a, .string b, .string r, .string c, .string d], .agg #[.string a', .string b', .string r', .string c', .string d']] w fun e w' => e = .returned (.bool (aheadB a b r c d ⟨#[]⟩ a' b' r' c' d' ⟨#[]⟩)) ∧ Below w.heap.size w w' := by
  have he0 : (⟨#[]⟩ : ByteArray).size ≤ maxLen := by decide
  have H0 : ((w.alloc (.cells #[.string a, .string b, .string r, .string c, .string d] 30)).alloc (.cells #[.string a', .string b', .string r', .string c', .string d'] 30)).cell? ⟨w.heap.size, 0, none⟩ = some (.string a) ∧ ((w.alloc (.cells #[.string a, .string b, .string r, .string c, .string d] 30)).alloc (.cells #[.string a', .string b', .string r', .string c', .string d'] 30)).cell? ⟨w.heap.size, 1, none⟩ = some (.string b) ∧ ((w.alloc (.cells #[.string a, .string b, .string r, .string c, .string d] 30)).alloc (.cells #[.string a', .string b', .string r', .string c', .string d'] 30)).cell? ⟨w.heap.size, 2, none⟩ = some (.string r) ∧ ((w.alloc (.cells #[.string a, .string b, .string r, .string c, .string d] 30)).alloc (.cells #[.string a', .string b', .string r', .string c', .string d'] 30)).cell? ⟨w.heap.size, 3, none⟩ = some (.string c) ∧ ((w.alloc (.cells #[.string a, .string b, .string r, .string c, .string d] 30)).alloc (.cells #[.string a', .string b', .string r', .string c', .string d'] 30)).cell? ⟨w.heap.size, 4, none⟩ = some (.string d) ∧ ((w.alloc (.cells #[.string a, .string b, .string r, .string c, .string d] 30)).alloc (.cells #[.string a', .string b', .string r', .string c', .string d'] 30)).cell? ⟨w.heap.size + 1, 0, none⟩ = some (.string a') ∧ ((w.alloc (.cells #[.string a, .string b, .string r, .string c, .string d] 30)).alloc (.cells #[.string a', .string b', .string r', .string c', .string d'] 30)).cell? ⟨w.heap.size + 1, 1, none⟩ = some (.string b') ∧ ((w.alloc (.cells #[.string a, .string b, .string r, .string c, .string d] 30)).alloc (.cells #[.string a', .string b', .string r', .string c', .string d'] 30)).cell? ⟨w.heap.size + 1, 2, none⟩ = some (.string r') ∧ ((w.alloc (.cells #[.string a, .string b, .string r, .string c, .string d] 30)).alloc (.cells #[.string a', .string b', .string r', .string c', .string d'] 30)).cell? ⟨w.heap.size + 1, 3, none⟩ = some (.string c') ∧ ((w.alloc (.cells #[.string a, .string b, .string r, .string c, .string d] 30)).alloc (.cells #[.string a', .string b', .string r', .string c', .string d'] 30)).cell? ⟨w.heap.size + 1, 4, none⟩ = some (.string d') ∧ w.heap.size < ((w.alloc (.cells #[.string a, .string b, .string r, .string c, .string d] 30)).alloc (.cells #[.string a', .string b', .string r', .string c', .string d'] 30)).heap.size ∧ w.heap.size + 1 < ((w.alloc (.cells #[.string a, .string b, .string r, .string c, .string d] 30)).alloc (.cells #[.string a', .string b', .string r', .string c', .string d'] 30)).heap.size ∧ Below w.heap.size w ((w.alloc (.cells #[.string a, .string b, .string r, .string c, .string d] 30)).alloc (.cells #[.string a', .string b', .string r', .string c', .string d'] 30)) := by
    refine ⟨?_, ?_, ?_, ?_, ?_, ?_, ?_, ?_, ?_, ?_, ?_, ?_, ?_⟩
    all_goals first | exact below2 _ _ _ | (simp; done) | (simp; omega)
  go_enter Try.func5, Try.ntmps5
  go_wp2_with fail
  go_region_held3 (fun w' => w'.cell? ⟨w.heap.size, 0, none⟩ = some (.string a) ∧ w'.cell? ⟨w.heap.size, 1, none⟩ = some (.string b) ∧ w'.cell? ⟨w.heap.size, 2, none⟩ = some (.string r) ∧ w'.cell? ⟨w.heap.size, 3, none⟩ = some (.string c) ∧ w'.cell? ⟨w.heap.size, 4, none⟩ = some (.string d) ∧ w'.cell? ⟨w.heap.size + 1, 0, none⟩ = some (.string a') ∧ w'.cell? ⟨w.heap.size + 1, 1, none⟩ = some (.string b') ∧ w'.cell? ⟨w.heap.size + 1, 2, none⟩ = some (.string r') ∧ w'.cell? ⟨w.heap.size + 1, 3, none⟩ = some (.string c') ∧ w'.cell? ⟨w.heap.size + 1, 4, none⟩ = some (.string d') ∧ w.heap.size < w'.heap.size ∧ w.heap.size + 1 < w'.heap.size ∧ Below w.heap.size w w')
    (first | assumption | exact keep10 (Nat.le_refl _) (by assumption) hbx | exact ⟨H0.1, H0.2.1, H0.2.2.1, H0.2.2.2.1, H0.2.2.2.2.1, H0.2.2.2.2.2.1, H0.2.2.2.2.2.2.1, H0.2.2.2.2.2.2.2.1, H0.2.2.2.2.2.2.2.2.1, H0.2.2.2.2.2.2.2.2.2.1, H0.2.2.2.2.2.2.2.2.2.2.1, H0.2.2.2.2.2.2.2.2.2.2.2.1, H0.2.2.2.2.2.2.2.2.2.2.2.2.drew⟩)
    (first | (go_at_call 10; refine (l4Key_any _ _ _ _ _ _).mono ?_; rintro e w' ⟨rfl, hbx⟩) | (go_at_call 9; refine (specAhead_any _ _ _ _ _ _ _ _ _ _ _ _ _ (by assumption) (by assumption) (by assumption) (by assumption) (by assumption) (by assumption) (by assumption) (by assumption) (by assumption) (by assumption) (by assumption) (by assumption)).mono ?_; rintro e w' ⟨rfl, hbx⟩))
  rename_i hJ
  obtain ⟨-, -, -, -, -, -, -, -, -, -, -, -, gB⟩ := hJ
  go_wp2
  go_ret
  exact ⟨rfl, gB⟩

set_option maxHeartbeats 1000000 in
theorem implFactAhead_any (a b r c d a' b' r' c' d' : ByteArray) (w : World) (ha : a.size ≤ maxLen) (hb : b.size ≤ maxLen) (hr : r.size ≤ maxLen) (hc : c.size ≤ maxLen) (hd : d.size ≤ maxLen) (ga : a'.size ≤ maxLen) (gb : b'.size ≤ maxLen) (gr : r'.size ≤ maxLen) (gc : c'.size ≤ maxLen) (gd : d'.size ≤ maxLen) :
    Calls Try.prog 7 #[.agg #[.string a, .string b, .string r, .string c, .string d], .agg #[.string a', .string b', .string r', .string c', .string d']] w fun e w' => e = .returned (.bool (aheadB a b r c d ⟨#[]⟩ a' b' r' c' d' ⟨#[]⟩)) ∧ Below w.heap.size w w' := by
  have he0 : (⟨#[]⟩ : ByteArray).size ≤ maxLen := by decide
  have H0 : ((w.alloc (.cells #[.string a, .string b, .string r, .string c, .string d] 30)).alloc (.cells #[.string a', .string b', .string r', .string c', .string d'] 30)).cell? ⟨w.heap.size, 0, none⟩ = some (.string a) ∧ ((w.alloc (.cells #[.string a, .string b, .string r, .string c, .string d] 30)).alloc (.cells #[.string a', .string b', .string r', .string c', .string d'] 30)).cell? ⟨w.heap.size, 1, none⟩ = some (.string b) ∧ ((w.alloc (.cells #[.string a, .string b, .string r, .string c, .string d] 30)).alloc (.cells #[.string a', .string b', .string r', .string c', .string d'] 30)).cell? ⟨w.heap.size, 2, none⟩ = some (.string r) ∧ ((w.alloc (.cells #[.string a, .string b, .string r, .string c, .string d] 30)).alloc (.cells #[.string a', .string b', .string r', .string c', .string d'] 30)).cell? ⟨w.heap.size, 3, none⟩ = some (.string c) ∧ ((w.alloc (.cells #[.string a, .string b, .string r, .string c, .string d] 30)).alloc (.cells #[.string a', .string b', .string r', .string c', .string d'] 30)).cell? ⟨w.heap.size, 4, none⟩ = some (.string d) ∧ ((w.alloc (.cells #[.string a, .string b, .string r, .string c, .string d] 30)).alloc (.cells #[.string a', .string b', .string r', .string c', .string d'] 30)).cell? ⟨w.heap.size + 1, 0, none⟩ = some (.string a') ∧ ((w.alloc (.cells #[.string a, .string b, .string r, .string c, .string d] 30)).alloc (.cells #[.string a', .string b', .string r', .string c', .string d'] 30)).cell? ⟨w.heap.size + 1, 1, none⟩ = some (.string b') ∧ ((w.alloc (.cells #[.string a, .string b, .string r, .string c, .string d] 30)).alloc (.cells #[.string a', .string b', .string r', .string c', .string d'] 30)).cell? ⟨w.heap.size + 1, 2, none⟩ = some (.string r') ∧ ((w.alloc (.cells #[.string a, .string b, .string r, .string c, .string d] 30)).alloc (.cells #[.string a', .string b', .string r', .string c', .string d'] 30)).cell? ⟨w.heap.size + 1, 3, none⟩ = some (.string c') ∧ ((w.alloc (.cells #[.string a, .string b, .string r, .string c, .string d] 30)).alloc (.cells #[.string a', .string b', .string r', .string c', .string d'] 30)).cell? ⟨w.heap.size + 1, 4, none⟩ = some (.string d') ∧ w.heap.size < ((w.alloc (.cells #[.string a, .string b, .string r, .string c, .string d] 30)).alloc (.cells #[.string a', .string b', .string r', .string c', .string d'] 30)).heap.size ∧ w.heap.size + 1 < ((w.alloc (.cells #[.string a, .string b, .string r, .string c, .string d] 30)).alloc (.cells #[.string a', .string b', .string r', .string c', .string d'] 30)).heap.size ∧ Below w.heap.size w ((w.alloc (.cells #[.string a, .string b, .string r, .string c, .string d] 30)).alloc (.cells #[.string a', .string b', .string r', .string c', .string d'] 30)) := by
    refine ⟨?_, ?_, ?_, ?_, ?_, ?_, ?_, ?_, ?_, ?_, ?_, ?_, ?_⟩
    all_goals first | exact below2 _ _ _ | (simp; done) | (simp; omega)
  go_enter Try.func7, Try.ntmps7
  go_wp2_with fail
  go_region_held3 (fun w' => w'.cell? ⟨w.heap.size, 0, none⟩ = some (.string a) ∧ w'.cell? ⟨w.heap.size, 1, none⟩ = some (.string b) ∧ w'.cell? ⟨w.heap.size, 2, none⟩ = some (.string r) ∧ w'.cell? ⟨w.heap.size, 3, none⟩ = some (.string c) ∧ w'.cell? ⟨w.heap.size, 4, none⟩ = some (.string d) ∧ w'.cell? ⟨w.heap.size + 1, 0, none⟩ = some (.string a') ∧ w'.cell? ⟨w.heap.size + 1, 1, none⟩ = some (.string b') ∧ w'.cell? ⟨w.heap.size + 1, 2, none⟩ = some (.string r') ∧ w'.cell? ⟨w.heap.size + 1, 3, none⟩ = some (.string c') ∧ w'.cell? ⟨w.heap.size + 1, 4, none⟩ = some (.string d') ∧ w.heap.size < w'.heap.size ∧ w.heap.size + 1 < w'.heap.size ∧ Below w.heap.size w w')
    (first | assumption | exact keep10 (Nat.le_refl _) (by assumption) hbx | exact ⟨H0.1, H0.2.1, H0.2.2.1, H0.2.2.2.1, H0.2.2.2.2.1, H0.2.2.2.2.2.1, H0.2.2.2.2.2.2.1, H0.2.2.2.2.2.2.2.1, H0.2.2.2.2.2.2.2.2.1, H0.2.2.2.2.2.2.2.2.2.1, H0.2.2.2.2.2.2.2.2.2.2.1, H0.2.2.2.2.2.2.2.2.2.2.2.1, H0.2.2.2.2.2.2.2.2.2.2.2.2.drew⟩)
    (first | (go_at_call 13; refine (factTuple_any _ _ _ _ _ _).mono ?_; rintro e w' ⟨rfl, hbx⟩) | (go_at_call 12; refine (implAhead_any _ _ _ _ _ _ _ _ _ _ _ _ _ (by assumption) (by assumption) (by assumption) (by assumption) (by assumption) (by assumption) (by assumption) (by assumption) (by assumption) (by assumption) (by assumption) (by assumption)).mono ?_; rintro e w' ⟨rfl, hbx⟩))
  rename_i hJ
  obtain ⟨-, -, -, -, -, -, -, -, -, -, -, -, gB⟩ := hJ
  go_wp2
  go_ret
  exact ⟨rfl, gB⟩

end Go.Proofs.Ytephodknooeigaa
