/- Contracts of the functions that write a change's text. -/
import Derived.Test.YtgifbgcnlijjiaaTupText
import Derived.Test.YtgifbgcnlijjiaaPlainChg
import Derived.Deep.RegionHeld3
namespace Go.Proofs.Ytgifbgcnlijjiaa
open Go.ChangeShapes Go.WideShapes Go.ChangeAt Go.RowKit
open Pl

theorem tupText_77 (a b r c d s : ByteArray) : (tupText a b r c d s).size ≤ 77 := by
  cases h : tupB a b r c d s with
  | false => rw [tupText_no h]; exact Nat.zero_le _
  | true =>
    obtain ⟨p1, p2, p3, p4⟩ := tupB_parts h
    have q1 := objText_size a b
    have q2 := nameB_le p2
    have q3 := objText_size c d
    have q4 := setB_le p4
    have e1 : (⟨#[35]⟩ : ByteArray).size = 1 := rfl
    have e2 : (⟨#[64]⟩ : ByteArray).size = 1 := rfl
    cases hs : s.toList.isEmpty with
    | true => rw [tupText_one h hs]; simp only [ByteArray.size_append]; omega
    | false => rw [tupText_two h hs]; simp only [ByteArray.size_append]; omega

set_option maxHeartbeats 1000000 in
theorem specChg_any (k : Int) (a b r c d s : ByteArray) (w : World) (ha : a.size ≤ maxLen) (hb : b.size ≤ maxLen) (hr : r.size ≤ maxLen) (hc : c.size ≤ maxLen) (hd : d.size ≤ maxLen) (hs : s.size ≤ maxLen) :
    Calls Try.prog 12 #[.agg #[.int .i64 k, .string a, .string b, .string r, .string c, .string d, .string s]] w fun e w' => e = .returned (.string (chgText k a b r c d s)) ∧ Below w.heap.size w w' := by
  have h77 := tupText_77 a b r c d s
  go_enter Try.func12, Try.ntmps12
  go_wp2_with fail
  refine (specTupText_any _ _ _ _ _ _ _ ha hb hr hc hd hs).mono ?_
  rintro e w1 ⟨rfl, hb1⟩
  obtain ⟨hc1, hf1⟩ := bcell hb1
  have hz1 : w.heap.size < w1.heap.size := by have := hb1.size; simp at this; omega
  have HB1 : Below w.heap.size w w1 := ((Below.refl _ _).alloc (Nat.le_refl _) _).trans (hb1.mono (by simp))
  have c0 : w1.cell? ⟨w.heap.size, 0, none⟩ = some (.int .i64 k) := by rw [hc1 _ _ (by simp)]; simp
  clear hc1 hf1 hb1
  cases ht : tupB a b r c d s with
  | false =>
    have hE := tupText_none ht
    have HT : Hid (chgText k a b r c d s = ⟨#[]⟩) := chgText_no1 ht
    clear ht
    go_wp2
    go_ret
    exact ⟨ret_str HT.out.symm, HB1⟩
  | true =>
    have hE := tupText_some ht
    by_cases k1 : k = 1
    · subst k1
      have HT : Hid (chgText 1 a b r c d s = (⟨#[97, 100, 100, 32]⟩ : ByteArray) ++ tupText a b r c d s) := chgText_add ht
      clear ht
      have h4 : (⟨#[97, 100, 100, 32]⟩ : ByteArray).size = 4 := rfl
      have hov : (9223372036854775807 < (⟨#[97, 100, 100, 32]⟩ : ByteArray).size + (tupText a b r c d s).size) = False := by simp only [h4, eq_iff_iff, iff_false]; omega
      clear h4
      go_wp2
      go_ret
      exact ⟨ret_str HT.out.symm, HB1⟩
    · by_cases k2 : k = 2
      · subst k2
        have HT : Hid (chgText 2 a b r c d s = (⟨#[100, 114, 111, 112, 32]⟩ : ByteArray) ++ tupText a b r c d s) := chgText_drop ht
        clear ht
        have h4 : (⟨#[100, 114, 111, 112, 32]⟩ : ByteArray).size = 5 := rfl
        have hov : (9223372036854775807 < (⟨#[100, 114, 111, 112, 32]⟩ : ByteArray).size + (tupText a b r c d s).size) = False := by simp only [h4, eq_iff_iff, iff_false]; omega
        clear h4
        go_wp2
        go_ret
        exact ⟨ret_str HT.out.symm, HB1⟩
      · have HT : Hid (chgText k a b r c d s = ⟨#[]⟩) := chgText_no2 (by simp [chgB, k1, k2])
        clear ht
        have b1 : (k == 1) = false := by simpa using k1
        have b2 : (k == 2) = false := by simpa using k2
        clear k1 k2
        go_wp2
        go_ret
        exact ⟨ret_str HT.out.symm, HB1⟩

theorem changeWord_any (k : Int) (w : World) :
    Calls Try.prog 38 #[.int .i64 k] w fun e w' => e = .returned (.string (chgW k)) ∧ w' = w := by
  by_cases k1 : k = 1
  · subst k1
    go_enter Try.func38, Try.ntmps38
    go_wp2
    go_ret
    exact ⟨rfl, rfl⟩
  · by_cases k2 : k = 2
    · subst k2
      go_enter Try.func38, Try.ntmps38
      go_wp2
      go_ret
      exact ⟨rfl, rfl⟩
    · have HT : Hid (chgW k = ⟨#[]⟩) := by unfold Hid chgW; rw [if_neg k1, if_neg k2]
      have b1 : (k == 1) = false := by simpa using k1
      have b2 : (k == 2) = false := by simpa using k2
      clear k1 k2
      go_enter Try.func38, Try.ntmps38
      go_wp2
      go_ret
      exact ⟨ret_str HT.out.symm, rfl⟩

/-- seven cells that hold a change, whatever is made meanwhile -/
theorem keep7 {w W w' : World} {n : Nat} {x0 x1 x2 x3 x4 x5 x6 : Value} (h : W.cell? ⟨n, 0, none⟩ = some x0 ∧ W.cell? ⟨n, 1, none⟩ = some x1 ∧ W.cell? ⟨n, 2, none⟩ = some x2 ∧ W.cell? ⟨n, 3, none⟩ = some x3 ∧ W.cell? ⟨n, 4, none⟩ = some x4 ∧ W.cell? ⟨n, 5, none⟩ = some x5 ∧ W.cell? ⟨n, 6, none⟩ = some x6 ∧ n < W.heap.size ∧ Below w.heap.size w W) (hb : Below W.heap.size W w') :
    w'.cell? ⟨n, 0, none⟩ = some x0 ∧ w'.cell? ⟨n, 1, none⟩ = some x1 ∧ w'.cell? ⟨n, 2, none⟩ = some x2 ∧ w'.cell? ⟨n, 3, none⟩ = some x3 ∧ w'.cell? ⟨n, 4, none⟩ = some x4 ∧ w'.cell? ⟨n, 5, none⟩ = some x5 ∧ w'.cell? ⟨n, 6, none⟩ = some x6 ∧ n < w'.heap.size ∧ Below w.heap.size w w' := by
  obtain ⟨h0, h1, h2, h3, h4, h5, h6, hl, hB⟩ := h
  have hc := fun o => hb.cell (p := ⟨n, o, none⟩) hl
  exact ⟨by rw [hc]; exact h0, by rw [hc]; exact h1, by rw [hc]; exact h2, by rw [hc]; exact h3, by rw [hc]; exact h4, by rw [hc]; exact h5, by rw [hc]; exact h6, Nat.lt_of_lt_of_le hl hb.size, hB.trans (hb.mono hB.size)⟩

set_option maxHeartbeats 1000000 in
theorem implChg_any (k : Int) (a b r c d s : ByteArray) (w : World) (ha : a.size ≤ maxLen) (hb : b.size ≤ maxLen) (hr : r.size ≤ maxLen) (hc : c.size ≤ maxLen) (hd : d.size ≤ maxLen) (hs : s.size ≤ maxLen) :
    Calls Try.prog 10 #[.agg #[.int .i64 k, .string a, .string b, .string r, .string c, .string d, .string s]] w fun e w' => e = .returned (.string (chgText k a b r c d s)) ∧ Below w.heap.size w w' := by
  have h77 := tupText_77 a b r c d s
  have H0 : (w.alloc (.cells #[.int .i64 k, .string a, .string b, .string r, .string c, .string d, .string s] 29)).drew.cell? ⟨w.heap.size, 0, none⟩ = some (.int .i64 k) ∧ (w.alloc (.cells #[.int .i64 k, .string a, .string b, .string r, .string c, .string d, .string s] 29)).drew.cell? ⟨w.heap.size, 1, none⟩ = some (.string a) ∧ (w.alloc (.cells #[.int .i64 k, .string a, .string b, .string r, .string c, .string d, .string s] 29)).drew.cell? ⟨w.heap.size, 2, none⟩ = some (.string b) ∧ (w.alloc (.cells #[.int .i64 k, .string a, .string b, .string r, .string c, .string d, .string s] 29)).drew.cell? ⟨w.heap.size, 3, none⟩ = some (.string r) ∧ (w.alloc (.cells #[.int .i64 k, .string a, .string b, .string r, .string c, .string d, .string s] 29)).drew.cell? ⟨w.heap.size, 4, none⟩ = some (.string c) ∧ (w.alloc (.cells #[.int .i64 k, .string a, .string b, .string r, .string c, .string d, .string s] 29)).drew.cell? ⟨w.heap.size, 5, none⟩ = some (.string d) ∧ (w.alloc (.cells #[.int .i64 k, .string a, .string b, .string r, .string c, .string d, .string s] 29)).drew.cell? ⟨w.heap.size, 6, none⟩ = some (.string s) ∧ w.heap.size < (w.alloc (.cells #[.int .i64 k, .string a, .string b, .string r, .string c, .string d, .string s] 29)).drew.heap.size ∧ Below w.heap.size w (w.alloc (.cells #[.int .i64 k, .string a, .string b, .string r, .string c, .string d, .string s] 29)).drew := by
    refine ⟨?_, ?_, ?_, ?_, ?_, ?_, ?_, ?_, ?_⟩
    all_goals first | exact ((Below.refl _ _).alloc (Nat.le_refl _) _).drew | (simp; done)
  go_enter Try.func10, Try.ntmps10
  go_wp2_with fail
  go_region_held3 (fun w' => w'.cell? ⟨w.heap.size, 0, none⟩ = some (.int .i64 k) ∧ w'.cell? ⟨w.heap.size, 1, none⟩ = some (.string a) ∧ w'.cell? ⟨w.heap.size, 2, none⟩ = some (.string b) ∧ w'.cell? ⟨w.heap.size, 3, none⟩ = some (.string r) ∧ w'.cell? ⟨w.heap.size, 4, none⟩ = some (.string c) ∧ w'.cell? ⟨w.heap.size, 5, none⟩ = some (.string d) ∧ w'.cell? ⟨w.heap.size, 6, none⟩ = some (.string s) ∧ w.heap.size < w'.heap.size ∧ Below w.heap.size w w')
    (first | assumption | exact keep7 (by assumption) hbx | exact H0)
    (first | (go_at_call 34; refine (implTupText_any _ _ _ _ _ _ _ (by assumption) (by assumption) (by assumption) (by assumption) (by assumption) (by assumption)).mono ?_; rintro e w' ⟨rfl, hbx⟩) | (go_at_call 38; refine (changeWord_any _ _).mono ?_; rintro e w' ⟨rfl, rfl⟩))
  rename_i hH
  obtain ⟨-, -, -, -, -, -, -, -, HB1⟩ := hH
  clear H0
  cases ht : tupB a b r c d s with
  | false =>
    have hE := tupText_none ht
    have HT : Hid (chgText k a b r c d s = ⟨#[]⟩) := chgText_no1 ht
    clear ht
    cases hw : (chgW k).toList.isEmpty with
    | true => go_wp2; go_ret; exact ⟨ret_str HT.out.symm, HB1⟩
    | false => go_wp2; go_ret; exact ⟨ret_str HT.out.symm, HB1⟩
  | true =>
    have hE := tupText_some ht
    cases hk : chgB k with
    | true =>
      have hw : (chgW k).toList.isEmpty = false := some_size (by rcases chgB_of hk with rfl | rfl <;> decide)
      have h4 : (chgW k).size ≤ 4 := by rcases chgB_of hk with rfl | rfl <;> decide
      have HT : Hid (chgText k a b r c d s = (chgW k ++ ⟨#[32]⟩) ++ tupText a b r c d s) := chgText_yes hk ht
      clear ht hk
      have e1 : (⟨#[32]⟩ : ByteArray).size = 1 := rfl
      have hov : (9223372036854775807 < (chgW k).size + (⟨#[32]⟩ : ByteArray).size) = False := by simp only [e1, eq_iff_iff, iff_false]; omega
      have hov2 : (9223372036854775807 < (chgW k ++ (⟨#[32]⟩ : ByteArray)).size + (tupText a b r c d s).size) = False := by simp only [ByteArray.size_append, e1, eq_iff_iff, iff_false]; omega
      clear e1
      go_wp2
      go_ret
      exact ⟨ret_str HT.out.symm, HB1⟩
    | false =>
      have hw : (chgW k).toList.isEmpty = true := by
        have h1 : ¬ k = 1 := fun e => by simp [chgB, e] at hk
        have h2 : ¬ k = 2 := fun e => by simp [chgB, e] at hk
        rw [chgW, if_neg h1, if_neg h2, Go.ByteArray.toList_eq]; rfl
      have HT : Hid (chgText k a b r c d s = ⟨#[]⟩) := chgText_no2 hk
      clear ht hk
      go_wp2
      go_ret
      exact ⟨ret_str HT.out.symm, HB1⟩

end Go.Proofs.Ytgifbgcnlijjiaa
