/- Contracts of the document's functions on files: names, right lists, the form of an op, the place of a name. -/
import Derived.Test.YtbfimfmfdllejaaPlainDk
import Derived.BigQuiet
import Derived.Deep.QuietTactic
import Derived.Deep.RegionHeld3
namespace Go.Proofs.Ytbfimfmfdllejaa
open Go.ChangeShapes Go.WideShapes Go.ChangeAt Go.RowKit

theorem retB {a b : Bool} (h : a = b) : Ending.returned (.bool a) = .returned (.bool b) := by rw [h]
theorem retI {a b : Int} (h : a = b) : Ending.returned (.int .i64 a) = .returned (.int .i64 b) := by rw [h]

theorem l8Name_any (s : ByteArray) (w : World) (hs : s.size ≤ maxLen) :
    Calls Try.prog 81 #[.string s] w fun e w' => e = .returned (.bool (nmB s)) ∧ w' = w := by
  unfold maxLen at hs
  by_cases h1 : 1 ≤ s.size
  · have h1' : decide ((1 : Int) ≤ (s.size : Int)) = true := by simp; omega
    go_enter Try.func81, Try.ntmps81
    go_wp2
    go_ret
    exact ⟨retB (by simp [nmB, h1]; omega), rfl⟩
  · have h1' : decide ((1 : Int) ≤ (s.size : Int)) = false := by simp; omega
    go_enter Try.func81, Try.ntmps81
    go_wp2
    go_ret
    exact ⟨retB (by simp [nmB, h1]), rfl⟩

theorem l1In_any (n a b : Int) (w : World) :
    Calls Try.prog 49 #[.int .i64 n, .int .i64 a, .int .i64 b] w fun e w' => e = .returned (.bool (decide (a ≤ n) && decide (n ≤ b))) ∧ w' = w := by
  cases h1 : decide (a ≤ n) with
  | true =>
    go_enter Try.func49, Try.ntmps49
    go_wp2
    go_ret
    exact ⟨retB (by simp), rfl⟩
  | false =>
    go_enter Try.func49, Try.ntmps49
    go_wp2
    go_ret
    exact ⟨retB (by simp), rfl⟩

set_option maxHeartbeats 1000000 in
theorem l8Form_any (o : Dop) (w : World) (hf : o.fits) :
    Calls Try.prog 60 #[.agg #[.int .i64 o.k, .string o.n, .string o.t, .string o.d]] w fun e w' => e = .returned (.bool (formB o)) ∧ Below w.heap.size w w' := by
  obtain ⟨h1, h2, h3⟩ := hf
  have HB : Hid (Below w.heap.size w (w.alloc (.cells #[.int .i64 o.k, .string o.n, .string o.t, .string o.d] 37))) := (Below.refl _ _).alloc (Nat.le_refl _) _
  cases hk : (decide (1 ≤ o.k) && decide (o.k ≤ 3)) with
  | false =>
    have HF : Hid (formB o = false) := by unfold Hid formB; rw [hk]; rfl
    go_enter Try.func60, Try.ntmps60
    go_wp2_with (first | (go_at_call 49; refine (l1In_any _ _ _ _).mono ?_; rintro e w' ⟨rfl, rfl⟩) | (go_at_call 81; refine (l8Name_any _ _ (by assumption)).mono ?_; rintro e w' ⟨rfl, rfl⟩))
    go_ret
    exact ⟨retB HF.out.symm, HB.out⟩
  | true =>
    cases hn : nmB o.n with
    | false =>
      have HF : Hid (formB o = false) := by unfold Hid formB; rw [hk, hn]; rfl
      go_enter Try.func60, Try.ntmps60
      go_wp2_with (first | (go_at_call 49; refine (l1In_any _ _ _ _).mono ?_; rintro e w' ⟨rfl, rfl⟩) | (go_at_call 81; refine (l8Name_any _ _ (by assumption)).mono ?_; rintro e w' ⟨rfl, rfl⟩))
      go_ret
      exact ⟨retB HF.out.symm, HB.out⟩
    | true =>
      by_cases k2 : o.k = 2
      · have HF : Hid (formB o = (nmB o.t && o.d.toList.isEmpty)) := by unfold Hid formB; rw [hk, hn, if_pos k2]; rfl
        have kb : (o.k == 2) = true := by simpa using k2
        clear k2
        cases ht : nmB o.t with
        | true =>
          rw [ht] at HF
          go_enter Try.func60, Try.ntmps60
          go_wp2_with (first | (go_at_call 49; refine (l1In_any _ _ _ _).mono ?_; rintro e w' ⟨rfl, rfl⟩) | (go_at_call 81; refine (l8Name_any _ _ (by assumption)).mono ?_; rintro e w' ⟨rfl, rfl⟩))
          go_ret
          exact ⟨retB (by rw [HF.out]; simp), HB.out⟩
        | false =>
          rw [ht] at HF
          go_enter Try.func60, Try.ntmps60
          go_wp2_with (first | (go_at_call 49; refine (l1In_any _ _ _ _).mono ?_; rintro e w' ⟨rfl, rfl⟩) | (go_at_call 81; refine (l8Name_any _ _ (by assumption)).mono ?_; rintro e w' ⟨rfl, rfl⟩))
          go_ret
          exact ⟨retB (by rw [HF.out]; simp), HB.out⟩
      · have HF : Hid (formB o = (o.t.toList.isEmpty && (decide (o.k = 1) || o.d.toList.isEmpty))) := by unfold Hid formB; rw [hk, hn, if_neg k2]; rfl
        have kb : (o.k == 2) = false := by simpa using k2
        clear k2
        cases ht : o.t.toList.isEmpty with
        | false =>
          rw [ht] at HF
          go_enter Try.func60, Try.ntmps60
          go_wp2_with (first | (go_at_call 49; refine (l1In_any _ _ _ _).mono ?_; rintro e w' ⟨rfl, rfl⟩) | (go_at_call 81; refine (l8Name_any _ _ (by assumption)).mono ?_; rintro e w' ⟨rfl, rfl⟩))
          go_ret
          exact ⟨retB (by rw [HF.out]; simp), HB.out⟩
        | true =>
          rw [ht] at HF
          by_cases k1 : o.k = 1
          · have kc : (o.k == 1) = true := by simpa using k1
            have HF2 : Hid (formB o = true) := by show _ = _; rw [HF.out]; simp [k1]
            clear k1
            go_enter Try.func60, Try.ntmps60
            go_wp2_with (first | (go_at_call 49; refine (l1In_any _ _ _ _).mono ?_; rintro e w' ⟨rfl, rfl⟩) | (go_at_call 81; refine (l8Name_any _ _ (by assumption)).mono ?_; rintro e w' ⟨rfl, rfl⟩))
            go_ret
            exact ⟨retB HF2.out.symm, HB.out⟩
          · have kc : (o.k == 1) = false := by simpa using k1
            have HF2 : Hid (formB o = o.d.toList.isEmpty) := by show _ = _; rw [HF.out]; simp [k1]
            clear k1
            go_enter Try.func60, Try.ntmps60
            go_wp2_with (first | (go_at_call 49; refine (l1In_any _ _ _ _).mono ?_; rintro e w' ⟨rfl, rfl⟩) | (go_at_call 81; refine (l8Name_any _ _ (by assumption)).mono ?_; rintro e w' ⟨rfl, rfl⟩))
            go_ret
            exact ⟨retB HF2.out.symm, HB.out⟩

set_option maxHeartbeats 1000000 in
theorem l8At_any (ad : Option Addr) (cap : Nat) (fs : List Fl) (x : ByteArray) (w : World) (hlen : fs.length ≤ 1048576) (hs : SlF w ad fs) :
    Calls Try.prog 69 #[.slice ad fs.length cap, .string x] w fun e w' => e = .returned (.int .i64 (atI fs x)) ∧ w' = w := by
  go_enter Try.func69, Try.ntmps69
  go_wp2
  go_loop [5] (fun i => ∃ k : Nat, k ≤ fs.length ∧ i = .int .i64 (k : Int) ∧ Hid (atUp fs x k)) (fun i => fs.length - (intOf i).toNat)
  case atStart => exact ⟨0, Nat.zero_le _, rfl, fun j hj h => absurd h (Nat.not_lt_zero _)⟩
  case round =>
    obtain ⟨k, hk, rfl, HU⟩ := hrel
    by_cases hlt : k < fs.length
    · rcases hs with rfl | ⟨b, off, rfl, hb, hr⟩
      · simp at hlt
      obtain ⟨t0, t1⟩ := hr k hlt
      clear hr
      have k0 : (0 : Int) ≤ (k : Int) := by omega
      have k1 : (k : Int) < (fs.length : Int) := by omega
      cases he : (fs[k].n.toList == x.toList) with
      | true =>
        have HE : Hid (atI fs x = (k : Int)) := by unfold Hid atI; rw [atF_some hlt HU.out he]
        go_wp2
        go_ret
        exact ⟨retI HE.out.symm, rfl⟩
      | false =>
        have HU2 : Hid (atUp fs x (k + 1)) := fun j hj h => by
          by_cases e : j = k
          · subst e; exact he
          · exact HU.out j hj (by omega)
        go_wp2
        go_round
        case rel => exact ⟨k + 1, by omega, by go_num, HU2⟩
        case measure => simp [intOf]; omega
    · obtain rfl : k = fs.length := by omega
      have HE : Hid (atI fs x = -1) := by unfold Hid atI; rw [atF_none HU.out]
      go_wp2
      go_ret
      exact ⟨retI HE.out.symm, rfl⟩
end Go.Proofs.Ytbfimfmfdllejaa
