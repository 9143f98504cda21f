/- Contracts of the functions on ids, beside those on names. -/
import Derived.Test.YtgifbgcnlijjiaaNamesL
namespace Go.Proofs.Ytgifbgcnlijjiaa
open Go.ChangeShapes Go.WideShapes Go.ChangeAt Go.RowKit
open Pl

theorem isIdSign_any (c : UInt8) (w : World) :
    Calls Try.prog 94 #[.int .u8 c.toNat] w fun e w' => e = .returned (.bool (idB c)) ∧ w' = w := by
  by_cases hl : letB c = true
  · go_enter Try.func94, Try.ntmps94
    go_wp2_with (go_at_call 83; refine (isLetter_any _ _).mono ?_; rintro e w' ⟨rfl, rfl⟩)
    go_ret
    exact ⟨ret_bool (by simp [idB, hl]), rfl⟩
  · have hf : letB c = false := by simpa using hl
    clear hl
    go_enter Try.func94, Try.ntmps94
    go_wp2_with (go_at_call 83; refine (isLetter_any _ _).mono ?_; rintro e w' ⟨rfl, rfl⟩)
    all_goals go_ret
    all_goals refine ⟨ret_bool ?_, rfl⟩
    all_goals (rw [Bool.eq_iff_iff]; simp [idB, hf]; omega)

set_option maxHeartbeats 1000000 in
theorem specId_any (s : ByteArray) (w : World) (hs : s.size ≤ maxLen) :
    Calls Try.prog 87 #[.string s] w fun e w' => e = .returned (.bool (isIdB s)) ∧ w' = w := by
  unfold maxLen at hs
  by_cases h1 : 1 ≤ s.size ∧ s.size ≤ 12
  · obtain ⟨ha, hb⟩ := h1
    go_enter Try.func87, Try.ntmps87
    go_wp2
    go_loop [3] (fun i => ∃ k : Nat, k ≤ s.size ∧ i = .int .i64 k ∧ Hid (upB idB s k = true)) (fun i => s.size - (intOf i).toNat)
    case atStart => exact ⟨0, Nat.zero_le _, rfl, upB_zero _ _⟩
    case round =>
      obtain ⟨k, hk, rfl, hu⟩ := hrel
      by_cases hlt : k < s.size
      · by_cases hc : idB s[k] = true
        · have hd : (97 ≤ s[k].toNat ∧ s[k].toNat ≤ 122) ∨ (48 ≤ s[k].toNat ∧ s[k].toNat ≤ 57) ∨ s[k].toNat = 95 := by simp [idB, letB] at hc; omega
          have HU : Hid (upB idB s (k + 1) = true) := by show _ = _; rw [upB_succ _ _ _ hlt, hc, hu.out]; rfl
          clear hc
          rcases hd with ⟨hd1, hd2⟩ | ⟨hd1, hd2⟩ | hd1
          all_goals
            go_wp2
            go_round
            case rel => exact ⟨k + 1, by omega, by go_num, HU⟩
            case measure => simp [intOf]; omega
        · have hc' : idB s[k] = false := by simpa using hc
          have HB : Hid (allB idB s = false) := upB_bad _ _ _ hlt hc'
          have hd : s[k].toNat < 48 ∨ (57 < s[k].toNat ∧ s[k].toNat < 95) ∨ (95 < s[k].toNat ∧ s[k].toNat < 97) ∨ 122 < s[k].toNat := by simp [idB, letB] at hc'; omega
          clear hc hc'
          rcases hd with hd | ⟨hd, hd2⟩ | ⟨hd, hd2⟩ | hd
          all_goals
            have h95 : ((s[k].toNat : Int) != 95) = true := by simp; omega
            go_wp2
            go_ret
            exact ⟨ret_bool (by simp [isIdB, signsB, HB.out]), rfl⟩
      · go_wp2
        go_ret
        refine ⟨ret_bool ?_, rfl⟩
        have hall : allB idB s = true := by rw [← upB_end idB s k (by omega)]; exact hu.out
        have hl : lenB s = true := by simp [lenB]; omega
        simp [isIdB, signsB, hall, hl]
  · have hn : lenB s = false := by simp [lenB]; omega
    have HN : Hid (isIdB s = false) := by show _ = _; simp [isIdB, signsB, hn]
    clear hn
    by_cases ha : 1 ≤ s.size
    · have hb : 12 < s.size := by omega
      clear h1
      go_enter Try.func87, Try.ntmps87
      go_wp2
      go_ret
      exact ⟨ret_bool HN.out.symm, rfl⟩
    · have ha' : s.size < 1 := by omega
      clear h1
      go_enter Try.func87, Try.ntmps87
      go_wp2
      go_ret
      exact ⟨ret_bool HN.out.symm, rfl⟩

theorem signs_isIdSign (s : ByteArray) (w : World) (hs : s.size ≤ maxLen) :
    Calls Try.prog 82 #[.string s, .func (Fn.func 94) #[] #[]] w fun e w' => e = .returned (.bool (signsB idB s)) ∧ w' = w := by
  unfold maxLen at hs
  by_cases h1 : 1 ≤ s.size ∧ s.size ≤ 12
  · obtain ⟨ha, hb⟩ := h1
    go_enter Try.func82, Try.ntmps82
    go_wp2
    go_loop [16] (fun i => ∃ k : Nat, k ≤ s.size ∧ i = .int .i64 k ∧ Hid (upB idB s k = true)) (fun i => s.size - (intOf i).toNat)
    case atStart => exact ⟨0, Nat.zero_le _, rfl, upB_zero _ _⟩
    case round =>
      obtain ⟨k, hk, rfl, hu⟩ := hrel
      by_cases hlt : k < s.size
      · by_cases hc : idB s[k] = true
        · have HU : Hid (upB idB s (k + 1) = true) := by show _ = _; rw [upB_succ _ _ _ hlt, hc, hu.out]; rfl
          go_wp2_with (go_at_call 94; refine (isIdSign_any _ _).mono ?_; rintro e w' ⟨rfl, rfl⟩)
          go_round
          case rel => exact ⟨k + 1, by omega, by go_num, HU⟩
          case measure => simp [intOf]; omega
        · have hc' : idB s[k] = false := by simpa using hc
          have HB : Hid (allB idB s = false) := upB_bad _ _ _ hlt hc'
          clear hc
          go_wp2_with (go_at_call 94; refine (isIdSign_any _ _).mono ?_; rintro e w' ⟨rfl, rfl⟩)
          go_ret
          exact ⟨ret_bool (by simp [signsB, HB.out]), rfl⟩
      · go_wp2
        go_ret
        refine ⟨ret_bool ?_, rfl⟩
        have hall : allB idB s = true := by rw [← upB_end idB s k (by omega)]; exact hu.out
        have hl : lenB s = true := by simp [lenB]; omega
        simp [signsB, hall, hl]
  · have hn : lenB s = false := by simp [lenB]; omega
    have HN : Hid (signsB idB s = false) := by show _ = _; simp [signsB, hn]
    clear hn
    by_cases ha : 1 ≤ s.size
    · have hb : 12 < s.size := by omega
      clear h1
      go_enter Try.func82, Try.ntmps82
      go_wp2
      go_ret
      exact ⟨ret_bool HN.out.symm, rfl⟩
    · have ha' : s.size < 1 := by omega
      clear h1
      go_enter Try.func82, Try.ntmps82
      go_wp2
      go_ret
      exact ⟨ret_bool HN.out.symm, rfl⟩

theorem implId_any (s : ByteArray) (w : World) (hs : s.size ≤ maxLen) :
    Calls Try.prog 81 #[.string s] w fun e w' => e = .returned (.bool (isIdB s)) ∧ w' = w := by
  go_enter Try.func81, Try.ntmps81
  go_wp2_with (go_at_call 82; refine (signs_isIdSign _ _ hs).mono ?_; rintro e w' ⟨rfl, rfl⟩)
  go_ret
  exact ⟨rfl, rfl⟩

end Go.Proofs.Ytgifbgcnlijjiaa
