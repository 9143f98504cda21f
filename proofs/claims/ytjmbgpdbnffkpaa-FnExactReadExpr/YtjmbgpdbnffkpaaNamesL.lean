/- Contracts of the functions that look at names and ids, the document's model beside the program's: each returns what the plain function says and leaves the world as it was. -/
import Derived.Test.YtjmbgpdbnffkpaaRows
import Derived.Test.YtjmbgpdbnffkpaaPlain
import Derived.WalkKit
import Derived.WalkLawsBesides
import Derived.ProofKit
namespace Go.Proofs.Ytjmbgpdbnffkpaa
open Go.ChangeShapes Go.WideShapes Go.ChangeAt Go.RowKit
open Pl

theorem isLetter_any (c : UInt8) (w : World) :
    Calls Try.prog 105 #[.int .u8 c.toNat] w fun e w' => e = .returned (.bool (letB c)) ∧ w' = w := by
  go_enter Try.func105, Try.ntmps105
  go_wp2
  all_goals go_ret
  all_goals refine ⟨ret_bool ?_, rfl⟩
  all_goals (rw [Bool.eq_iff_iff]; simp [letB]; omega)

theorem specName_any (s : ByteArray) (w : World) (hs : s.size ≤ maxLen) :
    Calls Try.prog 86 #[.string s] w fun e w' => e = .returned (.bool (nameB s)) ∧ w' = w := by
  unfold maxLen at hs
  by_cases h1 : 1 ≤ s.size ∧ s.size ≤ 12
  · obtain ⟨ha, hb⟩ := h1
    go_enter Try.func86, Try.ntmps86
    go_wp2
    go_loop [3] (fun i => ∃ k : Nat, k ≤ s.size ∧ i = .int .i64 k ∧ Hid (upB letB s k = true)) (fun i => s.size - (intOf i).toNat)
    case atStart => exact ⟨0, Nat.zero_le _, rfl, upB_zero _ _⟩
    case round =>
      obtain ⟨k, hk, rfl, hu⟩ := hrel
      by_cases hlt : k < s.size
      · by_cases hc : letB s[k] = true
        · have hc1 : 97 ≤ s[k].toNat := by simp [letB] at hc; omega
          have hc2 : s[k].toNat ≤ 122 := by simp [letB] at hc; omega
          have HU : Hid (upB letB s (k + 1) = true) := by show _ = _; rw [upB_succ _ _ _ hlt, hc, hu.out]; rfl
          clear hc
          go_wp2
          go_round
          case rel => exact ⟨k + 1, by omega, by go_num, HU⟩
          case measure => simp [intOf]; omega
        · have hc' : letB s[k] = false := by simpa using hc
          have HB : Hid (allB letB s = false) := upB_bad _ _ _ hlt hc'
          have hd : s[k].toNat < 97 ∨ 122 < s[k].toNat := by simp [letB] at hc'; omega
          clear hc hc'
          rcases hd with hd | hd
          all_goals
            go_wp2
            go_ret
            exact ⟨ret_bool (by simp [nameB, signsB, HB.out]), rfl⟩
      · go_wp2
        go_ret
        refine ⟨ret_bool ?_, rfl⟩
        have hall : allB letB s = true := by rw [← upB_end letB s k (by omega)]; exact hu.out
        have hl : lenB s = true := by simp [lenB]; omega
        simp [nameB, signsB, notThis, hall, hl]
  · have hn : lenB s = false := by simp [lenB]; omega
    have HN : Hid (nameB s = false) := by show _ = _; simp [nameB, signsB, hn]
    clear hn
    by_cases ha : 1 ≤ s.size
    · have hb : 12 < s.size := by omega
      clear h1
      go_enter Try.func86, Try.ntmps86
      go_wp2
      go_ret
      exact ⟨ret_bool HN.out.symm, rfl⟩
    · have ha' : s.size < 1 := by omega
      clear h1
      go_enter Try.func86, Try.ntmps86
      go_wp2
      go_ret
      exact ⟨ret_bool HN.out.symm, rfl⟩

theorem signs_isLetter (s : ByteArray) (w : World) (hs : s.size ≤ maxLen) :
    Calls Try.prog 104 #[.string s, .func (Fn.func 105) #[] #[]] w fun e w' => e = .returned (.bool (signsB letB s)) ∧ w' = w := by
  unfold maxLen at hs
  by_cases h1 : 1 ≤ s.size ∧ s.size ≤ 12
  · obtain ⟨ha, hb⟩ := h1
    go_enter Try.func104, Try.ntmps104
    go_wp2
    go_loop [16] (fun i => ∃ k : Nat, k ≤ s.size ∧ i = .int .i64 k ∧ Hid (upB letB s k = true)) (fun i => s.size - (intOf i).toNat)
    case atStart => exact ⟨0, Nat.zero_le _, rfl, upB_zero _ _⟩
    case round =>
      obtain ⟨k, hk, rfl, hu⟩ := hrel
      by_cases hlt : k < s.size
      · by_cases hc : letB s[k] = true
        · have HU : Hid (upB letB s (k + 1) = true) := by show _ = _; rw [upB_succ _ _ _ hlt, hc, hu.out]; rfl
          go_wp2_with (go_at_call 105; refine (isLetter_any _ _).mono ?_; rintro e w' ⟨rfl, rfl⟩)
          go_round
          case rel => exact ⟨k + 1, by omega, by go_num, HU⟩
          case measure => simp [intOf]; omega
        · have hc' : letB s[k] = false := by simpa using hc
          have HB : Hid (allB letB s = false) := upB_bad _ _ _ hlt hc'
          clear hc
          go_wp2_with (go_at_call 105; refine (isLetter_any _ _).mono ?_; rintro e w' ⟨rfl, rfl⟩)
          go_ret
          exact ⟨ret_bool (by simp [signsB, HB.out]), rfl⟩
      · go_wp2
        go_ret
        refine ⟨ret_bool ?_, rfl⟩
        have hall : allB letB s = true := by rw [← upB_end letB s k (by omega)]; exact hu.out
        have hl : lenB s = true := by simp [lenB]; omega
        simp [signsB, hall, hl]
  · have hn : lenB s = false := by simp [lenB]; omega
    have HN : Hid (signsB letB s = false) := by show _ = _; simp [signsB, hn]
    clear hn
    by_cases ha : 1 ≤ s.size
    · have hb : 12 < s.size := by omega
      clear h1
      go_enter Try.func104, Try.ntmps104
      go_wp2
      go_ret
      exact ⟨ret_bool HN.out.symm, rfl⟩
    · have ha' : s.size < 1 := by omega
      clear h1
      go_enter Try.func104, Try.ntmps104
      go_wp2
      go_ret
      exact ⟨ret_bool HN.out.symm, rfl⟩

theorem implName_any (s : ByteArray) (w : World) (hs : s.size ≤ maxLen) :
    Calls Try.prog 77 #[.string s] w fun e w' => e = .returned (.bool (nameB s)) ∧ w' = w := by
  by_cases h : s.toList = [116, 104, 105, 115]
  · have hb : (s.toList == [116, 104, 105, 115]) = true := by simp [h]
    have HN : Hid (nameB s = false) := by show _ = _; simp [nameB, notThis, h]
    clear h
    go_enter Try.func77, Try.ntmps77
    go_wp2
    go_ret
    exact ⟨ret_bool HN.out.symm, rfl⟩
  · have hb : (s.toList == [116, 104, 105, 115]) = false := by simp [h]
    have HN : Hid (nameB s = signsB letB s) := by show _ = _; simp [nameB, notThis, h]
    clear h
    go_enter Try.func77, Try.ntmps77
    go_wp2_with (go_at_call 104; refine (signs_isLetter _ _ hs).mono ?_; rintro e w' ⟨rfl, rfl⟩)
    go_ret
    exact ⟨ret_bool HN.out.symm, rfl⟩

end Go.Proofs.Ytjmbgpdbnffkpaa
