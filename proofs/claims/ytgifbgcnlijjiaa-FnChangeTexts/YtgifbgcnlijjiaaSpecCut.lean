/- Contract of the document's function that cuts a text at a byte. -/
import Derived.Test.YtgifbgcnlijjiaaRows
import Derived.Test.YtgifbgcnlijjiaaPlainCut
import Derived.WalkKit
import Derived.WalkLawsBesides
import Derived.ProofKit
import Derived.Deep.QuietTactic
import Derived.BigQuiet
import Derived.WalkSmall
import Derived.WalkSpells
namespace Go.Proofs.Ytgifbgcnlijjiaa
open Go.ChangeShapes Go.WideShapes Go.ChangeAt Go.RowKit
open Pl

theorem ret_cut {a b a' b' : ByteArray} {f f' : Bool} (ha : a = a') (hb : b = b') (hf : f = f') : Ending.returned (.tuple #[.string a, .string b, .bool f]) = .returned (.tuple #[.string a', .string b', .bool f']) := by rw [ha, hb, hf]

set_option maxHeartbeats 1000000 in
theorem l1Cut_any (s : ByteArray) (c : UInt8) (w : World) (hs : s.size ≤ maxLen) :
    Calls Try.prog 43 #[.string s, .int .u8 c.toNat] w fun e w' => e = .returned (.tuple #[.string (cutA c s), .string (cutZ c s), .bool (cutF c s)]) ∧ ∃ n, w' = w.drewN n := by
  unfold maxLen at hs
  go_enter Try.func43, Try.ntmps43
  go_wp2
  go_loop [7] (fun i => ∃ k : Nat, k ≤ s.size ∧ i = .int .i64 k ∧ Hid (noB c s k)) (fun i => s.size - (intOf i).toNat)
  case atStart => exact ⟨0, Nat.zero_le _, rfl, noB_zero _ _⟩
  case round =>
    obtain ⟨k, hk, rfl, hu⟩ := hrel
    by_cases hlt : k < s.size
    · by_cases hc : s[k] = c
      · have HC : Hid (cutL c s.data.toList = _) := cut_at hlt hu.out hc
        have hcb : ((s[k].toNat : Int) == (c.toNat : Int)) = true := by simp [hc]
        have hk1 : (0 : Int) ≤ (k : Int) := by omega
        have hk2 : (k : Int) ≤ (s.size : Int) := by omega
        have hk3 : (k : Int) + 1 ≤ (s.size : Int) := by omega
        clear hc
        go_wp2
        go_quiet (fail)
        go_wp2
        go_ret3
        refine ⟨ret_cut (ext_data ?_) (ext_data ?_) (by simp [cutF, HC.out]), nq, rfl⟩
        · rw [Lib.extract_data]; simp [cutA, HC.out]
        · rw [Lib.extract_to_end]; simp [cutZ, HC.out]
      · have HU : Hid (noB c s (k + 1)) := noB_succ hlt hu.out hc
        have hcb : ((s[k].toNat : Int) == (c.toNat : Int)) = false := by
          simp; intro h; exact hc (UInt8.toNat_inj.mp (by omega))
        clear hc
        go_wp2
        go_round
        case rel => exact ⟨k + 1, by omega, by go_num, HU⟩
        case measure => simp [intOf]; omega
    · have HC : Hid (cutL c s.data.toList = _) := cut_none (Nat.le_of_not_lt hlt) hu.out
      go_wp2
      go_ret3
      exact ⟨ret_cut (by simp [cutA, HC.out]) (by simp [cutZ, HC.out]) (by simp [cutF, HC.out]), 0, rfl⟩
end Go.Proofs.Ytgifbgcnlijjiaa
