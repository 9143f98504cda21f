/- Contracts of the document's l7Names and l7Put: a tree written anew, with another one in the place of a name. -/
import Derived.Test.YtmghabcaakgjiaaGreatL2Copy
import Derived.Test.YtmghabcaakgjiaaGreatJ10
import Derived.Test.YtmghabcaakgjiaaGreatInlinedA
namespace Go.Proofs.YtmghabcaakgjiaaGreat
set_option maxRecDepth 100000
set_option linter.unusedVariables false
open Go.ChangeShapes Go.WideShapes Go.ChangeAt Go.RowKit Go.Maps
open Pl

set_option maxHeartbeats 4000000 in
theorem l7Names_any (ad : Option Addr) (cap : Nat) (xs : List ER) (rel : ByteArray) (w : World) (hlen : xs.length ≤ 1048576) (hs : SlE w ad xs) :
    Calls Tryz.prog 38 #[.slice ad xs.length cap, .string rel] w fun e w' => e = .returned (.bool ((exs xs).any fun e => isNm rel e || isTs e)) ∧ w' = w := by
  have HS := toHX hs
  clear hs
  have HD : Hid (∀ k (h : k < xs.length), ((exs xs).drop k).any (fun e => isNm rel e || isTs e) = ((isNm rel xs[k].e || isTs xs[k].e) || ((exs xs).drop (k + 1)).any fun e => isNm rel e || isTs e)) := fun k h => by
    rw [any_drop _ (exs xs) k (by rw [exs_len]; exact h), exs_at h]
  go_enter Tryz.func38, Tryz.ntmps38
  go_wp2_with fail
  go_loopw [5] (fun i wr => ∃ k : Nat, k ≤ xs.length ∧ i = .int .i64 k ∧ Hid (((exs xs).drop k).any (fun e => isNm rel e || isTs e) = (exs xs).any fun e => isNm rel e || isTs e) ∧ wr = w) (fun i _ => xs.length - (intOf i).toNat)
  case atStart => exact ⟨0, Nat.zero_le _, rfl, rfl, rfl⟩
  case round =>
    obtain ⟨k, hk, rfl, HQ, rfl⟩ := hrel
    by_cases hlt : k < xs.length
    · obtain ⟨b, off, hadr, ⟨t0, -, -, t3, -⟩, hbl⟩ := SlE.rowI HS.out hlt
      have hk1 : (0 : Int) ≤ (k : Int) := by omega
      have hk2 : (k : Int) < (xs.length : Int) := by omega
      have HD2 := toHX (HD.out k hlt)
      rw [hadr]
      clear hadr
      have HY : Hid ((isNm rel xs[k].e || isTs xs[k].e) = true → (exs xs).any (fun e => isNm rel e || isTs e) = true) := fun h => by rw [← HQ.out, HD2.out, h]; rfl
      have HNO : Hid ((isNm rel xs[k].e || isTs xs[k].e) = false → ((exs xs).drop (k + 1)).any (fun e => isNm rel e || isTs e) = (exs xs).any fun e => isNm rel e || isTs e) := fun h => by rw [← HQ.out, HD2.out, h]; rfl
      by_cases hk2' : xs[k].e.kind = 2
      · have h2 : (xs[k].e.kind == 2) = true := by simp [hk2']
        have h1 : (xs[k].e.kind == 1) = false := by simp [hk2']
        have hts : isTs xs[k].e = false := by unfold isTs; rw [decide_eq_false]; omega
        cases hnm : (xs[k].e.name.toList == rel.toList) with
        | true =>
          have HN := toHX (HY.out (by unfold isNm; rw [hnm, decide_eq_true hk2']; rfl))
          clear h1 h2 hts
          go_wp2
          go_ret
          exact ⟨by rw [HN.out]; rfl, rfl⟩
        | false =>
          have HN := toHX (HNO.out (by unfold isNm; rw [hnm, hts]; simp))
          clear h1 h2 hts
          go_wp2
          go_roundw
          case rel => exact ⟨k + 1, by omega, by go_num, HN, by first | rfl | trivial⟩
          case measure => first | (simp [intOf]; done) | (simp [intOf]; omega)
      · have h2 : (xs[k].e.kind == 2) = false := by simpa using hk2'
        have h2' : decide (xs[k].e.kind = 2) = false := decide_eq_false hk2'
        have hnm : isNm rel xs[k].e = false := by unfold isNm; rw [h2']; rfl
        by_cases hk1' : xs[k].e.kind = 1
        · have HN := toHX (HY.out (by rw [hnm]; unfold isTs; rw [decide_eq_true hk1']; rfl))
          clear h2 h2' hnm hk2'
          go_wp2
          go_ret
          exact ⟨by rw [HN.out]; rfl, rfl⟩
        · have h1 : (xs[k].e.kind == 1) = false := by simpa using hk1'
          have h1' : decide (xs[k].e.kind = 1) = false := decide_eq_false hk1'
          have HN := toHX (HNO.out (by rw [hnm]; unfold isTs; rw [h1']; rfl))
          clear hnm hk1' hk2'
          go_wp2
          go_roundw
          case rel => exact ⟨k + 1, by omega, by go_num, HN, by first | rfl | trivial⟩
          case measure => first | (simp [intOf]; done) | (simp [intOf]; omega)
    · have HN : Hid ((exs xs).any (fun e => isNm rel e || isTs e) = false) := by show _ = _; rw [← HQ.out, List.drop_of_length_le (by rw [exs_len]; omega)]; rfl
      go_wp2
      go_ret
      exact ⟨by rw [HN.out]; rfl, rfl⟩
end Go.Proofs.YtmghabcaakgjiaaGreat
