/- Contract of the program's function on what is taken away. -/
import Derived.Test.YtpmgkkbkficgpaaSpecSchema5
namespace Go.Proofs.Ytpmgkkbkficgpaa
open Go.ChangeShapes Go.WideShapes Go.ChangeAt Go.RowKit
open Pl

set_option maxRecDepth 100000 in
set_option maxHeartbeats 8000000 in
theorem takenAway_any (ad : Option Addr) (cap : Nat) (rs : List ER) (w : World) (hlen : rs.length ≤ 1048576) (hs : SlE w ad rs) (hl : ∀ r ∈ rs, r.e.light) (hk : ∀ r ∈ rs, kidsRow rs.length r.e.kids) :
    Calls Try.prog 100 #[.slice ad rs.length cap] w fun e w' => e = .returned (.slice (some ⟨w.heap.size, 0, none⟩) rs.length rs.length) ∧ Fil w w' w.heap.size rs.length (bools (negP (exs rs))) := by
  have HS : Hid (SlE w ad rs) := hs
  have HL : Hid (∀ r ∈ rs, r.e.light) := hl
  have HK : Hid (∀ r ∈ rs, kidsRow rs.length r.e.kids) := hk
  clear hs hl hk
  obtain ⟨inf, hi, hz0, hz1, hz2⟩ := info_parts info_boolS
  go_enter Try.func100, Try.ntmps100
  go_wp2_with (at_make; refine wpList_make_full _ rfl _ _ 140 rfl w.heap.size 4 inf (.bool false) 1 Try.underlying140 hi hz0 hz1 .i64 .i64 _ _ rs.length rfl rfl rfl rfl (by rw [hz2]; omega) (by unfold maxLen; omega) (Nat.le_refl _) ?_; intro w0 hown0 hgrow0)
  have HF0 : Hid (Fil w w0 w.heap.size rs.length (bools (List.replicate rs.length false))) := by
    have := fil_bools (v := .bool false) hown0 hgrow0
    show Fil _ _ _ _ _
    simpa [bools] using this
  clear hown0 hgrow0 hi hz0 hz1 hz2
  go_loopw [4] (fun i wr => ∃ (m : Nat) (out : List Bool), m ≤ rs.length ∧ i = .int .i64 ((m : Int) - 1) ∧ out.length = rs.length ∧ Hid (negDown (exs rs) m out = negP (exs rs)) ∧ Hid (Fil w wr w.heap.size rs.length (bools out))) (fun i _ => (intOf i + 1).toNat)
  case atStart => exact ⟨rs.length, List.replicate rs.length false, Nat.le_refl _, by go_num, by simp, (by show _ = _; unfold negP; rw [exs_len]), HF0⟩
  case round =>
    obtain ⟨m, out, hm, rfl, hol, HN, HF⟩ := hrel
    by_cases hm0 : 0 < m
    · obtain ⟨m, rfl⟩ : ∃ m', m = m' + 1 := ⟨m - 1, by omega⟩
      have hmi : (((m + 1 : Nat) : Int) - 1) = (m : Int) := by omega
      rw [hmi]
      have hlt : m < rs.length := by omega
      rcases HS.out.below HF.out.below with rfl | ⟨b, off, rfl, hb, hr, hok⟩
      · simp at hlt
      obtain ⟨t0, t1, t2, t3, t4⟩ := hr m hlt
      have HOK : Hid (rs[m].ok _) := hok rs[m] (List.getElem_mem hlt)
      have lg := (HL.out rs[m] (List.getElem_mem hlt)).2
      have HKI : Hid (kidsRow rs.length rs[m].e.kids) := HK.out rs[m] (List.getElem_mem hlt)
      have hk1 : (0 : Int) ≤ (m : Int) := by omega
      have hk2 : (m : Int) < (rs.length : Int) := by omega
      have hbw : b < w.heap.size := by
        rcases HS.out with h | ⟨b', off', h1, h2, -⟩
        · rw [h] at hlt; simp at hlt
        · injection h1 with h1; injection h1 with h1; omega
      have HR : Hid (At5 wr b (off + m * 5) rs[m]) := hr m hlt
      have HNX : Hid (negDown (exs rs) m (negKids m rs[m].e.kind rs[m].e.kids 0 out) = negP (exs rs)) := by
        show _ = _
        rw [← HN.out, negDown_at _ _ _ (by rw [exs_len]; exact hlt)]
        simp [exs]
      clear hr hok t0 t1 t2 t3
      go_wp2_with fail
      clear t4
      go_loopw [23] (fun i w2 => ∃ (j : Nat) (out2 : List Bool), j ≤ rs[m].e.kids.length ∧ i = .int .i64 j ∧ out2.length = rs.length ∧ Hid (negKids m rs[m].e.kind (rs[m].e.kids.drop j) j out2 = negKids m rs[m].e.kind rs[m].e.kids 0 out) ∧ Hid (Fil w w2 w.heap.size rs.length (bools out2))) (fun i _ => rs[m].e.kids.length - (intOf i).toNat)
      case atStart => exact ⟨0, out, Nat.zero_le _, rfl, hol, rfl, HF⟩
      case round =>
        obtain ⟨j, out2, hj, rfl, ho2, HJ, HF2⟩ := hrel
        have hE2 : SlE wr _ rs := HS.out.below HF2.out.below
        have ht : At5 wr b (off + m * 5) rs[m] := by
          rcases hE2 with h | ⟨b', off', h1, h2, h3, -⟩
          · exact absurd hlt (by rw [h]; simp)
          · injection h1 with h1; injection h1 with h1 h1'; subst h1; subst h1'; exact h3 m hlt
        obtain ⟨t0, t1, t2, t3, t4⟩ := ht
        by_cases hjl : j < rs[m].e.kids.length
        · have hK2 : SlI wr rs[m].adK rs[m].e.kids := (hE2.mem (List.getElem_mem hlt)).2
          rcases hK2 with hnil | ⟨ba, offa, hadK, hba, hra⟩
          · rw [hnil] at hjl; simp at hjl
          rw [hadK]
          have q0 := hra j hjl
          have hj1 : (0 : Int) ≤ (j : Int) := by omega
          have hj2 : (j : Int) < (rs[m].e.kids.length : Int) := by omega
          obtain ⟨x0, x1⟩ := HKI.out _ (List.getElem_mem hjl)
          obtain ⟨x, hx⟩ : ∃ x : Nat, rs[m].e.kids[j] = (x : Int) := ⟨rs[m].e.kids[j].toNat, by omega⟩
          rw [hx] at q0 x0 x1
          have c0 := HF2.out.done m (by simp [bools]; omega)
          have fz := HF2.out.free
          obtain ⟨v0, u0⟩ := Option.isSome_iff_exists.mp (HF2.out.there x (by omega))
          have hbr : b < wr.heap.size := Nat.lt_of_lt_of_le hbw HF2.out.below.size
          obtain ⟨bo, hbo⟩ : ∃ bo, bo = (bools out2)[m]'(by simp [bools]; omega) := ⟨_, rfl⟩
          rw [← hbo] at c0
          clear hra hadK hE2 t1 t2 t3
          have hm2 : m < out2.length := by omega
          have hbo1 : bo = .bool out2[m] := by rw [hbo]; simp [bools]
          have hbo' : out2[m]?.getD false = out2[m] := by simp [hm2]
          rw [hbo1] at c0
          clear hbo hbo1
          cases hb0 : out2[m] with
          | true =>
            rw [hb0] at c0 hbo'
            have HF4 : Hid (Fil w (wr.setCell ⟨w.heap.size, x, none⟩ (.bool true)) w.heap.size rs.length (bools (out2.set x true))) := by show Fil _ _ _ _ _; rw [bools_set]; exact HF2.out.set _ (by simp [bools]; omega) (by omega)
            have HJ2 : Hid (negKids m rs[m].e.kind (rs[m].e.kids.drop (j + 1)) (j + 1) (out2.set x true) = negKids m rs[m].e.kind rs[m].e.kids 0 out) := by
              show _ = _
              rw [← HJ.out, negKids_drop _ _ _ _ _ hjl, hx]
              simp [*]
            go_wp2
            go_roundw
            case rel => exact ⟨j + 1, out2.set x true, by omega, by go_num, by simp [ho2], HJ2, HF4⟩
            case measure => first | (simp [intOf]; done) | (simp [intOf]; omega)
          | false =>
            rw [hb0] at c0 hbo'
            cases hkb : (rs[m].e.kind == 6) with
            | false =>
              have HF4 : Hid (Fil w (wr.setCell ⟨w.heap.size, x, none⟩ (.bool false)) w.heap.size rs.length (bools (out2.set x false))) := by show Fil _ _ _ _ _; rw [bools_set]; exact HF2.out.set _ (by simp [bools]; omega) (by omega)
              have HJ2 : Hid (negKids m rs[m].e.kind (rs[m].e.kids.drop (j + 1)) (j + 1) (out2.set x false) = negKids m rs[m].e.kind rs[m].e.kids 0 out) := by
                show _ = _
                rw [← HJ.out, negKids_drop _ _ _ _ _ hjl, hx]
                simp [*]
              go_wp2
              go_roundw
              case rel => exact ⟨j + 1, out2.set x false, by omega, by go_num, by simp [ho2], HJ2, HF4⟩
              case measure => first | (simp [intOf]; done) | (simp [intOf]; omega)
            | true =>
              cases hjb : ((j : Int) == 1) with
              | true =>
                have hjn : (j == 1) = true := by simp at hjb ⊢; omega
                have HF4 : Hid (Fil w (wr.setCell ⟨w.heap.size, x, none⟩ (.bool true)) w.heap.size rs.length (bools (out2.set x true))) := by show Fil _ _ _ _ _; rw [bools_set]; exact HF2.out.set _ (by simp [bools]; omega) (by omega)
                have HJ2 : Hid (negKids m rs[m].e.kind (rs[m].e.kids.drop (j + 1)) (j + 1) (out2.set x true) = negKids m rs[m].e.kind rs[m].e.kids 0 out) := by
                  show _ = _
                  rw [← HJ.out, negKids_drop _ _ _ _ _ hjl, hx]
                  simp [*]
                go_wp2
                go_roundw
                case rel => exact ⟨j + 1, out2.set x true, by omega, by go_num, by simp [ho2], HJ2, HF4⟩
                case measure => first | (simp [intOf]; done) | (simp [intOf]; omega)
              | false =>
                have hjn : (j == 1) = false := by simp at hjb ⊢; omega
                have HF4 : Hid (Fil w (wr.setCell ⟨w.heap.size, x, none⟩ (.bool false)) w.heap.size rs.length (bools (out2.set x false))) := by show Fil _ _ _ _ _; rw [bools_set]; exact HF2.out.set _ (by simp [bools]; omega) (by omega)
                have HJ2 : Hid (negKids m rs[m].e.kind (rs[m].e.kids.drop (j + 1)) (j + 1) (out2.set x false) = negKids m rs[m].e.kind rs[m].e.kids 0 out) := by
                  show _ = _
                  rw [← HJ.out, negKids_drop _ _ _ _ _ hjl, hx]
                  simp [*]
                go_wp2
                go_roundw
                case rel => exact ⟨j + 1, out2.set x false, by omega, by go_num, by simp [ho2], HJ2, HF4⟩
                case measure => first | (simp [intOf]; done) | (simp [intOf]; omega)
        · have HOE : Hid (negDown (exs rs) m out2 = negP (exs rs)) := by
            show _ = _
            rw [← HNX.out, ← HJ.out, List.drop_of_length_le (by omega)]
            rfl
          go_wp2
          go_roundw
          case rel => exact ⟨m, out2, by omega, by go_num, ho2, HOE, HF2⟩
          case measure => first | (simp [intOf]; done) | (simp [intOf]; omega)
    · obtain rfl : m = 0 := by omega
      have HFE : Hid (Fil w wr w.heap.size rs.length (bools (negP (exs rs)))) := by
        show Fil _ _ _ _ _
        rw [← HN.out]
        exact HF.out
      go_wp2
      go_ret
      exact ⟨rfl, HFE.out⟩
end Go.Proofs.Ytpmgkkbkficgpaa
