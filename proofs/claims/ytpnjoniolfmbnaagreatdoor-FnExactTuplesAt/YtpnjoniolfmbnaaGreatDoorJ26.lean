/- Contracts of the laws' helpers on rows of changes: two rows of the same changes held against one another; a row marked. -/
import Derived.Test.YtpnjoniolfmbnaaGreatDoorJ14
import Derived.Deep.RegionHeld3
import Derived.Deep.DrawnRows
import Derived.Test.YtpnjoniolfmbnaaGreatDoorJ25
import Derived.Test.YtpnjoniolfmbnaaGreatDoorJ13
import Derived.Test.YtpnjoniolfmbnaaGreatDoorJ15
namespace Go.Proofs.YtpnjoniolfmbnaaGreatDoor
set_option maxRecDepth 100000
set_option linter.unusedVariables false
open Go.ChangeShapes Go.WideShapes Go.ChangeAt Go.RowKit
open Pl
attribute [local go_sem ↓] Go.wp_at_zero Go.wp_at_succ

theorem keep14 {w W w' : World} {n m p q : Nat} {x0 x1 x2 x3 x4 x5 x6 y0 y1 y2 y3 y4 y5 y6 : Value} (h : W.cell? ⟨n, p, none⟩ = some x0 ∧ W.cell? ⟨n, p + 1, none⟩ = some x1 ∧ W.cell? ⟨n, p + 2, none⟩ = some x2 ∧ W.cell? ⟨n, p + 3, none⟩ = some x3 ∧ W.cell? ⟨n, p + 4, none⟩ = some x4 ∧ W.cell? ⟨n, p + 5, none⟩ = some x5 ∧ W.cell? ⟨n, p + 6, none⟩ = some x6 ∧ W.cell? ⟨m, q, none⟩ = some y0 ∧ W.cell? ⟨m, q + 1, none⟩ = some y1 ∧ W.cell? ⟨m, q + 2, none⟩ = some y2 ∧ W.cell? ⟨m, q + 3, none⟩ = some y3 ∧ W.cell? ⟨m, q + 4, none⟩ = some y4 ∧ W.cell? ⟨m, q + 5, none⟩ = some y5 ∧ W.cell? ⟨m, q + 6, none⟩ = some y6 ∧ n < W.heap.size ∧ m < W.heap.size ∧ Below w.heap.size w W) (hb : Below W.heap.size W w') : w'.cell? ⟨n, p, none⟩ = some x0 ∧ w'.cell? ⟨n, p + 1, none⟩ = some x1 ∧ w'.cell? ⟨n, p + 2, none⟩ = some x2 ∧ w'.cell? ⟨n, p + 3, none⟩ = some x3 ∧ w'.cell? ⟨n, p + 4, none⟩ = some x4 ∧ w'.cell? ⟨n, p + 5, none⟩ = some x5 ∧ w'.cell? ⟨n, p + 6, none⟩ = some x6 ∧ w'.cell? ⟨m, q, none⟩ = some y0 ∧ w'.cell? ⟨m, q + 1, none⟩ = some y1 ∧ w'.cell? ⟨m, q + 2, none⟩ = some y2 ∧ w'.cell? ⟨m, q + 3, none⟩ = some y3 ∧ w'.cell? ⟨m, q + 4, none⟩ = some y4 ∧ w'.cell? ⟨m, q + 5, none⟩ = some y5 ∧ w'.cell? ⟨m, q + 6, none⟩ = some y6 ∧ n < w'.heap.size ∧ m < w'.heap.size ∧ Below w.heap.size w w' := by
  obtain ⟨h0, h1, h2, h3, h4, h5, h6, g0, g1, g2, g3, g4, g5, g6, hn, hm, hB⟩ := h
  have hc : ∀ o, w'.cell? ⟨n, o, none⟩ = W.cell? ⟨n, o, none⟩ := fun o => hb.cell (p := ⟨n, o, none⟩) hn
  have hd : ∀ o, w'.cell? ⟨m, o, none⟩ = W.cell? ⟨m, o, none⟩ := fun o => hb.cell (p := ⟨m, o, none⟩) hm
  exact ⟨(hc _).trans h0, (hc _).trans h1, (hc _).trans h2, (hc _).trans h3, (hc _).trans h4, (hc _).trans h5, (hc _).trans h6, (hd _).trans g0, (hd _).trans g1, (hd _).trans g2, (hd _).trans g3, (hd _).trans g4, (hd _).trans g5, (hd _).trans g6, Nat.lt_of_lt_of_le hn hb.size, Nat.lt_of_lt_of_le hm hb.size, hB.trans (hb.mono hB.size)⟩

set_option maxHeartbeats 4000000 in
/-- two rows of the same changes -/
theorem eqChangeS_row (b b' off off' cap cap' : Nat) (cs : List (Int × Tp)) (w : World) (hlen : cs.length ≤ maxLen) (hr : Row7 w b off cs) (hb : b < w.heap.size) (hr' : Row7 w b' off' cs) (hb' : b' < w.heap.size) :
    Calls Tryz.prog 27 #[.slice (some ⟨b, off, none⟩) cs.length cap, .slice (some ⟨b', off', none⟩) cs.length cap'] w fun e w' => e = .returned (.bool true) ∧ Below w.heap.size w w' := by
  unfold maxLen at hlen
  go_enter Tryz.func27, Tryz.ntmps27
  go_wp2
  go_loopw [5] (fun i wr => ∃ k : Nat, k ≤ cs.length ∧ i = .int .i64 k ∧ Below w.heap.size w wr) (fun i _ => cs.length - (intOf i).toNat)
  case atStart => exact ⟨0, Nat.zero_le _, rfl, Below.refl _ _⟩
  case round =>
    obtain ⟨k, hk, rfl, hB⟩ := hrel
    by_cases hlt : k < cs.length
    · obtain ⟨c0, c1, c2, c3, c4, c5, c6⟩ := (hr.below hB hb) k hlt
      obtain ⟨q0, q1, q2, q3, q4, q5, q6⟩ := (hr'.below hB hb') k hlt
      have hk1 : (0 : Int) ≤ (k : Int) := by omega
      have hk2 : (k : Int) < (cs.length : Int) := by omega
      have H0 : Hid ((fun w' => w'.cell? ⟨b, off + k * 7, none⟩ = some (.int .i64 cs[k].1) ∧ w'.cell? ⟨b, off + k * 7 + 1, none⟩ = some (.string cs[k].2.a) ∧ w'.cell? ⟨b, off + k * 7 + 2, none⟩ = some (.string cs[k].2.b) ∧ w'.cell? ⟨b, off + k * 7 + 3, none⟩ = some (.string cs[k].2.r) ∧ w'.cell? ⟨b, off + k * 7 + 4, none⟩ = some (.string cs[k].2.c) ∧ w'.cell? ⟨b, off + k * 7 + 5, none⟩ = some (.string cs[k].2.d) ∧ w'.cell? ⟨b, off + k * 7 + 6, none⟩ = some (.string cs[k].2.s) ∧ w'.cell? ⟨b', off' + k * 7, none⟩ = some (.int .i64 cs[k].1) ∧ w'.cell? ⟨b', off' + k * 7 + 1, none⟩ = some (.string cs[k].2.a) ∧ w'.cell? ⟨b', off' + k * 7 + 2, none⟩ = some (.string cs[k].2.b) ∧ w'.cell? ⟨b', off' + k * 7 + 3, none⟩ = some (.string cs[k].2.r) ∧ w'.cell? ⟨b', off' + k * 7 + 4, none⟩ = some (.string cs[k].2.c) ∧ w'.cell? ⟨b', off' + k * 7 + 5, none⟩ = some (.string cs[k].2.d) ∧ w'.cell? ⟨b', off' + k * 7 + 6, none⟩ = some (.string cs[k].2.s) ∧ b < w'.heap.size ∧ b' < w'.heap.size ∧ Below w.heap.size w w') wr.drew) := ⟨c0, c1, c2, c3, c4, c5, c6, q0, q1, q2, q3, q4, q5, q6, by have := hB.size; simp; omega, by have := hB.size; simp; omega, hB.drew⟩
      clear hr hr' c0 c1 c2 c3 c4 c5 c6 q0 q1 q2 q3 q4 q5 q6
      go_wp2_with fail
      go_region_held3 (fun w' => w'.cell? ⟨b, off + k * 7, none⟩ = some (.int .i64 cs[k].1) ∧ w'.cell? ⟨b, off + k * 7 + 1, none⟩ = some (.string cs[k].2.a) ∧ w'.cell? ⟨b, off + k * 7 + 2, none⟩ = some (.string cs[k].2.b) ∧ w'.cell? ⟨b, off + k * 7 + 3, none⟩ = some (.string cs[k].2.r) ∧ w'.cell? ⟨b, off + k * 7 + 4, none⟩ = some (.string cs[k].2.c) ∧ w'.cell? ⟨b, off + k * 7 + 5, none⟩ = some (.string cs[k].2.d) ∧ w'.cell? ⟨b, off + k * 7 + 6, none⟩ = some (.string cs[k].2.s) ∧ w'.cell? ⟨b', off' + k * 7, none⟩ = some (.int .i64 cs[k].1) ∧ w'.cell? ⟨b', off' + k * 7 + 1, none⟩ = some (.string cs[k].2.a) ∧ w'.cell? ⟨b', off' + k * 7 + 2, none⟩ = some (.string cs[k].2.b) ∧ w'.cell? ⟨b', off' + k * 7 + 3, none⟩ = some (.string cs[k].2.r) ∧ w'.cell? ⟨b', off' + k * 7 + 4, none⟩ = some (.string cs[k].2.c) ∧ w'.cell? ⟨b', off' + k * 7 + 5, none⟩ = some (.string cs[k].2.d) ∧ w'.cell? ⟨b', off' + k * 7 + 6, none⟩ = some (.string cs[k].2.s) ∧ b < w'.heap.size ∧ b' < w'.heap.size ∧ Below w.heap.size w w')
        (first | assumption | exact keep14 (by assumption) hbx | exact H0.out)
        (first | (go_at_call 53; refine (eqChange_same _ _ _ _ _ _ _ _).mono ?_; rintro e w' ⟨rfl, hbx⟩))
      rename_i hH
      obtain ⟨-, -, -, -, -, -, -, -, -, -, -, -, -, -, -, -, gB⟩ := hH
      go_wp2
      go_roundw
      case rel => exact ⟨k + 1, by omega, by go_num, gB⟩
      case measure => simp [intOf]; omega
    · go_wp2
      go_ret
      exact ⟨rfl, hB⟩

theorem someSet {w : World} {g i j : Nat} {v : Value} (h : (w.cell? ⟨g, j, none⟩).isSome = true) : ((w.setCell ⟨g, i, none⟩ v).cell? ⟨g, j, none⟩).isSome = true := by
  by_cases e : i = j
  · subst e
    obtain ⟨u, hu⟩ := Option.isSome_iff_exists.mp h
    rw [setS hu]; rfl
  · rw [setO e]; exact h
theorem someB {B : Nat} {w w' : World} {g j : Nat} (hb : Below B w w') (hg : g < B) (h : (w.cell? ⟨g, j, none⟩).isSome = true) : (w'.cell? ⟨g, j, none⟩).isSome = true := by
  rw [hb.cell (p := ⟨g, j, none⟩) hg]; exact h

set_option maxHeartbeats 4000000 in
theorem markChangeS_row (g cap : Nat) (n : Nat) (k : Nat) (w : World) (hg : g < w.heap.size) (hf : Free w g) (hc : ∀ o, o < 7 * n → (w.cell? ⟨g, o, none⟩).isSome = true) (h0 : 0 < k) (h1 : k + 7 * n ≤ 1000000000) :
    Calls Tryz.prog 28 #[.slice (some ⟨g, 0, none⟩) n cap, .int .i64 (k : Int)] w fun e w' => e = .returned (.int .i64 ((k + 7 * n : Nat) : Int)) ∧ Chg (fun y => y = g) w w' := by
  have HC0 := toHA hc
  have HF0 := toHA hf
  clear hc hf
  go_enter Tryz.func28, Tryz.ntmps28
  go_wp2
  go_loopw [1, 5] (fun kv i wr => ∃ j : Nat, j ≤ n ∧ kv = .int .i64 ((k + 7 * j : Nat) : Int) ∧ i = .int .i64 (j : Int) ∧ Hid (∀ o, o < 7 * n → (wr.cell? ⟨g, o, none⟩).isSome = true) ∧ Hid (Free wr g) ∧ Hid (Chg (fun y => y = g) w wr)) (fun _ i _ => n - (intOf i).toNat)
  case atStart => exact ⟨0, Nat.zero_le _, rfl, rfl, HC0, HF0, Chg.refl _ _⟩
  case round =>
    clear HC0 HF0
    obtain ⟨j, hj, rfl, rfl, HC, HFR, HCH⟩ := hrel
    by_cases hlt : j < n
    · have hgl : g < wr.heap.size := Nat.lt_of_lt_of_le hg HCH.out.size
      have hj1 : (0 : Int) ≤ (j : Int) := by omega
      have hj2 : (j : Int) < (n : Int) := by omega
      have hjb : k + 7 * j + 7 ≤ 1000000000 := by omega
      obtain ⟨x0, c0⟩ := Option.isSome_iff_exists.mp (HC.out (j * 7) (by omega))
      have fz : ∀ y, wr.frozen? ⟨g, y, none⟩ = false := fun y => HFR.out y
      obtain ⟨v0, hV0⟩ : ∃ v, v = wr.setCell ⟨g, j * 7, none⟩ (.int .i64 ((k : Int) + 7 * (j : Int))) := ⟨_, rfl⟩
      have HV0 : Hid (Chg (fun y => y = g) wr v0) := by show Chg _ _ _; rw [hV0]; exact Chg.set _ rfl
      have HS0 : Hid (∀ o, o < 7 * n → (v0.cell? ⟨g, o, none⟩).isSome = true) := fun o ho => by rw [hV0]; exact someSet (HC.out o ho)
      have HF0 : Hid (Free v0 g) := HV0.out.free g hgl HFR.out
      have hg0 : g < v0.heap.size := Nat.lt_of_lt_of_le hgl HV0.out.size
      go_wp2_with fail
      rw [← hV0]
      clear hV0 fz c0
      refine (markText_at _ (k + 7 * j + 1) _ (by omega) (by omega) (by omega)).mono ?_
      rintro e u1 ⟨rfl, hb1⟩
      obtain ⟨x1, c1⟩ := Option.isSome_iff_exists.mp (someB hb1 hg0 (HS0.out (j * 7 + 1) (by omega)))
      have fz : ∀ y, u1.frozen? ⟨g, y, none⟩ = false := fun y => mF hb1 hg0 (HF0.out y)
      obtain ⟨v1, hV1⟩ : ∃ v, v = u1.setCell ⟨g, j * 7 + 1, none⟩ (.string (mtx (k + 7 * j + 1))) := ⟨_, rfl⟩
      have HV1 : Hid (Chg (fun y => y = g) wr v1) := HV0.out.trans ((Chg.of hb1).trans (by rw [hV1]; exact Chg.set _ rfl))
      have HS1 : Hid (∀ o, o < 7 * n → (v1.cell? ⟨g, o, none⟩).isSome = true) := fun o ho => by rw [hV1]; exact someSet (someB hb1 hg0 (HS0.out o ho))
      have HF1 : Hid (Free v1 g) := HV1.out.free g hgl HFR.out
      have hg1 : g < v1.heap.size := Nat.lt_of_lt_of_le hgl HV1.out.size
      clear hb1 HV0 HS0 HF0
      go_wp2_with fail
      rw [← hV1]
      clear hV1 fz c1
      refine (markText_at _ (k + 7 * j + 2) _ (by omega) (by omega) (by omega)).mono ?_
      rintro e u2 ⟨rfl, hb2⟩
      obtain ⟨x2, c2⟩ := Option.isSome_iff_exists.mp (someB hb2 hg1 (HS1.out (j * 7 + 2) (by omega)))
      have fz : ∀ y, u2.frozen? ⟨g, y, none⟩ = false := fun y => mF hb2 hg1 (HF1.out y)
      obtain ⟨v2, hV2⟩ : ∃ v, v = u2.setCell ⟨g, j * 7 + 2, none⟩ (.string (mtx (k + 7 * j + 2))) := ⟨_, rfl⟩
      have HV2 : Hid (Chg (fun y => y = g) wr v2) := HV1.out.trans ((Chg.of hb2).trans (by rw [hV2]; exact Chg.set _ rfl))
      have HS2 : Hid (∀ o, o < 7 * n → (v2.cell? ⟨g, o, none⟩).isSome = true) := fun o ho => by rw [hV2]; exact someSet (someB hb2 hg1 (HS1.out o ho))
      have HF2 : Hid (Free v2 g) := HV2.out.free g hgl HFR.out
      have hg2 : g < v2.heap.size := Nat.lt_of_lt_of_le hgl HV2.out.size
      clear hb2 HV1 HS1 HF1
      go_wp2_with fail
      rw [← hV2]
      clear hV2 fz c2
      refine (markText_at _ (k + 7 * j + 3) _ (by omega) (by omega) (by omega)).mono ?_
      rintro e u3 ⟨rfl, hb3⟩
      obtain ⟨x3, c3⟩ := Option.isSome_iff_exists.mp (someB hb3 hg2 (HS2.out (j * 7 + 3) (by omega)))
      have fz : ∀ y, u3.frozen? ⟨g, y, none⟩ = false := fun y => mF hb3 hg2 (HF2.out y)
      obtain ⟨v3, hV3⟩ : ∃ v, v = u3.setCell ⟨g, j * 7 + 3, none⟩ (.string (mtx (k + 7 * j + 3))) := ⟨_, rfl⟩
      have HV3 : Hid (Chg (fun y => y = g) wr v3) := HV2.out.trans ((Chg.of hb3).trans (by rw [hV3]; exact Chg.set _ rfl))
      have HS3 : Hid (∀ o, o < 7 * n → (v3.cell? ⟨g, o, none⟩).isSome = true) := fun o ho => by rw [hV3]; exact someSet (someB hb3 hg2 (HS2.out o ho))
      have HF3 : Hid (Free v3 g) := HV3.out.free g hgl HFR.out
      have hg3 : g < v3.heap.size := Nat.lt_of_lt_of_le hgl HV3.out.size
      clear hb3 HV2 HS2 HF2
      go_wp2_with fail
      rw [← hV3]
      clear hV3 fz c3
      refine (markText_at _ (k + 7 * j + 4) _ (by omega) (by omega) (by omega)).mono ?_
      rintro e u4 ⟨rfl, hb4⟩
      obtain ⟨x4, c4⟩ := Option.isSome_iff_exists.mp (someB hb4 hg3 (HS3.out (j * 7 + 4) (by omega)))
      have fz : ∀ y, u4.frozen? ⟨g, y, none⟩ = false := fun y => mF hb4 hg3 (HF3.out y)
      obtain ⟨v4, hV4⟩ : ∃ v, v = u4.setCell ⟨g, j * 7 + 4, none⟩ (.string (mtx (k + 7 * j + 4))) := ⟨_, rfl⟩
      have HV4 : Hid (Chg (fun y => y = g) wr v4) := HV3.out.trans ((Chg.of hb4).trans (by rw [hV4]; exact Chg.set _ rfl))
      have HS4 : Hid (∀ o, o < 7 * n → (v4.cell? ⟨g, o, none⟩).isSome = true) := fun o ho => by rw [hV4]; exact someSet (someB hb4 hg3 (HS3.out o ho))
      have HF4 : Hid (Free v4 g) := HV4.out.free g hgl HFR.out
      have hg4 : g < v4.heap.size := Nat.lt_of_lt_of_le hgl HV4.out.size
      clear hb4 HV3 HS3 HF3
      go_wp2_with fail
      rw [← hV4]
      clear hV4 fz c4
      refine (markText_at _ (k + 7 * j + 5) _ (by omega) (by omega) (by omega)).mono ?_
      rintro e u5 ⟨rfl, hb5⟩
      obtain ⟨x5, c5⟩ := Option.isSome_iff_exists.mp (someB hb5 hg4 (HS4.out (j * 7 + 5) (by omega)))
      have fz : ∀ y, u5.frozen? ⟨g, y, none⟩ = false := fun y => mF hb5 hg4 (HF4.out y)
      obtain ⟨v5, hV5⟩ : ∃ v, v = u5.setCell ⟨g, j * 7 + 5, none⟩ (.string (mtx (k + 7 * j + 5))) := ⟨_, rfl⟩
      have HV5 : Hid (Chg (fun y => y = g) wr v5) := HV4.out.trans ((Chg.of hb5).trans (by rw [hV5]; exact Chg.set _ rfl))
      have HS5 : Hid (∀ o, o < 7 * n → (v5.cell? ⟨g, o, none⟩).isSome = true) := fun o ho => by rw [hV5]; exact someSet (someB hb5 hg4 (HS4.out o ho))
      have HF5 : Hid (Free v5 g) := HV5.out.free g hgl HFR.out
      have hg5 : g < v5.heap.size := Nat.lt_of_lt_of_le hgl HV5.out.size
      clear hb5 HV4 HS4 HF4
      go_wp2_with fail
      rw [← hV5]
      clear hV5 fz c5
      refine (markText_at _ (k + 7 * j + 6) _ (by omega) (by omega) (by omega)).mono ?_
      rintro e u6 ⟨rfl, hb6⟩
      obtain ⟨x6, c6⟩ := Option.isSome_iff_exists.mp (someB hb6 hg5 (HS5.out (j * 7 + 6) (by omega)))
      have fz : ∀ y, u6.frozen? ⟨g, y, none⟩ = false := fun y => mF hb6 hg5 (HF5.out y)
      obtain ⟨v6, hV6⟩ : ∃ v, v = u6.setCell ⟨g, j * 7 + 6, none⟩ (.string (mtx (k + 7 * j + 6))) := ⟨_, rfl⟩
      have HV6 : Hid (Chg (fun y => y = g) wr v6) := HV5.out.trans ((Chg.of hb6).trans (by rw [hV6]; exact Chg.set _ rfl))
      have HS6 : Hid (∀ o, o < 7 * n → (v6.cell? ⟨g, o, none⟩).isSome = true) := fun o ho => by rw [hV6]; exact someSet (someB hb6 hg5 (HS5.out o ho))
      have HF6 : Hid (Free v6 g) := HV6.out.free g hgl HFR.out
      have hg6 : g < v6.heap.size := Nat.lt_of_lt_of_le hgl HV6.out.size
      clear hb6 HV5 HS5 HF5
      have HCN : Hid (Chg (fun y => y = g) w v6) := HCH.out.trans HV6.out
      go_wp2
      rw [← hV6]
      go_roundw
      case rel => exact ⟨j + 1, by omega, by go_num, by go_num, HS6, HF6, HCN⟩
      case measure => first | (simp [intOf]; done) | (simp [intOf]; omega)
    · obtain rfl : j = n := by omega
      go_wp2
      go_ret
      exact ⟨rfl, HCH.out⟩
end Go.Proofs.YtpnjoniolfmbnaaGreatDoor

/- What both functions answer to a log, in one form: a list and a flag. -/
namespace Go.Proofs.YtpnjoniolfmbnaaGreatDoor
set_option linter.unusedVariables false
open Go.ChangeShapes Go.WideShapes Go.ChangeAt Go.RowKit Go.Maps
open Pl

theorem log_len {fit : Tp → Bool} : ∀ (cs : List (Int × Tp)) (ts L : List Tp), Up ts → (∀ x ∈ ts, x.ok = true) → ts.length ≤ 40 → logT fit ts cs = some L → L.length ≤ 40
  | [], ts, L, _, _, hl, h => by
    unfold logT at h
    injection h with h
    rw [← h]; exact hl
  | c :: cs, ts, L, hu, hok, hl, h => by
    unfold logT at h
    split at h
    · rename_i hz
      obtain ⟨h1, h2, h3⟩ := next_right hu hok hl hz
      exact log_len cs _ _ h1 h2 h3 h
    · cases h
def tatL (rs : List TR) (cs : List (Int × Tp)) (n : Int) : List Tp := (atT (fitR rs) (schemaD (tys rs)) cs n).getD []
def tatQ (rs : List TR) (cs : List (Int × Tp)) (n : Int) : Bool := (atT (fitR rs) (schemaD (tys rs)) cs n).isSome
theorem tatL_len (rs : List TR) (cs : List (Int × Tp)) (n : Int) : (tatL rs cs n).length ≤ 40 := by
  unfold tatL
  cases h : atT (fitR rs) (schemaD (tys rs)) cs n with
  | none => simp
  | some L =>
    unfold atT at h
    split at h
    · exact log_len _ [] L List.Pairwise.nil (by simp) (by simp) h
    · cases h
theorem fitR_tys {rs rs' : List TR} (h : tys rs' = tys rs) : fitR rs' = fitR rs := by
  funext t; unfold fitR; rw [h]
theorem tat_tys {rs rs' : List TR} (h : tys rs' = tys rs) (cs : List (Int × Tp)) (n : Int) : tatL rs' cs n = tatL rs cs n ∧ tatQ rs' cs n = tatQ rs cs n := by
  unfold tatL tatQ; rw [fitR_tys h, h]; exact ⟨rfl, rfl⟩
theorem specTat_ans (ad : Option Addr) (cap : Nat) (rs : List TR) (ad' : Option Addr) (cap' : Nat) (cs : List (Int × Tp)) (n : Int) (w : World) (hlen : rs.length ≤ 1048576) (hs : SlT w ad rs) (hl : ∀ r ∈ rs, r.light) (hfr : ∀ r ∈ rs, r.fits) (hlc : cs.length ≤ 1048576) (hsc : SlC w ad' cs) (hf : ∀ c ∈ cs, c.2.fits) :
    Calls Tryz.prog 24 #[.slice ad rs.length cap, .slice ad' cs.length cap', .int .i64 n] w fun e w' => ∃ (ad5 : Option Addr) (cap5 : Nat), e = .returned (.tuple #[.slice ad5 (tatL rs cs n).length cap5, .bool (tatQ rs cs n)]) ∧ Sl w' ad5 (tatL rs cs n) ∧ Below w.heap.size w w' := by
  refine (specTuplesAt_any (.slice ad rs.length cap) (fitR rs) (schemaD (tys rs)) ad' cap' cs n w hlc hsc hf (fun w1 hb => specSchemaOk_any ad cap rs w1 hlen (hs.below hb) hl hfr)
    (fun t w1 ht hb => l2Fits_any ad cap rs t.a t.b t.r t.c t.d t.s w1 hlen (hs.below hb) hl ht.1 ht.2.1 ht.2.2.1 ht.2.2.2.1 ht.2.2.2.2.1 ht.2.2.2.2.2)).mono ?_
  rintro e w' ⟨hb, ⟨hr, rfl⟩ | ⟨L, g, c, hr, rfl, ho⟩⟩
  · refine ⟨none, 0, ?_, ?_, hb⟩
    · unfold tatL tatQ; rw [hr]; rfl
    · unfold tatL; rw [hr]; exact .inl rfl
  · obtain ⟨hrow, hlt, -⟩ := own_row6 ho
    refine ⟨some ⟨g, 0, none⟩, c, ?_, ?_, hb⟩
    · unfold tatL tatQ; rw [hr]; rfl
    · unfold tatL; rw [hr]; exact .inr ⟨g, 0, rfl, hlt, hrow⟩
theorem implTat_ans (ad : Option Addr) (cap : Nat) (rs : List TR) (b off cap' : Nat) (cs : List (Int × Tp)) (n : Int) (w : World) (hE : Errs w) (hlen : rs.length ≤ 1048576) (hs : SlT w ad rs) (hl : ∀ r ∈ rs, r.light) (hfr : ∀ r ∈ rs, r.fits) (hcp : ∀ r ∈ rs, r.caps) (hlc : cs.length ≤ 1048576) (hcap : cs.length ≤ cap') (hb : b < w.heap.size) (hr : Row7 w b off cs) (hf : ∀ c ∈ cs, c.2.fits) :
    Calls Tryz.prog 26 #[.slice ad rs.length cap, .slice (some ⟨b, off, none⟩) cs.length cap', .int .i64 n] w fun e w' => ∃ (ad8 : Option Addr) (cap8 : Nat), e = .returned (.tuple #[.slice ad8 (tatL rs cs n).length cap8, .bool (tatQ rs cs n)]) ∧ OwnL w.heap.size w' ad8 (tatL rs cs n) ∧ Below w.heap.size w w' := by
  refine (implTuplesAt_any ad cap rs b off cap' cs n w hE hlen hs hl hfr hcp hlc hcap hb hr hf).mono ?_
  rintro e w' ⟨hb, ⟨hr, rfl⟩ | ⟨L, v, hr, rfl, ho⟩⟩
  · refine ⟨none, 0, ?_, ?_, hb⟩
    · unfold tatL tatQ; rw [hr]; rfl
    · unfold tatL; rw [hr]; exact ownL_nil rfl
  · obtain ⟨ad8, cap8, rfl, hO⟩ := ownL_of ho rfl
    refine ⟨ad8, cap8, ?_, ?_, hb⟩
    · unfold tatL tatQ; rw [hr]; rfl
    · unfold tatL; rw [hr]; exact hO
theorem FillC.row {w w' : World} {g : Nat} {ts : List (Int × Tp)} (h : FillC w w' g ts ts.length) : Row7 w' g 0 ts := fun i hi => h.done i hi hi
end Go.Proofs.YtpnjoniolfmbnaaGreatDoor

/- Contracts of the law's helpers that weigh a schema. -/
namespace Go.Proofs.YtpnjoniolfmbnaaGreatDoor
open Go.ChangeShapes Go.WideShapes Go.ChangeAt Go.RowKit
open Pl

end Go.Proofs.YtpnjoniolfmbnaaGreatDoor
