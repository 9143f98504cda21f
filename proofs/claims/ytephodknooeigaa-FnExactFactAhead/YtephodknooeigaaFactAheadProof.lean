/- Proved here: FnExactFactAhead answers true for every two facts and leaves its arguments as they were, with no condition on the facts. -/
import Derived.Test.YtephodknooeigaaLawFact
import Derived.Test.YtephodknooeigaaOpenFact
namespace Go.Proofs.Ytephodknooeigaa.fnExactFactAhead
open Go.ChangeShapes Go.WideShapes Go.ChangeAt Go.RowKit Go.Joins
open Go.ChangeMaps (open_string shut_string)
open Pl
attribute [local go_sem ↓] Go.wp_at_zero Go.wp_at_succ
set_option linter.unusedVariables false

set_option maxHeartbeats 1000000 in
theorem walk (a b r c d a' b' r' c' d' : ByteArray) (w : World) (ha : a.size ≤ maxLen) (hb : b.size ≤ maxLen) (hr : r.size ≤ maxLen) (hc : c.size ≤ maxLen) (hd : d.size ≤ maxLen) (ga : a'.size ≤ maxLen) (gb : b'.size ≤ maxLen) (gr : r'.size ≤ maxLen) (gc : c'.size ≤ maxLen) (gd : d'.size ≤ maxLen) :
    Calls Try.prog 3 #[.agg #[.string a, .string b, .string r, .string c, .string d], .agg #[.string a', .string b', .string r', .string c', .string d']] w fun e w' => e = .returned (.bool true) ∧ Below w.heap.size w w' := by
  have H0 : ((w.alloc (.cells #[.string a, .string b, .string r, .string c, .string d] 25)).alloc (.cells #[.string a', .string b', .string r', .string c', .string d'] 25)).cell? ⟨w.heap.size, 0, none⟩ = some (.string a) ∧ ((w.alloc (.cells #[.string a, .string b, .string r, .string c, .string d] 25)).alloc (.cells #[.string a', .string b', .string r', .string c', .string d'] 25)).cell? ⟨w.heap.size, 1, none⟩ = some (.string b) ∧ ((w.alloc (.cells #[.string a, .string b, .string r, .string c, .string d] 25)).alloc (.cells #[.string a', .string b', .string r', .string c', .string d'] 25)).cell? ⟨w.heap.size, 2, none⟩ = some (.string r) ∧ ((w.alloc (.cells #[.string a, .string b, .string r, .string c, .string d] 25)).alloc (.cells #[.string a', .string b', .string r', .string c', .string d'] 25)).cell? ⟨w.heap.size, 3, none⟩ = some (.string c) ∧ ((w.alloc (.cells #[.string a, .string b, .string r, .string c, .string d] 25)).alloc (.cells #[.string a', .string b', .string r', .string c', .string d'] 25)).cell? ⟨w.heap.size, 4, none⟩ = some (.string d) ∧ ((w.alloc (.cells #[.string a, .string b, .string r, .string c, .string d] 25)).alloc (.cells #[.string a', .string b', .string r', .string c', .string d'] 25)).cell? ⟨w.heap.size + 1, 0, none⟩ = some (.string a') ∧ ((w.alloc (.cells #[.string a, .string b, .string r, .string c, .string d] 25)).alloc (.cells #[.string a', .string b', .string r', .string c', .string d'] 25)).cell? ⟨w.heap.size + 1, 1, none⟩ = some (.string b') ∧ ((w.alloc (.cells #[.string a, .string b, .string r, .string c, .string d] 25)).alloc (.cells #[.string a', .string b', .string r', .string c', .string d'] 25)).cell? ⟨w.heap.size + 1, 2, none⟩ = some (.string r') ∧ ((w.alloc (.cells #[.string a, .string b, .string r, .string c, .string d] 25)).alloc (.cells #[.string a', .string b', .string r', .string c', .string d'] 25)).cell? ⟨w.heap.size + 1, 3, none⟩ = some (.string c') ∧ ((w.alloc (.cells #[.string a, .string b, .string r, .string c, .string d] 25)).alloc (.cells #[.string a', .string b', .string r', .string c', .string d'] 25)).cell? ⟨w.heap.size + 1, 4, none⟩ = some (.string d') ∧ w.heap.size < ((w.alloc (.cells #[.string a, .string b, .string r, .string c, .string d] 25)).alloc (.cells #[.string a', .string b', .string r', .string c', .string d'] 25)).heap.size ∧ w.heap.size + 1 < ((w.alloc (.cells #[.string a, .string b, .string r, .string c, .string d] 25)).alloc (.cells #[.string a', .string b', .string r', .string c', .string d'] 25)).heap.size ∧ Below w.heap.size w ((w.alloc (.cells #[.string a, .string b, .string r, .string c, .string d] 25)).alloc (.cells #[.string a', .string b', .string r', .string c', .string d'] 25)) := by
    refine ⟨?_, ?_, ?_, ?_, ?_, ?_, ?_, ?_, ?_, ?_, ?_, ?_, ?_⟩
    all_goals first | exact below2 _ _ _ | (simp; done) | (simp; omega)
  have l1 := szFac_le a b r c d 1048576
  by_cases n1 : szFac a b r c d 1048576 < 0
  · go_enter Try.func3, Try.ntmps3
    go_wp2_with fail
    refine (szFact_any _ _ _ _ _ _ _ ha hb hr hc hd (by omega) (by omega)).mono ?_
    rintro e w1 ⟨rfl, hb1⟩
    clear H0
    go_wp2
    go_ret
    exact ⟨rfl, (below2 _ _ _).trans (hb1.mono (by simp; omega))⟩
  by_cases n2 : szFac a' b' r' c' d' (szFac a b r c d 1048576) < 0
  · go_enter Try.func3, Try.ntmps3
    go_wp2_with fail
    refine (szFact_any _ _ _ _ _ _ _ ha hb hr hc hd (by omega) (by omega)).mono ?_
    rintro e w1 ⟨rfl, hb1⟩
    obtain ⟨k0, k1, k2, k3, k4, k5, k6, k7, k8, k9, kn, km, kB⟩ := keep10 (Nat.le_refl _) H0 hb1
    clear H0 hb1
    go_wp2_with fail
    refine (szFact_any _ _ _ _ _ _ _ ga gb gr gc gd (by omega) (by omega)).mono ?_
    rintro e w2 ⟨rfl, hb2⟩
    go_wp2
    go_ret
    exact ⟨rfl, kB.trans (hb2.mono (by omega))⟩
  go_enter Try.func3, Try.ntmps3
  go_wp2_with fail
  refine (szFact_any _ _ _ _ _ _ _ ha hb hr hc hd (by omega) (by omega)).mono ?_
  rintro e w1 ⟨rfl, hb1⟩
  have H1 := keep10 (Nat.le_refl _) H0 hb1
  clear H0 hb1
  obtain ⟨k0, k1, k2, k3, k4, k5, k6, k7, k8, k9, kn, km, kB⟩ := H1
  go_wp2_with fail
  refine (szFact_any _ _ _ _ _ _ _ ga gb gr gc gd (by omega) (by omega)).mono ?_
  rintro e w2 ⟨rfl, hb2⟩
  have H2 := keep10 (Nat.le_refl _) ⟨k0, k1, k2, k3, k4, k5, k6, k7, k8, k9, kn, km, kB⟩ hb2
  clear k0 k1 k2 k3 k4 k5 k6 k7 k8 k9 kn km kB hb2
  go_wp2_with fail
  go_region_held3 (fun w' => w'.cell? ⟨w.heap.size, 0, none⟩ = some (.string a) ∧ w'.cell? ⟨w.heap.size, 1, none⟩ = some (.string b) ∧ w'.cell? ⟨w.heap.size, 2, none⟩ = some (.string r) ∧ w'.cell? ⟨w.heap.size, 3, none⟩ = some (.string c) ∧ w'.cell? ⟨w.heap.size, 4, none⟩ = some (.string d) ∧ w'.cell? ⟨w.heap.size + 1, 0, none⟩ = some (.string a') ∧ w'.cell? ⟨w.heap.size + 1, 1, none⟩ = some (.string b') ∧ w'.cell? ⟨w.heap.size + 1, 2, none⟩ = some (.string r') ∧ w'.cell? ⟨w.heap.size + 1, 3, none⟩ = some (.string c') ∧ w'.cell? ⟨w.heap.size + 1, 4, none⟩ = some (.string d') ∧ w.heap.size < w'.heap.size ∧ w.heap.size + 1 < w'.heap.size ∧ Below w.heap.size w w')
    (first | assumption | exact keep10 (Nat.le_refl _) (by assumption) hbx | exact ⟨H2.1, H2.2.1, H2.2.2.1, H2.2.2.2.1, H2.2.2.2.2.1, H2.2.2.2.2.2.1, H2.2.2.2.2.2.2.1, H2.2.2.2.2.2.2.2.1, H2.2.2.2.2.2.2.2.2.1, H2.2.2.2.2.2.2.2.2.2.1, H2.2.2.2.2.2.2.2.2.2.2.1, H2.2.2.2.2.2.2.2.2.2.2.2.1, H2.2.2.2.2.2.2.2.2.2.2.2.2.drew⟩)
    (first | (go_at_call 6; refine (toFact_any _ _ _ _ _ _).mono ?_; rintro e w' ⟨rfl, hbx⟩) | (go_at_call 5; refine (specFactAhead_any _ _ _ _ _ _ _ _ _ _ _ (by assumption) (by assumption) (by assumption) (by assumption) (by assumption) (by assumption) (by assumption) (by assumption) (by assumption) (by assumption)).mono ?_; rintro e w' ⟨rfl, hbx⟩))
  rename_i hH
  clear H2
  go_wp2_with fail
  go_region_held3 (fun w' => w'.cell? ⟨w.heap.size, 0, none⟩ = some (.string a) ∧ w'.cell? ⟨w.heap.size, 1, none⟩ = some (.string b) ∧ w'.cell? ⟨w.heap.size, 2, none⟩ = some (.string r) ∧ w'.cell? ⟨w.heap.size, 3, none⟩ = some (.string c) ∧ w'.cell? ⟨w.heap.size, 4, none⟩ = some (.string d) ∧ w'.cell? ⟨w.heap.size + 1, 0, none⟩ = some (.string a') ∧ w'.cell? ⟨w.heap.size + 1, 1, none⟩ = some (.string b') ∧ w'.cell? ⟨w.heap.size + 1, 2, none⟩ = some (.string r') ∧ w'.cell? ⟨w.heap.size + 1, 3, none⟩ = some (.string c') ∧ w'.cell? ⟨w.heap.size + 1, 4, none⟩ = some (.string d') ∧ w.heap.size < w'.heap.size ∧ w.heap.size + 1 < w'.heap.size ∧ Below w.heap.size w w')
    (first | assumption | exact keep10 (Nat.le_refl _) (by assumption) hbx2 | exact ⟨hH.1, hH.2.1, hH.2.2.1, hH.2.2.2.1, hH.2.2.2.2.1, hH.2.2.2.2.2.1, hH.2.2.2.2.2.2.1, hH.2.2.2.2.2.2.2.1, hH.2.2.2.2.2.2.2.2.1, hH.2.2.2.2.2.2.2.2.2.1, hH.2.2.2.2.2.2.2.2.2.2.1, hH.2.2.2.2.2.2.2.2.2.2.2.1, hH.2.2.2.2.2.2.2.2.2.2.2.2.drew⟩)
    (first | (go_at_call 6; refine (toFact_any _ _ _ _ _ _).mono ?_; rintro e w' ⟨rfl, hbx2⟩) | (go_at_call 7; refine (implFactAhead_any _ _ _ _ _ _ _ _ _ _ _ (by assumption) (by assumption) (by assumption) (by assumption) (by assumption) (by assumption) (by assumption) (by assumption) (by assumption) (by assumption)).mono ?_; rintro e w' ⟨rfl, hbx2⟩))
  rename_i hJ
  obtain ⟨-, -, -, -, -, -, -, -, -, -, -, -, gB⟩ := hJ
  clear hH
  go_wp2
  go_ret
  exact ⟨rfl, gB⟩

theorem own : ownKnob Try.prog.godebug = none := by kernel_rfl
theorem laidOut : laidOutB Try.prog = true := by kernel_rfl

set_option maxRecDepth 100000 in
theorem lifted (os : Os) (started : os.Started) (H : Type) (enc : TypeId × Value → H) :
    ReturnsInHanded {} Try.checked os 3 .any (Rows.fnExactFactAheadSpec.pre6 enc Try.prog Try.f3 Rows.fnExactFactAheadRow.domain false) (Rows.fnExactFactAheadSpec.post enc Try.prog Try.f3 false true false false) := by
  refine returnsInHanded_of_change (C := Try.checked) own started (by kernel_rfl) Try.func3
    (ChangeSpec.witness6 (enc := enc) (C := Try.checked) false ⟨#[], #[.agg #[.string ByteArray.empty, .string ByteArray.empty, .string ByteArray.empty, .string ByteArray.empty, .string ByteArray.empty], .agg #[.string ByteArray.empty, .string ByteArray.empty, .string ByteArray.empty, .string ByteArray.empty, .string ByteArray.empty]], []⟩ 8 (by kernel_rfl) (by kernel_rfl) (by kernel_rfl) (by kernel_rfl)) ?_
  intro W base args ds gs before hval0 hW hcnd _
  have hval : ∀ (j : Nat) t v, Try.f3.params[j]? = some t → args[j]? = some v → Value.okWide Try.prog W .any base t v := hval0
  have hW' := hW
  obtain ⟨p, q, hA0, hV, rfl, hfz, hnd⟩ := hW
  have hA : DataW.TrodAll enc Try.prog W 0 (fun _ => true) true Try.f3.params.toList args.toList ds p := hA0
  rw [Try.params3] at hA hval
  obtain ⟨v0, vs0, d0, ds0, p0, q0, hargs, rfl, rfl, h0, r0⟩ := trodAll_cons hA
  obtain ⟨v1, vs1, d1, ds1, p1, q1, rfl, rfl, rfl, h1, r1⟩ := trodAll_cons r0
  obtain ⟨rfl, rfl, rfl⟩ := trodAll_nil r1
  obtain rfl : args = #[v0, v1] := by cases args; simp_all
  obtain ⟨rfl, rfl⟩ := trodVars_none hV
  have k0 := h0
  have lt0 : ∀ x ∈ p0, x.block < W.heap.size := by obtain ⟨m, hm⟩ := k0; exact DataW.trod_lt m _ _ _ hm
  obtain ⟨xa0, xb0, xr0, xc0, xd0, hv0, wa0, wb0, wr0, wc0, wd0⟩ := open_fac (hval 0 25 v0 rfl rfl) h0
  subst hv0
  have k1 := h1
  have lt1 : ∀ x ∈ p1, x.block < W.heap.size := by obtain ⟨m, hm⟩ := k1; exact DataW.trod_lt m _ _ _ hm
  obtain ⟨xa1, xb1, xr1, xc1, xd1, hv1, wa1, wb1, wr1, wc1, wd1⟩ := open_fac (hval 1 25 v1 rfl rfl) h1
  subst hv1
  clear hA0 hval0
  refine (walk xa0 xb0 xr0 xc0 xd0 xa1 xb1 xr1 xc1 xd1 W wa0 wb0 wr0 wc0 wd0 wa1 wb1 wr1 wc1 wd1).mono fun e W' ⟨he, bel⟩ => ?_
  subst he
  exact ⟨_, rfl, _, _, _, [], _, [], hW', trodAll_mk1 (shut_bool Try.underlying4 _), (trodAll_cons_mk (Below.trod laidOut (by kernel_rfl) (of_decide_eq_true (by kernel_rfl)) k0 bel lt0) (trodAll_cons_mk (Below.trod laidOut (by kernel_rfl) (of_decide_eq_true (by kernel_rfl)) k1 bel lt1) trodAll_mk0)), rfl, bel.frame _, fun h => by cases h⟩

theorem over : Rows.fnExactFactAheadRow.holds Try.pinned (OpenSpec.ofChange Rows.fnExactFactAheadSpec) :=
  OpenClaim.holds_of_wide 3 Try.f3 rfl rfl rfl rfl rfl rfl rfl ⟨rfl, rfl, rfl, rfl, rfl⟩ rfl rfl rfl rfl rfl (by kernel_rfl) Try.func3 (by kernel_rfl)
    (of_decide_eq_true (by kernel_rfl)) (by unfold Func.isWrapper; first | (rw [if_pos (by decide +kernel)]; kernel_rfl) | (rw [if_neg (by decide +kernel)]; exact ⟨rfl, rfl⟩))
    (fun os started H enc _ => lifted os started H enc)

end Go.Proofs.Ytephodknooeigaa.fnExactFactAhead
namespace Go.Proofs.Ytephodknooeigaa
theorem FnExactFactAhead_holds : Rows.FnExactFactAheadSaid := fnExactFactAhead.over
end Go.Proofs.Ytephodknooeigaa
