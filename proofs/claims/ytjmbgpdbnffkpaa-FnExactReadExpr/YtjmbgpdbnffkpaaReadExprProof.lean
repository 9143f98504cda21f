/- Proved here: FnExactReadExpr answers true for every string, with no condition on it. -/
import Derived.Test.YtjmbgpdbnffkpaaJ3
import Derived.OpenShut
import Derived.ChangeMaps5
import Derived.ShutString
namespace Go.Proofs.Ytjmbgpdbnffkpaa.fnExactReadExpr
open Go.ChangeShapes Go.WideShapes Go.ChangeAt Go.RowKit
open Pl
open Go.ChangeMaps (open_string shut_string)
set_option linter.unusedVariables false
theorem HIDr {p : Prop} (h : p) : Hid p := h
set_option maxRecDepth 100000 in
set_option maxHeartbeats 4000000 in
theorem walk (s : ByteArray) (w : World) (hm : s.size ≤ maxLen) :
    Calls Try.prog 3 #[.string s] w fun e w' => e = .returned (.bool true) ∧ Below w.heap.size w w' := by
  by_cases hbig : 1048576 < s.size
  · have d : decide ((1048576 : Int) < (s.size : Int)) = true := by simp; omega
    go_enter Try.func3, Try.ntmps3
    go_wp2
    go_ret
    exact ⟨rfl, Below.refl _ _⟩
  have d : decide ((1048576 : Int) < (s.size : Int)) = false := by simp; omega
  have HSP := HIDr (specAns s)
  have HIM := HIDr (implAns s)
  obtain ⟨D, hD⟩ : ∃ D, D = ansL s := ⟨_, rfl⟩
  obtain ⟨f, hf⟩ : ∃ f, f = readB s := ⟨_, rfl⟩
  rw [← hD, ← hf] at HSP HIM
  have HFA : Hid (∀ qs : List ER, exs qs = D → qs.length ≤ 15 ∧ (∀ r ∈ qs, r.e.light) ∧ 1 + wE qs ≤ 1000000000) := fun qs h => ans_facts (by rw [h, hD])
  clear hD hf hbig
  go_enter Try.func3, Try.ntmps3
  go_wp2_with fail
  refine (HSP.out w).mono ?_
  rintro e w1 ⟨adW, capW, qw, rfl, hqw, hsw, hb1⟩
  have HQW := HIDr hqw
  have HSW := HIDr hsw
  have HB1 := HIDr hb1
  clear hqw hsw hb1
  go_wp2_with fail
  refine (HIM.out w1).mono ?_
  rintro e w2 ⟨adG, capG, qg, rfl, hqg, hsg, hog, hb2⟩
  have HQG := HIDr hqg
  obtain ⟨f1, f2, f3⟩ := HFA.out qg hqg
  have HQL := HIDr f2
  have HWT := HIDr f3
  have hql : qg.length ≤ 1048576 := by omega
  have HSG := HIDr hsg
  have HOG := HIDr hog
  have HW2 : Hid (Below w1.heap.size w1 w2) := hb2
  have HB2 := HIDr (HB1.out.trans (hb2.mono HB1.out.size))
  have hff : (f != f) = false := by simp
  clear hqg hsg hog hb2 f1 f2 f3
  go_wp2_with fail
  refine (eqExprS_same _ _ _ _ qg qw _ hql (by rw [HQW.out, HQG.out]) HSG.out (HSW.out.below HW2.out) HQL.out).mono ?_
  rintro e w3 ⟨rfl, hb3⟩
  have HSG3 := HIDr (HSG.out.below hb3)
  have HOG3 := HIDr (HOG.out.below hb3)
  have HW3 := HIDr (HW2.out.trans (hb3.mono HW2.out.size))
  have HB3 := HIDr (HB2.out.trans (hb3.mono HB2.out.size))
  obtain ⟨M, hM⟩ : ∃ M : Nat, M = 1 + wE qg := ⟨_, rfl⟩
  have HM := HIDr hM
  clear hb3 HSG HOG HW2 HB2 hM
  go_wp2_with fail
  refine (markG adG capG qg w3 HSG3.out HOG3.out HW3.out.size HQL.out hql HWT.out).mono ?_
  rintro e w4 ⟨he, hs4, hb4⟩
  rw [← HM.out] at he
  subst he
  have HSM := HIDr hs4
  have HW4 := HIDr (HW3.out.trans hb4)
  have HB4 := HIDr (HB3.out.trans (hb4.mono HB1.out.size))
  have hM0 : decide ((M : Int) < 0) = false := by first | (simp; done) | (simp; omega)
  have hMM : ((M : Int) == (M : Int)) = true := by simp
  have hMn : ((M : Int) != (M : Int)) = false := by simp
  clear hs4 hb4 HSG3 HOG3 HW3 HB3
  go_wp2_with fail
  refine (heldExprS_any adG capG qg 1 w4 HSM.out HQL.out hql (by omega) HWT.out).mono ?_
  rintro e w5 ⟨he, hb5⟩
  rw [← HM.out] at he
  subst he
  have HSM5 := HIDr (HSM.out.below hb5)
  have HW5 := HIDr (HW4.out.trans (hb5.mono HW4.out.size))
  have HB5 := HIDr (HB4.out.trans (hb5.mono HB4.out.size))
  clear hb5 HSM HW4 HB4
  go_wp2_with fail
  refine (HIM.out w5).mono ?_
  rintro e w6 ⟨adH, capH, qh, rfl, hqh, hsh, -, hb6⟩
  have HQH := HIDr hqh
  obtain ⟨f1, f2, f3⟩ := HFA.out qh hqh
  have HHL := HIDr f2
  have hhl : qh.length ≤ 1048576 := by omega
  have HSH := HIDr hsh
  have HSM6 := HIDr (HSM5.out.below hb6)
  have HW6 := HIDr (HW5.out.trans (hb6.mono HW5.out.size))
  have HB6 := HIDr (HB5.out.trans (hb6.mono HB5.out.size))
  clear hqh hsh hb6 f1 f2 f3 HSM5 HW5 HB5
  go_wp2_with fail
  refine (eqExprS_same _ _ _ _ qh qw _ hhl (by rw [HQW.out, HQH.out]) HSH.out (HSW.out.below HW6.out) HHL.out).mono ?_
  rintro e w7 ⟨rfl, hb7⟩
  have HSM7 := HIDr (HSM6.out.below hb7)
  have HB7 := HIDr (HB6.out.trans (hb7.mono HB6.out.size))
  clear hb7 HSM6 HW6 HB6 HSH
  go_wp2_with fail
  refine (heldExprS_any adG capG qg 1 w7 HSM7.out HQL.out hql (by omega) HWT.out).mono ?_
  rintro e w8 ⟨he, hb8⟩
  rw [← HM.out] at he
  subst he
  have HB8 := HIDr (HB7.out.trans (hb8.mono HB7.out.size))
  clear hb8 HSM7 HB7
  go_wp2
  go_ret
  exact ⟨rfl, HB8.out⟩
theorem own : ownKnob Try.prog.godebug = none := by kernel_rfl
theorem laidOut : laidOutB Try.prog = true := by kernel_rfl

set_option maxRecDepth 100000 in
theorem lifted (os : Os) (started : os.Started) (H : Type) (enc : TypeId × Value → H) :
    ReturnsInHanded {} Try.checked os 3 .any (Rows.fnExactReadExprSpec.pre6 enc Try.prog Try.f3 Rows.fnExactReadExprRow.domain false) (Rows.fnExactReadExprSpec.post enc Try.prog Try.f3 false true false false) := by
  refine returnsInHanded_of_change (C := Try.checked) own started (by kernel_rfl) Try.func3
    (ChangeSpec.witness6 (enc := enc) (C := Try.checked) false ⟨#[], #[.string ByteArray.empty], []⟩ 8 (by kernel_rfl) (by kernel_rfl) (by kernel_rfl) (by kernel_rfl)) ?_
  intro W base args ds gs before hval0 hW hcnd _
  have hval : ∀ (j : Nat) t v, Try.f3.params[j]? = some t → args[j]? = some v → Value.okWide Try.prog W .any base t v := hval0
  have hW' := hW
  obtain ⟨p, q, hA0, hV, rfl, hfz, hnd⟩ := hW
  have hA : DataW.TrodAll enc Try.prog W 0 (fun _ => true) true Try.f3.params.toList args.toList ds p := hA0
  rw [Try.params3] at hA hval
  obtain ⟨v0, vs0, d0, ds0, p0, q0, hargs, rfl, rfl, h0, r0⟩ := trodAll_cons hA
  obtain ⟨rfl, rfl, rfl⟩ := trodAll_nil r0
  obtain rfl : args = #[v0] := by cases args; simp_all
  obtain ⟨rfl, rfl⟩ := trodVars_none hV
  have k0 := h0
  have lt0 : ∀ x ∈ p0, x.block < W.heap.size := by obtain ⟨m, hm⟩ := k0; exact DataW.trod_lt m _ _ _ hm
  obtain ⟨s0, hv0, -, -, hs0⟩ := open_string Try.underlying9 (hval 0 9 v0 rfl rfl) h0
  subst hv0
  clear hA0 hval0
  refine (walk s0 W hs0).mono fun e W' ⟨he, bel⟩ => ?_
  subst he
  exact ⟨_, rfl, _, _, _, [], _, [], hW', trodAll_mk1 (shut_bool Try.underlying4 _), (trodAll_cons_mk (Below.trod laidOut (by kernel_rfl) (of_decide_eq_true (by kernel_rfl)) k0 bel lt0) trodAll_mk0), rfl, bel.frame _, fun h => by cases h⟩

theorem over : Rows.fnExactReadExprRow.holds Try.pinned (OpenSpec.ofChange Rows.fnExactReadExprSpec) :=
  OpenClaim.holds_of_wide 3 Try.f3 rfl rfl rfl rfl rfl rfl rfl ⟨rfl, rfl, rfl, rfl, rfl⟩ rfl rfl rfl rfl rfl (by kernel_rfl) Try.func3 (by kernel_rfl)
    (of_decide_eq_true (by kernel_rfl)) (by unfold Func.isWrapper; first | (rw [if_pos (by decide +kernel)]; kernel_rfl) | (rw [if_neg (by decide +kernel)]; exact ⟨rfl, rfl⟩))
    (fun os started H enc _ => lifted os started H enc)

end Go.Proofs.Ytjmbgpdbnffkpaa.fnExactReadExpr
namespace Go.Proofs.Ytjmbgpdbnffkpaa
theorem FnExactReadExpr_holds : Rows.FnExactReadExprSaid := fnExactReadExpr.over
end Go.Proofs.Ytjmbgpdbnffkpaa
