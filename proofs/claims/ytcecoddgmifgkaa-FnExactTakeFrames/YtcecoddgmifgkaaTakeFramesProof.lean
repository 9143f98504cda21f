/- Proved here: FnExactTakeFrames answers true for every string and leaves its argument as it was, with no condition on the string. -/
import Derived.Test.YtcecoddgmifgkaaTakeS
import Derived.Test.YtcecoddgmifgkaaStrS
import Derived.Test.YtcecoddgmifgkaaOpenTup
namespace Go.Proofs.Ytcecoddgmifgkaa.fnExactTakeFrames
open Go.ChangeShapes Go.WideShapes Go.ChangeAt Go.RowKit Go.Joins
open Go.ChangeMaps (open_string shut_string)
open Pl
set_option linter.unusedVariables false

set_option maxRecDepth 100000 in
set_option maxHeartbeats 2000000 in
theorem walk (s : ByteArray) (w : World) (hs : s.size ≤ maxLen) :
    Calls Try.prog 7 #[.string s] w fun e w' => e = .returned (.bool true) ∧ Below w.heap.size w w' := by
  unfold maxLen at hs
  by_cases hbig : 1048576 < s.size
  · go_enter Try.func7, Try.ntmps7
    go_wp2
    go_ret
    exact ⟨rfl, Below.refl _ _⟩
  · go_enter Try.func7, Try.ntmps7
    go_wp2_with fail
    refine (specTake_any s _ (by omega)).mono ?_
    rintro e w1 ⟨v0, l, a, rfl, hown0, hF0, hb1⟩
    obtain ⟨ad0, cap0, rfl, hl0, hg0⟩ := own_list hown0
    have hll : l.length ≤ 1048576 := by obtain ⟨⟨k, hk⟩, -⟩ := hF0; have := itF_ok k hk; have := this.le; have := (itF_ok k hk).len; omega
    have HF0 : Hid (FrEnd s l a) := hF0
    have HL0 : Hid (SlT1 w1 ad0 l) := hl0
    have HB1 : Hid (Below w.heap.size w w1) := hb1
    have HG0 : Hid (∀ g, l ≠ [] → ad0 = some ⟨g, 0, none⟩ → g < w1.heap.size) := fun g hne e => by
      obtain ⟨g', e', -, h2, -⟩ := hg0 hne
      rw [e] at e'; injection e' with e'; injection e' with e1 e2; subst e1; exact h2
    clear hown0 hF0 hl0 hb1 hg0
    go_wp2_with fail
    refine (implTake_any s _ (by omega)).mono ?_
    rintro e w2 ⟨v1, l', a', rfl, hown1, hF1, hb2⟩
    obtain ⟨rfl, rfl⟩ := HF0.out.one hF1
    obtain ⟨ad1, cap1, rfl, hl1, hg1⟩ := own_list hown1
    have HL1 : Hid (SlT1 w2 ad1 l) := hl1
    have HL0' : Hid (SlT1 w2 ad0 l) := HL0.out.below hb2
    have HB2 : Hid (Below w.heap.size w w2) := HB1.out.trans (hb2.mono HB1.out.size)
    have HG1 : Hid (l ≠ [] → ∃ g, ad1 = some ⟨g, 0, none⟩ ∧ w1.heap.size ≤ g ∧ g < w2.heap.size ∧ Free w2 g) := hg1
    have hz12 := hb2.size
    clear hown1 hF1 hl1 hb2 hg1 HL0
    go_wp2_with fail
    refine (eqStringS_any ad1 ad0 cap1 cap0 l _ hll HL1.out HL0'.out).mono ?_
    rintro e w3 ⟨rfl, hb3⟩
    have HL3 : Hid (SlT1 w3 ad1 l) := HL1.out.below hb3
    have HL03 : Hid (SlT1 w3 ad0 l) := HL0'.out.below hb3
    have HB3 : Hid (Below w.heap.size w w3) := HB2.out.trans (hb3.mono HB2.out.size)
    have HG3 : Hid (l ≠ [] → ∃ g, ad1 = some ⟨g, 0, none⟩ ∧ w1.heap.size ≤ g ∧ Free w3 g) := fun hne => by
      obtain ⟨g, e, h1, h2, h3⟩ := HG1.out hne
      exact ⟨g, e, h1, fun j => by rw [hb3.frozen (p := ⟨g, j, none⟩) h2]; exact h3 j⟩
    have hz13 : w1.heap.size ≤ w3.heap.size := by have := hb3.size; omega
    clear hb3 HL1 HL0' HG1 HB2
    go_wp2_with fail
    refine (markStringS_any ad1 cap1 l 1 _ HL3.out (fun hne => by obtain ⟨g, e, -, h3⟩ := HG3.out hne; exact ⟨g, e, h3⟩) (by omega) (by omega)).mono ?_
    rintro e w4 ⟨rfl, hm4, hc4⟩
    have HL04 : Hid (SlT1 w4 ad0 l) := HL03.out.chg hc4 (fun g e hS => by
      obtain ⟨g', e', h1, -⟩ := HG3.out hS.1
      have h0 := HG0.out g hS.1 e
      have := hS.2
      rw [e'] at this; injection this with this; injection this with e1 e2; omega)
    have HM4 : Hid (SlT1 w4 ad1 (mkT 1 l)) := hm4
    have HB4 : Hid (Below w.heap.size w w4) := HB3.out.trans (hc4.below (fun g hS => by
      obtain ⟨g', e', h1, -⟩ := HG3.out hS.1
      have := hS.2
      rw [e'] at this; injection this with this; injection this with e1 e2
      have := HB1.out.size; omega) HB3.out.size)
    clear hm4 hc4 HL3 HL03 HB3 HG3
    go_wp2_with fail
    refine (heldStringS_any ad1 cap1 l 1 _ HM4.out (by omega) (by omega)).mono ?_
    rintro e w5 ⟨rfl, hb5⟩
    have HL05 : Hid (SlT1 w5 ad0 l) := HL04.out.below hb5
    have HM5 : Hid (SlT1 w5 ad1 (mkT 1 l)) := HM4.out.below hb5
    have HB5 : Hid (Below w.heap.size w w5) := HB4.out.trans (hb5.mono HB4.out.size)
    clear hb5 HL04 HM4 HB4
    go_wp2_with fail
    refine (implTake_any s _ (by omega)).mono ?_
    rintro e w6 ⟨v2, l', a', rfl, hown2, hF2, hb6⟩
    obtain ⟨rfl, rfl⟩ := HF0.out.one hF2
    obtain ⟨ad2, cap2, rfl, hl2, -⟩ := own_list hown2
    have HL2 : Hid (SlT1 w6 ad2 l) := hl2
    have HL06 : Hid (SlT1 w6 ad0 l) := HL05.out.below hb6
    have HM6 : Hid (SlT1 w6 ad1 (mkT 1 l)) := HM5.out.below hb6
    have HB6 : Hid (Below w.heap.size w w6) := HB5.out.trans (hb6.mono HB5.out.size)
    clear hown2 hF2 hl2 hb6 HL05 HM5 HB5
    go_wp2_with fail
    refine (eqStringS_any ad2 ad0 cap2 cap0 l _ hll HL2.out HL06.out).mono ?_
    rintro e w7 ⟨rfl, hb7⟩
    have HM7 : Hid (SlT1 w7 ad1 (mkT 1 l)) := HM6.out.below hb7
    have HB7 : Hid (Below w.heap.size w w7) := HB6.out.trans (hb7.mono HB6.out.size)
    clear hb7 HM6 HB6 HL2 HL06
    go_wp2_with fail
    refine (heldStringS_any ad1 cap1 l 1 _ HM7.out (by omega) (by omega)).mono ?_
    rintro e w8 ⟨rfl, hb8⟩
    have HB8 : Hid (Below w.heap.size w w8) := HB7.out.trans (hb8.mono HB7.out.size)
    clear hb8 HM7 HB7
    go_wp2
    go_ret
    exact ⟨rfl, HB8.out⟩

theorem own : ownKnob Try.prog.godebug = none := by kernel_rfl
theorem laidOut : laidOutB Try.prog = true := by kernel_rfl

set_option maxRecDepth 100000 in
theorem lifted (os : Os) (started : os.Started) (H : Type) (enc : TypeId × Value → H) :
    ReturnsInHanded {} Try.checked os 7 .any (Rows.fnExactTakeFramesSpec.pre6 enc Try.prog Try.f7 Rows.fnExactTakeFramesRow.domain false) (Rows.fnExactTakeFramesSpec.post enc Try.prog Try.f7 false true false false) := by
  refine returnsInHanded_of_change (C := Try.checked) own started (by kernel_rfl) Try.func7
    (ChangeSpec.witness6 (enc := enc) (C := Try.checked) false ⟨#[], #[.string ByteArray.empty], []⟩ 8 (by kernel_rfl) (by kernel_rfl) (by kernel_rfl) (by kernel_rfl)) ?_
  intro W base args ds gs before hval0 hW hcnd _
  have hval : ∀ (j : Nat) t v, Try.f7.params[j]? = some t → args[j]? = some v → Value.okWide Try.prog W .any base t v := hval0
  have hW' := hW
  obtain ⟨p, q, hA0, hV, rfl, hfz, hnd⟩ := hW
  have hA : DataW.TrodAll enc Try.prog W 0 (fun _ => true) true Try.f7.params.toList args.toList ds p := hA0
  rw [Try.params7] at hA hval
  obtain ⟨v0, vs0, d0, ds0, p0, q0, hargs, rfl, rfl, h0, r0⟩ := trodAll_cons hA
  obtain ⟨rfl, rfl, rfl⟩ := trodAll_nil r0
  obtain rfl : args = #[v0] := by cases args; simp_all
  obtain ⟨rfl, rfl⟩ := trodVars_none hV
  have k0 := h0
  have lt0 : ∀ x ∈ p0, x.block < W.heap.size := by obtain ⟨m, hm⟩ := k0; exact DataW.trod_lt m _ _ _ hm
  obtain ⟨s0, hv0, -, -, hs0⟩ := open_string Try.underlying9 (hval 0 9 v0 rfl rfl) h0
  subst hv0
  clear hA0 hval0
  refine (walk s0 W hs0).mono fun e W' ⟨he, bel⟩ => ?_
  subst he
  exact ⟨_, rfl, _, _, _, [], _, [], hW', trodAll_mk1 (shut_bool Try.underlying4 _), (trodAll_cons_mk (Below.trod laidOut (by kernel_rfl) (of_decide_eq_true (by kernel_rfl)) k0 bel lt0) trodAll_mk0), rfl, bel.frame _, fun h => by cases h⟩

theorem over : Rows.fnExactTakeFramesRow.holds Try.pinned (OpenSpec.ofChange Rows.fnExactTakeFramesSpec) :=
  OpenClaim.holds_of_wide 7 Try.f7 rfl rfl rfl rfl rfl rfl rfl ⟨rfl, rfl, rfl, rfl, rfl⟩ rfl rfl rfl rfl rfl (by kernel_rfl) Try.func7 (by kernel_rfl)
    (of_decide_eq_true (by kernel_rfl)) (by unfold Func.isWrapper; first | (rw [if_pos (by decide +kernel)]; kernel_rfl) | (rw [if_neg (by decide +kernel)]; exact ⟨rfl, rfl⟩))
    (fun os started H enc _ => lifted os started H enc)

end Go.Proofs.Ytcecoddgmifgkaa.fnExactTakeFrames
namespace Go.Proofs.Ytcecoddgmifgkaa
theorem FnExactTakeFrames_holds : Rows.FnExactTakeFramesSaid := fnExactTakeFrames.over
end Go.Proofs.Ytcecoddgmifgkaa
