/- Proved here: FnExactRenamed answers true for every slice of types and every three strings and leaves them as they were, with no condition on them. -/
import Derived.Test.YtmghabcaakgjiaaGreatSpecRenamed
import Derived.Test.YtmghabcaakgjiaaGreatImplRenamed
import Derived.Test.YtmghabcaakgjiaaGreatJ28
namespace Go.Proofs.YtmghabcaakgjiaaGreat.fnExactRenamed
open Go.ChangeShapes Go.WideShapes Go.ChangeAt Go.RowKit
open Go.ChangeMaps (open_string shut_string)
open Pl
set_option linter.unusedVariables false
set_option maxRecDepth 100000 in
set_option maxHeartbeats 4000000 in
theorem walk (ad : Option Addr) (cap : Nat) (rs : List TR) (typ frm too : ByteArray) (w : World) (hm : rs.length ≤ maxLen) (hs : SlT w ad rs) (hf : ∀ r ∈ rs, r.fits) (h0 : typ.size ≤ maxLen) (h1 : frm.size ≤ maxLen) (h2 : too.size ≤ maxLen) :
  Calls Tryz.prog 3 #[.slice ad rs.length cap, .string typ, .string frm, .string too] w fun e w' => e = .returned (.bool true) ∧ Below w.heap.size w w' := by
 have HS : Hid (SlT w ad rs) := hs
 have HF : Hid (∀ r ∈ rs, r.fits) := hf
 clear hs hf
 have q0 := h0
 have q1 := h1
 have q2 := h2
 unfold maxLen at q0 q1 q2
 by_cases c0 : 1048576 < typ.size
 ·go_enter Tryz.func3, Tryz.ntmps3
  go_wp2
  go_ret
  exact ⟨rfl, Below.refl _ _⟩
 by_cases c1 : 1048576 < frm.size
 ·go_enter Tryz.func3, Tryz.ntmps3
  go_wp2
  go_ret
  exact ⟨rfl, Below.refl _ _⟩
 by_cases c2 : 1048576 < too.size
 ·go_enter Tryz.func3, Tryz.ntmps3
  go_wp2
  go_ret
  exact ⟨rfl, Below.refl _ _⟩
 go_enter Tryz.func3, Tryz.ntmps3
 go_wp2_with fail
 refine (szTypeS_w ad cap rs 1048576 _ hm HS.out HF.out (by omega) (by omega)).mono ?_
 rintro e w1 ⟨⟨n, rfl, hn⟩, hb1⟩
 have HB1 : Hid (Below w.heap.size w w1) := hb1
 clear hb1
 rcases hn with rfl | ⟨hn0, hn1, hn2, hn3⟩
 ·go_wp2
  go_ret
  exact ⟨rfl, HB1.out⟩
 have HL : Hid (∀ r ∈ rs, r.light) := hn3
 have hlen : rs.length ≤ 1048576 := by omega
 have HWT : Hid (1 + wT rs ≤ 1000000000) := by have := wT_sT rs; show _ ≤ _; omega
 obtain ⟨D, hD⟩ : ∃ D, renD (tys rs) typ frm too = D := ⟨_, rfl⟩
 have HD : Hid (renD (tys rs) typ frm too = D) := hD
 have HSHP : Hid (∀ ts, D = some ts → shapeB ts = true) := fun ts h => ren_shape (hD.trans h)
 obtain ⟨fl, hfl⟩ : ∃ fl, D.isSome = fl := ⟨_, rfl⟩
 have HFL : Hid (D.isSome = fl) := hfl
 clear hn3 hn2 hn1 hD hfl
 go_wp2_with fail
 refine (toTypeS_any ad cap rs _ hlen (HS.out.below HB1.out) HL.out).mono ?_
 rintro e w2 ⟨rs1, rfl, he1, hs1, hc1, hnw1, hb2⟩
 have HB2 : Hid (Below w.heap.size w w2) := HB1.out.trans (hb2.mono HB1.out.size)
 have HE1 : Hid (tys rs1 = tys rs) := he1
 have HS1 : Hid (SlT w2 (some ⟨w1.heap.size, 0, none⟩) rs1) := hs1
 have HZ1 := toHX (zeros_new hnw1)
 clear he1 hs1 hc1 hb2 hnw1
 go_wp2_with fail
 refine (specRenamed_any _ _ rs1 typ frm too _ (by rw [lenP HE1.out]; exact hlen) HS1.out (lightP HE1.out HL.out) (fitsP HE1.out HF.out) HZ1.out h2).mono ?_
 rintro e w3 ⟨vW, qw, he, hqw, htw, hb3⟩
 rw [HE1.out, HD.out] at he hqw
 rw [HFL.out] at he
 subst he
 obtain ⟨adW, capW, rfl, hsw, -⟩ := TypM.read htw
 have HB3 : Hid (Below w.heap.size w w3) := HB2.out.trans (hb3.mono HB2.out.size)
 have HQW : Hid (tys qw = D.getD []) := hqw
 have HSW : Hid (SlT w3 adW qw) := hsw
 clear hb3 HS1 HZ1 HE1 hqw hsw htw
 go_wp2_with fail
 refine (toTypeS_o ad cap rs _ hlen (HS.out.below HB3.out) HL.out).mono ?_
 rintro e w4 ⟨rs2, rfl, he2, hs2, hc2, hnw2, ho2, hf2, hl2, hb4⟩
 have HB4 : Hid (Below w.heap.size w w4) := HB3.out.trans (hb4.mono HB3.out.size)
 have HW4 : Hid (Below w3.heap.size w3 w4) := hb4
 have HE2 : Hid (tys rs2 = tys rs) := he2
 have HS2 : Hid (SlT w4 (some ⟨w3.heap.size, 0, none⟩) rs2) := hs2
 have HC2 : Hid (∀ r ∈ rs2, r.caps) := hc2
 have HO2 : Hid (OwnT w3.heap.size w4 rs2) := ho2
 have HF2 : Hid (Free w4 w3.heap.size) := hf2
 have HL2 : Hid (w3.heap.size < w4.heap.size) := hl2
 clear he2 hs2 hc2 hb4 hnw2 ho2 hf2 hl2
 go_wp2_with fail
 refine (implRenamed_any _ _ rs2 typ frm too _ (by rw [lenP HE2.out]; exact hlen) HS2.out (lightP HE2.out HL.out) (fitsP HE2.out HF.out) HC2.out h0 h1 h2).mono ?_
 rintro e w5 ⟨vG, qg, he, hqg, htg, hb5⟩
 rw [HE2.out, HD.out] at he hqg
 rw [HFL.out] at he
 subst he
 obtain ⟨adG, capG, rfl, hsg, -⟩ := TypM.read htg
 have HB5 : Hid (Below w.heap.size w w5) := HB4.out.trans (hb5.mono HB4.out.size)
 have HW5 : Hid (Below w3.heap.size w3 w5) := HW4.out.trans (hb5.mono HW4.out.size)
 have HS5 : Hid (SlT w5 (some ⟨w3.heap.size, 0, none⟩) rs2) := HS2.out.below hb5
 have HO5 : Hid (OwnT w3.heap.size w5 rs2) := HO2.out.chg (Chg.of (S := fun _ => False) hb5)
 have HF5 : Hid (Free w5 w3.heap.size) := (Chg.of (S := fun _ => False) hb5).free _ HL2.out HF2.out
 have HQG : Hid (tys qg = D.getD []) := hqg
 have HSG : Hid (SlT w5 adG qg) := hsg
 have HOG : Hid (TypM w5 w4.heap.size (.slice adG qg.length capG) qg) := htg
 have hsmall := ans_small HSHP.out hqg
 have hqlen : qg.length ≤ 1048576 := hsmall.1
 have HQL : Hid (∀ r ∈ qg, r.light) := hsmall.2.1
 have HQWT : Hid (1 + wT qg ≤ 1000000000) := hsmall.2.2
 have HSZ : Hid (∀ g, insT w3.heap.size rs2 g → w3.heap.size ≤ g ∧ g < w4.heap.size) := by
  rintro g (rfl | ⟨q, hq, h2⟩)
  ·exact ⟨Nat.le_refl _, HL2.out⟩
  ·have := HO2.out.2 q hq g h2; omega
 have HX45 : w4.heap.size ≤ w5.heap.size := hb5.size
 replace HX45 : Hid (w4.heap.size ≤ w5.heap.size) := HX45
 clear hb5 HS2 HO2 HF2 hqg hsg htg hsmall HC2 HW4
 go_wp2_with fail
 refine (eqTypeS_same _ _ _ _ qg qw _ hqlen (by rw [HQW.out, HQG.out]) HSG.out (HSW.out.below HW5.out) HQL.out).mono ?_
 rintro e w6 ⟨rfl, hb6⟩
 have HB6 : Hid (Below w.heap.size w w6) := HB5.out.trans (hb6.mono HB5.out.size)
 have HW6 : Hid (Below w3.heap.size w3 w6) := HW5.out.trans (hb6.mono HW5.out.size)
 have HS6 : Hid (SlT w6 (some ⟨w3.heap.size, 0, none⟩) rs2) := HS5.out.below hb6
 have HC56 : Hid (Chg (fun _ => False) w5 w6) := Chg.of hb6
 have HSG6 : Hid (SlT w6 adG qg) := HSG.out.below hb6
 clear hb6 HS5 HSG
 go_wp2_with fail
 refine (toTypeS_any ad cap rs _ hlen (HS.out.below HB6.out) HL.out).mono ?_
 rintro e w7 ⟨rs3, rfl, he3, hs3, hc3, -, hb7⟩
 have HB7 : Hid (Below w.heap.size w w7) := HB6.out.trans (hb7.mono HB6.out.size)
 have HW7 : Hid (Below w3.heap.size w3 w7) := HW6.out.trans (hb7.mono HW6.out.size)
 have HE3 : Hid (tys rs3 = tys rs) := he3
 have HS7 : Hid (SlT w7 (some ⟨w6.heap.size, 0, none⟩) rs3) := hs3
 have HS8 : Hid (SlT w7 (some ⟨w3.heap.size, 0, none⟩) rs2) := HS6.out.below hb7
 have HC57 : Hid (Chg (fun _ => False) w5 w7) := HC56.out.trans (Chg.of hb7)
 have HSG7 : Hid (SlT w7 adG qg) := HSG6.out.below hb7
 clear he3 hs3 hc3 hb7 HS6 HSG6 HC56
 go_wp2_with fail
 refine (eqTypeS_same _ _ _ _ rs2 rs3 _ (by rw [lenP HE2.out]; exact hlen) (by rw [HE3.out, HE2.out]) HS8.out HS7.out (lightP HE2.out HL.out)).mono ?_
 rintro e w8 ⟨rfl, hb8⟩
 have HB8 : Hid (Below w.heap.size w w8) := HB7.out.trans (hb8.mono HB7.out.size)
 have HW8 : Hid (Below w3.heap.size w3 w8) := HW7.out.trans (hb8.mono HW7.out.size)
 have HS9 : Hid (SlT w8 (some ⟨w3.heap.size, 0, none⟩) rs2) := HS8.out.below hb8
 have HC58 : Hid (Chg (fun _ => False) w5 w8) := HC57.out.trans (Chg.of hb8)
 have HSG8 : Hid (SlT w8 adG qg) := HSG7.out.below hb8
 have HW2T : Hid (1 + wT rs2 ≤ 1000000000) := by show _ ≤ _; rw [wT_eqs HE2.out]; exact HWT.out
 obtain ⟨M0, hM0⟩ : ∃ M0 : Nat, M0 = 1 + wT rs2 := ⟨_, rfl⟩
 have HM0 : Hid (M0 = 1 + wT rs2) := hM0
 have HX48 : Hid (w4.heap.size ≤ w8.heap.size) := Nat.le_trans HX45.out HC58.out.size
 clear hb8 HS7 HS8 HSG7 HC57 hM0
 go_wp2_with fail
 refine (markArgC w3.heap.size _ rs2 _ HS9.out (Nat.lt_of_lt_of_le HL2.out (Nat.le_trans HX45.out HC58.out.size)) (HO5.out.chg HC58.out) (HC58.out.free _ (Nat.lt_of_lt_of_le HL2.out HX45.out) HF5.out) (lightP HE2.out HL.out) (by rw [lenP HE2.out]; exact hlen) HW2T.out).mono ?_
 rintro e w9 ⟨he, hc9⟩
 rw [← HM0.out] at he
 subst he
 have HBM : Hid (Below w3.heap.size w8 w9) := hc9.below (fun g hg => (HSZ.out g hg).1) HW8.out.size
 have HB9 : Hid (Below w.heap.size w w9) := HB8.out.trans (HBM.out.mono HB3.out.size)
 have HW9 : Hid (Below w3.heap.size w3 w9) := HW8.out.trans HBM.out
 have HOG8 : Hid (TypM w8 w4.heap.size (.slice adG qg.length capG) qg) := TypM.chg HOG.out HC58.out (fun g hg => by cases hg)
 have HOG9 : Hid (TypM w9 w4.heap.size (.slice adG qg.length capG) qg) := TypM.chg HOG8.out hc9 fun g hg => (HSZ.out g hg).2
 have HSG9 : Hid (SlT w9 adG qg) := by
  obtain ⟨a, c, e, h, -⟩ := TypM.read HOG9.out
  injection e with e1 _ _
  rw [e1]; exact h
 have HX49 : Hid (w4.heap.size ≤ w9.heap.size) := Nat.le_trans HX48.out hc9.size
 clear hc9 HOG8 HSG8 HBM HS9 HC58
 go_wp2_with fail
 refine (eqTypeS_same _ _ _ _ qg qw _ hqlen (by rw [HQW.out, HQG.out]) HSG9.out (HSW.out.below HW9.out) HQL.out).mono ?_
 rintro e w10 ⟨rfl, hb10⟩
 have HB10 : Hid (Below w.heap.size w w10) := HB9.out.trans (hb10.mono HB9.out.size)
 have HW10 : Hid (Below w3.heap.size w3 w10) := HW9.out.trans (hb10.mono HW9.out.size)
 have HSG10 : Hid (SlT w10 adG qg) := HSG9.out.below hb10
 have HOG10 : Hid (TypM w10 w4.heap.size (.slice adG qg.length capG) qg) := TypM.belowT HOG9.out hb10
 obtain ⟨M1, hM1⟩ : ∃ M1 : Nat, M1 = 1 + wT qg := ⟨_, rfl⟩
 have HM1 : Hid (M1 = 1 + wT qg) := hM1
 have HX410 : Hid (w4.heap.size ≤ w10.heap.size) := Nat.le_trans HX49.out hb10.size
 clear hb10 HSG9 HOG9 hM1
 go_wp2_with fail
 refine (markAnsT adG capG qg _ HOG10.out HQL.out hqlen HQWT.out).mono ?_
 rintro e w11 ⟨he, hsm, hc11⟩
 rw [← HM1.out] at he
 subst he
 have HBN : Hid (Below w4.heap.size w10 w11) := hc11.below (fun g hg => hg) HX410.out
 have HB11 : Hid (Below w.heap.size w w11) := HB10.out.trans (HBN.out.mono HB4.out.size)
 have HW11 : Hid (Below w3.heap.size w3 w11) := HW10.out.trans (HBN.out.mono (Nat.le_of_lt HL2.out))
 have HSM : Hid (SlT w11 adG (mkT 1 qg)) := hsm
 clear hsm hc11 HBN HSG10 HOG10
 go_wp2_with fail
 refine (heldTypeS_any adG capG qg 1 _ HSM.out HQL.out hqlen (by omega) HQWT.out).mono ?_
 rintro e w12 ⟨he, hb12⟩
 rw [← HM1.out] at he
 subst he
 have HB12 : Hid (Below w.heap.size w w12) := HB11.out.trans (hb12.mono HB11.out.size)
 have HW12 : Hid (Below w3.heap.size w3 w12) := HW11.out.trans (hb12.mono HW11.out.size)
 have HSM12 : Hid (SlT w12 adG (mkT 1 qg)) := HSM.out.below hb12
 have hM1n : ¬ (M1 : Int) < 0 := by omega
 clear hb12 HSM
 go_wp2_with fail
 refine (toTypeS_any ad cap rs _ hlen (HS.out.below HB12.out) HL.out).mono ?_
 rintro e w13 ⟨rs4, rfl, he4, hs4, hc4, hnw4, hb13⟩
 have HB13 : Hid (Below w.heap.size w w13) := HB12.out.trans (hb13.mono HB12.out.size)
 have HW13 : Hid (Below w3.heap.size w3 w13) := HW12.out.trans (hb13.mono HW12.out.size)
 have HE4 : Hid (tys rs4 = tys rs) := he4
 have HS13 : Hid (SlT w13 (some ⟨w12.heap.size, 0, none⟩) rs4) := hs4
 have HC4 : Hid (∀ r ∈ rs4, r.caps) := hc4
 have HSM13 : Hid (SlT w13 adG (mkT 1 qg)) := HSM12.out.below hb13
 clear he4 hs4 hc4 hb13 hnw4 HSM12
 go_wp2_with fail
 refine (implRenamed_any _ _ rs4 typ frm too _ (by rw [lenP HE4.out]; exact hlen) HS13.out (lightP HE4.out HL.out) (fitsP HE4.out HF.out) HC4.out h0 h1 h2).mono ?_
 rintro e w14 ⟨vH, qh, he, hqh, hth, hb14⟩
 rw [HE4.out, HD.out] at he hqh
 rw [HFL.out] at he
 subst he
 obtain ⟨adH, capH, rfl, hsh, -⟩ := TypM.read hth
 have HB14 : Hid (Below w.heap.size w w14) := HB13.out.trans (hb14.mono HB13.out.size)
 have HW14 : Hid (Below w3.heap.size w3 w14) := HW13.out.trans (hb14.mono HW13.out.size)
 have HQH : Hid (tys qh = D.getD []) := hqh
 have HSH : Hid (SlT w14 adH qh) := hsh
 have HSM14 : Hid (SlT w14 adG (mkT 1 qg)) := HSM13.out.below hb14
 have hsmallh := ans_small HSHP.out hqh
 have hhlen : qh.length ≤ 1048576 := hsmallh.1
 have HHL : Hid (∀ r ∈ qh, r.light) := hsmallh.2.1
 clear hb14 hqh hsh hth hsmallh HSM13 HS13 HC4
 go_wp2_with fail
 refine (eqTypeS_same _ _ _ _ qh qw _ hhlen (by rw [HQW.out, HQH.out]) HSH.out (HSW.out.below HW14.out) HHL.out).mono ?_
 rintro e w15 ⟨rfl, hb15⟩
 have HB15 : Hid (Below w.heap.size w w15) := HB14.out.trans (hb15.mono HB14.out.size)
 have HSM15 : Hid (SlT w15 adG (mkT 1 qg)) := HSM14.out.below hb15
 clear hb15 HSM14 HSH
 go_wp2_with fail
 refine (heldTypeS_any adG capG qg 1 _ HSM15.out HQL.out hqlen (by omega) HQWT.out).mono ?_
 rintro e w16 ⟨he, hb16⟩
 rw [← HM1.out] at he
 subst he
 have HB16 : Hid (Below w.heap.size w w16) := HB15.out.trans (hb16.mono HB15.out.size)
 clear hb16 HSM15
 go_wp2
 go_ret
 exact ⟨rfl, HB16.out⟩
theorem own : ownKnob Tryz.prog.godebug = none := by kernel_rfl
theorem laidOut : laidOutB Tryz.prog = true := by kernel_rfl
set_option maxRecDepth 100000 in
theorem lifted (os : Os) (started : os.Started) (H : Type) (enc : TypeId × Value → H) :
  ReturnsInHanded {} Tryz.checked os 3 .any (Rows.fnExactRenamedSpec.pre6 enc Tryz.prog Tryz.f3 Rows.fnExactRenamedRow.domain false) (Rows.fnExactRenamedSpec.post enc Tryz.prog Tryz.f3 false true false false) := by
 refine returnsInHanded_of_change (C := Tryz.checked) own started (by kernel_rfl) Tryz.func3
  (ChangeSpec.witness6 (enc := enc) (C := Tryz.checked) false ⟨#[], #[.slice none 0 0, .string ByteArray.empty, .string ByteArray.empty, .string ByteArray.empty], []⟩ 8 (by kernel_rfl) (by kernel_rfl) (by kernel_rfl) (by kernel_rfl)) ?_
 intro W base args ds gs before hval0 hW hcnd _
 have hval : ∀ (j : Nat) t v, Tryz.f3.params[j]? = some t → args[j]? = some v → Value.okWide Tryz.prog W .any base t v := hval0
 have hW' := hW
 obtain ⟨p, q, hA0, hV, rfl, hfz, hnd⟩ := hW
 have hA : DataW.TrodAll enc Tryz.prog W 0 (fun _ => true) true Tryz.f3.params.toList args.toList ds p := hA0
 rw [Tryz.params3] at hA hval
 obtain ⟨v0, vs0, d0, ds0, p0, q0, hargs, rfl, rfl, h0, r0⟩ := trodAll_cons hA
 obtain ⟨v1, vs1, d1, ds1, p1, q1, rfl, rfl, rfl, h1, r1⟩ := trodAll_cons r0
 obtain ⟨v2, vs2, d2, ds2, p2, q2, rfl, rfl, rfl, h2, r2⟩ := trodAll_cons r1
 obtain ⟨v3, vs3, d3, ds3, p3, q3, rfl, rfl, rfl, h3, r3⟩ := trodAll_cons r2
 obtain ⟨rfl, rfl, rfl⟩ := trodAll_nil r3
 obtain rfl : args = #[v0, v1, v2, v3] := by cases args; simp_all
 obtain ⟨rfl, rfl⟩ := trodVars_none hV
 have k0 := h0
 have lt0 : ∀ x ∈ p0, x.block < W.heap.size := by obtain ⟨m, hm⟩ := k0; exact DataW.trod_lt m _ _ _ hm
 obtain ⟨ad0, len0, cap0, hv0⟩ := okWide_slice Tryz.underlying22 (hval 0 22 v0 rfl rfl)
 subst hv0
 obtain ⟨fuel0, hf0⟩ := h0
 obtain ⟨rs0, hl0, hsl0, hft0, hm0⟩ := open_types (by simpa [Value.cells] using hf0)
 subst hl0
 have k1 := h1
 have lt1 : ∀ x ∈ p1, x.block < W.heap.size := by obtain ⟨m, hm⟩ := k1; exact DataW.trod_lt m _ _ _ hm
 obtain ⟨s1, hv1, -, -, hs1⟩ := open_string Tryz.underlying9 (hval 1 9 v1 rfl rfl) h1
 subst hv1
 have k2 := h2
 have lt2 : ∀ x ∈ p2, x.block < W.heap.size := by obtain ⟨m, hm⟩ := k2; exact DataW.trod_lt m _ _ _ hm
 obtain ⟨s2, hv2, -, -, hs2⟩ := open_string Tryz.underlying9 (hval 2 9 v2 rfl rfl) h2
 subst hv2
 have k3 := h3
 have lt3 : ∀ x ∈ p3, x.block < W.heap.size := by obtain ⟨m, hm⟩ := k3; exact DataW.trod_lt m _ _ _ hm
 obtain ⟨s3, hv3, -, -, hs3⟩ := open_string Tryz.underlying9 (hval 3 9 v3 rfl rfl) h3
 subst hv3
 clear hA0 hval0
 refine (walk ad0 cap0 rs0 s1 s2 s3 W hm0 hsl0 hft0 hs1 hs2 hs3).mono fun e W' ⟨he, bel⟩ => ?_
 subst he
 exact ⟨_, rfl, _, _, _, [], _, [], hW', trodAll_mk1 (shut_bool Tryz.underlying4 _), (trodAll_cons_mk (Below.trod laidOut (by kernel_rfl) (of_decide_eq_true (by kernel_rfl)) k0 bel lt0) (trodAll_cons_mk (Below.trod laidOut (by kernel_rfl) (of_decide_eq_true (by kernel_rfl)) k1 bel lt1) (trodAll_cons_mk (Below.trod laidOut (by kernel_rfl) (of_decide_eq_true (by kernel_rfl)) k2 bel lt2) (trodAll_cons_mk (Below.trod laidOut (by kernel_rfl) (of_decide_eq_true (by kernel_rfl)) k3 bel lt3) trodAll_mk0)))), rfl, bel.frame _, fun h => by cases h⟩
theorem over : Rows.fnExactRenamedRow.holds Tryz.pinned (OpenSpec.ofChange Rows.fnExactRenamedSpec) :=
 OpenClaim.holds_of_wide 3 Tryz.f3 rfl rfl rfl rfl rfl rfl rfl ⟨rfl, rfl, rfl, rfl, rfl⟩ rfl rfl rfl rfl rfl (by kernel_rfl) Tryz.func3 (by kernel_rfl)
  (of_decide_eq_true (by kernel_rfl)) (by unfold Func.isWrapper; first | (rw [if_pos (by decide +kernel)]; kernel_rfl) | (rw [if_neg (by decide +kernel)]; exact ⟨rfl, rfl⟩))
  (fun os started H enc _ => lifted os started H enc)
end Go.Proofs.YtmghabcaakgjiaaGreat.fnExactRenamed
namespace Go.Proofs.YtmghabcaakgjiaaGreat
theorem FnExactRenamed_holds : Rows.FnExactRenamedSaid := fnExactRenamed.over
end Go.Proofs.YtmghabcaakgjiaaGreat
