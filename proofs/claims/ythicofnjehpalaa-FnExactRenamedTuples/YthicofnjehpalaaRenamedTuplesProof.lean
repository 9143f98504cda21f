/- Proved here: FnExactRenamedTuples answers true for every list of tuples and every three strings and leaves them as they were, with no condition on them. -/
import Derived.Test.YthicofnjehpalaaRenTups
import Derived.Test.YthicofnjehpalaaOwnTup
import Derived.Test.YthicofnjehpalaaToTupS
import Derived.Test.YthicofnjehpalaaOpenTups
import Derived.Test.YthicofnjehpalaaLawTup
namespace Go.Proofs.Ythicofnjehpalaa.fnExactRenamedTuples
open Go.ChangeShapes Go.WideShapes Go.ChangeAt Go.RowKit Go.Joins
open Go.ChangeMaps (open_string shut_string)
open Pl
set_option linter.unusedVariables false

set_option maxRecDepth 100000 in
set_option maxHeartbeats 8000000 in
theorem walk (ad : Option Addr) (cap : Nat) (ts : List Tp) (typ frm to : ByteArray) (w : World) (hm : ts.length ≤ maxLen) (hs : Sl w ad ts) (hf : ∀ x ∈ ts, x.fits) (h1 : typ.size ≤ maxLen) (h2 : frm.size ≤ maxLen) (h3 : to.size ≤ maxLen) :
    Calls Try.prog 3 #[.slice ad ts.length cap, .string typ, .string frm, .string to] w fun e w' => e = .returned (.bool true) ∧ Below w.heap.size w w' := by
  have HS := HID hs
  have HF := HID hf
  have HTO := HID h3
  clear hs hf
  have ht1 := h1
  have ht2 := h2
  have ht3 := h3
  unfold maxLen at ht1 ht2 ht3
  by_cases g1 : 1048576 < typ.size
  · go_enter Try.func3, Try.ntmps3
    go_wp2
    go_ret
    exact ⟨rfl, Below.refl _ _⟩
  by_cases g2 : 1048576 < frm.size
  · go_enter Try.func3, Try.ntmps3
    go_wp2
    go_ret
    exact ⟨rfl, Below.refl _ _⟩
  by_cases g3 : 1048576 < to.size
  · go_enter Try.func3, Try.ntmps3
    go_wp2
    go_ret
    exact ⟨rfl, Below.refl _ _⟩
  go_enter Try.func3, Try.ntmps3
  go_wp2_with fail
  refine (szTupleS_any ad cap ts 1048576 _ hm HS.out HF.out (by omega) (by omega)).mono ?_
  rintro e w1 ⟨⟨n, rfl, hn⟩, hb1⟩
  have HB1 := HID hb1
  clear hb1
  rcases hn with rfl | ⟨hn0, hn1, hn2⟩
  · go_wp2
    go_ret
    exact ⟨rfl, HB1.out⟩
  have hlen : ts.length ≤ 1048576 := by omega
  clear hn2
  obtain ⟨L, hL⟩ : ∃ L, rnL typ frm to ts = L := ⟨_, rfl⟩
  have HLL := HID hL
  have hl2 : L.length ≤ 1048576 := by rw [← hL]; exact rnL_len typ frm to hlen
  have hll : L.length ≤ maxLen := by unfold maxLen; omega
  clear hL
  go_wp2_with fail
  refine (toTupleS_any ad cap ts _ hlen (HS.out.below HB1.out)).mono ?_
  rintro e w2 ⟨rfl, F2⟩
  have HF2 := HID F2
  have HB2 : Hid (Below w.heap.size w w2) := HB1.out.trans (F2.below.mono HB1.out.size)
  clear F2
  go_wp2_with fail
  refine (specRenTups_any _ 0 _ ts typ frm to _ hlen HF2.out.row HF2.out.lt HF.out HTO.out).mono ?_
  rintro e w5 ⟨ad5, cap5, he, hs5, hb5⟩
  rw [HLL.out] at he hs5
  subst he
  have HB5 : Hid (Below w.heap.size w w5) := HB2.out.trans (hb5.mono HB2.out.size)
  have HL5 := HID hs5
  clear hb5 hs5 HF2
  have s5 : w.heap.size ≤ w5.heap.size := HB5.out.size
  go_wp2_with fail
  refine (toTupleS_any ad cap ts _ hlen (HS.out.below HB5.out)).mono ?_
  rintro e w7 ⟨rfl, F7⟩
  have HF7 := HID F7
  have HB7 : Hid (Below w.heap.size w w7) := HB5.out.trans (F7.below.mono s5)
  have HL7 : Hid (Sl w7 ad5 L) := HL5.out.below F7.below
  have s7 : w5.heap.size < w7.heap.size := F7.lt
  clear F7 HB5
  go_wp2_with fail
  refine (implRenTups_any _ _ ts typ frm to _ hlen HF7.out.sl HF.out HTO.out).mono ?_
  rintro e w8 ⟨ad8, cap8, he, hO8, hb8⟩
  rw [HLL.out] at he hO8
  subst he
  have HF8 := HID (HF7.out.later hb8)
  have HB8 : Hid (Below w.heap.size w w8) := HB7.out.trans (hb8.mono HB7.out.size)
  have HL8 : Hid (Sl w8 ad5 L) := HL7.out.below hb8
  have HO8 : Hid (OwnL w7.heap.size w8 ad8 L) := hO8
  clear hb8 hO8 HB7 HF7 HL7
  go_wp2_with fail
  refine (eqTupleS_any ad8 ad5 cap8 cap5 L _ hll HO8.out.1 HL8.out).mono ?_
  rintro e w9 ⟨rfl, hb9⟩
  have HF9 := HID (HF8.out.later hb9)
  have HB9 : Hid (Below w.heap.size w w9) := HB8.out.trans (hb9.mono HB8.out.size)
  have HL9 : Hid (Sl w9 ad5 L) := HL8.out.below hb9
  have HO9 : Hid (OwnL w7.heap.size w9 ad8 L) := HO8.out.later hb9
  clear hb9 HB8 HF8 HL8 HO8
  go_wp2_with fail
  refine (toTupleS_any ad cap ts _ hlen (HS.out.below HB9.out)).mono ?_
  rintro e w10 ⟨rfl, F10⟩
  have HF10 := HID (HF9.out.later F10.below)
  have HB10 : Hid (Below w.heap.size w w10) := HB9.out.trans (F10.below.mono HB9.out.size)
  have HL10 : Hid (Sl w10 ad5 L) := HL9.out.below F10.below
  have HO10 : Hid (OwnL w7.heap.size w10 ad8 L) := HO9.out.later F10.below
  have HG10 := HID F10.sl
  clear F10 HB9 HF9 HL9 HO9
  go_wp2_with fail
  refine (eqTupleS_any _ _ _ _ ts _ hm HF10.out.sl HG10.out).mono ?_
  rintro e w11 ⟨rfl, hb11⟩
  have HF11 := HID (HF10.out.later hb11)
  have HB11 : Hid (Below w.heap.size w w11) := HB10.out.trans (hb11.mono HB10.out.size)
  have HL11 : Hid (Sl w11 ad5 L) := HL10.out.below hb11
  have HO11 : Hid (OwnL w7.heap.size w11 ad8 L) := HO10.out.later hb11
  clear hb11 HB10 HF10 HL10 HO10 HG10
  go_wp2_with fail
  refine (markTupleS_any _ _ ts 1 _ HF11.out.sl (fun _ => ⟨_, rfl, HF11.out.free⟩) (by omega) (by omega)).mono ?_
  rintro e w12 ⟨rfl, -, hc12⟩
  have HB12 : Hid (Below w.heap.size w w12) := HB11.out.trans (hc12.below (fun g hg => by obtain ⟨-, e⟩ := hg; injection e with e; injection e with e; omega) HB11.out.size)
  have HL12 : Hid (Sl w12 ad5 L) := HL11.out.chg hc12 (fun g o hne e hg => by
    obtain ⟨-, e2⟩ := hg
    injection e2 with e2; injection e2 with e2 e3
    have := sl_lt HL5.out hne e
    omega)
  have HO12 : Hid (OwnL w7.heap.size w12 ad8 L) := HO11.out.chg hc12 (fun g hge hg => by
    obtain ⟨-, e2⟩ := hg
    injection e2 with e2; injection e2 with e2 e3
    omega)
  have hk1 : ¬ ((1 + 6 * ts.length : Nat) : Int) < 0 := by omega
  clear hc12 HB11 HF11 HL11 HO11
  go_wp2_with fail
  refine (eqTupleS_any ad8 ad5 cap8 cap5 L _ hll HO12.out.1 HL12.out).mono ?_
  rintro e w13 ⟨rfl, hb13⟩
  have HB13 : Hid (Below w.heap.size w w13) := HB12.out.trans (hb13.mono HB12.out.size)
  have HL13 : Hid (Sl w13 ad5 L) := HL12.out.below hb13
  have HO13 : Hid (OwnL w7.heap.size w13 ad8 L) := HO12.out.later hb13
  clear hb13 HB12 HL12 HO12
  go_wp2_with fail
  refine (markTupleS_any ad8 cap8 L 1 _ HO13.out.1 (fun h => by obtain ⟨g, e, -, hfr⟩ := HO13.out.2 h; exact ⟨g, e, hfr⟩) (by omega) (by omega)).mono ?_
  rintro e w14 ⟨rfl, hs14, hc14⟩
  have HM14 := HID hs14
  have hfar : ∀ g, (L ≠ [] ∧ ad8 = some ⟨g, 0, none⟩) → w7.heap.size ≤ g := fun g hg => by
    obtain ⟨g', e, h1, -⟩ := HO13.out.2 hg.1
    have e2 := hg.2
    rw [e] at e2; injection e2 with e2; injection e2 with e2 e3; omega
  have HB14 : Hid (Below w.heap.size w w14) := HB13.out.trans (hc14.below (fun g hg => by have := hfar g hg; omega) HB13.out.size)
  have HL14 : Hid (Sl w14 ad5 L) := HL13.out.chg hc14 (fun g o hne e hg => by
    have := hfar g hg
    have := sl_lt HL5.out hne e
    omega)
  clear hs14 hc14 hfar HB13 HL13 HO13
  go_wp2_with fail
  refine (heldTupleS_any ad8 cap8 L 1 _ HM14.out (by omega) (by omega)).mono ?_
  rintro e w15 ⟨rfl, hb15⟩
  have HB15 : Hid (Below w.heap.size w w15) := HB14.out.trans (hb15.mono HB14.out.size)
  have HL15 : Hid (Sl w15 ad5 L) := HL14.out.below hb15
  have HM15 : Hid (Sl w15 ad8 (mkT 1 L)) := HM14.out.below hb15
  have hk2 : ¬ ((1 + 6 * L.length : Nat) : Int) < 0 := by omega
  clear hb15 HB14 HL14 HM14
  go_wp2_with fail
  refine (toTupleS_any ad cap ts _ hlen (HS.out.below HB15.out)).mono ?_
  rintro e w16 ⟨rfl, F16⟩
  have HF16 := HID F16
  have HB16 : Hid (Below w.heap.size w w16) := HB15.out.trans (F16.below.mono HB15.out.size)
  have HL16 : Hid (Sl w16 ad5 L) := HL15.out.below F16.below
  have HM16 : Hid (Sl w16 ad8 (mkT 1 L)) := HM15.out.below F16.below
  clear F16 HB15 HL15 HM15
  go_wp2_with fail
  refine (implRenTups_any _ _ ts typ frm to _ hlen HF16.out.sl HF.out HTO.out).mono ?_
  rintro e w18 ⟨ad18, cap18, he, hO18, hb18⟩
  rw [HLL.out] at he hO18
  subst he
  have HB18 : Hid (Below w.heap.size w w18) := HB16.out.trans (hb18.mono HB16.out.size)
  have HL18 : Hid (Sl w18 ad5 L) := HL16.out.below hb18
  have HM18 : Hid (Sl w18 ad8 (mkT 1 L)) := HM16.out.below hb18
  have HO18 := HID hO18.1
  clear hb18 hO18 HB16 HL16 HM16 HF16
  go_wp2_with fail
  refine (eqTupleS_any ad18 ad5 cap18 cap5 L _ hll HO18.out HL18.out).mono ?_
  rintro e w19 ⟨rfl, hb19⟩
  have HB19 : Hid (Below w.heap.size w w19) := HB18.out.trans (hb19.mono HB18.out.size)
  have HM19 : Hid (Sl w19 ad8 (mkT 1 L)) := HM18.out.below hb19
  clear hb19 HB18 HL18 HM18 HO18
  go_wp2_with fail
  refine (heldTupleS_any ad8 cap8 L 1 _ HM19.out (by omega) (by omega)).mono ?_
  rintro e w20 ⟨rfl, hb20⟩
  have HB20 : Hid (Below w.heap.size w w20) := HB19.out.trans (hb20.mono HB19.out.size)
  clear hb20 HB19 HM19
  go_wp2
  go_ret
  exact ⟨rfl, HB20.out⟩

theorem own : ownKnob Try.prog.godebug = none := by kernel_rfl
theorem laidOut : laidOutB Try.prog = true := by kernel_rfl

set_option maxRecDepth 100000 in
theorem lifted (os : Os) (started : os.Started) (H : Type) (enc : TypeId × Value → H) :
    ReturnsInHanded {} Try.checked os 3 .any (Rows.fnExactRenamedTuplesSpec.pre6 enc Try.prog Try.f3 Rows.fnExactRenamedTuplesRow.domain false) (Rows.fnExactRenamedTuplesSpec.post enc Try.prog Try.f3 false true false false) := by
  refine returnsInHanded_of_change (C := Try.checked) own started (by kernel_rfl) Try.func3
    (ChangeSpec.witness6 (enc := enc) (C := Try.checked) false ⟨#[], #[.slice none 0 0, .string ByteArray.empty, .string ByteArray.empty, .string ByteArray.empty], []⟩ 8 (by kernel_rfl) (by kernel_rfl) (by kernel_rfl) (by kernel_rfl)) ?_
  intro W base args ds gs before hval0 hW hcnd _
  have hval : ∀ (j : Nat) t v, Try.f3.params[j]? = some t → args[j]? = some v → Value.okWide Try.prog W .any base t v := hval0
  have hW' := hW
  obtain ⟨p, q, hA0, hV, rfl, hfz, hnd⟩ := hW
  have hA : DataW.TrodAll enc Try.prog W 0 (fun _ => true) true Try.f3.params.toList args.toList ds p := hA0
  rw [Try.params3] at hA hval
  obtain ⟨v0, vs0, d0, ds0, p0, q0, hargs, rfl, rfl, h0, r0⟩ := trodAll_cons hA
  obtain ⟨v1, vs1, d1, ds1, p1, q1, rfl, rfl, rfl, h1, r1⟩ := trodAll_cons r0
  obtain ⟨v2, vs2, d2, ds2, p2, q2, rfl, rfl, rfl, h2, r2⟩ := trodAll_cons r1
  obtain ⟨v3, vs3, d3, ds3, p3, q3, rfl, rfl, rfl, h3, r3⟩ := trodAll_cons r2
  obtain ⟨rfl, rfl, rfl⟩ := trodAll_nil r3
  obtain rfl : args = #[v0, v1, v2, v3] := by cases args; simp_all
  obtain ⟨rfl, rfl⟩ := trodVars_none hV
  have k0 := h0
  have lt0 : ∀ x ∈ p0, x.block < W.heap.size := by obtain ⟨m, hm⟩ := k0; exact DataW.trod_lt m _ _ _ hm
  obtain ⟨ad0, len0, cap0, hv0⟩ := okWide_slice Try.underlying22 (hval 0 22 v0 rfl rfl)
  subst hv0
  obtain ⟨fuel0, hf0⟩ := h0
  obtain ⟨ts0, hl0, hsl0, hft0, hm0⟩ := open_tups (by simpa [Value.cells] using hf0)
  subst hl0
  have k1 := h1
  have lt1 : ∀ x ∈ p1, x.block < W.heap.size := by obtain ⟨m, hm⟩ := k1; exact DataW.trod_lt m _ _ _ hm
  obtain ⟨s1, hv1, -, -, hs1⟩ := open_string Try.underlying9 (hval 1 9 v1 rfl rfl) h1
  subst hv1
  have k2 := h2
  have lt2 : ∀ x ∈ p2, x.block < W.heap.size := by obtain ⟨m, hm⟩ := k2; exact DataW.trod_lt m _ _ _ hm
  obtain ⟨s2, hv2, -, -, hs2⟩ := open_string Try.underlying9 (hval 2 9 v2 rfl rfl) h2
  subst hv2
  have k3 := h3
  have lt3 : ∀ x ∈ p3, x.block < W.heap.size := by obtain ⟨m, hm⟩ := k3; exact DataW.trod_lt m _ _ _ hm
  obtain ⟨s3, hv3, -, -, hs3⟩ := open_string Try.underlying9 (hval 3 9 v3 rfl rfl) h3
  subst hv3
  clear hA0 hval0
  refine (walk ad0 cap0 ts0 s1 s2 s3 W hm0 hsl0 hft0 hs1 hs2 hs3).mono fun e W' ⟨he, bel⟩ => ?_
  subst he
  exact ⟨_, rfl, _, _, _, [], _, [], hW', trodAll_mk1 (shut_bool Try.underlying4 _), (trodAll_cons_mk (Below.trod laidOut (by kernel_rfl) (of_decide_eq_true (by kernel_rfl)) k0 bel lt0) (trodAll_cons_mk (Below.trod laidOut (by kernel_rfl) (of_decide_eq_true (by kernel_rfl)) k1 bel lt1) (trodAll_cons_mk (Below.trod laidOut (by kernel_rfl) (of_decide_eq_true (by kernel_rfl)) k2 bel lt2) (trodAll_cons_mk (Below.trod laidOut (by kernel_rfl) (of_decide_eq_true (by kernel_rfl)) k3 bel lt3) trodAll_mk0)))), rfl, bel.frame _, fun h => by cases h⟩

theorem over : Rows.fnExactRenamedTuplesRow.holds Try.pinned (OpenSpec.ofChange Rows.fnExactRenamedTuplesSpec) :=
  OpenClaim.holds_of_wide 3 Try.f3 rfl rfl rfl rfl rfl rfl rfl ⟨rfl, rfl, rfl, rfl, rfl⟩ rfl rfl rfl rfl rfl (by kernel_rfl) Try.func3 (by kernel_rfl)
    (of_decide_eq_true (by kernel_rfl)) (by unfold Func.isWrapper; first | (rw [if_pos (by decide +kernel)]; kernel_rfl) | (rw [if_neg (by decide +kernel)]; exact ⟨rfl, rfl⟩))
    (fun os started H enc _ => lifted os started H enc)

end Go.Proofs.Ythicofnjehpalaa.fnExactRenamedTuples
namespace Go.Proofs.Ythicofnjehpalaa
theorem FnExactRenamedTuples_holds : Rows.FnExactRenamedTuplesSaid := fnExactRenamedTuples.over
end Go.Proofs.Ythicofnjehpalaa
