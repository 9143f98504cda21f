/- Proved here: FnExactSchemaOk answers true for every slice of types and leaves it as it was, with no condition on it. -/
import Derived.Test.YtpmgkkbkficgpaaImplSchema
import Derived.Test.YtpmgkkbkficgpaaOpenSchemas
import Derived.Test.YtpmgkkbkficgpaaSzSchema
import Derived.Test.YtpmgkkbkficgpaaToSchema
import Derived.Test.YtpmgkkbkficgpaaEqSchema
namespace Go.Proofs.Ytpmgkkbkficgpaa.fnExactSchemaOk
open Go.ChangeShapes Go.WideShapes Go.ChangeAt Go.RowKit
open Pl
set_option linter.unusedVariables false

theorem exsP {rs rs' : List ER} {p : Ex → Prop} (h : exs rs' = exs rs) (hp : ∀ r ∈ rs, p r.e) : ∀ r ∈ rs', p r.e := by
  intro r hr
  have h1 : r.e ∈ exs rs' := List.mem_map.2 ⟨r, hr, rfl⟩
  rw [h] at h1
  obtain ⟨q, hq, e⟩ := List.mem_map.1 h1
  rw [← e]
  exact hp q hq
theorem rlsP {rs rs' : List RR} (h : rls rs' = rls rs) : ∀ r ∈ rs', ∃ q ∈ rs, q.name = r.name ∧ exs r.rows = exs q.rows := by
  intro r hr
  have h1 : r.p ∈ rls rs' := List.mem_map.2 ⟨r, hr, rfl⟩
  rw [h] at h1
  obtain ⟨q, hq, e⟩ := List.mem_map.1 h1
  injection e with e1 e2
  exact ⟨q, hq, e1, e2.symm⟩
theorem tysP {rs rs' : List TR} (h : tys rs' = tys rs) : ∀ r ∈ rs', ∃ q ∈ rs, q.name = r.name ∧ rls r.rows = rls q.rows := by
  intro r hr
  have h1 : r.p ∈ tys rs' := List.mem_map.2 ⟨r, hr, rfl⟩
  rw [h] at h1
  obtain ⟨q, hq, e⟩ := List.mem_map.1 h1
  injection e with e1 e2
  exact ⟨q, hq, e1, e2.symm⟩
theorem lightP {rs rs' : List TR} (h : tys rs' = tys rs) (hl : ∀ r ∈ rs, r.light) : ∀ r ∈ rs', r.light := by
  intro r hr
  obtain ⟨q, hq, -, e⟩ := tysP h r hr
  have h1 := hl q hq
  refine ⟨by rw [← rls_len, e, rls_len]; exact h1.1, fun x hx => ?_⟩
  obtain ⟨y, hy, -, e2⟩ := rlsP e x hx
  have h2 := h1.2 y hy
  exact ⟨by rw [← exs_len, e2, exs_len]; exact h2.1, exsP e2 h2.2⟩
theorem fitsP {rs rs' : List TR} (h : tys rs' = tys rs) (hl : ∀ r ∈ rs, r.fits) : ∀ r ∈ rs', r.fits := by
  intro r hr
  obtain ⟨q, hq, en, e⟩ := tysP h r hr
  have h1 := hl q hq
  refine ⟨by rw [← en]; exact h1.1, by rw [← rls_len, e, rls_len]; exact h1.2.1, fun x hx => ?_⟩
  obtain ⟨y, hy, en2, e2⟩ := rlsP e x hx
  have h2 := h1.2.2 y hy
  exact ⟨by rw [← en2]; exact h2.1, by rw [← exs_len, e2, exs_len]; exact h2.2.1, exsP e2 h2.2.2⟩
theorem lenP {rs rs' : List TR} (h : tys rs' = tys rs) : rs'.length = rs.length := by rw [← tys_len, h, tys_len]

set_option maxHeartbeats 2000000 in
theorem walk (ad : Option Addr) (cap : Nat) (rs : List TR) (w : World) (hm : rs.length ≤ maxLen) (hs : SlT w ad rs) (hf : ∀ r ∈ rs, r.fits) :
    Calls Try.prog 5 #[.slice ad rs.length cap] w fun e w' => e = .returned (.bool true) ∧ Below w.heap.size w w' := by
  have HS : Hid (SlT w ad rs) := hs
  have HF : Hid (∀ r ∈ rs, r.fits) := hf
  clear hs hf
  go_enter Try.func5, Try.ntmps5
  go_wp2_with fail
  refine (szTypeS_any ad cap rs 1048576 _ hm HS.out HF.out (by omega) (by omega)).mono ?_
  rintro e w1 ⟨⟨n, rfl, hn⟩, hb1⟩
  have HB1 : Hid (Below w.heap.size w w1) := hb1
  clear hb1
  rcases hn with rfl | ⟨hn0, hn1, hn2, hn3⟩
  · go_wp2
    go_ret
    exact ⟨rfl, HB1.out⟩
  have HL : Hid (∀ r ∈ rs, r.light) := hn3
  have hlen : rs.length ≤ 1048576 := by omega
  obtain ⟨v, hv⟩ : ∃ v, schemaD (tys rs) = v := ⟨_, rfl⟩
  have HV : Hid (schemaD (tys rs) = v) := hv
  clear hn3 hn2 hv
  go_wp2_with fail
  refine (toTypeS_any ad cap rs _ hlen (HS.out.below HB1.out) HL.out).mono ?_
  rintro e w2 ⟨rs1, rfl, he1, hs1, hc1, -, hb2⟩
  have HB2 : Hid (Below w.heap.size w w2) := HB1.out.trans (hb2.mono HB1.out.size)
  have HE1 : Hid (tys rs1 = tys rs) := he1
  have HS1 : Hid (SlT w2 (some ⟨w1.heap.size, 0, none⟩) rs1) := hs1
  clear he1 hs1 hc1 hb2
  go_wp2_with fail
  refine (specSchemaOk_any _ _ rs1 _ (by rw [lenP HE1.out]; exact hlen) HS1.out (lightP HE1.out HL.out) (fitsP HE1.out HF.out)).mono ?_
  rintro e w3 ⟨he, hb3⟩
  rw [HE1.out, HV.out] at he
  subst he
  have HB3 : Hid (Below w.heap.size w w3) := HB2.out.trans (hb3.mono HB2.out.size)
  clear hb3 HS1
  go_wp2_with fail
  refine (toTypeS_any ad cap rs _ hlen (HS.out.below HB3.out) HL.out).mono ?_
  rintro e w4 ⟨rs2, rfl, he2, hs2, hc2, -, hb4⟩
  have HB4 : Hid (Below w.heap.size w w4) := HB3.out.trans (hb4.mono HB3.out.size)
  have HE2 : Hid (tys rs2 = tys rs) := he2
  have HS2 : Hid (SlT w4 (some ⟨w3.heap.size, 0, none⟩) rs2) := hs2
  have HC2 : Hid (∀ r ∈ rs2, r.caps) := hc2
  clear he2 hs2 hc2 hb4
  go_wp2_with fail
  refine (implSchemaOk_any _ _ rs2 _ (by rw [lenP HE2.out]; exact hlen) HS2.out (lightP HE2.out HL.out) (fitsP HE2.out HF.out) HC2.out).mono ?_
  rintro e w5 ⟨he, hb5⟩
  rw [HE2.out, HV.out] at he
  subst he
  have HB5 : Hid (Below w.heap.size w w5) := HB4.out.trans (hb5.mono HB4.out.size)
  have HS3 : Hid (SlT w5 (some ⟨w3.heap.size, 0, none⟩) rs2) := HS2.out.below hb5
  clear hb5 HS2
  go_wp2_with fail
  refine (toTypeS_any ad cap rs _ hlen (HS.out.below HB5.out) HL.out).mono ?_
  rintro e w6 ⟨rs3, rfl, he3, hs3, hc3, -, hb6⟩
  have HB6 : Hid (Below w.heap.size w w6) := HB5.out.trans (hb6.mono HB5.out.size)
  have HE3 : Hid (tys rs3 = tys rs) := he3
  have HS4 : Hid (SlT w6 (some ⟨w5.heap.size, 0, none⟩) rs3) := hs3
  have HS5 : Hid (SlT w6 (some ⟨w3.heap.size, 0, none⟩) rs2) := HS3.out.below hb6
  clear he3 hs3 hc3 hb6 HS3
  go_wp2_with fail
  refine (eqTypeS_same _ _ _ _ rs2 rs3 _ (by rw [lenP HE2.out]; exact hlen) (by rw [HE3.out, HE2.out]) HS5.out HS4.out (lightP HE2.out HL.out)).mono ?_
  rintro e w7 ⟨rfl, hb7⟩
  have HB7 : Hid (Below w.heap.size w w7) := HB6.out.trans (hb7.mono HB6.out.size)
  clear hb7
  go_wp2
  go_ret
  exact ⟨rfl, HB7.out⟩

theorem own : ownKnob Try.prog.godebug = none := by kernel_rfl
theorem laidOut : laidOutB Try.prog = true := by kernel_rfl

set_option maxRecDepth 100000 in
theorem lifted (os : Os) (started : os.Started) (H : Type) (enc : TypeId × Value → H) :
    ReturnsInHanded {} Try.checked os 5 .any (Rows.fnExactSchemaOkSpec.pre6 enc Try.prog Try.f5 Rows.fnExactSchemaOkRow.domain false) (Rows.fnExactSchemaOkSpec.post enc Try.prog Try.f5 false true false false) := by
  refine returnsInHanded_of_change (C := Try.checked) own started (by kernel_rfl) Try.func5
    (ChangeSpec.witness6 (enc := enc) (C := Try.checked) false ⟨#[], #[.slice none 0 0], []⟩ 8 (by kernel_rfl) (by kernel_rfl) (by kernel_rfl) (by kernel_rfl)) ?_
  intro W base args ds gs before hval0 hW hcnd _
  have hval : ∀ (j : Nat) t v, Try.f5.params[j]? = some t → args[j]? = some v → Value.okWide Try.prog W .any base t v := hval0
  have hW' := hW
  obtain ⟨p, q, hA0, hV, rfl, hfz, hnd⟩ := hW
  have hA : DataW.TrodAll enc Try.prog W 0 (fun _ => true) true Try.f5.params.toList args.toList ds p := hA0
  rw [Try.params5] at hA hval
  obtain ⟨v0, vs0, d0, ds0, p0, q0, hargs, rfl, rfl, h0, r0⟩ := trodAll_cons hA
  obtain ⟨rfl, rfl, rfl⟩ := trodAll_nil r0
  obtain rfl : args = #[v0] := by cases args; simp_all
  obtain ⟨rfl, rfl⟩ := trodVars_none hV
  have k0 := h0
  have lt0 : ∀ x ∈ p0, x.block < W.heap.size := by obtain ⟨m, hm⟩ := k0; exact DataW.trod_lt m _ _ _ hm
  obtain ⟨ad0, len0, cap0, hv0⟩ := okWide_slice Try.underlying30 (hval 0 30 v0 rfl rfl)
  subst hv0
  obtain ⟨fuel0, hf0⟩ := h0
  obtain ⟨rs0, hl0, hsl0, hft0, hm0⟩ := open_types (by simpa [Value.cells] using hf0)
  subst hl0
  clear hA0 hval0
  refine (walk ad0 cap0 rs0 W hm0 hsl0 hft0).mono fun e W' ⟨he, bel⟩ => ?_
  subst he
  exact ⟨_, rfl, _, _, _, [], _, [], hW', trodAll_mk1 (shut_bool Try.underlying4 _), (trodAll_cons_mk (Below.trod laidOut (by kernel_rfl) (of_decide_eq_true (by kernel_rfl)) k0 bel lt0) trodAll_mk0), rfl, bel.frame _, fun h => by cases h⟩

theorem over : Rows.fnExactSchemaOkRow.holds Try.pinned (OpenSpec.ofChange Rows.fnExactSchemaOkSpec) :=
  OpenClaim.holds_of_wide 5 Try.f5 rfl rfl rfl rfl rfl rfl rfl ⟨rfl, rfl, rfl, rfl, rfl⟩ rfl rfl rfl rfl rfl (by kernel_rfl) Try.func5 (by kernel_rfl)
    (of_decide_eq_true (by kernel_rfl)) (by unfold Func.isWrapper; first | (rw [if_pos (by decide +kernel)]; kernel_rfl) | (rw [if_neg (by decide +kernel)]; exact ⟨rfl, rfl⟩))
    (fun os started H enc _ => lifted os started H enc)

end Go.Proofs.Ytpmgkkbkficgpaa.fnExactSchemaOk
namespace Go.Proofs.Ytpmgkkbkficgpaa
theorem FnExactSchemaOk_holds : Rows.FnExactSchemaOkSaid := fnExactSchemaOk.over
end Go.Proofs.Ytpmgkkbkficgpaa
