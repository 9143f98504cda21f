/- Proved here: FnExprTexts answers true for every slice of bytes and leaves it as it was, with no condition on it. -/
import Derived.Test.YtjmbgpdbnffkpaaDrawEx
import Derived.Test.YtjmbgpdbnffkpaaJ14
import Derived.Test.YtjmbgpdbnffkpaaPlainBack2
import Derived.Test.YtjmbgpdbnffkpaaImplText2
import Derived.OpenShut
import Derived.ChangeMaps5
import Derived.ShutString
namespace Go.Proofs.Ytjmbgpdbnffkpaa.fnExprTexts
open Go.ChangeShapes Go.WideShapes Go.ChangeAt Go.RowKit
open Pl
set_option linter.unusedVariables false
set_option maxRecDepth 100000

theorem ans_good {s : ByteArray} {qs : List ER} (h : exs qs = ansL s) (hc : ∀ q ∈ qs, q.e.allow.length ≤ q.capA) : GoodQ qs := by
  obtain ⟨h1, h2⟩ := ans_small s
  have hm : ∀ r ∈ qs, r.e ∈ ansL s := fun r hr => by rw [← h]; exact List.mem_map.2 ⟨r, hr, rfl⟩
  exact ⟨by rw [← exs_len, h]; exact h1, fun r hr => ⟨(h2 r.e (hm r hr)).2.1, (h2 r.e (hm r hr)).2.2, hc r hr⟩⟩
theorem implAns2 (s : ByteArray) (w : World) : Calls Try.prog 8 #[.string s] w fun e w' => ∃ ad cap qs, e = .returned (.tuple #[.slice ad qs.length cap, .bool (readB s)]) ∧ exs qs = ansL s ∧ SlE w' ad qs ∧ GoodQ qs ∧ Below w.heap.size w w' := by
  refine (implReadExpr_any s w).mono ?_
  rintro e w' ⟨hb, ⟨h1, rfl⟩ | ⟨es, v, R, qs, st, h1, rfl, hF, hx⟩⟩
  · rw [ok_spec] at h1
    have hr : readB s = false := by
      cases e : readB s with
      | false => rfl
      | true => rw [e, if_pos rfl] at h1; cases h1
    exact ⟨none, 0, [], by rw [hr]; rfl, by rw [ansL, hr]; rfl, .inl rfl, ⟨by simp, by simp⟩, hb⟩
  · rw [ok_spec] at h1
    have hr : readB s = true := by
      cases e : readB s with
      | true => rfl
      | false => rw [e, if_neg (by decide)] at h1; cases h1
    rw [hr, if_pos rfl] at h1
    injection h1 with h1
    have hcA := hF.cA
    obtain ⟨ad, cap, rfl, hsl, ho⟩ := hF.ans
    have he : exs qs = ansL s := by rw [ansL, hr, hx, ← h1]; rfl
    exact ⟨ad, cap, qs, by rw [hr], he, hsl, ans_good he hcA, hb⟩
theorem read_back {es : List Ex} (h : specE es = true) : readB (exText es) = true ∧ ansL (exText es) = es := by
  have h1 : implOk (exText es) = some es := by unfold implOk; rw [if_pos (exText_1000 h), back_text h]
  rw [ok_spec] at h1
  cases e : readB (exText es) with
  | false => rw [e, if_neg (by decide)] at h1; cases h1
  | true =>
    rw [e, if_pos rfl] at h1
    injection h1 with h1
    exact ⟨rfl, by unfold ansL; rw [e, if_pos rfl]; exact h1⟩
theorem read_none : readB ⟨#[]⟩ = false := by decide +kernel
theorem read_text {s : ByteArray} (h : readB s = true) : exText (ansL s) = s := by
  have h2 := h
  unfold readB at h2
  simp only [Bool.and_eq_true, beq_iff_eq] at h2
  unfold ansL
  rw [h, if_pos rfl]
  apply ext_data'
  have := h2.2
  rwa [Go.ByteArray.toList_eq, Go.ByteArray.toList_eq] at this
theorem drawText_any (ad : Option Addr) (len cap : Nat) (w : World) (h : Bytes w ad len) : Calls Try.prog 13 #[.slice ad len cap] w (DXPost w) := by
  have HD := toH (drawExprOk_any ad len cap w h)
  clear h
  go_enter Try.func13, Try.ntmps13
  go_wp2_with fail
  refine HD.out.mono ?_
  rintro e w' ⟨adE, capE, qs, rfl, h1, h2, h3⟩
  have HP : Hid (DXPost w (.returned (.slice adE qs.length capE)) w') := ⟨adE, capE, qs, rfl, h1, h2, h3⟩
  clear h1 h2 h3
  go_wp2
  go_ret
  exact HP.out
/-- what both sides of the first half come to -/
structure Half (qs : List ER) (S : ByteArray) (b : Bool) : Prop where
  txt : exText (exs qs) = S
  ok : implE (exs qs) = b
  rd : readB S = b
  back : b = true → ansL S = exs qs
theorem half (qs : List ER) : ∃ S b, Half qs S b := by
  cases h : specE (exs qs) with
  | true => exact ⟨_, true, rfl, by rw [← spec_impl]; exact h, (read_back h).1, fun _ => (read_back h).2⟩
  | false => exact ⟨⟨#[]⟩, false, exText_no h, by rw [← spec_impl]; exact h, read_none, fun e => by cases e⟩

set_option maxHeartbeats 8000000 in
theorem walk (ad : Option Addr) (len cap : Nat) (w : World) (h : Bytes w ad len) :
    Calls Try.prog 4 #[.slice ad len cap] w fun e w' => e = .returned (.bool true) ∧ Below w.heap.size w w' := by
  have H := toH h
  clear h
  by_cases hbig : 1048576 < len
  · have d : decide ((1048576 : Int) < (len : Int)) = true := by simp; omega
    go_enter Try.func4, Try.ntmps4
    go_wp2_with fail
    refine (big_any ad len cap _).mono ?_
    rintro e w1 ⟨rfl, rfl⟩
    rw [d]
    go_wp2
    go_ret
    exact ⟨rfl, Below.refl _ _⟩
  have d : decide ((1048576 : Int) < (len : Int)) = false := by simp; omega
  go_enter Try.func4, Try.ntmps4
  go_wp2_with fail
  refine (big_any ad len cap _).mono ?_
  rintro e w0 ⟨rfl, rfl⟩
  rw [d]
  go_wp2_with fail
  refine (drawText_any ad len cap _ H.out).mono ?_
  rintro e w1 ⟨adE, capE, qe, rfl, hG, hS, hb1⟩
  have HG := toH hG
  have HS1 := toH hS
  have HB1 := toH hb1
  have hle : qe.length ≤ 1048576 := by have := hG.1; omega
  obtain ⟨S, b, hh⟩ := half qe
  have HH := toH hh
  clear hG hS hb1 hh
  go_wp2_with fail
  refine (implExprText_any adE capE qe _ hle (fun r hr => (HG.out.2 r hr).1) (fun r hr => (HG.out.2 r hr).2.1) (fun r hr => (HG.out.2 r hr).2.2) HS1.out).mono ?_
  rintro e w2 ⟨he, hb2⟩
  rw [HH.out.txt] at he
  subst he
  have HS2 := toH (HS1.out.below hb2)
  have HB2 := toH (HB1.out.trans (hb2.mono HB1.out.size))
  clear hb2 HS1 HB1
  go_wp2_with fail
  refine (implAns2 S _).mono ?_
  rintro e w3 ⟨adF, capF, qf, he, hqf, hsf, hgf, hb3⟩
  rw [HH.out.rd] at he
  subst he
  have HS3 := toH (HS2.out.below hb3)
  have HSF := toH hsf
  have HGF := toH hgf
  have HQF := toH hqf
  have HB3 := toH (HB2.out.trans (hb3.mono HB2.out.size))
  clear hb3 hsf hgf hqf HS2 HB2
  go_wp2_with fail
  refine (specExprText_any adE capE qe _ hle (fun r hr => (HG.out.2 r hr).1) (fun r hr => (HG.out.2 r hr).2.1) HS3.out).mono ?_
  rintro e w4 ⟨he, hb4⟩
  rw [HH.out.txt] at he
  subst he
  have HS4 := toH (HS3.out.below hb4)
  have HSF4 := toH (HSF.out.below hb4)
  have HB4 := toH (HB3.out.trans (hb4.mono HB3.out.size))
  clear hb4 HS3 HSF HB3
  go_wp2_with fail
  refine (implExprOk_any adE capE qe _ hle (fun r hr => (HG.out.2 r hr).1) (fun r hr => (HG.out.2 r hr).2.1) (fun r hr => (HG.out.2 r hr).2.2) HS4.out).mono ?_
  rintro e w5 ⟨he, hb5⟩
  rw [HH.out.ok] at he
  subst he
  have HSF5 := toH (HSF4.out.below hb5)
  have HB5 := toH (HB4.out.trans (hb5.mono HB4.out.size))
  clear hb5 HS4 HSF4 HB4
  have hbb : (b != b) = false := by simp
  have HREST : Hid (∀ (w8 : World), Below w0.heap.size w0 w8 → Calls Try.prog 17 #[.slice ad len cap] w8 fun e w' => (∃ t : ByteArray, e = .returned (.string t) ∧ t.size ≤ 400) ∧ Below w8.heap.size w8 w') := fun w8 hb => drawReadExpr_any ad len cap w8 (H.out.below hb)
  cases b with
  | false =>
    go_wp2_with fail
    refine (HREST.out _ HB5.out).mono ?_
    rintro e w6 ⟨⟨t, rfl, ht⟩, hb6⟩
    have HB6 := toH (HB5.out.trans (hb6.mono HB5.out.size))
    clear hb6 HB5 HREST
    obtain ⟨B, hB⟩ : ∃ B, B = readB t := ⟨_, rfl⟩
    have HBB := toH hB
    clear hB
    go_wp2_with fail
    refine (implAns2 t _).mono ?_
    rintro e w7 ⟨adX, capX, qx, he, hqx, hsx, hgx, hb7⟩
    rw [← HBB.out] at he
    subst he
    have HSX := toH hsx
    have HGX := toH hgx
    have HQX := toH hqx
    have HB7 := toH (HB6.out.trans (hb7.mono HB6.out.size))
    clear hb7 hsx hgx hqx HB6
    go_wp2_with fail
    refine (specAns t _).mono ?_
    rintro e w8 ⟨adY, capY, qy, he, -, -, hb8⟩
    rw [← HBB.out] at he
    subst he
    have HSX8 := toH (HSX.out.below hb8)
    have HB8 := toH (HB7.out.trans (hb8.mono HB7.out.size))
    clear hb8 HSX HB7
    cases B with
    | false =>
      go_wp2
      go_ret
      exact ⟨rfl, HB8.out⟩
    | true =>
      have hlx : qx.length ≤ 1048576 := by have := HGX.out.1; omega
      have HTT : Hid (exText (exs qx) = t) := by show _ = _; rw [HQX.out]; exact read_text HBB.out.symm
      go_wp2_with fail
      refine (implExprText_any adX capX qx _ hlx (fun r hr => (HGX.out.2 r hr).1) (fun r hr => (HGX.out.2 r hr).2.1) (fun r hr => (HGX.out.2 r hr).2.2) HSX8.out).mono ?_
      rintro e w9 ⟨he, hb9⟩
      rw [HTT.out] at he
      subst he
      have HB9 := toH (HB8.out.trans (hb9.mono HB8.out.size))
      clear hb9 HSX8 HB8
      go_wp2
      go_ret
      exact ⟨rfl, HB9.out⟩
  | true =>
    have hl : qf.length = qe.length := by rw [← exs_len, HQF.out, HH.out.back rfl, exs_len]
    have hln : ((qf.length : Int) != (qe.length : Int)) = false := by rw [hl]; simp
    have hlf : qf.length ≤ 1048576 := by omega
    have HTX : Hid (exText (exs qf) = S) := by show _ = _; rw [HQF.out, HH.out.back rfl, HH.out.txt]
    clear hl
    go_wp2_with fail
    refine (implExprText_any adF capF qf _ hlf (fun r hr => (HGF.out.2 r hr).1) (fun r hr => (HGF.out.2 r hr).2.1) (fun r hr => (HGF.out.2 r hr).2.2) HSF5.out).mono ?_
    rintro e w5b ⟨he, hb5b⟩
    rw [HTX.out] at he
    subst he
    replace HB5 := toH (HB5.out.trans (hb5b.mono HB5.out.size))
    clear hb5b HSF5
    go_wp2_with fail
    refine (HREST.out _ HB5.out).mono ?_
    rintro e w6 ⟨⟨t, rfl, ht⟩, hb6⟩
    have HB6 := toH (HB5.out.trans (hb6.mono HB5.out.size))
    clear hb6 HB5 HREST
    obtain ⟨B, hB⟩ : ∃ B, B = readB t := ⟨_, rfl⟩
    have HBB := toH hB
    clear hB
    go_wp2_with fail
    refine (implAns2 t _).mono ?_
    rintro e w7 ⟨adX, capX, qx, he, hqx, hsx, hgx, hb7⟩
    rw [← HBB.out] at he
    subst he
    have HSX := toH hsx
    have HGX := toH hgx
    have HQX := toH hqx
    have HB7 := toH (HB6.out.trans (hb7.mono HB6.out.size))
    clear hb7 hsx hgx hqx HB6
    go_wp2_with fail
    refine (specAns t _).mono ?_
    rintro e w8 ⟨adY, capY, qy, he, -, -, hb8⟩
    rw [← HBB.out] at he
    subst he
    have HSX8 := toH (HSX.out.below hb8)
    have HB8 := toH (HB7.out.trans (hb8.mono HB7.out.size))
    clear hb8 HSX HB7
    cases B with
    | false =>
      go_wp2
      go_ret
      exact ⟨rfl, HB8.out⟩
    | true =>
      have hlx : qx.length ≤ 1048576 := by have := HGX.out.1; omega
      have HTT : Hid (exText (exs qx) = t) := by show _ = _; rw [HQX.out]; exact read_text HBB.out.symm
      go_wp2_with fail
      refine (implExprText_any adX capX qx _ hlx (fun r hr => (HGX.out.2 r hr).1) (fun r hr => (HGX.out.2 r hr).2.1) (fun r hr => (HGX.out.2 r hr).2.2) HSX8.out).mono ?_
      rintro e w9 ⟨he, hb9⟩
      rw [HTT.out] at he
      subst he
      have HB9 := toH (HB8.out.trans (hb9.mono HB8.out.size))
      clear hb9 HSX8 HB8
      go_wp2
      go_ret
      exact ⟨rfl, HB9.out⟩

theorem own : ownKnob Try.prog.godebug = none := by kernel_rfl
theorem laidOut : laidOutB Try.prog = true := by kernel_rfl

set_option maxRecDepth 100000 in
theorem lifted (os : Os) (started : os.Started) (H : Type) (enc : TypeId × Value → H) :
    ReturnsInHanded {} Try.checked os 4 .any (Rows.fnExprTextsSpec.pre6 enc Try.prog Try.f4 Rows.fnExprTextsRow.domain false) (Rows.fnExprTextsSpec.post enc Try.prog Try.f4 false true false false) := by
  refine returnsInHanded_of_change (C := Try.checked) own started (by kernel_rfl) Try.func4
    (ChangeSpec.witness6 (enc := enc) (C := Try.checked) false ⟨#[], #[.slice none 0 0], []⟩ 8 (by kernel_rfl) (by kernel_rfl) (by kernel_rfl) (by kernel_rfl)) ?_
  intro W base args ds gs before hval0 hW hcnd _
  have hval : ∀ (j : Nat) t v, Try.f4.params[j]? = some t → args[j]? = some v → Value.okWide Try.prog W .any base t v := hval0
  have hW' := hW
  obtain ⟨p, q, hA0, hV, rfl, hfz, hnd⟩ := hW
  have hA : DataW.TrodAll enc Try.prog W 0 (fun _ => true) true Try.f4.params.toList args.toList ds p := hA0
  rw [Try.params4] at hA hval
  obtain ⟨v0, vs0, d0, ds0, p0, q0, hargs, rfl, rfl, h0, r0⟩ := trodAll_cons hA
  obtain ⟨rfl, rfl, rfl⟩ := trodAll_nil r0
  obtain rfl : args = #[v0] := by cases args; simp_all
  obtain ⟨rfl, rfl⟩ := trodVars_none hV
  have k0 := h0
  have lt0 : ∀ x ∈ p0, x.block < W.heap.size := by obtain ⟨m, hm⟩ := k0; exact DataW.trod_lt m _ _ _ hm
  obtain ⟨ad0, len0, cap0, hv0⟩ := okWide_slice Try.underlying28 (hval 0 28 v0 rfl rfl)
  subst hv0
  obtain ⟨fuel0, hf0⟩ := h0
  have hby0 := open_bytes (by simpa [Value.cells] using hf0)
  clear hA0 hval0
  refine (walk ad0 len0 cap0 W hby0).mono fun e W' ⟨he, bel⟩ => ?_
  subst he
  exact ⟨_, rfl, _, _, _, [], _, [], hW', trodAll_mk1 (shut_bool Try.underlying4 _), (trodAll_cons_mk (Below.trod laidOut (by kernel_rfl) (of_decide_eq_true (by kernel_rfl)) k0 bel lt0) trodAll_mk0), rfl, bel.frame _, fun h => by cases h⟩

theorem over : Rows.fnExprTextsRow.holds Try.pinned (OpenSpec.ofChange Rows.fnExprTextsSpec) :=
  OpenClaim.holds_of_wide 4 Try.f4 rfl rfl rfl rfl rfl rfl rfl ⟨rfl, rfl, rfl, rfl, rfl⟩ rfl rfl rfl rfl rfl (by kernel_rfl) Try.func4 (by kernel_rfl)
    (of_decide_eq_true (by kernel_rfl)) (by unfold Func.isWrapper; first | (rw [if_pos (by decide +kernel)]; kernel_rfl) | (rw [if_neg (by decide +kernel)]; exact ⟨rfl, rfl⟩))
    (fun os started H enc _ => lifted os started H enc)

end Go.Proofs.Ytjmbgpdbnffkpaa.fnExprTexts
namespace Go.Proofs.Ytjmbgpdbnffkpaa
theorem FnExprTexts_holds : Rows.FnExprTextsSaid := fnExprTexts.over
end Go.Proofs.Ytjmbgpdbnffkpaa
