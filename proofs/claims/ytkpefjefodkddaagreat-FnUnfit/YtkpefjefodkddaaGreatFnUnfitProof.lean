/- Proved here: FnUnfit answers true for every slice of bytes and leaves it as it was, with no condition on it. -/
import Derived.Test.YtkpefjefodkddaaGreatJ23
import Derived.Test.YtkpefjefodkddaaGreatJ31
import Derived.Test.YtkpefjefodkddaaGreatJ32
import Derived.OpenShut
import Derived.ShutString
import Derived.HandedShaped
namespace Go.Proofs.YtkpefjefodkddaaGreat.fnUnfit
open Go.ChangeShapes Go.WideShapes Go.ChangeAt Go.RowKit
open Pl
set_option linter.unusedVariables false
theorem HID2 {p : Prop} (h : p) : Hid p := h
structure St (w : World) (adS adL : Option Addr) (rs : List TR) (ts : List Tp) (W : World) : Prop where
 bel : Below w.heap.size w W
 sl : SlT W adS rs
 tu : Sl W adL ts
theorem St.later {w W W' : World} {adS adL : Option Addr} {rs : List TR} {ts : List Tp} (h : St w adS adL rs ts W) (hb : Below W.heap.size W W') : St w adS adL rs ts W' :=
 ⟨h.bel.trans (hb.mono h.bel.size), h.sl.below hb, h.tu.below hb⟩
theorem drewB {B : Nat} {w w' : World} (h : Below B w w') (n : Nat) : Below B w (w'.drewN n) := ⟨h.os, h.tape, h.output, h.size, h.block⟩
theorem next_unfit {p : Tp → Bool} {ts : List Tp} {k : Nat} (h : k < ts.length) (hp : p ts[k] = true) : ∃ h2 : ((ts.take k).filter p).length < (ts.filter p).length, (ts.filter p)[((ts.take k).filter p).length] = ts[k] := by
 have e : ts.filter p = (ts.take k).filter p ++ ts[k] :: (ts.drop (k + 1)).filter p := by
  conv => lhs; rw [← List.take_append_drop k ts, List.filter_append, List.drop_eq_getElem_cons h, List.filter_cons, hp]
  rfl
 refine ⟨by rw [e]; simp, ?_⟩
 simp only [e]
 rw [List.getElem_append_right (Nat.le_refl _)]
 simp
set_option maxRecDepth 100000 in
set_option maxHeartbeats 2000000 in
theorem walk (ad : Option Addr) (len cap : Nat) (w : World) (h : Bytes w ad len) :
  Calls Tryz.prog 3 #[.slice ad len cap] w fun e w' => e = .returned (.bool true) ∧ Below w.heap.size w w' := by
 have H := HID2 h
 clear h
 go_enter Tryz.func3, Tryz.ntmps3
 go_wp2_with fail
 refine (big_any ad len cap w).mono ?_
 rintro e w0 ⟨rfl, rfl⟩
 by_cases hbig : (1048576 : Int) < (len : Int)
 ·go_wp2
  go_ret
  exact ⟨rfl, Below.refl _ _⟩
 go_wp2_with fail
 refine (drawUnfit_any ad len cap _ H.out).mono ?_
 rintro e w1 ⟨v, rs, g, c, ts, rfl, hT, ⟨hG1, hG2, hG3⟩, hl9, hsh, hown, hb1⟩
 obtain ⟨adS, capS, rfl, hs1, hcp⟩ := hT.read
 obtain ⟨adL, capL, hv, hslL, -⟩ := ownsT hown rfl
 injection hv with e1 _ e3
 subst e1 e3
 have K1 : Hid (St w0 adS (some ⟨g, 0, none⟩) rs ts w1) := ⟨hb1, hs1, hslL⟩
 have hlen : rs.length ≤ 1048576 := by omega
 have hlt : ts.length ≤ 1048576 := by omega
 have HL := HID2 hG2
 have HF := HID2 hG3
 have HC := HID2 hcp
 have HFT := HID2 hsh.fits
 obtain ⟨L, hL0⟩ : ∃ L, L = unfL (tys rs) ts := ⟨_, rfl⟩
 have hLl : L.length ≤ 1048576 := by rw [hL0]; exact unfL_len _ hlt
 have hL := HID2 hL0
 clear hT hG2 hG3 hcp hb1 hs1 hbig hslL hown hsh hL0
 go_wp2_with fail
 refine (implUnfit_any adS _ capS c rs ts _ hlen K1.out.sl HL.out HF.out HC.out hlt K1.out.tu HFT.out).mono ?_
 rintro e w2 ⟨adU, capU, rfl, hU, hb2⟩
 rw [← hL.out] at hU ⊢
 have K2 := HID2 (K1.out.later hb2)
 have HU := HID2 hU.1
 clear hU hb2 K1
 go_wp2_with fail
 refine (specUnfit_any adS _ capS c rs ts _ hlen K2.out.sl HL.out HF.out hlt K2.out.tu HFT.out).mono ?_
 rintro e w3 ⟨adV, capV, rfl, hV, hb3⟩
 rw [← hL.out] at hV ⊢
 have K3 := HID2 (K2.out.later hb3)
 have HU3 := HID2 (HU.out.below hb3)
 have HV := HID2 hV
 clear hV hb3 K2 HU
 go_wp2_with fail
 refine (sameTuples_any adU adV capU capV L _ hLl HU3.out HV.out).mono ?_
 rintro e w4 ⟨rfl, hb4⟩
 have K4 := HID2 (K3.out.later hb4)
 have HU4 := HID2 (HU3.out.below hb4)
 clear hb4 K3 HU3 HV
 go_wp2_with fail
 refine (specSchemaOk_any adS capS rs _ hlen K4.out.sl HL.out HF.out).mono ?_
 rintro e w5 ⟨rfl, hb5⟩
 have K5 := HID2 (K4.out.later hb5)
 have HU5 := HID2 (HU4.out.below hb5)
 clear hb5 K4 HU4
 cases hd : schemaD (tys rs) with
 | false =>
  obtain rfl : L = [] := by rw [hL.out]; exact unfL_no (by rw [unfB, hd]; rfl)
  go_wp2_with fail
  refine (specUnfit_any adS _ capS c rs ts _ hlen K5.out.sl HL.out HF.out hlt K5.out.tu HFT.out).mono ?_
  rintro e y1 ⟨adV2, capV2, rfl, hV2, hy1⟩
  rw [← hL.out] at hV2 ⊢
  have KY := HID2 (K5.out.later hy1)
  clear hy1 K5
  go_wp2_with fail
  refine (sameTuples_any adU adV2 capU capV2 [] _ (by simp) (.inl rfl) (.inl rfl)).mono ?_
  rintro e y2 ⟨rfl, hy2⟩
  have HBe := HID2 (KY.out.later hy2).bel
  clear hy2 KY
  go_wp2
  go_ret
  exact ⟨rfl, HBe.out⟩
 | true =>
  go_wp2_with fail
  refine (specTuplesOk_any (some ⟨g, 0, none⟩) c ts _ (by unfold maxLen; omega) K5.out.tu HFT.out).mono ?_
  rintro e w6 ⟨rfl, hb6⟩
  have K6 := HID2 (K5.out.later hb6)
  have HU6 := HID2 (HU5.out.below hb6)
  clear hb6 K5 HU5
  cases ht : tupsB ts with
  | false =>
   obtain rfl : L = [] := by rw [hL.out]; exact unfL_no (by rw [unfB, hd, ht]; rfl)
   go_wp2_with fail
   refine (specUnfit_any adS _ capS c rs ts _ hlen K6.out.sl HL.out HF.out hlt K6.out.tu HFT.out).mono ?_
   rintro e y1 ⟨adV2, capV2, rfl, hV2, hy1⟩
   rw [← hL.out] at hV2 ⊢
   have KY := HID2 (K6.out.later hy1)
   clear hy1 K6
   go_wp2_with fail
   refine (sameTuples_any adU adV2 capU capV2 [] _ (by simp) (.inl rfl) (.inl rfl)).mono ?_
   rintro e y2 ⟨rfl, hy2⟩
   have HBe := HID2 (KY.out.later hy2).bel
   clear hy2 KY
   go_wp2
   go_ret
   exact ⟨rfl, HBe.out⟩
  | true =>
   have HLF : Hid (L = ts.filter (noFit (tys rs))) := by show _ = _; rw [hL.out]; exact unfL_yes (by rw [unfB, hd, ht]; rfl)
   have HSD := HID2 hd
   clear hL ht hd
   go_wp2_with fail
   go_loopw [6, 7] (fun kv iv wr => ∃ i : Nat, i ≤ ts.length ∧ iv = .int .i64 (i : Int) ∧ kv = .int .i64 (((ts.take i).filter (noFit (tys rs))).length : Int) ∧ Hid (St w0 adS (some ⟨g, 0, none⟩) rs ts wr) ∧ Hid (Sl wr adU L)) (fun _ iv _ => ts.length - (intOf iv).toNat)
   case atStart => exact ⟨0, Nat.zero_le _, rfl, rfl, K6, HU6⟩
   case round =>
    clear K6 HU6
    obtain ⟨i, hi, rfl, rfl, KR, HUR⟩ := hrel
    by_cases hlt2 : i < ts.length
    ·have k1 : (i : Int) < (ts.length : Int) := by omega
     have k0 : (0 : Int) ≤ (i : Int) := by omega
     have hnf : noFit (tys rs) ts[i] = !fitsD (tys rs) ts[i].a ts[i].b ts[i].r ts[i].c ts[i].d ts[i].s := by rw [noFit, fitsD, HSD.out]; rfl
     have hstep := filter_take (p := noFit (tys rs)) hlt2
     obtain ⟨x1, x2, x3, x4, x5, x6⟩ := HFT.out ts[i] (List.getElem_mem hlt2)
     rcases KR.out.tu with hnil | ⟨b, off, e, hb, hr⟩
     ·rw [hnil] at hlt2; simp at hlt2
     injection e with e; injection e with e1 e2; subst e1 e2
     obtain ⟨t0, t1, t2, t3, t4, t5⟩ := hr i hlt2
     have HRow := HID2 hr
     rw [Nat.zero_add] at t0 t1 t2 t3 t4 t5
     have HNF := HID2 hnf
     have HST := HID2 hstep
     obtain ⟨n, hn⟩ : ∃ n, n = ((ts.take i).filter (noFit (tys rs))).length := ⟨_, rfl⟩
     rw [← hn]
     have HN := HID2 hn
     clear hnf hstep hn hr
     go_wp2_with fail
     refine (implFits_any adS capS rs _ _ _ _ _ _ _ hlen KR.out.sl HL.out HF.out HC.out x1 x2 x3 x4 x5 x6).mono ?_
     rintro e w7 ⟨rfl, hb7⟩
     have K7 := HID2 (KR.out.later hb7)
     have HU7 := HID2 (HUR.out.below hb7)
     have s0 := kept5 hb7 hb t0
     have s1 := kept5 hb7 hb t1
     have s2 := kept5 hb7 hb t2
     have s3 := kept5 hb7 hb t3
     have s4 := kept5 hb7 hb t4
     have s5 := kept5 hb7 hb t5
     clear hb7 KR HUR t0 t1 t2 t3 t4 t5 HRow
     cases hq : fitsD (tys rs) ts[i].a ts[i].b ts[i].r ts[i].c ts[i].d ts[i].s with
     | true =>
      have hn2 : ((ts.take (i + 1)).filter (noFit (tys rs))).length = n := by rw [HST.out, HNF.out, hq, HN.out]; simp
      clear s0 s1 s2 s3 s4 s5
      go_wp2_with fail
      go_roundw
      case rel => exact ⟨i + 1, by omega, by go_num, by rw [hn2], K7, HU7⟩
      case measure => simp [intOf]; omega
     | false =>
      have hp : noFit (tys rs) ts[i] = true := by rw [HNF.out, hq]; rfl
      have hn2 : ((ts.take (i + 1)).filter (noFit (tys rs))).length = n + 1 := by rw [HST.out, hp, HN.out]; simp
      obtain ⟨m1, m2⟩ := next_unfit hlt2 hp
      have hnl : n < L.length := by rw [HLF.out, HN.out]; exact m1
      have hLn : L[n] = ts[i] := by
       have e1 := HLF.out
       have e2 := HN.out
       subst e1 e2
       exact m2
      rcases HU7.out with hnil | ⟨bu, ou, rfl, hbu, hru⟩
      ·rw [hnil] at hnl; simp at hnl
      obtain ⟨u0, u1, u2, u3, u4, u5⟩ := hru n hnl
      rw [hLn] at u0 u1 u2 u3 u4 u5
      have k2 : (n : Int) < (L.length : Int) := by omega
      have k3 : (0 : Int) ≤ (n : Int) := by omega
      have k4 : decide ((L.length : Int) ≤ (n : Int)) = false := by simp; omega
      have k5 : decide (L.length ≤ n) = false := by simp; omega
      have k6 : ¬ (L.length ≤ n) := by omega
      clear m1 m2 hLn hru
      go_wp2_with fail
      go_quiet (fail)
      have K8 := HID2 (K7.out.later (drewB (Below.refl _ _) nq))
      have HU8 : Hid (Sl (w7.drewN nq) (some ⟨bu, ou, none⟩) L) := HU7.out.below (drewB (Below.refl _ _) nq)
      clear K7 HU7 u0 u1 u2 u3 u4 u5 s0 s1 s2 s3 s4 s5
      go_wp2
      go_roundw
      case rel => exact ⟨i + 1, by omega, by go_num, by rw [hn2]; go_num, K8, HU8⟩
      case measure => simp [intOf]; omega
    ·obtain rfl : i = ts.length := by omega
     have hn : ((ts.take ts.length).filter (noFit (tys rs))).length = L.length := by rw [HLF.out, List.take_length]
     rw [hn]
     have k1 : decide ((ts.length : Int) < (ts.length : Int)) = false := by simp
     have k2 : ((L.length : Int) == (L.length : Int)) = true := by simp
     have HBe := HID2 KR.out.bel
     go_wp2
     go_ret
     exact ⟨rfl, HBe.out⟩
theorem own : ownKnob Tryz.prog.godebug = none := by kernel_rfl
theorem laidOut : laidOutB Tryz.prog = true := by kernel_rfl
set_option maxRecDepth 100000 in
theorem lifted (os : Os) (started : os.Started) (H : Type) (enc : TypeId × Value → H) :
  ReturnsInHanded {} Tryz.checked os 3 .any (Rows.fnUnfitSpec.pre6 enc Tryz.prog Tryz.f3 Rows.fnUnfitRow.domain false) (Rows.fnUnfitSpec.post enc Tryz.prog Tryz.f3 false true false false) := by
 refine returnsInHanded_of_change (C := Tryz.checked) own started (by kernel_rfl) Tryz.func3
  (ChangeSpec.witness6 (enc := enc) (C := Tryz.checked) false ⟨#[], #[.slice none 0 0], []⟩ 8 (by kernel_rfl) (by kernel_rfl) (by kernel_rfl) (by kernel_rfl)) ?_
 intro W base args ds gs before hval0 hW hcnd _
 have hval : ∀ (j : Nat) t v, Tryz.f3.params[j]? = some t → args[j]? = some v → Value.okWide Tryz.prog W .any base t v := hval0
 have hW' := hW
 obtain ⟨p, q, hA0, hV, rfl, hfz, hnd⟩ := hW
 have hA : DataW.TrodAll enc Tryz.prog W 0 (fun _ => true) true Tryz.f3.params.toList args.toList ds p := hA0
 rw [Tryz.params3] at hA hval
 obtain ⟨v0, vs0, d0, ds0, p0, q0, hargs, rfl, rfl, h0, r0⟩ := trodAll_cons hA
 obtain ⟨rfl, rfl, rfl⟩ := trodAll_nil r0
 obtain rfl : args = #[v0] := by cases args; simp_all
 obtain ⟨rfl, rfl⟩ := trodVars_none hV
 have k0 := h0
 have lt0 : ∀ x ∈ p0, x.block < W.heap.size := by obtain ⟨m, hm⟩ := k0; exact DataW.trod_lt m _ _ _ hm
 obtain ⟨ad0, len0, cap0, hv0⟩ := okWide_slice Tryz.underlying22 (hval 0 22 v0 rfl rfl)
 subst hv0
 obtain ⟨fuel0, hf0⟩ := h0
 have hby0 := open_bytes (by simpa [Value.cells] using hf0)
 clear hA0 hval0
 refine (walk ad0 len0 cap0 W hby0).mono fun e W' ⟨he, bel⟩ => ?_
 subst he
 exact ⟨_, rfl, _, _, _, [], _, [], hW', trodAll_mk1 (shut_bool Tryz.underlying4 _), (trodAll_cons_mk (Below.trod laidOut (by kernel_rfl) (of_decide_eq_true (by kernel_rfl)) k0 bel lt0) trodAll_mk0), rfl, bel.frame _, fun h => by cases h⟩
theorem over : Rows.fnUnfitRow.holds Tryz.pinned (OpenSpec.ofChange Rows.fnUnfitSpec) :=
 OpenClaim.holds_of_wide 3 Tryz.f3 rfl rfl rfl rfl rfl rfl rfl ⟨rfl, rfl, rfl, rfl, rfl⟩ rfl rfl rfl rfl rfl (by kernel_rfl) Tryz.func3 (by kernel_rfl)
  (of_decide_eq_true (by kernel_rfl)) (by unfold Func.isWrapper; first | (rw [if_pos (by decide +kernel)]; kernel_rfl) | (rw [if_neg (by decide +kernel)]; exact ⟨rfl, rfl⟩))
  (fun os started H enc _ => lifted os started H enc)
end Go.Proofs.YtkpefjefodkddaaGreat.fnUnfit
namespace Go.Proofs.YtkpefjefodkddaaGreat
theorem FnUnfit_holds : Rows.FnUnfitSaid := fnUnfit.over
end Go.Proofs.YtkpefjefodkddaaGreat
