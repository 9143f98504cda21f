/- Contract of the program's Renamed. -/
import Derived.Test.YtmghabcaakgjiaaGreatJ25
import Derived.Test.YtmghabcaakgjiaaGreatJ26
import Derived.Test.YtmghabcaakgjiaaGreatJ14
import Derived.Test.YtmghabcaakgjiaaGreatJ16
import Derived.Test.YtmghabcaakgjiaaGreatSpecPruned
namespace Go.Proofs.YtmghabcaakgjiaaGreat
set_option maxRecDepth 100000
set_option linter.unusedVariables false
open Go.ChangeShapes Go.WideShapes Go.ChangeAt Go.RowKit Go.Maps
open Pl
theorem TypM.renamed {w w' : World} {base bO n cap g c : Nat} {qs : List TR} {k : Nat} {ys : List RR} (h : TypM w base (.slice (some ⟨bO, 0, none⟩) n cap) qs) (hk : k < qs.length) (had : qs[k].ad = some ⟨g, 0, none⟩) (hr : RelM w' base (.slice (some ⟨g, 0, none⟩) qs[k].rows.length qs[k].cap) ys) (hl : ys.length = qs[k].rows.length) (hI : ∀ z, inLot iR qs[k].vs ys z → iT qs[k] z) (hc : Chg (fun z => z = g) w w') : TypM w' base (.slice (some ⟨bO, 0, none⟩) n cap) (qs.set k { qs[k] with rows := ys }) := by
 have hvs : TR.vs { qs[k] with rows := ys } = qs[k].vs := by unfold TR.vs; rw [hl]
 have hv2 : qs[k].vs = .slice (some ⟨g, 0, none⟩) qs[k].rows.length qs[k].cap := by unfold TR.vs; rw [had]
 refine LotM.setIn kidT h hk hc.size (fun z hz hn => hc.block z hz fun e => hn (.inl (by rw [hv2, e]; rfl))) ?_ ?_ ?_
 ·unfold TR.cells; rw [hvs]
 ·show RelM w' base (TR.vs { qs[k] with rows := ys }) ys
  rw [hvs, hv2]; exact hr
 ·intro z hz
  refine .inl (hI z ?_)
  have hz : inLot iR (TR.vs { qs[k] with rows := ys }) ys z := hz
  rw [hvs] at hz; exact hz
set_option maxHeartbeats 8000000 in
theorem implRenamed_any (ad : Option Addr) (cap : Nat) (rs : List TR) (typ frm to : ByteArray) (w : World) (hlen : rs.length ≤ 1048576) (hs : SlT w ad rs) (hl : ∀ r ∈ rs, r.light) (hf : ∀ r ∈ rs, r.fits) (hcp : ∀ r ∈ rs, r.caps) (ht : typ.size ≤ maxLen) (hfr : frm.size ≤ maxLen) (hto : to.size ≤ maxLen) :
  Calls Tryz.prog 9 #[.slice ad rs.length cap, .string typ, .string frm, .string to] w (AnsT w (renD (tys rs) typ frm to)) := by
 have HS := toHX hs
 have HL := toHX hl
 have HFT := toHX hf
 have HCP := toHX hcp
 clear hs hl hf hcp
 go_enter Tryz.func9, Tryz.ntmps9
 go_wp2_with fail
 refine (implSchemaOk_any ad cap rs _ hlen HS.out HL.out HFT.out HCP.out).mono ?_
 rintro e w2 ⟨rfl, hb2⟩
 have HB2 : Hid (Below w.heap.size w w2) := hb2
 clear hb2
 cases hd : schemaD (tys rs) with
 | false =>
  have HN : Hid (renD (tys rs) typ frm to = none) := by show _ = _; unfold renD; rw [hd]; rfl
  clear hd
  go_wp2
  refine bodyPost_ret (v := .tuple #[.slice none 0 0, .bool false]) ?_ rfl (ansT_none HN.out HB2.out)
  simp [results, Tryz.results9, go_sem]
 | true =>
  have HD := toHX hd
  have hSP := schemaD_iff.1 hd
  have HSH := toHX hSP.1
  have HRF := toHX hSP.2.1
  obtain ⟨h6, hr6, hex⟩ := shape_facts hSP.1
  have HR6 := toHX hr6
  have HEX := toHX hex
  have HTAB : Hid (Tab rs (tabM rs)) := tab_of hSP.1
  clear hd hSP hr6 hex
  go_wp2_with fail
  refine (tableOf_any ad cap rs w2 h6 (HS.out.below HB2.out) HR6.out HFT.out).mono ?_
  rintro e w3 ⟨rfl, hm3, hb3⟩
  obtain ⟨bM, hbM⟩ : ∃ bM, bM = w2.heap.size := ⟨_, rfl⟩
  rw [← hbM] at hm3 ⊢
  have HB3 : Hid (Below w.heap.size w w3) := HB2.out.trans (hb3.mono HB2.out.size)
  obtain ⟨W4, hW4⟩ : ∃ W4, W4 = w3.alloc (.cells #[.map (some bM), .string typ, .string frm, .string to] 59) := ⟨_, rfl⟩
  have hb4 : Below w3.heap.size w3 W4 := by rw [hW4]; exact (Below.refl _ _).alloc (Nat.le_refl _) _
  have HB4 : Hid (Below w.heap.size w W4) := HB3.out.trans (hb4.mono HB3.out.size)
  have HM4 := toHX (hm3.below hb4)
  have HRN : Hid (RnC w3.heap.size bM typ frm to W4) := by show RnC _ _ _ _ _ _; rw [hW4]; exact ⟨by simp, by simp, by simp, by simp, by simp⟩
  clear hbM hm3 hb3 hb4
  go_wp2_with fail
  rw [← hW4]
  clear hW4
  have H1 : Hid ((tabM rs (typ, frm)).isSome = hasB (tys rs) typ frm) := HTAB.out.some_iff (typ, frm)
  have H2 : Hid ((tabM rs (typ, to)).isSome = hasB (tys rs) typ to) := HTAB.out.some_iff (typ, to)
  refine (has_any bM 36 (tabM rs) typ frm _ ht hfr HM4.out).mono ?_
  rintro e wq ⟨rfl, hwq⟩
  replace hwq := hwq.symm
  subst hwq
  obtain ⟨q0, c0, c1, c2, c3⟩ := HRN.out
  cases e1 : (tabM rs (typ, frm)).isSome with
  | false =>
   have HN : Hid (renD (tys rs) typ frm to = none) := by show _ = _; unfold renD; rw [← H1.out, e1]; simp
   clear e1
   go_wp2
   refine bodyPost_ret (v := .tuple #[.slice none 0 0, .bool false]) ?_ rfl (ansT_none HN.out HB4.out)
   simp [results, Tryz.results9, go_sem]
  | true =>
   have HE1 : Hid (hasB (tys rs) typ frm = true) := by show _ = _; rw [← H1.out, e1]
   clear e1
   go_wp2_with fail
   refine (implName_any to _ hto).mono ?_
   rintro e wq ⟨rfl, hwq⟩
   replace hwq := hwq.symm
   subst hwq
   cases e2 : nameB to with
   | false =>
    have HN : Hid (renD (tys rs) typ frm to = none) := by show _ = _; unfold renD; rw [e2]; simp
    clear e2
    go_wp2
    refine bodyPost_ret (v := .tuple #[.slice none 0 0, .bool false]) ?_ rfl (ansT_none HN.out HB4.out)
    simp [results, Tryz.results9, go_sem]
   | true =>
    have HE2 := toHX e2
    clear e2
    go_wp2_with fail
    refine (has_any bM 36 (tabM rs) typ to _ ht hto HM4.out).mono ?_
    rintro e wq ⟨rfl, hwq⟩
    replace hwq := hwq.symm
    subst hwq
    cases e3 : (tabM rs (typ, to)).isSome with
    | true =>
     have HN : Hid (renD (tys rs) typ frm to = none) := by show _ = _; unfold renD; rw [← H2.out, e3]; simp
     clear e3
     go_wp2
     refine bodyPost_ret (v := .tuple #[.slice none 0 0, .bool false]) ?_ rfl (ansT_none HN.out HB4.out)
     simp [results, Tryz.results9, go_sem]
    | false =>
     have HE3 : Hid (hasB (tys rs) typ to = false) := by show _ = _; rw [← H2.out, e3]
     have HTO : Hid (relOr (tys rs) typ to = []) := by
      have h := HE3.out
      unfold hasB at h
      show _ = _
      simpa using h
     have HFR : Hid (frm.toList ≠ []) := by
      have h := HE1.out
      unfold hasB relOr at h
      cases hp : relP (tys rs) typ frm with
      | none => rw [hp] at h; cases h
      | some es =>
       obtain ⟨t, ht', r, hr, -, e5, -⟩ := relP_mem hp
       rw [← e5]
       exact nameB_some (shape_expr HSH.out ht' hr).1
     clear e3
     go_wp2_with fail
     refine (someOver_any 30 #[.agg #[.map (some bM), .string typ, .string frm, .string to]] #[] (fun tn _ e => mixI (tys rs) typ frm to tn e) ad cap rs W4 (HS.out.below HB4.out) h6 HR6.out (fun t ht q hq => (HEX.out t ht q hq).2.1) run_mix (fun t htm q hqm x hx hk3 w1 hb1 => ?ask)).mono ?_
     case ask =>
      have hfx := ((HFT.out t htm).2.2 q hqm).2.2 x hx
      have hrn := (refs_at HRF.out (List.mem_map.2 ⟨t, htm, rfl⟩) (r := q.p) (List.mem_map.2 ⟨q, hqm, rfl⟩) (e := x.e) (List.mem_map.2 ⟨x, hx, rfl⟩)).2
      unfold refN at hrn
      rw [if_neg (by rw [hk3]; decide), if_pos hk3] at hrn
      simp only [Bool.and_eq_true] at hrn
      exact mixesGoals_any bM 36 rs ad (tabM rs) typ frm to t.name q.name x w1 (HM4.out.below hb1) HTAB.out (HS.out.below (HB4.out.trans (hb1.mono HB4.out.size))) HL.out HFT.out (HFT.out t htm).1 hfx.2.1 hfr hto hrn.1
     rintro e w5 ⟨rfl, hb5⟩
     have HB5 : Hid (Below w.heap.size w w5) := HB4.out.trans (hb5.mono HB4.out.size)
     have HRN5 := toHX (HRN.out.below hb5)
     have HM5 := toHX (HM4.out.below hb5)
     clear hb5 c0 c1 c2 c3 q0
     obtain ⟨q0, c0, c1, c2, c3⟩ := HRN5.out
     cases e4 : ovS (fun tn _ e => mixI (tys rs) typ frm to tn e) (tys rs) with
     | true =>
      have HN : Hid (renD (tys rs) typ frm to = none) := by
       have h : mixS' (tys rs) typ frm to = true := e4
       show _ = _; unfold renD; rw [h]; simp
      clear e4
      go_wp2
      refine bodyPost_ret (v := .tuple #[.slice none 0 0, .bool false]) ?_ rfl (ansT_none HN.out HB5.out)
      simp [results, Tryz.results9, go_sem]
     | false =>
      have HPD : Hid (renD (tys rs) typ frm to = some (renS (tys rs) typ frm to)) := by
       have h : mixS' (tys rs) typ frm to = false := e4
       show _ = _; unfold renD; rw [h, HD.out, HE1.out, HE2.out, HE3.out]; rfl
      have HSM : Hid (SmallS (fun tn x => [renX (tys rs) typ frm to tn x]) rs) := by
       refine ⟨h6, HR6.out, fun t ht q hq => (HEX.out t ht q hq).2.1, fun t ht q hq => kidsLow_of (HEX.out t ht q hq).1, fun t ht q hq x hx => ?_, fun t ht q hq x hx => ((HL.out t ht).2 q hq).2 x hx⟩
       refine ⟨by simp, fun m hm => ?_⟩
       rw [List.mem_singleton] at hm; subst hm
       refine ⟨⟨by rw [renX_few]; exact (((HL.out t ht).2 q hq).2 x hx).1, by rw [renX_kids]; exact (((HL.out t ht).2 q hq).2 x hx).2⟩, fun y hy => ?_⟩
       rw [renX_kids] at hy
       have h1 := (HEX.out t ht q hq).2.2 x hx y hy
       have h2 := (HEX.out t ht q hq).2.1
       omega
      clear e4
      go_wp2_with fail
      refine (changedSchema_any 32 #[.agg #[.map (some bM), .string typ, .string frm, .string to]] #[] (fun tn x => [renX (tys rs) typ frm to tn x]) ad cap rs w5 (HS.out.below HB5.out) HSM.out run_leaf (fun t htm q hqm x hx _ => ?lf)).mono ?_
      case lf =>
       have hfx := ((HFT.out t htm).2.2 q hqm).2.2 x hx
       have hok : x.ok w5 := (SlR.mem (SlT.mem (HS.out.below HB5.out) htm) hqm).mem hx
       refine renLeaf_c bM 36 rs ad (tabM rs) typ frm to t.name x w5 hok (((HL.out t htm).2 q hqm).2 x hx).1 HM5.out HTAB.out (HS.out.below HB5.out) HL.out HFT.out (goals_few HL.out _ _ _) (HFT.out t htm).1 hfx.2.1 hfx.2.2.1 HFR.out fun hk3 => ?_
       have hrn := (refs_at HRF.out (List.mem_map.2 ⟨t, htm, rfl⟩) (r := q.p) (List.mem_map.2 ⟨q, hqm, rfl⟩) (e := x.e) (List.mem_map.2 ⟨x, hx, rfl⟩)).2
       unfold refN at hrn
       rw [if_neg (by rw [hk3]; decide), if_pos hk3] at hrn
       simp only [Bool.and_eq_true] at hrn
       exact hrn.1
      rintro e w6 ⟨v6, qs0, rfl, htm6, htq6, hb6⟩
      rw [chg_ren0 HSH.out] at htq6
      have hl0 : qs0.length = rs.length := by rw [← tys_len, htq6, List.length_map, tys_len]
      have hpos : qs0.length ≠ 0 := by
       have h := HE1.out
       unfold hasB relOr at h
       cases hp : relP (tys rs) typ frm with
       | none => rw [hp] at h; cases h
       | some es =>
        obtain ⟨t, ht', -⟩ := relP_row hp
        rw [hl0]; intro h0
        rw [List.length_eq_zero_iff.1 h0] at ht'; cases ht'
      obtain ⟨adO, capO, rfl, -, -⟩ := TypM.read htm6
      obtain ⟨bO, rfl, -⟩ := own_zero htm6.own hpos
      rw [hl0] at htm6 ⊢
      have HT6 : Hid (TypM w6 w5.heap.size (.slice (some ⟨bO, 0, none⟩) rs.length capO) qs0 ∧ tys qs0 = mixR (tys rs) typ frm to 0) := ⟨htm6, by rw [mixR_zero]; exact htq6⟩
      have HB6 := toHX hb6
      clear htm6 htq6 hb6 hl0 hpos c0 c1 c2 c3 q0
      go_wp2_with fail
      go_loopw [53] (fun i wr => ∃ (k : Nat) (qs : List TR), k ≤ rs.length ∧ i = .int .i64 k ∧ Hid (TypM wr w5.heap.size (.slice (some ⟨bO, 0, none⟩) rs.length capO) qs) ∧ Hid (tys qs = mixR (tys rs) typ frm to k) ∧ Hid (Below w5.heap.size w5 wr)) (fun i _ => rs.length - (intOf i).toNat)
      case atStart => exact ⟨0, qs0, Nat.zero_le _, rfl, HT6.out.1, HT6.out.2, HB6⟩
      case round =>
       clear HT6 HB6
       obtain ⟨k, qs, hk, rfl, HX, HQ, HB⟩ := hrel
       by_cases hlt : k < rs.length
       ·have htl : k < (tys rs).length := by rw [tys_len]; exact hlt
        have hql : qs.length = rs.length := by rw [← tys_len, HQ.out, mixR_len, tys_len]
        have hkq : k < qs.length := by omega
        have HTK : Hid ((tys rs)[k] = rs[k].p) := by show _ = _; simp [tys]
        have HQK : Hid (qs[k].p = renT0 (tys rs) typ frm to rs[k].p) := by
         have e : (tys qs)[k]'(by rw [tys_len]; exact hkq) = qs[k].p := by simp [tys]
         show _ = _
         rw [← e, ← HTK.out]
         simp only [HQ.out]
         rw [mixR_at (tys rs) typ frm to k htl]
        have hnmq : qs[k].name = rs[k].name := congrArg Ty.name HQK.out
        have HRQ : Hid (rls qs[k].rows = (renT0 (tys rs) typ frm to rs[k].p).rels) := congrArg Ty.rels HQK.out
        have HAT : Hid (AtT wr bO (k * 2) qs[k] ∧ bO < wr.heap.size) := by
         obtain ⟨a, c, e, h, -⟩ := TypM.read HX.out
         injection e with e1 e2 e3
         subst e1
         have := SlT.row h hkq
         rwa [Nat.zero_add] at this
        obtain ⟨⟨t0, t1⟩, tb⟩ := HAT.out
        rw [hnmq] at t0
        have hk1 : (0 : Int) ≤ (k : Int) := by omega
        have hk2 : (k : Int) < (rs.length : Int) := by omega
        have HTM : Hid (rs[k] ∈ rs) := List.getElem_mem hlt
        have HNQ := toHX hnmq
        obtain ⟨W7, hW7⟩ : ∃ W7, W7 = wr.alloc (.cells #[.string rs[k].name, .slice qs[k].ad qs[k].rows.length qs[k].cap] 44) := ⟨_, rfl⟩
        have HB7 : Hid (Below wr.heap.size wr W7) := by show Below _ _ _; rw [hW7]; exact (Below.refl _ _).alloc (Nat.le_refl _) _
        have HX7 : Hid (TypM W7 w5.heap.size (.slice (some ⟨bO, 0, none⟩) rs.length capO) qs) := LotM.below kidT HX.out HB7.out
        have HBW7 : Hid (Below w5.heap.size w5 W7) := HB.out.trans (HB7.out.mono HB.out.size)
        obtain ⟨q0, c0, c1, c2, c3⟩ := HRN5.out.below HB.out
        clear hnmq hql
        cases htn : (rs[k].name.toList == typ.toList) with
        | false =>
         have HQ2 : Hid (tys qs = mixR (tys rs) typ frm to (k + 1)) := by
          show _ = _
          rw [mixR_succ (tys rs) typ frm to k htl, HTK.out, renT_is0 (shape_up HSH.out (List.mem_map.2 ⟨rs[k], HTM.out, rfl⟩)) htn, ← HQK.out, ← HQ.out]
          have e : (tys qs)[k]'(by rw [tys_len]; exact hkq) = qs[k].p := by simp [tys]
          rw [← e]; exact (List.set_getElem_self _).symm
         go_wp2
         rw [← hW7]
         go_roundw
         case rel => exact ⟨k + 1, qs, by omega, by go_num, HX7, HQ2, HBW7⟩
         case measure => first | (simp [intOf]; done) | (simp [intOf]; omega)
        | true =>
         have hnt : rs[k].name = typ := ba_ext (by simpa using htn)
         have hrne : rs[k].rows ≠ [] := by
          have h := HE1.out
          unfold hasB relOr at h
          cases hp : relP (tys rs) typ frm with
          | none => rw [hp] at h; cases h
          | some es =>
           obtain ⟨t, ht', q, hq, e5, -, -⟩ := relP_row hp
           have := typ_uniq HSH.out HTM.out ht' (hnt.trans e5.symm)
           rw [this]; intro h0; rw [h0] at hq; cases hq
         have hrl : qs[k].rows.length = rs[k].rows.length := by
          rw [← rls_len, HRQ.out]
          show ((rls rs[k].rows).map _).length = _
          rw [List.length_map, rls_len]
         have hqne : qs[k].rows ≠ [] := fun h0 => hrne (List.length_eq_zero_iff.1 (by rw [← hrl, h0]; rfl))
         have hkid := HX7.out.kid _ (List.getElem_mem hkq)
         obtain ⟨g, hadg, -⟩ := own_zero (show W7.ownsRow _ _ _ (.slice qs[k].ad qs[k].rows.length qs[k].cap) _ _ from hkid.own) (fun e => hqne (List.length_eq_zero_iff.1 e))
         have hR7 : RelM W7 w5.heap.size (.slice (some ⟨g, 0, none⟩) qs[k].rows.length qs[k].cap) qs[k].rows := by
          have h : RelM W7 w5.heap.size qs[k].vs qs[k].rows := hkid
          unfold TR.vs at h
          rw [hadg] at h; exact h
         have hmap : rls (qs[k].rows.map (renQ typ frm to)) = (rls qs[k].rows).map (renM typ frm to) := by
          unfold rls; rw [List.map_map, List.map_map]; rfl
         have HSR : Hid (sortR (rls (qs[k].rows.map (renQ typ frm to))) = (renT (tys rs) typ frm to rs[k].p).rels) := by
          show _ = _
          rw [hmap, HRQ.out, renT_typ (t := rs[k].p) hnt]
         have hdis : DisR (rls (qs[k].rows.map (renQ typ frm to))) := by
          rw [hmap, HRQ.out]
          have h := ren_dis (frm := frm) HSH.out HTO.out (List.mem_map.2 ⟨rs[k], HTM.out, rfl⟩)
          have e : (renT0 (tys rs) typ frm to rs[k].p).rels.map (renM typ frm to) = rs[k].p.rels.map (renR (tys rs) typ frm to rs[k].p.name) := by
           unfold renT0
           rw [List.map_map]
           exact List.map_congr_left fun r hr => renR_two hnt r
          rw [e]; exact h
         have hr6 : qs[k].rows.length ≤ 6 := by rw [hrl]; exact HR6.out _ HTM.out
         have HCALL := toHX (nameRelation_any bM typ frm to w5.heap.size g qs[k].cap qs[k].rows W7 hR7 hqne hr6 HFR.out hdis)
         have HR7 := toHX hR7
         have HADG := toHX hadg
         rw [hadg] at t1 hW7
         clear hrne hrl hqne hkid hR7 hmap hdis hnt hr6 hadg
         go_wp2_with fail
         rw [← hW7]
         clear hW7 t0 t1 tb c0 c1 c2 c3 q0
         refine HCALL.out.mono ?_
         rintro e w8 ⟨rfl, ys, hR8, hys, hc8, hp8⟩
         have hgb := HR7.out.own.lt g rfl
         have hyl : ys.length = qs[k].rows.length := by
          have h := hR8.own.1
          have h2 := cells2_len (cells := RR.cells) (fun _ => rfl) ys
          have h3 := congrArg List.length hys
          rw [rls_len, (sortR_perm _).length_eq, rls_len, List.length_map] at h3
          exact h3
         have HX8 : Hid (TypM w8 w5.heap.size (.slice (some ⟨bO, 0, none⟩) rs.length capO) (qs.set k { qs[k] with rows := ys })) := by
          refine TypM.renamed (g := g) (c := 0) HX7.out hkq HADG.out hR8 hyl (fun z hz => ?_) hc8
          rcases hz with hz | ⟨q, hq, hz⟩
          ·exact .inl hz
          ·obtain ⟨p, h1, rfl⟩ := List.mem_map.1 (hp8.mem_iff.1 hq)
           exact .inr ⟨p, h1, hz⟩
         have HB8 : Hid (Below w5.heap.size w5 w8) := HBW7.out.trans (hc8.below (m := w5.heap.size) (fun z hz => by subst hz; exact hgb.1) HBW7.out.size)
         have HQ8 : Hid (tys (qs.set k { qs[k] with rows := ys }) = mixR (tys rs) typ frm to (k + 1)) := by
          show _ = _
          have e1 : tys (qs.set k { qs[k] with rows := ys }) = (tys qs).set k ⟨qs[k].name, rls ys⟩ := by simp [tys, TR.p, List.map_set]
          rw [e1, HQ.out, mixR_succ (tys rs) typ frm to k htl, HTK.out, hys, HSR.out, HNQ.out]; rfl
         clear hR8 hys hc8 hgb hyl hp8
         go_wp2
         go_roundw
         case rel => exact ⟨k + 1, _, by omega, by go_num, HX8, HQ8, HB8⟩
         case measure => first | (simp [intOf]; done) | (simp [intOf]; omega)
       ·obtain rfl : k = rs.length := by omega
        have HTQ : Hid (tys qs = renS (tys rs) typ frm to) := by show _ = _; rw [HQ.out, ← tys_len rs, mixR_all]
        have HTD : Hid (TypM wr w.heap.size (.slice (some ⟨bO, 0, none⟩) rs.length capO) qs) := TypM.mono HX.out HB5.out.size
        have HBD : Hid (Below w.heap.size w wr) := HB5.out.trans (HB.out.mono HB5.out.size)
        go_wp2
        refine bodyPost_ret (v := .tuple #[.slice (some ⟨bO, 0, none⟩) rs.length capO, .bool true]) ?_ rfl ⟨.slice (some ⟨bO, 0, none⟩) rs.length capO, qs, by rw [HPD.out]; rfl, by rw [HPD.out]; exact HTQ.out, HTD.out, HBD.out⟩
        simp [results, Tryz.results9, go_sem]
end Go.Proofs.YtmghabcaakgjiaaGreat
