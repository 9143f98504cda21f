/- Contract of the document's Inlined. -/
import Derived.Test.YtmghabcaakgjiaaGreatJ22
namespace Go.Proofs.YtmghabcaakgjiaaGreat
set_option maxRecDepth 100000
set_option linter.unusedVariables false
open Go.ChangeShapes Go.WideShapes Go.ChangeAt Go.RowKit Go.Maps
open Pl

set_option maxHeartbeats 8000000 in
theorem specInlined_any (ad : Option Addr) (cap : Nat) (rs : List TR) (typ rel : ByteArray) (w : World) (hlen : rs.length ≤ 1048576) (hs : SlT w ad rs) (hl : ∀ r ∈ rs, r.light) (hf : ∀ r ∈ rs, r.fits) (hz : ∀ t ∈ rs, ∀ q ∈ t.rows, ∀ r ∈ q.rows, r.atZero) :
    Calls Tryz.prog 13 #[.slice ad rs.length cap, .string typ, .string rel] w (AnsT w (inlD (tys rs) typ rel)) := by
  have HS := toHX hs
  have HL := toHX hl
  have HFT := toHX hf
  have HZ := toHX hz
  clear hs hl hf hz
  go_enter Tryz.func13, Tryz.ntmps13
  go_wp2_with fail
  refine (l2Rel_any ad cap rs typ rel _ hlen HS.out HL.out).mono ?_
  rintro e w0 ⟨⟨rows0, adE, capE, rfl, hex0, hse0, hfr0⟩, hw0⟩
  replace hw0 := hw0.symm
  subst hw0
  have HX0 : Hid (exs rows0 = relOr (tys rs) typ rel) := hex0
  have HSE0 := toHX hse0
  have HFR0 := toHX hfr0
  clear hex0 hse0 hfr0
  go_wp2_with fail
  refine (specSchemaOk_any ad cap rs _ hlen HS.out HL.out HFT.out).mono ?_
  rintro e w1 ⟨rfl, hb1⟩
  have HB1 : Hid (Below w.heap.size w w1) := hb1
  clear hb1
  cases hd : schemaD (tys rs) with
  | false =>
    have HN : Hid (inlD (tys rs) typ rel = none) := by show _ = _; unfold inlD; rw [hd]; rfl
    clear hd
    go_wp2
    refine bodyPost_ret (v := .tuple #[.slice none 0 0, .bool false]) ?_ rfl (ansT_none HN.out HB1.out)
    simp [results, Tryz.results13, go_sem]
  | true =>
    have HD := toHX hd
    have hSP := schemaD_iff.1 hd
    obtain ⟨h6, hr6, hex⟩ := shape_facts hSP.1
    have HR6 := toHX hr6
    have HEX := toHX hex
    have HSHP := toHX hSP.1
    have hrl : rows0.length ≤ 15 := by
      rcases HFR0.out with h | ⟨t, ht, q, hq, h, -⟩
      · rw [h]; simp
      · rw [h]; exact (hex t ht q hq).2.1
    clear hd hSP hr6 hex
    by_cases hz0 : rows0 = []
    · have HN : Hid (inlD (tys rs) typ rel = none) := by
        have e : relOr (tys rs) typ rel = [] := by rw [← HX0.out, hz0]; rfl
        show _ = _; unfold inlD; rw [e]; simp
      have hlz : (rows0.length : Int) = 0 := by rw [hz0]; rfl
      clear hz0
      go_wp2
      refine bodyPost_ret (v := .tuple #[.slice none 0 0, .bool false]) ?_ rfl (ansT_none HN.out HB1.out)
      simp [results, Tryz.results13, go_sem]
    have hlz : ¬ (rows0.length : Int) = 0 := fun h => hz0 (List.length_eq_zero_iff.1 (by omega))
    have hlz2 : ((rows0.length : Int) == 0) = false := by simpa using hlz
    have HNZ := toHX hz0
    have HNE : Hid ((!(relOr (tys rs) typ rel).isEmpty) = true) := by
      show _ = _
      rw [← HX0.out]
      cases rows0 with
      | nil => exact absurd rfl hz0
      | cons a b => rfl
    have HBODY : Hid (∃ t ∈ rs, ∃ q ∈ t.rows, rows0 = q.rows) := by
      rcases HFR0.out with h | ⟨t, ht, q, hq, h, -⟩
      · exact absurd h hz0
      · exact ⟨t, ht, q, hq, h⟩
    clear hz0
    go_wp2_with fail
    refine (l7Names_any adE capE rows0 rel _ (by omega) (HSE0.out.below HB1.out)).mono ?_
    rintro e w2 ⟨rfl, hw2⟩
    replace hw2 := hw2.symm
    subst hw2
    rw [HX0.out, any_or]
    cases hnm : ((relOr (tys rs) typ rel).any (isNm rel) || (relOr (tys rs) typ rel).any isTs) with
    | true =>
      have HN : Hid (inlD (tys rs) typ rel = none) := by
        show _ = _; unfold inlD
        refine if_neg fun h => ?_
        simp only [Bool.and_eq_true, Bool.not_eq_true'] at h
        rw [h.1.1.2, h.1.2] at hnm
        cases hnm
      clear hnm
      go_wp2
      refine bodyPost_ret (v := .tuple #[.slice none 0 0, .bool false]) ?_ rfl (ansT_none HN.out HB1.out)
      simp [results, Tryz.results13, go_sem]
    | false =>
      rw [Bool.or_eq_false_iff] at hnm
      have HNM := toHX hnm.1
      obtain ⟨F, hF⟩ : ∃ F, F = inlF typ rel (relOr (tys rs) typ rel) := ⟨_, rfl⟩
      have HF := toHX hF
      have HPD : Hid (inlD (tys rs) typ rel = if schemaD (chgS F (tys rs)) = true then some (chgS F (tys rs)) else none) := by
        show _ = _; unfold inlD; rw [HD.out, HNE.out, hnm.1, hnm.2, hF]; simp
      clear hnm hF
      go_wp2_with fail
      refine (l2Copy_n ad cap rs w1 h6 HR6.out (fun t ht q hq => (HEX.out t ht q hq).2.1) (HS.out.below HB1.out) HL.out HZ.out).mono ?_
      rintro e w3 ⟨vO, qs0, rfl, htm, htq, hb3⟩
      have HB3 : Hid (Below w.heap.size w w3) := HB1.out.trans (hb3.mono HB1.out.size)
      have htm2 := TypM.mono htm HB1.out.size
      have hl0 : qs0.length = rs.length := by rw [← tys_len, htq, tys_len]
      have hpos : qs0.length ≠ 0 := by
        obtain ⟨t, ht, -⟩ := HBODY.out
        rw [hl0]; intro h
        rw [List.length_eq_zero_iff.1 h] at ht; cases ht
      obtain ⟨adO, capO, rfl, -, -⟩ := TypM.read htm2
      obtain ⟨bO, rfl, -⟩ := own_zero htm2.own hpos
      have HT3 : Hid (TypM w3 w.heap.size (.slice (some ⟨bO, 0, none⟩) rs.length capO) qs0 ∧ tys qs0 = tys rs) := by rw [← hl0]; exact ⟨htm2, htq⟩
      rw [hl0]
      clear htm htq hb3 htm2 hl0 hpos
      go_wp2_with fail
      go_loopw [10] (fun i wr => ∃ (k : Nat) (qs : List TR), k ≤ rs.length ∧ i = .int .i64 k ∧ Hid (TypM wr w.heap.size (.slice (some ⟨bO, 0, none⟩) rs.length capO) qs) ∧ Hid (tys qs = mixS F (tys rs) k) ∧ Hid (Below w.heap.size w wr)) (fun i _ => rs.length - (intOf i).toNat)
      case atStart => exact ⟨0, qs0, Nat.zero_le _, rfl, HT3.out.1, by show _ = _; rw [mixS_zero]; exact HT3.out.2, HB3⟩
      case round =>
        clear HT3
        obtain ⟨k, qs, hk, rfl, HX, HQ, HB⟩ := hrel
        obtain ⟨wo, hwo⟩ : ∃ wo, wo = wr := ⟨_, rfl⟩
        subst hwo
        by_cases hlt : k < rs.length
        · have HTM : Hid (rs[k] ∈ rs) := List.getElem_mem hlt
          have hk1 : (0 : Int) ≤ (k : Int) := by omega
          have hk2 : (k : Int) < (rs.length : Int) := by omega
          have hr6 : rs[k].rows.length ≤ 6 := HR6.out _ (List.getElem_mem hlt)
          have htl : k < (tys rs).length := by rw [tys_len]; exact hlt
          have HTK : Hid ((tys rs)[k] = rs[k].p) := by show _ = _; simp [tys]
          go_wp2_with fail
          go_loopw [11] (fun i wr => ∃ (j : Nat) (qs : List TR), j ≤ rs[k].rows.length ∧ i = .int .i64 j ∧ Hid (TypM wr w.heap.size (.slice (some ⟨bO, 0, none⟩) rs.length capO) qs) ∧ Hid (tys qs = (mixS F (tys rs) k).set k (mixT F rs[k].p j)) ∧ Hid (Below w.heap.size w wr)) (fun i _ => rs[k].rows.length - (intOf i).toNat)
          case atStart => exact ⟨0, qs, Nat.zero_le _, rfl, HX, by show _ = _; rw [mixT_zero, HQ.out, ← HTK.out]; exact mixS_at F (tys rs) k htl, HB⟩
          case round =>
            clear HX HQ HB
            obtain ⟨j, qs, hj, rfl, HX, HQ, HB⟩ := hrel
            have hql : qs.length = rs.length := by rw [← tys_len, HQ.out, List.length_set, mixS_len, tys_len]
            have hkq : k < qs.length := by omega
            have HQK : Hid (qs[k].p = mixT F rs[k].p j) := by
              have e : (tys qs)[k]'(by rw [tys_len]; exact hkq) = qs[k].p := by simp [tys]
              show _ = _
              rw [← e]
              simp only [HQ.out]
              rw [List.getElem_set_self]
            have hnmq : qs[k].name = rs[k].name := congrArg Ty.name HQK.out
            have HRQ : Hid (rls qs[k].rows = (mixT F rs[k].p j).rels) := congrArg Ty.rels HQK.out
            have hrlq : qs[k].rows.length = rs[k].rows.length := by rw [← rls_len, HRQ.out, mixT_len]; exact rls_len _
            have hrd := HX.out.own
            have HAT : Hid (AtT wr bO (k * 2) qs[k] ∧ bO < wr.heap.size) := by
              obtain ⟨a, c, e, h, -⟩ := TypM.read HX.out
              injection e with e1 e2 e3
              subst e1
              have := SlT.row h hkq
              rwa [Nat.zero_add] at this
            obtain ⟨⟨t0, t1⟩, tb⟩ := HAT.out
            rw [hnmq] at t0
            rw [hrlq] at t1
            have HRL := toHX hrlq
            clear hrd hnmq hql hrlq
            cases htn : (rs[k].name.toList == typ.toList) with
            | false =>
              have hst : ∀ r ∈ rs[k].p.rels, chgR F rs[k].p.name r = r := fun r hr => by
                obtain ⟨q, hq, rfl⟩ := List.mem_map.1 hr
                unfold chgR
                rw [HF.out]
                show Rl.mk _ (chgE (inlF typ rel (relOr (tys rs) typ rel) rs[k].name) (exs q.rows)) = _
                rw [inl_stays (HEX.out _ HTM.out q hq).1 (.inl htn)]; rfl
              have hmx : mixT F rs[k].p j = chgT F rs[k].p := by
                unfold mixT chgT
                have e1 : ∀ xs : List Rl, (∀ r ∈ xs, chgR F rs[k].p.name r = r) → xs.map (chgR F rs[k].p.name) = xs := fun xs h => by
                  conv => rhs; rw [← List.map_id xs]
                  exact List.map_congr_left h
                rw [e1 _ hst, e1 _ (fun r hr => hst r (List.mem_of_mem_take hr)), List.take_append_drop]
              have HQ2 : Hid (tys qs = mixS F (tys rs) (k + 1)) := by show _ = _; rw [HQ.out, hmx, ← HTK.out]; exact mixS_succ F (tys rs) k htl
              clear hst hmx
              go_wp2
              go_roundw
              case rel => exact ⟨k + 1, qs, by omega, by go_num, HX, HQ2, HB⟩
              case measure => first | (simp [intOf]; done) | (simp [intOf]; omega)
            | true =>
              by_cases hjt : j < rs[k].rows.length
              · have HJL : Hid (j < rs[k].p.rels.length) := by show j < (rls rs[k].rows).length; rw [rls_len]; exact hjt
                have hjq : j < qs[k].rows.length := by rw [HRL.out]; exact hjt
                have HRJ : Hid (qs[k].rows[j].p = rs[k].rows[j].p) := by
                  have e : (rls qs[k].rows)[j]'(by rw [rls_len]; exact hjq) = qs[k].rows[j].p := by simp [rls]
                  show _ = _
                  rw [← e]
                  simp only [HRQ.out]
                  rw [mixT_at F rs[k].p j HJL.out]
                  show (rls rs[k].rows)[j] = _
                  simp [rls]
                have HQM : Hid (rs[k].rows[j] ∈ rs[k].rows) := List.getElem_mem hjt
                have hsq : SlR wr qs[k].ad qs[k].rows := slR_of (HX.out.kid _ (List.getElem_mem hkq))
                obtain ⟨b2, off2, hadr2, hrow2, hbl2⟩ := SlR.row hsq hjq
                obtain ⟨s0, s1⟩ := hrow2
                have hnr : qs[k].rows[j].name = rs[k].rows[j].name := congrArg Rl.name HRJ.out
                rw [hnr] at s0
                rw [hadr2] at t1
                have hj1 : (0 : Int) ≤ (j : Int) := by omega
                have hj2 : (j : Int) < (rs[k].rows.length : Int) := by omega
                have HAD := toHX hadr2
                clear hnr hsq hadr2
                cases hre : (rs[k].rows[j].name.toList == rel.toList) with
                | true =>
                  have hst : chgR F rs[k].p.name rs[k].rows[j].p = rs[k].rows[j].p := by
                    unfold chgR
                    have h1 := rel_row_of HSHP.out HTM.out HQM.out
                    rw [bytes_eq htn, bytes_eq hre] at h1
                    have h2 : relOr (tys rs) typ rel = exs rs[k].rows[j].rows := by unfold relOr; rw [h1]; rfl
                    rw [HF.out]
                    show Rl.mk _ (chgE _ (exs rs[k].rows[j].rows)) = _
                    rw [inl_stays (HEX.out _ HTM.out _ HQM.out).1 (.inr (by rw [← h2]; exact HNM.out))]; rfl
                  have HQ2 : Hid (tys qs = (mixS F (tys rs) k).set k (mixT F rs[k].p (j + 1))) := by
                    show _ = _
                    rw [HQ.out, mixT_succ F rs[k].p j HJL.out]
                    congr 1
                    have e : rs[k].p.rels[j]'HJL.out = rs[k].rows[j].p := by show (rls rs[k].rows)[j] = _; simp [rls]
                    rw [e, hst]
                    have e2 : (mixT F rs[k].p j).rels.set j rs[k].rows[j].p = (mixT F rs[k].p j).rels := by
                      have e3 := mixT_at F rs[k].p j HJL.out
                      rw [e] at e3
                      rw [← e3]; exact List.set_getElem_self _
                    rw [e2]
                    rfl
                  clear hst
                  go_wp2
                  go_roundw
                  case rel => exact ⟨j + 1, qs, by omega, by go_num, HX, HQ2, HB⟩
                  case measure => first | (simp [intOf]; done) | (simp [intOf]; omega)
                | false =>
                  have HTR := toHX (HS.out.mem (List.getElem_mem hlt))
                  obtain ⟨bs, offs, hads, hrows, hbls⟩ := SlR.row HTR.out hjt
                  rcases HS.out with hnil | ⟨b, off, hadr, hb0, hrT, -⟩
                  · rw [hnil] at hlt; simp at hlt
                  subst hadr
                  obtain ⟨z0, z1⟩ := (hrT k hlt).later hb0 HB.out
                  obtain ⟨y0, y1⟩ := hrows.later hbls HB.out
                  rw [hads] at z1
                  clear hrT hrows hads
                  have hoff : b2 < wr.heap.size ∧ off2 = 0 ∧ (∀ y, wr.frozen? ⟨b2, y, none⟩ = false) ∧ w.heap.size ≤ b2 := by
                    have hown := (HX.out.kid _ (List.getElem_mem hkq)).own
                    unfold TR.vs at hown
                    obtain ⟨g, e1, e2⟩ := own_zero hown (by omega)
                    have e3 := HAD.out
                    rw [e1] at e3
                    injection e3 with e3; injection e3 with e4 e5
                    subst e4
                    exact ⟨hbl2, e5.symm, free_own hown e2, (hown.lt g e2).1⟩
                  have HOFF : Hid (off2 + j * 2 + 1 = j * 2 + 1) := by show _ = _; rw [hoff.2.1]; omega
                  have HAD0 : Hid (qs[k].ad = some ⟨b2, 0, none⟩) := by show _ = _; rw [HAD.out, hoff.2.1]
                  have HFZ := toHX hoff.2.2.1
                  have HB2W : Hid (w.heap.size ≤ b2) := hoff.2.2.2
                  have hs1 := (HEX.out _ HTM.out _ HQM.out).1
                  have hsl := (HEX.out _ HTM.out _ HQM.out).2.1
                  have hfew1 := specE_few hs1
                  rw [exs_len] at hfew1
                  have hl1 : (1 : Int) ≤ (rs[k].rows[j].rows.length : Int) := by omega
                  have hl2 : (rs[k].rows[j].rows.length : Int) ≤ 15 := by omega
                  have hwrap : IntKind.i64.wrap ((rs[k].rows[j].rows.length : Int) - 1) = (rs[k].rows[j].rows.length : Int) - 1 := by rw [IntKind.wrap_i64]; omega
                  have HOE : Hid (SlE w rs[k].rows[j].ad rs[k].rows[j].rows) := SlR.mem HTR.out (List.getElem_mem hjt)
                  have HPUT : Hid (∀ w1 : World, Below wr.heap.size wr w1 → Calls Tryz.prog 39 #[.slice rs[k].rows[j].ad rs[k].rows[j].rows.length rs[k].rows[j].cap, .int .i64 ((rs[k].rows[j].rows.length : Int) - 1), .string rel, .slice adE rows0.length capE, .slice none 0 0] w1 (PutP w1 w1.heap.size (.slice none 0 0) [] (chgE (F rs[k].name) (exs rs[k].rows[j].rows)))) := fun w1 hb1 => by
                    have hbw : Below w.heap.size w w1 := HB.out.trans (hb1.mono HB.out.size)
                    obtain ⟨tb, htb, qb, hqb, hrb⟩ := HBODY.out
                    have hsb := (HEX.out tb htb qb hqb).1
                    have hlb := ((HL.out tb htb).2 qb hqb).2
                    have hzb := HZ.out tb htb qb hqb
                    rw [← hrb] at hsb hlb hzb
                    have hb0 := specE_few hsb
                    rw [exs_len] at hb0
                    have hfixB : Fixd w adE rows0 := ⟨HSE0.out, hlb, hzb, kidsLow_of hsb, hrl⟩
                    have hfixE : Fixd w rs[k].rows[j].ad rs[k].rows[j].rows := ⟨HOE.out, ((HL.out _ HTM.out).2 _ HQM.out).2, HZ.out _ HTM.out _ HQM.out, kidsLow_of hs1, hsl⟩
                    have hnmB : ∀ r ∈ rows0, isNm rel r.e = true → r.e.kids = [] := fun r hr h => nodeB_nm (specE_nodes hsb r.e (List.mem_map_of_mem hr)) h
                    have hnmE : ∀ r ∈ rs[k].rows[j].rows, isNm rel r.e = true → r.e.kids = [] := fun r hr h => nodeB_nm (specE_nodes hs1 r.e (List.mem_map_of_mem hr)) h
                    have hsub0 : subB rel (exs ([] : List ER)) = fun _ => none := by funext e; unfold subB; simp [exs]
                    have hbody : rows0 ≠ [] → ∀ (w2 : World) (v : Value) (qs : List ER), Below w.heap.size w w2 → w1.heap.size ≤ w2.heap.size → NodM w2 w1.heap.size v qs → qs.length + rows0.length ≤ 1000 → Calls Tryz.prog 39 #[.slice adE rows0.length capE, .int .i64 ((rows0.length : Int) - 1), .string rel, .slice none 0 0, v] w2 (PutP w2 w1.heap.size v qs ((exs rows0).map (movX fun k => (qs.length : Int) + k))) := fun _ w2 v qs h1 h2 h3 h4 => by
                      have h5 := l7Put_any w w1.heap.size hbw.size rel adE none capE 0 rows0 [] hfixB (by simp) hnmB (fun h => absurd rfl h) rows0.length (rows0.length - 1) (by omega) (by omega) w2 v qs h1 h2 h3 (by rw [hsub0, ← exs_len rows0, put_same hsb, List.length_map, exs_len]; exact h4)
                      rw [hsub0] at h5
                      have e2 := put_same hsb qs.length
                      rw [exs_len] at e2
                      rw [e2] at h5
                      have e3 : ((rows0.length - 1 : Nat) : Int) = (rows0.length : Int) - 1 := by omega
                      rw [e3] at h5
                      exact h5
                    have hput := inl_put (typ := typ) (rel := rel) (tn := rs[k].name) (body := exs rows0) htn hs1 (fun h => HNZ.out (by rw [← List.length_eq_zero_iff, ← exs_len, h]; rfl))
                    rw [exs_len, HX0.out, ← HF.out] at hput
                    have hfewE : (chgE (F rs[k].name) (exs rs[k].rows[j].rows)).length ≤ 225 := by
                      have h1 := chgUp_few (F rs[k].name) (exs rs[k].rows[j].rows) 15 (by omega) (fun e he => by
                        rw [HF.out]
                        unfold inlF
                        split
                        · rw [← HX0.out, exs_len]; exact hrl
                        · simp) _ (Nat.le_refl _)
                      unfold chgE
                      rw [exs_len] at h1 ⊢
                      omega
                    have h5 := l7Put_any w w1.heap.size hbw.size rel rs[k].rows[j].ad adE rs[k].rows[j].cap capE rs[k].rows[j].rows rows0 hfixE hrl hnmE hbody rs[k].rows[j].rows.length (rs[k].rows[j].rows.length - 1) (by omega) (by omega) w1 (.slice none 0 0) [] hbw (Nat.le_refl _) (ExM.nod (lotM_nil _ _)) (by rw [HX0.out]; show 0 + (putF _ _ _ _ 0).length ≤ _; rw [hput]; omega)
                    have e3 : ((rs[k].rows[j].rows.length - 1 : Nat) : Int) = (rs[k].rows[j].rows.length : Int) - 1 := by omega
                    rw [e3, HX0.out] at h5
                    have e4 : putF (subB rel (relOr (tys rs) typ rel)) (exs rs[k].rows[j].rows) rs[k].rows[j].rows.length (rs[k].rows[j].rows.length - 1) ([] : List ER).length = chgE (F rs[k].name) (exs rs[k].rows[j].rows) := hput
                    rw [e4] at h5
                    exact h5
                  clear hoff hfew1
                  go_wp2_with fail
                  clear z0 z1 y0 y1
                  obtain ⟨wi, hwi⟩ : ∃ wi, wi = wr := ⟨_, rfl⟩
                  subst hwi
                  obtain ⟨CV, hCV⟩ : ∃ C : Nat → Value, C = fun n => ((Value.slice (some { block := bO, off := 0 }) rs.length capO) :: (Value.int IntKind.i64 (k : Int)) :: (Value.pointer (some { block := bO, off := k * 2 })) :: (Value.pointer (some { block := bO, off := k * 2 + 1 })) :: (Value.slice (some { block := b2, off := off2 }) rs[k].rows.length qs[k].cap) :: (Value.int IntKind.i64 (j : Int)) :: (Value.slice rs[k].rows[j].ad rs[k].rows[j].rows.length rs[k].rows[j].cap) :: (Value.slice rs[k].rows[j].ad rs[k].rows[j].rows.length rs[k].rows[j].cap) :: (Value.int IntKind.i64 (rs[k].rows[j].rows.length : Int)) :: (Value.int IntKind.i64 ((rs[k].rows[j].rows.length : Int) - 1)) :: (Value.string rel) :: (Value.slice adE rows0.length capE) :: (undef) :: (Value.pointer (some { block := b2, off := off2 + j * 2 })) :: (Value.pointer (some { block := b2, off := off2 + j * 2 + 1 })) :: []).getD n undef := ⟨_, rfl⟩
                  have HCV : Hid (CV 0 = Value.slice (some { block := bO, off := 0 }) rs.length capO ∧ CV 1 = Value.int IntKind.i64 (k : Int) ∧ CV 2 = Value.pointer (some { block := bO, off := k * 2 }) ∧ CV 3 = Value.pointer (some { block := bO, off := k * 2 + 1 }) ∧ CV 4 = Value.slice (some { block := b2, off := off2 }) rs[k].rows.length qs[k].cap ∧ CV 5 = Value.int IntKind.i64 (j : Int) ∧ CV 6 = Value.slice rs[k].rows[j].ad rs[k].rows[j].rows.length rs[k].rows[j].cap ∧ CV 7 = Value.slice rs[k].rows[j].ad rs[k].rows[j].rows.length rs[k].rows[j].cap ∧ CV 8 = Value.int IntKind.i64 (rs[k].rows[j].rows.length : Int) ∧ CV 9 = Value.int IntKind.i64 ((rs[k].rows[j].rows.length : Int) - 1) ∧ CV 10 = Value.string rel ∧ CV 11 = Value.slice adE rows0.length capE ∧ CV 12 = undef ∧ CV 13 = Value.pointer (some { block := b2, off := off2 + j * 2 }) ∧ CV 14 = Value.pointer (some { block := b2, off := off2 + j * 2 + 1 })) := by show _ ∧ _; rw [hCV]; exact ⟨rfl, rfl, rfl, rfl, rfl, rfl, rfl, rfl, rfl, rfl, rfl, rfl, rfl, rfl, rfl⟩
                  clear hCV
                  refine wp_region_frame2 15 (fun | 0 => u77 | 1 => u78 | 2 => u79 | 3 => u80 | 4 => u81 | 5 => u82 | 6 => u83 | 7 => u84 | 8 => u85 | 9 => u86 | 10 => u87 | 11 => u88 | 12 => u89 | 13 => u90 | 14 => u91 | _ => undef) (fun fq => { tmps := List.toArray (Value.slice (some { block := b, off := off }) rs.length cap :: Value.string typ :: Value.string rel :: undef :: undef :: undef :: Value.slice none 0 0 :: Value.bool false :: Value.slice adE rows0.length capE :: Value.slice (some { block := bO, off := 0 }) rs.length capO :: Value.int IntKind.i64 (k : Int) :: Value.int IntKind.i64 (j : Int) :: Value.slice rs[k].rows[j].ad rs[k].rows[j].rows.length rs[k].rows[j].cap :: Value.slice (some { block := b, off := off }) rs.length cap :: Value.string typ :: Value.string rel :: Value.slice adE rows0.length capE :: Value.slice (some { block := b, off := off }) rs.length cap :: Value.bool true :: Value.bool false :: Value.bool false :: Value.slice adE rows0.length capE :: Value.int IntKind.i64 (rows0.length : Int) :: Value.bool false :: Value.bool false :: Value.bool false :: Value.slice adE rows0.length capE :: Value.string rel :: Value.bool false :: Value.bool false :: Value.slice (some { block := b, off := off }) rs.length cap :: Value.slice (some { block := bO, off := 0 }) rs.length capO :: Value.int IntKind.i64 (k : Int) :: Value.slice (some { block := bO, off := 0 }) rs.length capO :: Value.int IntKind.i64 (rs.length : Int) :: Value.bool true :: u36 :: u37 :: Value.slice (some { block := bO, off := 0 }) rs.length capO :: Value.int IntKind.i64 (k : Int) :: Value.pointer (some { block := bO, off := k * 2 }) :: Value.pointer (some { block := bO, off := k * 2 }) :: Value.string rs[k].name :: Value.string typ :: Value.bool true :: Value.bool true :: Value.int IntKind.i64 (j : Int) :: Value.slice (some { block := bO, off := 0 }) rs.length capO :: Value.int IntKind.i64 (k : Int) :: Value.pointer (some { block := bO, off := k * 2 }) :: Value.pointer (some { block := bO, off := k * 2 + 1 }) :: Value.slice (some { block := b2, off := off2 }) rs[k].rows.length qs[k].cap :: Value.int IntKind.i64 (rs[k].rows.length : Int) :: Value.bool true :: Value.bool true :: u55 :: u56 :: Value.slice (some { block := bO, off := 0 }) rs.length capO :: Value.int IntKind.i64 (k : Int) :: Value.pointer (some { block := bO, off := k * 2 }) :: Value.pointer (some { block := bO, off := k * 2 + 1 }) :: Value.slice (some { block := b2, off := off2 }) rs[k].rows.length qs[k].cap :: Value.int IntKind.i64 (j : Int) :: Value.pointer (some { block := b2, off := off2 + j * 2 }) :: Value.pointer (some { block := b2, off := off2 + j * 2 }) :: Value.string rs[k].rows[j].name :: Value.string rel :: Value.bool true :: Value.slice (some { block := b, off := off }) rs.length cap :: Value.int IntKind.i64 (k : Int) :: Value.pointer (some { block := b, off := off + k * 2 }) :: Value.pointer (some { block := b, off := off + k * 2 + 1 }) :: Value.slice (some { block := bs, off := offs }) rs[k].rows.length rs[k].cap :: Value.int IntKind.i64 (j : Int) :: Value.pointer (some { block := bs, off := offs + j * 2 }) :: Value.pointer (some { block := bs, off := offs + j * 2 + 1 }) :: Value.slice rs[k].rows[j].ad rs[k].rows[j].rows.length rs[k].rows[j].cap :: (fq 0) :: (fq 1) :: (fq 2) :: (fq 3) :: (fq 4) :: (fq 5) :: (fq 6) :: (fq 7) :: (fq 8) :: (fq 9) :: (fq 10) :: (fq 11) :: (fq 12) :: (fq 13) :: (fq 14) :: undef :: undef :: undef :: undef :: []), defers := [] }) (CL 12 14 13 CV wi (C1 wi (chgE (F rs[k].name) (exs rs[k].rows[j].rows)))) (by kernel_rfl) rfl (by kernel_rfl) (fun o ho l fq w' hI hp => ?clR) rfl ⟨fun _ _ h => (by cases h), (Below.refl _ _).drew, fun h => (by cases h), fun h => (by cases h)⟩ ?stepR ?finR
                  case clR =>
                    obtain rfl := Option.some.inj ho
                    intro k hk
                    have hc : k = 0 ∨ k = 1 ∨ k = 2 ∨ k = 3 ∨ k = 4 ∨ k = 5 ∨ k = 6 ∨ k = 7 ∨ k = 8 ∨ k = 9 ∨ k = 10 ∨ k = 11 ∨ k = 12 ∨ k = 13 ∨ k = 14 := by omega
                    rcases hc with rfl | rfl | rfl | rfl | rfl | rfl | rfl | rfl | rfl | rfl | rfl | rfl | rfl | rfl | rfl
                    · exact hp { on := 0, ground := .phase } (by simp) rfl
                    · exact hp { on := 1, ground := .phase } (by simp) rfl
                    · exact hp { on := 2, ground := .phase } (by simp) rfl
                    · exact hp { on := 3, ground := .phase } (by simp) rfl
                    · exact hp { on := 4, ground := .phase } (by simp) rfl
                    · exact hp { on := 5, ground := .phase } (by simp) rfl
                    · exact hp { on := 6, ground := .phase } (by simp) rfl
                    · exact hp { on := 7, ground := .phase } (by simp) rfl
                    · exact hp { on := 8, ground := .phase } (by simp) rfl
                    · exact hp { on := 9, ground := .phase } (by simp) rfl
                    · exact hp { on := 10, ground := .phase } (by simp) rfl
                    · exact hp { on := 11, ground := .phase } (by simp) rfl
                    · exact hp { on := 12, ground := .phase } (by simp) rfl
                    · exact hI.dep (hp { on := 14, ground := .data } (by simp) rfl)
                    · exact hp { on := 14, ground := .data } (by simp) rfl
                  case stepR =>
                    rintro i hi o ho l fq w' hli hI hpre
                    have HI : Hid (CL 12 14 13 CV wi (C1 wi (chgE (F rs[k].name) (exs rs[k].rows[j].rows))) l fq w') := hI
                    have HPR : Hid (∀ e ∈ o.after, Region.binds .any e = true → l e.on = true) := hpre
                    clear hI hpre
                    have hc : i = 0 ∨ i = 1 ∨ i = 2 ∨ i = 3 ∨ i = 4 ∨ i = 5 ∨ i = 6 ∨ i = 7 ∨ i = 8 ∨ i = 9 ∨ i = 10 ∨ i = 11 ∨ i = 12 ∨ i = 13 ∨ i = 14 := by omega
                    clear hi
                    rcases hc with rfl | rfl | rfl | rfl | rfl | rfl | rfl | rfl | rfl | rfl | rfl | rfl | rfl | rfl | rfl
                    · obtain rfl := Option.some.inj ho
                      have HP := toHX (HI.out.put (i := 0) (by decide) (fun h => absurd h (by decide)) HCV.out.1.symm)
                      refine wpOp_hid rfl fun K HK => ?_
                      clear ho HPR HI
                      dsimp only
                      go_simp
                      exact HK.out _ _ ⟨_, by simp [upd], HP.out⟩
                    · obtain rfl := Option.some.inj ho
                      have HP := toHX (HI.out.put (i := 1) (by decide) (fun h => absurd h (by decide)) HCV.out.2.1.symm)
                      refine wpOp_hid rfl fun K HK => ?_
                      clear ho HPR HI
                      dsimp only
                      go_simp
                      exact HK.out _ _ ⟨_, by simp [upd], HP.out⟩
                    · obtain rfl := Option.some.inj ho
                      have e0 : fq 0 = Value.slice (some { block := bO, off := 0 }) rs.length capO := (HI.out.val 0 (by decide) (HPR.out { on := 0, ground := .data } (by simp) rfl)).trans HCV.out.1
                      have e1 : fq 1 = Value.int IntKind.i64 (k : Int) := (HI.out.val 1 (by decide) (HPR.out { on := 1, ground := .data } (by simp) rfl)).trans HCV.out.2.1
                      have HP := toHX (HI.out.put (i := 2) (by decide) (fun h => absurd h (by decide)) HCV.out.2.2.1.symm)
                      refine wpOp_hid rfl fun K HK => ?_
                      clear ho HPR HI
                      simp only [e0, e1]
                      go_simp
                      exact HK.out _ _ ⟨_, by simp [upd, e0, e1], HP.out⟩
                    · obtain rfl := Option.some.inj ho
                      have e2 : fq 2 = Value.pointer (some { block := bO, off := k * 2 }) := (HI.out.val 2 (by decide) (HPR.out { on := 2, ground := .data } (by simp) rfl)).trans HCV.out.2.2.1
                      have HP := toHX (HI.out.put (i := 3) (by decide) (fun h => absurd h (by decide)) HCV.out.2.2.2.1.symm)
                      refine wpOp_hid rfl fun K HK => ?_
                      clear ho HPR HI
                      simp only [e2]
                      go_simp
                      exact HK.out _ _ ⟨_, by simp [upd, e2], HP.out⟩
                    · obtain rfl := Option.some.inj ho
                      have e3 : fq 3 = Value.pointer (some { block := bO, off := k * 2 + 1 }) := (HI.out.val 3 (by decide) (HPR.out { on := 3, ground := .data } (by simp) rfl)).trans HCV.out.2.2.2.1
                      have x1 := kept HI.out.bel HAT.out.2 t1
                      have HP := toHX (HI.out.put (i := 4) (by decide) (fun h => absurd h (by decide)) HCV.out.2.2.2.2.1.symm)
                      refine wpOp_hid rfl fun K HK => ?_
                      clear ho HPR HI
                      simp only [e3]
                      go_simp
                      exact HK.out _ _ ⟨_, by simp [upd, e3], HP.out⟩
                    · obtain rfl := Option.some.inj ho
                      have HP := toHX (HI.out.put (i := 5) (by decide) (fun h => absurd h (by decide)) HCV.out.2.2.2.2.2.1.symm)
                      refine wpOp_hid rfl fun K HK => ?_
                      clear ho HPR HI
                      dsimp only
                      go_simp
                      exact HK.out _ _ ⟨_, by simp [upd], HP.out⟩
                    · obtain rfl := Option.some.inj ho
                      have HP := toHX (HI.out.put (i := 6) (by decide) (fun h => absurd h (by decide)) HCV.out.2.2.2.2.2.2.1.symm)
                      refine wpOp_hid rfl fun K HK => ?_
                      clear ho HPR HI
                      dsimp only
                      go_simp
                      exact HK.out _ _ ⟨_, by simp [upd], HP.out⟩
                    · obtain rfl := Option.some.inj ho
                      have HP := toHX (HI.out.put (i := 7) (by decide) (fun h => absurd h (by decide)) HCV.out.2.2.2.2.2.2.2.1.symm)
                      refine wpOp_hid rfl fun K HK => ?_
                      clear ho HPR HI
                      dsimp only
                      go_simp
                      exact HK.out _ _ ⟨_, by simp [upd], HP.out⟩
                    · obtain rfl := Option.some.inj ho
                      have e7 : fq 7 = Value.slice rs[k].rows[j].ad rs[k].rows[j].rows.length rs[k].rows[j].cap := (HI.out.val 7 (by decide) (HPR.out { on := 7, ground := .data } (by simp) rfl)).trans HCV.out.2.2.2.2.2.2.2.1
                      have HP := toHX (HI.out.put (i := 8) (by decide) (fun h => absurd h (by decide)) HCV.out.2.2.2.2.2.2.2.2.1.symm)
                      refine wpOp_hid rfl fun K HK => ?_
                      clear ho HPR HI
                      simp only [e7]
                      go_simp
                      exact HK.out _ _ ⟨_, by simp [upd, e7], HP.out⟩
                    · obtain rfl := Option.some.inj ho
                      have e8 : fq 8 = Value.int IntKind.i64 (rs[k].rows[j].rows.length : Int) := (HI.out.val 8 (by decide) (HPR.out { on := 8, ground := .data } (by simp) rfl)).trans HCV.out.2.2.2.2.2.2.2.2.1
                      have HP := toHX (HI.out.put (i := 9) (by decide) (fun h => absurd h (by decide)) HCV.out.2.2.2.2.2.2.2.2.2.1.symm)
                      refine wpOp_hid rfl fun K HK => ?_
                      clear ho HPR HI
                      simp only [e8]
                      go_simp
                      exact HK.out _ _ ⟨_, by simp [upd, e8], HP.out⟩
                    · obtain rfl := Option.some.inj ho
                      have HP := toHX (HI.out.put (i := 10) (by decide) (fun h => absurd h (by decide)) HCV.out.2.2.2.2.2.2.2.2.2.2.1.symm)
                      refine wpOp_hid rfl fun K HK => ?_
                      clear ho HPR HI
                      dsimp only
                      go_simp
                      exact HK.out _ _ ⟨_, by simp [upd], HP.out⟩
                    · obtain rfl := Option.some.inj ho
                      have HP := toHX (HI.out.put (i := 11) (by decide) (fun h => absurd h (by decide)) HCV.out.2.2.2.2.2.2.2.2.2.2.2.1.symm)
                      refine wpOp_hid rfl fun K HK => ?_
                      clear ho HPR HI
                      dsimp only
                      go_simp
                      exact HK.out _ _ ⟨_, by simp [upd], HP.out⟩
                    · obtain rfl := Option.some.inj ho
                      have e6 : fq 6 = Value.slice rs[k].rows[j].ad rs[k].rows[j].rows.length rs[k].rows[j].cap := (HI.out.val 6 (by decide) (HPR.out { on := 6, ground := .data } (by simp) rfl)).trans HCV.out.2.2.2.2.2.2.1
                      have e9 : fq 9 = Value.int IntKind.i64 ((rs[k].rows[j].rows.length : Int) - 1) := (HI.out.val 9 (by decide) (HPR.out { on := 9, ground := .data } (by simp) rfl)).trans HCV.out.2.2.2.2.2.2.2.2.2.1
                      have e10 : fq 10 = Value.string rel := (HI.out.val 10 (by decide) (HPR.out { on := 10, ground := .data } (by simp) rfl)).trans HCV.out.2.2.2.2.2.2.2.2.2.2.1
                      have e11 : fq 11 = Value.slice adE rows0.length capE := (HI.out.val 11 (by decide) (HPR.out { on := 11, ground := .data } (by simp) rfl)).trans HCV.out.2.2.2.2.2.2.2.2.2.2.2.1
                      have HB' := toHX HI.out.bel
                      refine wpOp_hid rfl fun K HK => ?_
                      clear ho HPR
                      simp only [e6, e9, e10, e11]
                      go_simp
                      refine (HPUT.out w' HB'.out).mono ?_
                      rintro e w9 ⟨v9, qs9, rfl, h1, h2, h3, -⟩
                      rw [List.nil_append] at h1
                      obtain ⟨ad9, cap9, rfl⟩ := own_slice h1.own
                      have hb9 : Below w'.heap.size w' w9 := h3.below (Nat.le_refl _) (fun g hg => by simp [Value.ownBlock] at hg)
                      have HP := toHX (HI.out.call (by decide) (v := .slice ad9 qs9.length cap9) (HB'.out.trans (hb9.mono HB'.out.size)) (show C1 wi (chgE (F rs[k].name) (exs rs[k].rows[j].rows)) (.slice ad9 qs9.length cap9) w9 from ⟨ad9, cap9, qs9, rfl, NodM.mono h1 HB'.out.size, h2, HB'.out.trans (hb9.mono HB'.out.size)⟩))
                      clear h1 h2 h3 hb9 HI
                      go_wp2_with fail
                      exact HK.out _ _ ⟨_, by simp [upd, e6, e9, e10, e11], HP.out⟩
                    · obtain rfl := Option.some.inj ho
                      have e4 : fq 4 = Value.slice (some { block := b2, off := off2 }) rs[k].rows.length qs[k].cap := (HI.out.val 4 (by decide) (HPR.out { on := 4, ground := .data } (by simp) rfl)).trans HCV.out.2.2.2.2.1
                      have e5 : fq 5 = Value.int IntKind.i64 (j : Int) := (HI.out.val 5 (by decide) (HPR.out { on := 5, ground := .data } (by simp) rfl)).trans HCV.out.2.2.2.2.2.1
                      have HP := toHX (HI.out.put (i := 13) (by decide) (fun h => absurd h (by decide)) HCV.out.2.2.2.2.2.2.2.2.2.2.2.2.2.1.symm)
                      refine wpOp_hid rfl fun K HK => ?_
                      clear ho HPR HI
                      simp only [e4, e5]
                      go_simp
                      exact HK.out _ _ ⟨_, by simp [upd, e4, e5], HP.out⟩
                    · obtain rfl := Option.some.inj ho
                      have e13 : fq 13 = Value.pointer (some { block := b2, off := off2 + j * 2 }) := (HI.out.val 13 (by decide) (HPR.out { on := 13, ground := .data } (by simp) rfl)).trans HCV.out.2.2.2.2.2.2.2.2.2.2.2.2.2.1
                      have HP := toHX (HI.out.put (i := 14) (by decide) (fun _ => HPR.out { on := 13, ground := .data } (by simp) rfl) HCV.out.2.2.2.2.2.2.2.2.2.2.2.2.2.2.symm)
                      refine wpOp_hid rfl fun K HK => ?_
                      clear ho HPR HI
                      simp only [e13]
                      go_simp
                      exact HK.out _ _ ⟨_, by simp [upd, e13], HP.out⟩
                  case finR =>
                    rintro o ho l fq w' hall hI
                    obtain rfl := Option.some.inj ho
                    obtain ⟨ad9, cap9, qs9, e12, hn9, he9, hb9⟩ := hI.mid (hall 12 (by omega))
                    rw [e12] at hn9
                    have e14 : fq 14 = Value.pointer (some { block := b2, off := off2 + j * 2 + 1 }) := (hI.val 14 (by decide) (hall 14 (by omega))).trans HCV.out.2.2.2.2.2.2.2.2.2.2.2.2.2.2
                    have x1 := kept hb9 hbl2 s1
                    have x2 : w'.frozen? ⟨b2, off2 + j * 2 + 1, none⟩ = false := keptF hb9 hbl2 (HFZ.out _)
                    have HT2 := toHX (TypM.reput HX.out hb9 hkq hjq HAD0.out HB.out.size hn9)
                    rw [← HOFF.out] at HT2
                    have HE9 := toHX he9
                    have HBX : Hid (Below w.heap.size w (w'.setCell ⟨b2, off2 + j * 2 + 1, none⟩ (.slice ad9 qs9.length cap9))) := (HB.out.trans (hb9.mono HB.out.size)).setCell HB2W.out _
                    clear hn9 he9 hb9 hall
                    refine wpOp_hid rfl fun K HK => ?_
                    simp only [e12, e14]
                    go_simp
                    refine HK.out _ _ ?_
                    clear ho HK K hI HCV e12 e14
                    obtain ⟨y0, hy0⟩ : ∃ y, y = fq 0 := ⟨_, rfl⟩
                    rw [← hy0]
                    obtain ⟨y1, hy1⟩ : ∃ y, y = fq 1 := ⟨_, rfl⟩
                    rw [← hy1]
                    obtain ⟨y2, hy2⟩ : ∃ y, y = fq 2 := ⟨_, rfl⟩
                    rw [← hy2]
                    obtain ⟨y3, hy3⟩ : ∃ y, y = fq 3 := ⟨_, rfl⟩
                    rw [← hy3]
                    obtain ⟨y4, hy4⟩ : ∃ y, y = fq 4 := ⟨_, rfl⟩
                    rw [← hy4]
                    obtain ⟨y5, hy5⟩ : ∃ y, y = fq 5 := ⟨_, rfl⟩
                    rw [← hy5]
                    obtain ⟨y6, hy6⟩ : ∃ y, y = fq 6 := ⟨_, rfl⟩
                    rw [← hy6]
                    obtain ⟨y7, hy7⟩ : ∃ y, y = fq 7 := ⟨_, rfl⟩
                    rw [← hy7]
                    obtain ⟨y8, hy8⟩ : ∃ y, y = fq 8 := ⟨_, rfl⟩
                    rw [← hy8]
                    obtain ⟨y9, hy9⟩ : ∃ y, y = fq 9 := ⟨_, rfl⟩
                    rw [← hy9]
                    obtain ⟨y10, hy10⟩ : ∃ y, y = fq 10 := ⟨_, rfl⟩
                    rw [← hy10]
                    obtain ⟨y11, hy11⟩ : ∃ y, y = fq 11 := ⟨_, rfl⟩
                    rw [← hy11]
                    obtain ⟨y13, hy13⟩ : ∃ y, y = fq 13 := ⟨_, rfl⟩
                    rw [← hy13]
                    clear hy0 hy1 hy2 hy3 hy4 hy5 hy6 hy7 hy8 hy9 hy10 hy11 hy13 fq l CV
                    have HQ2 : Hid (tys (qs.set k { qs[k] with rows := qs[k].rows.set j ⟨qs[k].rows[j].name, qs9, ad9, cap9⟩ }) = (mixS F (tys rs) k).set k (mixT F rs[k].p (j + 1))) := by
                      show _ = _
                      have e1 : tys (qs.set k { qs[k] with rows := qs[k].rows.set j ⟨qs[k].rows[j].name, qs9, ad9, cap9⟩ }) = (tys qs).set k ⟨qs[k].name, (rls qs[k].rows).set j ⟨qs[k].rows[j].name, exs qs9⟩⟩ := by simp [tys, TR.p, rls, RR.p, List.map_set]
                      rw [e1, HQ.out, List.set_set, mixT_succ F rs[k].p j HJL.out]
                      congr 1
                      have e2 : qs[k].name = rs[k].p.name := congrArg Ty.name HQK.out
                      have e3 : qs[k].rows[j].name = rs[k].rows[j].name := congrArg Rl.name HRJ.out
                      have e4 : rs[k].p.rels[j]'HJL.out = rs[k].rows[j].p := by show (rls rs[k].rows)[j] = _; simp [rls]
                      rw [HRQ.out, e2, e3, HE9.out, e4]
                      rfl
                    clear x1 x2
                    go_wp2_with fail
                    go_roundw
                    case rel => exact ⟨j + 1, _, by omega, by go_num, HT2, HQ2, HBX⟩
                    case measure => first | (simp [intOf]; done) | (simp [intOf]; omega)
              · have e1 : j = rs[k].p.rels.length := by show j = (rls rs[k].rows).length; rw [rls_len]; omega
                have HQ2 : Hid (tys qs = mixS F (tys rs) (k + 1)) := by
                  show _ = _
                  rw [HQ.out, e1, mixT_all, ← HTK.out]; exact mixS_succ F (tys rs) k htl
                clear e1
                go_wp2
                go_roundw
                case rel => exact ⟨k + 1, qs, by omega, by go_num, HX, HQ2, HB⟩
                case measure => first | (simp [intOf]; done) | (simp [intOf]; omega)
        · obtain rfl : k = rs.length := by omega
          have HTQ : Hid (tys qs = chgS F (tys rs)) := by show _ = _; rw [HQ.out, ← tys_len rs, mixS_all]
          have hbod : (relOr (tys rs) typ rel).length ≤ 15 ∧ ∀ m ∈ relOr (tys rs) typ rel, m.light ∧ m.fits := by
            rw [← HX0.out]
            refine ⟨by rw [exs_len]; exact hrl, fun m hm => ?_⟩
            obtain ⟨x, hx, rfl⟩ := List.mem_map.1 hm
            obtain ⟨t, ht, q, hq, h⟩ := HBODY.out
            rw [h] at hx
            exact ⟨((HL.out t ht).2 q hq).2 x hx, ((HFT.out t ht).2.2 q hq).2.2 x hx⟩
          have hlf : ∀ t ∈ rs, ∀ q ∈ t.rows, ∀ x ∈ q.rows, (F t.name x.e).length ≤ 15 ∧ ∀ m ∈ F t.name x.e, m.light ∧ m.fits := fun t ht q hq x hx => by
            rw [HF.out]
            unfold inlF
            split
            · exact hbod
            · refine ⟨by simp, fun m hm => ?_⟩
              rw [List.mem_singleton] at hm; subst hm
              exact ⟨((HL.out t ht).2 q hq).2 x hx, ((HFT.out t ht).2.2 q hq).2.2 x hx⟩
          have hfrom := chg_nodes HTQ.out (fun e => e.light ∧ e.fits) (fun e g h => ⟨⟨h.1.1, by simpa [movX] using h.1.2⟩, by simpa [movX, Ex.fits] using h.2⟩) (fun t ht q hq x hx => ⟨⟨((HL.out t ht).2 q hq).2 x hx, ((HFT.out t ht).2.2 q hq).2.2 x hx⟩, (hlf t ht q hq x hx).2⟩)
          have hfew : ∀ t ∈ rs, ∀ q ∈ t.rows, (chgE (F t.name) (exs q.rows)).length ≤ 225 := fun t ht q hq => by
            have h1 := chgUp_few (F t.name) (exs q.rows) 15 (by omega) (fun e he => by
              obtain ⟨x, hx, rfl⟩ := List.mem_map.1 he
              exact (hlf t ht q hq x hx).1) _ (Nat.le_refl _)
            have h2 := (HEX.out t ht q hq).2.1
            unfold chgE
            rw [exs_len] at h1 ⊢
            omega
          have HLO : Hid (∀ r ∈ qs, r.light) := fun t ht => by
            obtain ⟨s, hs, e1, e2, e3⟩ := hfrom t ht
            refine ⟨by have := HR6.out s hs; omega, fun q hq => ?_⟩
            obtain ⟨q', hq', e4, e5, e6⟩ := e3 q hq
            have := hfew s hs q' hq'
            exact ⟨by omega, fun x hx => (e6 x hx).1⟩
          have HFO : Hid (∀ r ∈ qs, r.fits) := fun t ht => by
            obtain ⟨s, hs, e1, e2, e3⟩ := hfrom t ht
            refine ⟨by rw [e1]; exact (HFT.out s hs).1, by have := HR6.out s hs; unfold maxLen; omega, fun q hq => ?_⟩
            obtain ⟨q', hq', e4, e5, e6⟩ := e3 q hq
            have := hfew s hs q' hq'
            exact ⟨by rw [e4]; exact ((HFT.out s hs).2.2 q' hq').1, by unfold maxLen; omega, fun x hx => (e6 x hx).2⟩
          have hqn : qs.length = rs.length := by rw [← tys_len, HTQ.out]; simp [chgS, tys_len]
          have HSO : Hid (SlT wo (some ⟨bO, 0, none⟩) qs) := by
            obtain ⟨a, c, e, h, -⟩ := TypM.read HX.out
            injection e with e1 _ _
            rw [e1]; exact h
          have HSOK := toHX (specSchemaOk_any (some ⟨bO, 0, none⟩) capO qs wo (by omega) HSO.out HLO.out HFO.out)
          rw [hqn] at HSOK
          clear hbod hlf hfrom hfew hqn
          go_wp2_with fail
          refine HSOK.out.mono ?_
          rintro e wD ⟨rfl, hbD⟩
          have HBD : Hid (Below w.heap.size w wD) := HB.out.trans (hbD.mono HB.out.size)
          have HTD : Hid (TypM wD w.heap.size (.slice (some ⟨bO, 0, none⟩) rs.length capO) qs) := LotM.below kidT HX.out hbD
          clear hbD
          cases hd2 : schemaD (tys qs) with
          | false =>
            have HN : Hid (inlD (tys rs) typ rel = none) := by show _ = _; rw [HPD.out, ← HTQ.out, hd2]; rfl
            clear hd2
            go_wp2
            refine bodyPost_ret (v := .tuple #[.slice none 0 0, .bool false]) ?_ rfl (ansT_none HN.out HBD.out)
            simp [results, Tryz.results13, go_sem]
          | true =>
            have HN : Hid (inlD (tys rs) typ rel = some (tys qs)) := by show _ = _; rw [HPD.out, ← HTQ.out, hd2]; rfl
            clear hd2
            go_wp2
            refine bodyPost_ret (v := .tuple #[.slice (some ⟨bO, 0, none⟩) rs.length capO, .bool true]) ?_ rfl ⟨.slice (some ⟨bO, 0, none⟩) rs.length capO, qs, by rw [HN.out]; rfl, by rw [HN.out]; rfl, HTD.out, HBD.out⟩
            simp [results, Tryz.results13, go_sem]
end Go.Proofs.YtmghabcaakgjiaaGreat
