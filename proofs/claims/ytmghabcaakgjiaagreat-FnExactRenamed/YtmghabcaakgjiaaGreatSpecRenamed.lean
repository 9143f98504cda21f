/- Contract of the document's Renamed. -/
import Derived.Test.YtmghabcaakgjiaaGreatJ24
import Derived.Test.YtmghabcaakgjiaaGreatL2Copy
import Derived.Test.YtmghabcaakgjiaaGreatNodReg
namespace Go.Proofs.YtmghabcaakgjiaaGreat
set_option maxRecDepth 100000
set_option linter.unusedVariables false
open Go.ChangeShapes Go.WideShapes Go.ChangeAt Go.RowKit Go.Maps
open Pl
def uR (ts : List Ty) (typ frm to : ByteArray) (k : Nat) : List Ty := mixL (renT ts typ frm to) ts k
def vR (ts : List Ty) (typ frm to : ByteArray) (k : Nat) (t : Ty) (j : Nat) : List Ty := (uR ts typ frm to k).set k ⟨t.name, mixL (renR ts typ frm to t.name) t.rels j⟩
def xR (ts : List Ty) (typ frm to : ByteArray) (k : Nat) (t : Ty) (j : Nat) (r : Rl) (m : Nat) : List Ty := (uR ts typ frm to k).set k ⟨t.name, (mixL (renR ts typ frm to t.name) t.rels j).set j ⟨r.name, mixL (renX ts typ frm to t.name) r.expr m⟩⟩
theorem vR_zero (ts : List Ty) (typ frm to : ByteArray) (k : Nat) (h : k < ts.length) : vR ts typ frm to k ts[k] 0 = uR ts typ frm to k := by
 unfold vR uR
 rw [mixL_zero]
 exact mixL_self _ ts k h
theorem xR_zero (ts : List Ty) (typ frm to : ByteArray) (k : Nat) (t : Ty) (j : Nat) (h : j < t.rels.length) : xR ts typ frm to k t j t.rels[j] 0 = vR ts typ frm to k t j := by
 unfold xR vR
 rw [mixL_zero]
 have : (mixL (renR ts typ frm to t.name) t.rels j).set j ⟨t.rels[j].name, t.rels[j].expr⟩ = mixL (renR ts typ frm to t.name) t.rels j := mixL_self _ t.rels j h
 rw [this]
set_option maxHeartbeats 16000000 in
theorem specRenamed_any (ad : Option Addr) (cap : Nat) (rs : List TR) (typ frm to : ByteArray) (w : World) (hlen : rs.length ≤ 1048576) (hs : SlT w ad rs) (hl : ∀ r ∈ rs, r.light) (hf : ∀ r ∈ rs, r.fits) (hz : ∀ t ∈ rs, ∀ q ∈ t.rows, ∀ r ∈ q.rows, r.atZero) (hto : to.size ≤ maxLen) :
  Calls Tryz.prog 7 #[.slice ad rs.length cap, .string typ, .string frm, .string to] w (AnsT w (renD (tys rs) typ frm to)) := by
 have HS := toHX hs
 have HL := toHX hl
 have HFT := toHX hf
 have HZ := toHX hz
 clear hs hl hf hz
 go_enter Tryz.func7, Tryz.ntmps7
 go_wp2_with fail
 refine (specSchemaOk_any ad cap rs _ hlen HS.out HL.out HFT.out).mono ?_
 rintro e w1 ⟨rfl, hb1⟩
 have HB1 : Hid (Below w.heap.size w w1) := hb1
 clear hb1
 cases hd : schemaD (tys rs) with
 | false =>
  have HN : Hid (renD (tys rs) typ frm to = none) := by show _ = _; unfold renD; rw [hd]; rfl
  clear hd
  go_wp2
  refine bodyPost_ret (v := .tuple #[.slice none 0 0, .bool false]) ?_ rfl (ansT_none HN.out HB1.out)
  simp [results, Tryz.results7, go_sem]
 | true =>
  have HD := toHX hd
  have hSP := schemaD_iff.1 hd
  have HSH := toHX hSP.1
  have HRF := toHX hSP.2.1
  obtain ⟨h6, hr6, hex⟩ := shape_facts hSP.1
  have HR6 := toHX hr6
  have HEX := toHX hex
  clear hd hSP hr6 hex
  go_wp2_with fail
  refine (l2Rel_any ad cap rs typ frm _ hlen (HS.out.below HB1.out) HL.out).mono ?_
  rintro e wq ⟨⟨rows0, adE, capE, rfl, hex0, -, -⟩, hwq⟩
  replace hwq := hwq.symm
  subst hwq
  have HX0 : Hid (exs rows0 = relOr (tys rs) typ frm) := hex0
  clear hex0
  by_cases hz0 : rows0 = []
  ·have HN : Hid (renD (tys rs) typ frm to = none) := by
    have e : relOr (tys rs) typ frm = [] := by rw [← HX0.out, hz0]; rfl
    show _ = _; unfold renD hasB; rw [e]; simp
   have hlz : (rows0.length : Int) = 0 := by rw [hz0]; rfl
   clear hz0
   go_wp2
   refine bodyPost_ret (v := .tuple #[.slice none 0 0, .bool false]) ?_ rfl (ansT_none HN.out HB1.out)
   simp [results, Tryz.results7, go_sem]
  have hlz : ¬ (rows0.length : Int) = 0 := fun h => hz0 (List.length_eq_zero_iff.1 (by omega))
  have hlz2 : ((rows0.length : Int) == 0) = false := by simpa using hlz
  have HRO : Hid (relOr (tys rs) typ frm ≠ []) := by
   rw [← HX0.out]
   intro h
   exact hz0 (List.map_eq_nil_iff.1 h)
  have HE1 : Hid (hasB (tys rs) typ frm = true) := by
   show _ = _
   unfold hasB
   have h := HRO.out
   cases e : relOr (tys rs) typ frm with
   | nil => exact absurd e h
   | cons a b => rfl
  clear hz0
  go_wp2_with fail
  refine (specName_any to _ hto).mono ?_
  rintro e wq ⟨rfl, hwq⟩
  replace hwq := hwq.symm
  subst hwq
  cases e2 : nameB to with
  | false =>
   have HN : Hid (renD (tys rs) typ frm to = none) := by show _ = _; unfold renD; rw [e2]; simp
   clear e2
   go_wp2
   refine bodyPost_ret (v := .tuple #[.slice none 0 0, .bool false]) ?_ rfl (ansT_none HN.out HB1.out)
   simp [results, Tryz.results7, go_sem]
  | true =>
   have HE2 := toHX e2
   clear e2
   go_wp2_with fail
   refine (l2Rel_any ad cap rs typ to _ hlen (HS.out.below HB1.out) HL.out).mono ?_
   rintro e wq ⟨⟨rows1, adE1, capE1, rfl, hex1, -, -⟩, hwq⟩
   replace hwq := hwq.symm
   subst hwq
   have HX1 : Hid (exs rows1 = relOr (tys rs) typ to) := hex1
   clear hex1
   by_cases hz1 : rows1 = []
   ·have HTO : Hid (relOr (tys rs) typ to = []) := by show _ = _; rw [← HX1.out, hz1]; rfl
    have HE3 : Hid (hasB (tys rs) typ to = false) := by show _ = _; unfold hasB; rw [HTO.out]; rfl
    have hly : (rows1.length : Int) = 0 := by rw [hz1]; rfl
    have hly2 : ¬ 0 < rows1.length := by rw [hz1]; simp
    clear hz1
    go_wp2_with fail
    refine (l2Copy_n ad cap rs w1 h6 HR6.out (fun t ht q hq => (HEX.out t ht q hq).2.1) (HS.out.below HB1.out) HL.out HZ.out).mono ?_
    rintro e w3 ⟨vO, qs0, rfl, htm, htq, hb3⟩
    have hl0 : qs0.length = rs.length := by rw [← tys_len, htq, tys_len]
    have hpos : qs0.length ≠ 0 := by
     have h := HRO.out
     cases hp : relP (tys rs) typ frm with
     | none => unfold relOr at h; rw [hp] at h; exact absurd rfl h
     | some es =>
      obtain ⟨t, ht', -⟩ := relP_row hp
      rw [hl0]; intro h0
      rw [List.length_eq_zero_iff.1 h0] at ht'; cases ht'
    rcases HS.out with hnil | ⟨b, off, hadr, hbW, hrW, -⟩
    ·exact absurd (hl0.trans (by rw [hnil]; rfl)) hpos
    subst hadr
    have HBS : Hid (b < w1.heap.size) := Nat.lt_of_lt_of_le hbW HB1.out.size
    have HRS : Hid (∀ (k : Nat) (h : k < rs.length), AtT w1 b (off + k * 2) rs[k]) := fun k h => (hrW k h).later hbW HB1.out
    clear hbW hrW
    obtain ⟨adO, capO, rfl, -, -⟩ := TypM.read htm
    obtain ⟨bO, rfl, -⟩ := own_zero htm.own hpos
    rw [hl0] at htm ⊢
    have HT3 : Hid (TypM w3 w1.heap.size (.slice (some ⟨bO, 0, none⟩) rs.length capO) qs0 ∧ tys qs0 = uR (tys rs) typ frm to 0) := ⟨htm, by unfold uR; rw [mixL_zero]; exact htq⟩
    have HB3 : Hid (Below w1.heap.size w1 w3) := hb3
    have HS1 : Hid (SlT w1 (some ⟨b, off, none⟩) rs) := HS.out.below HB1.out
    have HNONE : Hid (∀ w' : World, Below w1.heap.size w1 w' → ovS (pMix (tys rs) typ frm to) (tys rs) = true → AnsT w (renD (tys rs) typ frm to) (.returned (.tuple #[.slice none 0 0, .bool false])) w') := fun w' hb h => by
     refine ansT_none ?_ (HB1.out.trans (hb.mono HB1.out.size))
     rw [ovS_mix] at h
     unfold renD; rw [h]; simp
    have HSOME : Hid (ovS (pMix (tys rs) typ frm to) (tys rs) = false → renD (tys rs) typ frm to = some (renS (tys rs) typ frm to)) := fun h => by
     rw [ovS_mix] at h
     unfold renD; rw [h, HD.out, HE1.out, HE2.out, HE3.out]; rfl
    have HGF : Hid (∀ tn over n, (goalsP (tys rs) tn over n).length ≤ 1048576) := fun tn over n => by
     unfold goalsP
     refine Nat.le_trans (gl_len _ _ _) ?_
     unfold relOr
     cases e : relP (tys rs) tn over with
     | none => exact Nat.zero_le _
     | some es =>
      obtain ⟨t, ht, q, hq, -, -, h⟩ := relP_row e
      show (allowP es).length ≤ _
      rw [← h]; exact allowP_len _ ((HL.out t ht).2 q hq).2
    have HALF : Hid (∀ tn over, (allowP (relOr (tys rs) tn over)).length ≤ 1048576) := fun tn over => by
     unfold relOr
     cases e : relP (tys rs) tn over with
     | none => exact Nat.zero_le _
     | some es =>
      obtain ⟨t, ht, q, hq, -, -, h⟩ := relP_row e
      show (allowP es).length ≤ _
      rw [← h]; exact allowP_len _ ((HL.out t ht).2 q hq).2
    clear htm htq hb3 hl0 hpos
    go_wp2_with fail
    go_loopw [11] (fun i wr => ∃ (k : Nat) (qs : List TR), k ≤ rs.length ∧ i = .int .i64 k ∧ Hid (TypM wr w1.heap.size (.slice (some ⟨bO, 0, none⟩) rs.length capO) qs) ∧ Hid (tys qs = uR (tys rs) typ frm to k) ∧ Hid (Below w1.heap.size w1 wr) ∧ Hid (∀ k' (hk : k' < (tys rs).length), k' < k → ovT (pMix (tys rs) typ frm to) (tys rs)[k'] = false)) (fun i _ => rs.length - (intOf i).toNat)
    case atStart => exact ⟨0, qs0, Nat.zero_le _, rfl, HT3.out.1, HT3.out.2, HB3, fun _ _ h => absurd h (Nat.not_lt_zero _)⟩
    case round =>
     clear HT3 HB3
     obtain ⟨k, qs, hk, rfl, HX, HQ, HB, HK⟩ := hrel
     obtain ⟨wo, hwo⟩ : ∃ wo, wo = wr := ⟨_, rfl⟩
     subst hwo
     by_cases hlt : k < rs.length
     ·have HTM : Hid (rs[k] ∈ rs) := List.getElem_mem hlt
      have hk1 : (0 : Int) ≤ (k : Int) := by omega
      have hk2 : (k : Int) < (rs.length : Int) := by omega
      have hr6 : rs[k].rows.length ≤ 6 := HR6.out _ (List.getElem_mem hlt)
      have htl : k < (tys rs).length := by rw [tys_len]; exact hlt
      have HTK : Hid ((tys rs)[k] = rs[k].p) := by show _ = _; simp [tys]
      have HTP : Hid (rs[k].p ∈ tys rs) := List.mem_map.2 ⟨rs[k], HTM.out, rfl⟩
      go_wp2_with fail
      go_loopw [12] (fun i wr => ∃ (j : Nat) (qs : List TR), j ≤ rs[k].rows.length ∧ i = .int .i64 j ∧ Hid (TypM wr w1.heap.size (.slice (some ⟨bO, 0, none⟩) rs.length capO) qs) ∧ Hid (tys qs = vR (tys rs) typ frm to k rs[k].p j) ∧ Hid (Below w1.heap.size w1 wr) ∧ Hid (∀ j' (hj : j' < rs[k].p.rels.length), j' < j → ovR (pMix (tys rs) typ frm to) rs[k].p.name rs[k].p.rels[j'] = false)) (fun i _ => rs[k].rows.length - (intOf i).toNat)
      case atStart => exact ⟨0, qs, Nat.zero_le _, rfl, HX, by show _ = _; rw [← HTK.out, vR_zero _ _ _ _ k htl]; exact HQ.out, HB, fun _ _ h => absurd h (Nat.not_lt_zero _)⟩
      case round =>
       clear HX HQ HB
       obtain ⟨j, qs, hj, rfl, HX, HQ, HB, HJ⟩ := hrel
       have hql : qs.length = rs.length := by rw [← tys_len, HQ.out, vR, List.length_set, uR, mixL_len, tys_len]
       have hkq : k < qs.length := by omega
       have HQK : Hid (qs[k].p = ⟨rs[k].p.name, mixL (renR (tys rs) typ frm to rs[k].p.name) rs[k].p.rels j⟩) := by
        have e : (tys qs)[k]'(by rw [tys_len]; exact hkq) = qs[k].p := by simp [tys]
        show _ = _
        rw [← e]
        simp only [HQ.out]
        unfold vR
        rw [List.getElem_set_self]
       have hnmq : qs[k].name = rs[k].name := congrArg Ty.name HQK.out
       have HRQ : Hid (rls qs[k].rows = mixL (renR (tys rs) typ frm to rs[k].p.name) rs[k].p.rels j) := congrArg Ty.rels HQK.out
       have hrlq : qs[k].rows.length = rs[k].rows.length := by rw [← rls_len, HRQ.out, mixL_len]; exact rls_len _
       have HAT : Hid (AtT wr bO (k * 2) qs[k] ∧ bO < wr.heap.size) := by
        obtain ⟨a, c, e, h, -⟩ := TypM.read HX.out
        injection e with e1 e2 e3
        subst e1
        have := SlT.row h hkq
        rwa [Nat.zero_add] at this
       obtain ⟨⟨t0, t1⟩, tb⟩ := HAT.out
       rw [hnmq] at t0
       rw [hrlq] at t1
       obtain ⟨capT, hcapT⟩ : ∃ c, c = qs[k].cap := ⟨_, rfl⟩
       rw [← hcapT] at t1
       have HCT := toHX hcapT
       clear hcapT
       have HRL := toHX hrlq
       have HNQ := toHX hnmq
       clear hnmq hql hrlq
       by_cases hjt : j < rs[k].rows.length
       ·have HJL : Hid (j < rs[k].p.rels.length) := by show j < (rls rs[k].rows).length; rw [rls_len]; exact hjt
        have hjq : j < qs[k].rows.length := by rw [HRL.out]; exact hjt
        have HRP : Hid (rs[k].p.rels[j]'HJL.out = rs[k].rows[j].p) := by show (rls rs[k].rows)[j] = _; simp [rls]
        have HRJ : Hid (qs[k].rows[j].p = rs[k].rows[j].p) := by
         have e : (rls qs[k].rows)[j]'(by rw [rls_len]; exact hjq) = qs[k].rows[j].p := by simp [rls]
         show _ = _
         rw [← e]
         simp only [HRQ.out]
         rw [mixL_at _ rs[k].p.rels j HJL.out]
         exact HRP.out
        have HQM : Hid (rs[k].rows[j] ∈ rs[k].rows) := List.getElem_mem hjt
        have hsq : SlR wr qs[k].ad qs[k].rows := slR_of (HX.out.kid _ (List.getElem_mem hkq))
        obtain ⟨b2, off2, hadr2, hrow2, hbl2⟩ := SlR.row hsq hjq
        obtain ⟨s0, s1⟩ := hrow2
        have hoff : off2 = 0 := by
         have hown := (HX.out.kid _ (List.getElem_mem hkq)).own
         unfold TR.vs at hown
         obtain ⟨g, e1, -⟩ := own_zero hown (by omega)
         rw [e1] at hadr2
         injection hadr2 with e3; injection e3 with _ e5
         exact e5.symm
        subst hoff
        rw [Nat.zero_add] at s0 s1
        have hnr : qs[k].rows[j].name = rs[k].rows[j].name := congrArg Rl.name HRJ.out
        have HEX' : Hid (exs qs[k].rows[j].rows = exs rs[k].rows[j].rows) := congrArg Rl.expr HRJ.out
        have hel : qs[k].rows[j].rows.length = rs[k].rows[j].rows.length := by rw [← exs_len, HEX'.out, exs_len]
        rw [hnr] at s0
        rw [hel] at s1
        rw [hadr2] at t1
        have hj1 : (0 : Int) ≤ (j : Int) := by omega
        have hj2 : (j : Int) < (rs[k].rows.length : Int) := by omega
        have HAD := toHX hadr2
        have he15 : rs[k].rows[j].rows.length ≤ 15 := (HEX.out _ HTM.out _ HQM.out).2.1
        obtain ⟨adX, hadX⟩ : ∃ adX, adX = qs[k].rows[j].ad := ⟨_, rfl⟩
        obtain ⟨capX, hcapX⟩ : ∃ capX, capX = qs[k].rows[j].cap := ⟨_, rfl⟩
        rw [← hadX, ← hcapX] at s1
        have HQ3 : Hid (tys qs = xR (tys rs) typ frm to k rs[k].p j rs[k].rows[j].p 0) := by
         show _ = _
         rw [HQ.out, ← HRP.out]; exact (xR_zero _ _ _ _ k rs[k].p j HJL.out).symm
        have HAX : Hid (qs[k].rows[j].ad = adX ∧ qs[k].rows[j].cap = capX) := ⟨hadX.symm, hcapX.symm⟩
        clear hnr hsq hadr2 hadX hcapX hel
        go_wp2_with fail
        clear s0 s1 t0 t1
        go_loopw [14] (fun i wr => ∃ (m : Nat) (qs : List TR) (hkq : k < qs.length) (hjq : j < qs[k].rows.length), m ≤ rs[k].rows[j].rows.length ∧ i = .int .i64 m ∧ Hid (TypM wr w1.heap.size (.slice (some ⟨bO, 0, none⟩) rs.length capO) qs) ∧ Hid (tys qs = xR (tys rs) typ frm to k rs[k].p j rs[k].rows[j].p m) ∧ Hid (Below w1.heap.size w1 wr) ∧ Hid (qs[k].rows[j].ad = adX ∧ qs[k].rows[j].cap = capX) ∧ Hid (qs[k].ad = some ⟨b2, 0, none⟩) ∧ Hid (∀ m' (hm : m' < rs[k].rows[j].p.expr.length), m' < m → ovN (pMix (tys rs) typ frm to) rs[k].p.name rs[k].rows[j].p.name rs[k].rows[j].p.expr[m'] = false)) (fun i _ => rs[k].rows[j].rows.length - (intOf i).toNat)
        case atStart => exact ⟨0, qs, hkq, hjq, Nat.zero_le _, rfl, HX, HQ3, HB, HAX, HAD, fun _ _ h => absurd h (Nat.not_lt_zero _)⟩
        case round =>
         clear HX HQ HB HQ3 HAX HAD HQK HRQ HAT HRL HNQ HRJ HEX' tb hbl2
         obtain ⟨m, qs, hkq, hjq, hm, rfl, HX, HQ, HB, HAX, HAD, HM⟩ := hrel
         have HQK : Hid (qs[k].p = ⟨rs[k].p.name, (mixL (renR (tys rs) typ frm to rs[k].p.name) rs[k].p.rels j).set j ⟨rs[k].rows[j].p.name, mixL (renX (tys rs) typ frm to rs[k].p.name) rs[k].rows[j].p.expr m⟩⟩) := by
          have e : (tys qs)[k]'(by rw [tys_len]; exact hkq) = qs[k].p := by simp [tys]
          show _ = _
          rw [← e]
          simp only [HQ.out]
          unfold xR
          rw [List.getElem_set_self]
         have HRQ : Hid (rls qs[k].rows = (mixL (renR (tys rs) typ frm to rs[k].p.name) rs[k].p.rels j).set j ⟨rs[k].rows[j].p.name, mixL (renX (tys rs) typ frm to rs[k].p.name) rs[k].rows[j].p.expr m⟩) := congrArg Ty.rels HQK.out
         have HRJ : Hid (qs[k].rows[j].p = ⟨rs[k].rows[j].p.name, mixL (renX (tys rs) typ frm to rs[k].p.name) rs[k].rows[j].p.expr m⟩) := by
          have e : (rls qs[k].rows)[j]'(by rw [rls_len]; exact hjq) = qs[k].rows[j].p := by simp [rls]
          show _ = _
          rw [← e]
          simp only [HRQ.out]
          rw [List.getElem_set_self]
         have HEE : Hid (exs qs[k].rows[j].rows = mixL (renX (tys rs) typ frm to rs[k].p.name) rs[k].rows[j].p.expr m) := congrArg Rl.expr HRJ.out
         have hpl : rs[k].rows[j].p.expr.length = rs[k].rows[j].rows.length := exs_len _
         have hel : qs[k].rows[j].rows.length = rs[k].rows[j].rows.length := by rw [← exs_len, HEE.out, mixL_len, hpl]
         by_cases hmt : m < rs[k].rows[j].rows.length
         ·have hmp : m < rs[k].rows[j].p.expr.length := by rw [hpl]; exact hmt
          have hmq : m < qs[k].rows[j].rows.length := by rw [hel]; exact hmt
          have HXE : Hid (qs[k].rows[j].rows[m].e = rs[k].rows[j].p.expr[m]) := by
           have e : (exs qs[k].rows[j].rows)[m]'(by rw [exs_len]; exact hmq) = qs[k].rows[j].rows[m].e := by simp [exs]
           show _ = _
           rw [← e]
           simp only [HEE.out]
           rw [mixL_at _ _ m hmp]
          have hXr : RelM wr w1.heap.size qs[k].vs qs[k].rows := HX.out.kid _ (List.getElem_mem hkq)
          have hN : NodM wr w1.heap.size (.slice qs[k].rows[j].ad qs[k].rows[j].rows.length qs[k].rows[j].cap) qs[k].rows[j].rows := hXr.kid _ (List.getElem_mem hjq)
          obtain ⟨bX, hbX, -⟩ := own_zero hN.own (by omega)
          rw [hbX, HAX.out.2] at hN
          have hadX : adX = some ⟨bX, 0, none⟩ := by rw [← HAX.out.1, hbX]
          subst hadX
          obtain ⟨x, hx⟩ : ∃ x : ER, x = qs[k].rows[j].rows[m] := ⟨_, rfl⟩
          have HXX := toHX hx
          have HXE2 : Hid (x.e = rs[k].rows[j].p.expr[m]) := by show _ = _; rw [hx]; exact HXE.out
          have hbl := hN.own.lt bX rfl
          have hcx : At5 wr bX (m * 5) x := by
           have key : ∀ i, i < 5 → wr.cell? ⟨bX, m * 5 + i, none⟩ = (ER.row x)[i]? := fun i hi => by
            rw [hN.own.cellAt (m * 5 + i) (by omega), hx]
            exact rows5_at _ m hmq i hi
           exact ⟨key 0 (by omega), key 1 (by omega), key 2 (by omega), key 3 (by omega), key 4 (by omega)⟩
          have hfz : ∀ y, wr.frozen? ⟨bX, y, none⟩ = false := fun y => hN.own.frozenAt y
          have HN := toHX hN
          have hxm := List.getElem_mem hmq
          rw [← hx] at hxm
          have HSA : Hid (SlA wr x.adA x.e.allow) := (hN.ok _ hxm).1
          have HZA : Hid (x.e.allow ≠ [] → ∃ g, x.adA = some ⟨g, 0, none⟩ ∧ w1.heap.size ≤ g ∧ g < wr.heap.size ∧ Free wr g) := fun hne => by
           obtain ⟨g, e⟩ := hN.zA _ hxm hne
           obtain ⟨l1, l2, l3, -⟩ := hN.lie _ hxm g (.inl ⟨hne, e⟩)
           exact ⟨g, e, l1, l2, l3⟩
          have hm1 : (0 : Int) ≤ (m : Int) := by omega
          have hm2 : (m : Int) < (rs[k].rows[j].rows.length : Int) := by omega
          have hbS := HBS.out
          have hb0 : b < wr.heap.size := Nat.lt_of_lt_of_le hbS HB.out.size
          have hrT : AtT wr b (off + k * 2) rs[k] := (HRS.out k hlt).later hbS HB.out
          obtain ⟨z0, z1⟩ := hrT
          obtain ⟨d0, d1, d2, d3, d4⟩ := hcx
          have hgb := hbl.2
          have HNL : Hid (∀ g, bA x g → w1.heap.size ≤ g) := fun g hg => (hN.lie _ hxm g (.inl hg)).1
          have HNB : Hid (∀ g, bA x g → g < wr.heap.size) := fun g hg => (hN.lie _ hxm g (.inl hg)).2.1
          have HNS : Hid (¬ bA x b ∧ ¬ bA x bX) := ⟨fun h => by have := HNL.out b h; have := hbS; omega, fun h => (hN.lie _ hxm bX (.inl h)).2.2.2 rfl⟩
          have HZX : Hid (x.e.allow ≠ [] → ∃ g, x.adA = some ⟨g, 0, none⟩) := hN.zA _ hxm
          have HXL : Hid (x.e.allow.length ≤ 1048576) := by
           show _ ≤ _
           rw [HXE2.out]
           have h := ((HL.out _ HTM.out).2 _ HQM.out).2 (rs[k].rows[j].rows[m]'hmt) (List.getElem_mem hmt)
           have e : rs[k].rows[j].p.expr[m] = (rs[k].rows[j].rows[m]'hmt).e := by show (exs rs[k].rows[j].rows)[m] = _; simp [exs]
           rw [e]; exact h.1
          have HBB : Hid (w1.heap.size ≤ bX) := hbl.1
          clear hXr hN hbX hx hxm hbl hbS
          go_wp2_with fail
          obtain ⟨wi, hwi⟩ : ∃ wi, wi = wr := ⟨_, rfl⟩
          subst hwi
          obtain ⟨CV, hCV⟩ : ∃ C : Nat → Value, C = fun n => ((Value.slice (some { block := b, off := off }) rs.length cap) :: (Value.slice (some { block := b, off := off }) rs.length cap) :: (Value.int IntKind.i64 (k : Int)) :: (Value.pointer (some { block := b, off := off + k * 2 })) :: (Value.pointer (some { block := b, off := off + k * 2 })) :: (Value.string rs[k].name) :: (Value.slice (some { block := bX, off := 0 }) rs[k].rows[j].rows.length capX) :: (Value.int IntKind.i64 (m : Int)) :: (Value.pointer (some { block := bX, off := m * 5 })) :: (Value.agg #[.int .i64 x.e.kind, .slice x.adA x.e.allow.length x.capA, .string x.e.over, .string x.e.name, .slice x.adK x.e.kids.length x.capK]) :: (Value.string typ) :: (Value.string frm) :: (Value.string to) :: []).getD n undef := ⟨_, rfl⟩
          have HCV : Hid (CV 0 = Value.slice (some { block := b, off := off }) rs.length cap ∧ CV 1 = Value.slice (some { block := b, off := off }) rs.length cap ∧ CV 2 = Value.int IntKind.i64 (k : Int) ∧ CV 3 = Value.pointer (some { block := b, off := off + k * 2 }) ∧ CV 4 = Value.pointer (some { block := b, off := off + k * 2 }) ∧ CV 5 = Value.string rs[k].name ∧ CV 6 = Value.slice (some { block := bX, off := 0 }) rs[k].rows[j].rows.length capX ∧ CV 7 = Value.int IntKind.i64 (m : Int) ∧ CV 8 = Value.pointer (some { block := bX, off := m * 5 }) ∧ CV 9 = Value.agg #[.int .i64 x.e.kind, .slice x.adA x.e.allow.length x.capA, .string x.e.over, .string x.e.name, .slice x.adK x.e.kids.length x.capK] ∧ CV 10 = Value.string typ ∧ CV 11 = Value.string frm ∧ CV 12 = Value.string to) := by show _ ∧ _; rw [hCV]; exact ⟨rfl, rfl, rfl, rfl, rfl, rfl, rfl, rfl, rfl, rfl, rfl, rfl, rfl⟩
          clear hCV
          refine wp_region_frame2 19 (fun | 0 => u75 | 1 => u76 | 2 => u77 | 3 => u78 | 4 => u79 | 5 => u80 | 6 => u81 | 7 => u82 | 8 => u83 | 9 => u84 | 10 => u85 | 11 => u86 | 12 => u87 | 13 => u88 | 14 => u74 | 15 => u89 | 16 => u90 | 17 => u15 | _ => undef) (fun fq => { tmps := List.toArray (Value.slice (some { block := b, off := off }) rs.length cap :: Value.string typ :: Value.string frm :: Value.string to :: undef :: undef :: undef :: undef :: u8 :: u9 :: Value.slice (some { block := bO, off := 0 }) rs.length capO :: Value.int IntKind.i64 (k : Int) :: Value.int IntKind.i64 (j : Int) :: Value.slice (some { block := bX, off := 0 }) rs[k].rows[j].rows.length capX :: Value.int IntKind.i64 (m : Int) :: (fq 17) :: u16 :: Value.slice (some { block := b, off := off }) rs.length cap :: Value.bool true :: Value.bool false :: Value.bool false :: Value.slice (some { block := b, off := off }) rs.length cap :: Value.string typ :: Value.string frm :: Value.slice adE rows0.length capE :: Value.int IntKind.i64 (rows0.length : Int) :: Value.bool false :: Value.bool false :: Value.bool false :: Value.string to :: Value.bool true :: Value.bool false :: Value.bool false :: Value.bool false :: Value.slice (some { block := b, off := off }) rs.length cap :: Value.string typ :: Value.string to :: Value.slice adE1 rows1.length capE1 :: Value.int IntKind.i64 0 :: Value.bool false :: Value.bool false :: Value.slice (some { block := b, off := off }) rs.length cap :: Value.slice (some { block := bO, off := 0 }) rs.length capO :: Value.int IntKind.i64 (k : Int) :: Value.slice (some { block := bO, off := 0 }) rs.length capO :: Value.int IntKind.i64 (rs.length : Int) :: Value.bool true :: u47 :: u48 :: Value.int IntKind.i64 (j : Int) :: Value.slice (some { block := bO, off := 0 }) rs.length capO :: Value.int IntKind.i64 (k : Int) :: Value.pointer (some { block := bO, off := k * 2 }) :: Value.pointer (some { block := bO, off := k * 2 + 1 }) :: Value.slice (some { block := b2, off := 0 }) rs[k].rows.length capT :: Value.int IntKind.i64 (rs[k].rows.length : Int) :: Value.bool true :: u57 :: u58 :: Value.slice (some { block := bO, off := 0 }) rs.length capO :: Value.int IntKind.i64 (k : Int) :: Value.pointer (some { block := bO, off := k * 2 }) :: Value.pointer (some { block := bO, off := k * 2 + 1 }) :: Value.slice (some { block := b2, off := 0 }) rs[k].rows.length capT :: Value.int IntKind.i64 (j : Int) :: Value.pointer (some { block := b2, off := j * 2 }) :: Value.pointer (some { block := b2, off := j * 2 + 1 }) :: Value.slice (some { block := bX, off := 0 }) rs[k].rows[j].rows.length capX :: Value.int IntKind.i64 (m : Int) :: Value.slice (some { block := bX, off := 0 }) rs[k].rows[j].rows.length capX :: Value.int IntKind.i64 (rs[k].rows[j].rows.length : Int) :: Value.bool true :: u72 :: u73 :: (fq 14) :: (fq 0) :: (fq 1) :: (fq 2) :: (fq 3) :: (fq 4) :: (fq 5) :: (fq 6) :: (fq 7) :: (fq 8) :: (fq 9) :: (fq 10) :: (fq 11) :: (fq 12) :: (fq 13) :: (fq 15) :: (fq 16) :: u91 :: u92 :: u93 :: u94 :: u95 :: u96 :: u97 :: u98 :: u99 :: u100 :: u101 :: u102 :: u103 :: u104 :: u105 :: u106 :: u107 :: u108 :: u109 :: u110 :: u111 :: u112 :: u113 :: u114 :: u115 :: u116 :: u117 :: u118 :: u119 :: u120 :: u121 :: u122 :: u123 :: u124 :: u125 :: u126 :: u127 :: u128 :: u129 :: u130 :: u131 :: u132 :: u133 :: u134 :: u135 :: undef :: []), defers := [] }) (NI CV (tys rs) typ frm to rs[k].name x wi) (by kernel_rfl) rfl (by kernel_rfl) (fun o ho l fq w' hI hp => ?clR) rfl ⟨fun _ _ h => (by cases h), Chg.of (Below.refl _ _).drew, fun _ => (Below.refl _ _).drew, ⟨⟨#[]⟩, ⟨#[]⟩, fun h => (by cases h), fun h => (by cases h), fun h => (by cases h), fun h => (by cases h), fun h => (by cases h), fun h => (by cases h)⟩⟩ ?stepR ?finR
          case clR =>
           obtain rfl := Option.some.inj ho
           intro k hk
           have hc : k = 0 ∨ k = 1 ∨ k = 2 ∨ k = 3 ∨ k = 4 ∨ k = 5 ∨ k = 6 ∨ k = 7 ∨ k = 8 ∨ k = 9 ∨ k = 10 ∨ k = 11 ∨ k = 12 ∨ k = 13 ∨ k = 14 ∨ k = 15 ∨ k = 16 ∨ k = 17 ∨ k = 18 := by omega
           rcases hc with rfl | rfl | rfl | rfl | rfl | rfl | rfl | rfl | rfl | rfl | rfl | rfl | rfl | rfl | rfl | rfl | rfl | rfl | rfl
           ·exact hp { on := 0, ground := .phase } (by simp) rfl
           ·exact hp { on := 1, ground := .phase } (by simp) rfl
           ·exact hp { on := 2, ground := .phase } (by simp) rfl
           ·exact hp { on := 3, ground := .phase } (by simp) rfl
           ·exact hp { on := 4, ground := .phase } (by simp) rfl
           ·exact hp { on := 5, ground := .phase } (by simp) rfl
           ·exact hp { on := 6, ground := .phase } (by simp) rfl
           ·exact hp { on := 7, ground := .phase } (by simp) rfl
           ·exact hp { on := 8, ground := .phase } (by simp) rfl
           ·exact hp { on := 9, ground := .phase } (by simp) rfl
           ·exact hp { on := 10, ground := .phase } (by simp) rfl
           ·exact hp { on := 11, ground := .phase } (by simp) rfl
           ·exact hp { on := 12, ground := .phase } (by simp) rfl
           ·exact hp { on := 13, ground := .phase } (by simp) rfl
           ·exact hp { on := 14, ground := .phase } (by simp) rfl
           ·exact hp { on := 15, ground := .phase } (by simp) rfl
           ·exact hp { on := 16, ground := .phase } (by simp) rfl
           ·exact hp { on := 17, ground := .phase } (by simp) rfl
           ·exact hp { on := 18, ground := .phase } (by simp) rfl
          case stepR =>
           rintro i hi o ho l fq w' hli hI hpre
           have HI : Hid (NI CV (tys rs) typ frm to rs[k].name x wi l fq w') := hI
           have HPR : Hid (∀ e ∈ o.after, Region.binds .any e = true → l e.on = true) := hpre
           clear hI hpre
           have hc : i = 0 ∨ i = 1 ∨ i = 2 ∨ i = 3 ∨ i = 4 ∨ i = 5 ∨ i = 6 ∨ i = 7 ∨ i = 8 ∨ i = 9 ∨ i = 10 ∨ i = 11 ∨ i = 12 ∨ i = 13 ∨ i = 14 ∨ i = 15 ∨ i = 16 ∨ i = 17 ∨ i = 18 := by omega
           clear hi
           rcases hc with rfl | rfl | rfl | rfl | rfl | rfl | rfl | rfl | rfl | rfl | rfl | rfl | rfl | rfl | rfl | rfl | rfl | rfl | rfl
           ·obtain rfl := Option.some.inj ho
            have HP := toHX (HI.out.put (i := 0) (by decide) HCV.out.1.symm)
            refine wpOp_hid rfl fun K HK => ?_
            clear ho HPR HI
            dsimp only
            go_simp
            exact HK.out _ _ ⟨_, by simp [upd], HP.out⟩
           ·obtain rfl := Option.some.inj ho
            have HP := toHX (HI.out.put (i := 1) (by decide) HCV.out.2.1.symm)
            refine wpOp_hid rfl fun K HK => ?_
            clear ho HPR HI
            dsimp only
            go_simp
            exact HK.out _ _ ⟨_, by simp [upd], HP.out⟩
           ·obtain rfl := Option.some.inj ho
            have HP := toHX (HI.out.put (i := 2) (by decide) HCV.out.2.2.1.symm)
            refine wpOp_hid rfl fun K HK => ?_
            clear ho HPR HI
            dsimp only
            go_simp
            exact HK.out _ _ ⟨_, by simp [upd], HP.out⟩
           ·obtain rfl := Option.some.inj ho
            have e1 : fq 1 = Value.slice (some { block := b, off := off }) rs.length cap := (HI.out.val 1 (by decide) (HPR.out { on := 1, ground := .data } (by simp) rfl)).trans HCV.out.2.1
            have e2 : fq 2 = Value.int IntKind.i64 (k : Int) := (HI.out.val 2 (by decide) (HPR.out { on := 2, ground := .data } (by simp) rfl)).trans HCV.out.2.2.1
            have HP := toHX (HI.out.put (i := 3) (by decide) HCV.out.2.2.2.1.symm)
            refine wpOp_hid rfl fun K HK => ?_
            clear ho HPR HI
            simp only [e1, e2]
            go_simp
            exact HK.out _ _ ⟨_, by simp [upd, e1, e2], HP.out⟩
           ·obtain rfl := Option.some.inj ho
            have e3 : fq 3 = Value.pointer (some { block := b, off := off + k * 2 }) := (HI.out.val 3 (by decide) (HPR.out { on := 3, ground := .data } (by simp) rfl)).trans HCV.out.2.2.2.1
            have HP := toHX (HI.out.put (i := 4) (by decide) HCV.out.2.2.2.2.1.symm)
            refine wpOp_hid rfl fun K HK => ?_
            clear ho HPR HI
            simp only [e3]
            go_simp
            exact HK.out _ _ ⟨_, by simp [upd, e3], HP.out⟩
           ·obtain rfl := Option.some.inj ho
            have e4 : fq 4 = Value.pointer (some { block := b, off := off + k * 2 }) := (HI.out.val 4 (by decide) (HPR.out { on := 4, ground := .data } (by simp) rfl)).trans HCV.out.2.2.2.2.1
            have x1 : w'.cell? ⟨b, off + k * 2, none⟩ = some (.string rs[k].name) := (HI.out.chg.cell hb0 HNS.out.1).trans z0
            have HP := toHX (HI.out.put (i := 5) (by decide) HCV.out.2.2.2.2.2.1.symm)
            refine wpOp_hid rfl fun K HK => ?_
            clear ho HPR HI
            simp only [e4]
            go_simp
            exact HK.out _ _ ⟨_, by simp [upd, e4], HP.out⟩
           ·obtain rfl := Option.some.inj ho
            have HP := toHX (HI.out.put (i := 6) (by decide) HCV.out.2.2.2.2.2.2.1.symm)
            refine wpOp_hid rfl fun K HK => ?_
            clear ho HPR HI
            dsimp only
            go_simp
            exact HK.out _ _ ⟨_, by simp [upd], HP.out⟩
           ·obtain rfl := Option.some.inj ho
            have HP := toHX (HI.out.put (i := 7) (by decide) HCV.out.2.2.2.2.2.2.2.1.symm)
            refine wpOp_hid rfl fun K HK => ?_
            clear ho HPR HI
            dsimp only
            go_simp
            exact HK.out _ _ ⟨_, by simp [upd], HP.out⟩
           ·obtain rfl := Option.some.inj ho
            have e6 : fq 6 = Value.slice (some { block := bX, off := 0 }) rs[k].rows[j].rows.length capX := (HI.out.val 6 (by decide) (HPR.out { on := 6, ground := .data } (by simp) rfl)).trans HCV.out.2.2.2.2.2.2.1
            have e7 : fq 7 = Value.int IntKind.i64 (m : Int) := (HI.out.val 7 (by decide) (HPR.out { on := 7, ground := .data } (by simp) rfl)).trans HCV.out.2.2.2.2.2.2.2.1
            have HP := toHX (HI.out.put (i := 8) (by decide) HCV.out.2.2.2.2.2.2.2.2.1.symm)
            refine wpOp_hid rfl fun K HK => ?_
            clear ho HPR HI
            simp only [e6, e7]
            go_simp
            exact HK.out _ _ ⟨_, by simp [upd, e6, e7], HP.out⟩
           ·obtain rfl := Option.some.inj ho
            have e8 : fq 8 = Value.pointer (some { block := bX, off := m * 5 }) := (HI.out.val 8 (by decide) (HPR.out { on := 8, ground := .data } (by simp) rfl)).trans HCV.out.2.2.2.2.2.2.2.2.1
            have x0 : w'.cell? ⟨bX, m * 5, none⟩ = some (.int .i64 x.e.kind) := (HI.out.chg.cell hgb HNS.out.2).trans d0
            have x1 : w'.cell? ⟨bX, m * 5 + 1, none⟩ = some (.slice x.adA x.e.allow.length x.capA) := (HI.out.chg.cell hgb HNS.out.2).trans d1
            have x2 : w'.cell? ⟨bX, m * 5 + 2, none⟩ = some (.string x.e.over) := (HI.out.chg.cell hgb HNS.out.2).trans d2
            have x3 : w'.cell? ⟨bX, m * 5 + 3, none⟩ = some (.string x.e.name) := (HI.out.chg.cell hgb HNS.out.2).trans d3
            have x4 : w'.cell? ⟨bX, m * 5 + 4, none⟩ = some (.slice x.adK x.e.kids.length x.capK) := (HI.out.chg.cell hgb HNS.out.2).trans d4
            have HP := toHX (HI.out.put (i := 9) (by decide) HCV.out.2.2.2.2.2.2.2.2.2.1.symm)
            refine wpOp_hid rfl fun K HK => ?_
            clear ho HPR HI
            simp only [e8]
            go_simp
            exact HK.out _ _ ⟨_, by simp [upd, e8], HP.out⟩
           ·obtain rfl := Option.some.inj ho
            have HP := toHX (HI.out.put (i := 10) (by decide) HCV.out.2.2.2.2.2.2.2.2.2.2.1.symm)
            refine wpOp_hid rfl fun K HK => ?_
            clear ho HPR HI
            dsimp only
            go_simp
            exact HK.out _ _ ⟨_, by simp [upd], HP.out⟩
           ·obtain rfl := Option.some.inj ho
            have HP := toHX (HI.out.put (i := 11) (by decide) HCV.out.2.2.2.2.2.2.2.2.2.2.2.1.symm)
            refine wpOp_hid rfl fun K HK => ?_
            clear ho HPR HI
            dsimp only
            go_simp
            exact HK.out _ _ ⟨_, by simp [upd], HP.out⟩
           ·obtain rfl := Option.some.inj ho
            have HP := toHX (HI.out.put (i := 12) (by decide) HCV.out.2.2.2.2.2.2.2.2.2.2.2.2.symm)
            refine wpOp_hid rfl fun K HK => ?_
            clear ho HPR HI
            dsimp only
            go_simp
            exact HK.out _ _ ⟨_, by simp [upd], HP.out⟩
           ·obtain rfl := Option.some.inj ho
            have e0 : fq 0 = Value.slice (some { block := b, off := off }) rs.length cap := (HI.out.val 0 (by decide) (HPR.out { on := 0, ground := .data } (by simp) rfl)).trans HCV.out.1
            have e5 : fq 5 = Value.string rs[k].name := (HI.out.val 5 (by decide) (HPR.out { on := 5, ground := .data } (by simp) rfl)).trans HCV.out.2.2.2.2.2.1
            have e9 : fq 9 = Value.agg #[.int .i64 x.e.kind, .slice x.adA x.e.allow.length x.capA, .string x.e.over, .string x.e.name, .slice x.adK x.e.kids.length x.capK] := (HI.out.val 9 (by decide) (HPR.out { on := 9, ground := .data } (by simp) rfl)).trans HCV.out.2.2.2.2.2.2.2.2.2.1
            have e10 : fq 10 = Value.string typ := (HI.out.val 10 (by decide) (HPR.out { on := 10, ground := .data } (by simp) rfl)).trans HCV.out.2.2.2.2.2.2.2.2.2.2.1
            have e11 : fq 11 = Value.string frm := (HI.out.val 11 (by decide) (HPR.out { on := 11, ground := .data } (by simp) rfl)).trans HCV.out.2.2.2.2.2.2.2.2.2.2.2.1
            have e12 : fq 12 = Value.string to := (HI.out.val 12 (by decide) (HPR.out { on := 12, ground := .data } (by simp) rfl)).trans HCV.out.2.2.2.2.2.2.2.2.2.2.2.2
            have hB' := HI.out.bel hli
            have HCALL := toHX (l7Node_any (some ⟨b, off, none⟩) cap rs rs[k].name typ frm to x w1 w' hlen HS1.out HL.out (HB.out.trans (hB'.mono HB.out.size)) (fun hne => (by obtain ⟨g, e, l1, l2, l3⟩ := HZA.out hne; exact ⟨g, e, l1, Nat.lt_of_lt_of_le l2 hB'.size, fun y => keptF hB' l2 (l3 y)⟩)) (HSA.out.below hB') HXL.out (HALF.out _ _) (fun n => HGF.out _ _ n))
            unfold ER.val at HCALL
            refine wpOp_hid rfl fun K HK => ?_
            clear ho HPR hB'
            simp only [e0, e5, e9, e10, e11, e12]
            go_simp
            refine HCALL.out.mono ?_
            rintro e w9 hP
            have HPP := toHX hP
            obtain ⟨ov, nm, he, -⟩ := hP
            have HP := toHX (HI.out.call hli HPP.out he HNB.out)
            subst he
            clear HPP HI HCALL
            go_wp2_with fail
            exact HK.out _ _ ⟨_, by simp [upd, e0, e5, e9, e10, e11, e12], HP.out⟩
           ·obtain rfl := Option.some.inj ho
            have h13 := HPR.out { on := 13, ground := .data } (by simp) rfl
            obtain ⟨ov, nm, hA, -⟩ := HI.out.ans
            have e13 : fq 13 = Value.tuple #[.agg #[.int .i64 x.e.kind, .slice x.adA x.e.allow.length x.capA, .string ov, .string nm, .slice x.adK x.e.kids.length x.capK], .bool (!l7bad (tys rs) typ frm to rs[k].name x.e)] := (hA h13).1
            have HP := toHX (HI.out.mv h13 (v := Value.tuple #[.agg #[.int .i64 x.e.kind, .slice x.adA x.e.allow.length x.capA, .string ov, .string nm, .slice x.adK x.e.kids.length x.capK], .bool (!l7bad (tys rs) typ frm to rs[k].name x.e)]) e13.symm)
            refine wpOp_hid rfl fun K HK => ?_
            clear ho HPR HI hA
            simp only [e13]
            go_simp
            exact HK.out _ _ ⟨_, by simp [upd, e13], HP.out⟩
           ·obtain rfl := Option.some.inj ho
            have h14 := HPR.out { on := 14, ground := .data } (by simp) rfl
            obtain ⟨ov, nm, -, hA, -⟩ := HI.out.ans
            have e14 : fq 14 = Value.tuple #[.agg #[.int .i64 x.e.kind, .slice x.adA x.e.allow.length x.capA, .string ov, .string nm, .slice x.adK x.e.kids.length x.capK], .bool (!l7bad (tys rs) typ frm to rs[k].name x.e)] := (hA h14).2
            have HP := toHX (HI.out.ex0 h14 (v := Value.agg #[.int .i64 x.e.kind, .slice x.adA x.e.allow.length x.capA, .string ov, .string nm, .slice x.adK x.e.kids.length x.capK]) (ov := ov) (nm := nm) e14 rfl)
            refine wpOp_hid rfl fun K HK => ?_
            clear ho HPR HI hA
            simp only [e14]
            go_simp
            exact HK.out _ _ ⟨_, by simp [upd, e14], HP.out⟩
           ·obtain rfl := Option.some.inj ho
            have h14 := HPR.out { on := 14, ground := .data } (by simp) rfl
            obtain ⟨ov, nm, -, hA, -⟩ := HI.out.ans
            have e14 : fq 14 = Value.tuple #[.agg #[.int .i64 x.e.kind, .slice x.adA x.e.allow.length x.capA, .string ov, .string nm, .slice x.adK x.e.kids.length x.capK], .bool (!l7bad (tys rs) typ frm to rs[k].name x.e)] := (hA h14).2
            have HP := toHX (HI.out.ex1 (v := .bool (!l7bad (tys rs) typ frm to rs[k].name x.e)) rfl)
            refine wpOp_hid rfl fun K HK => ?_
            clear ho HPR HI hA
            simp only [e14]
            go_simp
            exact HK.out _ _ ⟨_, by simp [upd, e14], HP.out⟩
           ·obtain rfl := Option.some.inj ho
            have HP := toHX (HI.out.lay hli)
            unfold cNZ at HP
            refine wpOp_hid rfl fun K HK => ?_
            clear ho HPR HI
            dsimp only
            go_simp
            exact HK.out _ _ ⟨_, by simp [upd], HP.out⟩
           ·obtain rfl := Option.some.inj ho
            have h17 := HPR.out { on := 17, ground := .data } (by simp) rfl
            have h15 := HPR.out { on := 15, ground := .data } (by simp) rfl
            obtain ⟨ov, nm, -, -, hA, -, hG, -⟩ := HI.out.ans
            have e15 : fq 15 = Value.agg #[.int .i64 x.e.kind, .slice x.adA x.e.allow.length x.capA, .string ov, .string nm, .slice x.adK x.e.kids.length x.capK] := (hA h15).2
            obtain ⟨z, e17, hz1, hz2⟩ := hG h17
            have HP := toHX (HI.out.store h15 h17 hli (ov := ov) (nm := nm) e17 e15 HNB.out HZX.out undef)
            have hz3 : w'.heap[z]? = some (.cells cNZ 50 (0, 0)) := by rw [hli] at hz2; exact hz2
            unfold cNZ at hz3
            have x0 : w'.cell? ⟨z, 0, none⟩ = some (.int .i64 0) := by simp [World.cell?, hz3]
            have x1 : w'.cell? ⟨z, 1, none⟩ = some (.slice none 0 0) := by simp [World.cell?, hz3]
            have x2 : w'.cell? ⟨z, 2, none⟩ = some (.string ⟨#[]⟩) := by simp [World.cell?, hz3]
            have x3 : w'.cell? ⟨z, 3, none⟩ = some (.string ⟨#[]⟩) := by simp [World.cell?, hz3]
            have x4 : w'.cell? ⟨z, 4, none⟩ = some (.slice none 0 0) := by simp [World.cell?, hz3]
            have xf : ∀ y, w'.frozen? ⟨z, y, none⟩ = false := fun y => by simp [World.frozen?, hz3]
            refine wpOp_hid rfl fun K HK => ?_
            clear ho HPR HI hA hG hz1 hz2 hz3
            simp only [e15, e17]
            go_simp
            exact HK.out _ _ ⟨undef, by simp [upd, e15, e17], HP.out⟩
          case finR =>
           rintro o ho l fq w9 hall hI
           obtain rfl := Option.some.inj ho
           obtain ⟨ov, nm, hA, -, -, hD, hG, -⟩ := hI.ans
           have e16 : fq 16 = .bool (!l7bad (tys rs) typ frm to rs[k].name x.e) := hD (hall 16 (by omega))
           obtain ⟨-, hsa9, hon⟩ := hA (hall 13 (by omega))
           obtain ⟨z, e17, hzw, hz2⟩ := hG (hall 17 (by omega))
           rw [hall 18 (by omega)] at hz2
           have hz3 : w9.heap[z]? = some (.cells (cNX x ov nm) 50 (0, 0)) := hz2
           have HC9 := toHX hI.chg
           have HSA9 := toHX hsa9
           have HON := toHX hon
           have HZ3 := toHX hz3
           have HZW := toHX hzw
           clear hA hD hG hz2 hz3 hsa9 hon hzw
           refine wpOp_hid rfl fun K HK => ?_
           simp only [e16, e17]
           go_simp
           refine HK.out _ _ ?_
           clear ho HK K hI HCV e16 e17 hall
           obtain ⟨y0, hy0⟩ : ∃ y, y = fq 0 := ⟨_, rfl⟩
           rw [← hy0]
           obtain ⟨y1, hy1⟩ : ∃ y, y = fq 1 := ⟨_, rfl⟩
           rw [← hy1]
           obtain ⟨y2, hy2⟩ : ∃ y, y = fq 2 := ⟨_, rfl⟩
           rw [← hy2]
           obtain ⟨y3, hy3⟩ : ∃ y, y = fq 3 := ⟨_, rfl⟩
           rw [← hy3]
           obtain ⟨y4, hy4⟩ : ∃ y, y = fq 4 := ⟨_, rfl⟩
           rw [← hy4]
           obtain ⟨y5, hy5⟩ : ∃ y, y = fq 5 := ⟨_, rfl⟩
           rw [← hy5]
           obtain ⟨y6, hy6⟩ : ∃ y, y = fq 6 := ⟨_, rfl⟩
           rw [← hy6]
           obtain ⟨y7, hy7⟩ : ∃ y, y = fq 7 := ⟨_, rfl⟩
           rw [← hy7]
           obtain ⟨y8, hy8⟩ : ∃ y, y = fq 8 := ⟨_, rfl⟩
           rw [← hy8]
           obtain ⟨y9, hy9⟩ : ∃ y, y = fq 9 := ⟨_, rfl⟩
           rw [← hy9]
           obtain ⟨y10, hy10⟩ : ∃ y, y = fq 10 := ⟨_, rfl⟩
           rw [← hy10]
           obtain ⟨y11, hy11⟩ : ∃ y, y = fq 11 := ⟨_, rfl⟩
           rw [← hy11]
           obtain ⟨y12, hy12⟩ : ∃ y, y = fq 12 := ⟨_, rfl⟩
           rw [← hy12]
           obtain ⟨y13, hy13⟩ : ∃ y, y = fq 13 := ⟨_, rfl⟩
           rw [← hy13]
           obtain ⟨y14, hy14⟩ : ∃ y, y = fq 14 := ⟨_, rfl⟩
           rw [← hy14]
           obtain ⟨y15, hy15⟩ : ∃ y, y = fq 15 := ⟨_, rfl⟩
           rw [← hy15]
           clear hy0 hy1 hy2 hy3 hy4 hy5 hy6 hy7 hy8 hy9 hy10 hy11 hy12 hy13 hy14 hy15 fq l CV
           have HBAD : Hid (l7bad (tys rs) typ frm to rs[k].name x.e = ovN (pMix (tys rs) typ frm to) rs[k].p.name rs[k].rows[j].p.name rs[k].rows[j].p.expr[m]) := by
            show _ = _
            rw [HXE2.out]
            exact bad_ov HSH.out HRF.out HRO.out HTO.out HTP.out (List.mem_map.2 ⟨_, HQM.out, rfl⟩) (List.getElem_mem hmp)
           have HB9 : Hid (Below w1.heap.size w1 w9) := HB.out.trans (HC9.out.below (m := w1.heap.size) (fun g hg => (HNL.out g hg)) HB.out.size)
           cases hbad : l7bad (tys rs) typ frm to rs[k].name x.e with
           | true =>
            have HOV : Hid (ovS (pMix (tys rs) typ frm to) (tys rs) = true) := ovS_yes HTP.out (List.mem_map.2 ⟨_, HQM.out, rfl⟩) (List.getElem_mem hmp) (HBAD.out.symm.trans hbad)
            clear hbad d0 d1 d2 d3 d4 z0 z1
            go_wp2
            refine bodyPost_ret (v := .tuple #[.slice none 0 0, .bool false]) ?_ rfl (HNONE.out _ HB9.out HOV.out)
            simp [results, Tryz.results7, go_sem]
           | false =>
            obtain ⟨eov, enm⟩ := HON.out hbad
            have HM2 : Hid (∀ m' (hm : m' < rs[k].rows[j].p.expr.length), m' < m + 1 → ovN (pMix (tys rs) typ frm to) rs[k].p.name rs[k].rows[j].p.name rs[k].rows[j].p.expr[m'] = false) := fun m' hm' h => by
             by_cases e : m' = m
             ·subst e; exact HBAD.out.symm.trans hbad
             ·exact HM.out m' hm' (by omega)
            obtain ⟨q, hq⟩ : ∃ q : ER, q = ⟨{ x.e with allow := x.e.allow.map (renA typ frm to), over := ov, name := nm }, x.adA, x.capA, x.adK, x.capK⟩ := ⟨_, rfl⟩
            have HQE : Hid (q.e = renX (tys rs) typ frm to rs[k].p.name rs[k].rows[j].p.expr[m]) := by
             show _ = _
             have hnb : nodeB x.e = true := by
              rw [HXE2.out]
              exact renE_node (HEX.out _ HTM.out _ HQM.out).1 (List.getElem_mem hmp)
             have h1 : q.e = renY (tys rs) typ frm to rs[k].name x.e := by rw [hq, eov, enm]; rfl
             rw [h1, renY_is hnb, HXE2.out]; rfl
            obtain ⟨W2, hW2⟩ : ∃ W2, W2 = ((((w9.setCell ⟨bX, m * 5, none⟩ (.int .i64 x.e.kind)).setCell ⟨bX, m * 5 + 1, none⟩ (.slice x.adA x.e.allow.length x.capA)).setCell ⟨bX, m * 5 + 2, none⟩ (.string ov)).setCell ⟨bX, m * 5 + 3, none⟩ (.string nm)).setCell ⟨bX, m * 5 + 4, none⟩ (.slice x.adK x.e.kids.length x.capK) := ⟨_, rfl⟩
            have hnode := NodM.node (w := wi) (w1 := w9) (w2 := W2) (q := q) (al := x.e.allow.map (renA typ frm to)) HN.out rfl hmq (by rw [← HXX.out]; exact HC9.out) (by rw [← HXX.out]; exact HSA9.out) (by rw [← HXX.out, List.length_map]) (by rw [← HXX.out, hq]; exact ⟨rfl, rfl, rfl, rfl, rfl, rfl, rfl⟩) (by rw [hW2, hq]; simp)
            obtain ⟨n1, n2, n3, n4⟩ := hnode
            have hvs : qs[k].rows[j].vs = .slice (some ⟨bX, 0, none⟩) qs[k].rows[j].rows.length capX := by unfold RR.vs; rw [HAX.out.1, HAX.out.2]
            have hdeep := TypM.deep (rows' := qs[k].rows[j].rows.set m q) HX.out hkq hjq n2 (fun g hg hn => n3 g hg fun hi => hn (by unfold iR; rw [hvs]; exact hi)) (by rw [hvs]; exact n1) (List.length_set ..) (fun g hg => .inl (by rw [hvs] at hg; unfold iR; rw [hvs]; exact n4 g hg))
            have HX2 := toHX hdeep
            obtain ⟨qs2, hqs2⟩ : ∃ qs2, qs2 = qs.set k (qs[k].reE j (qs[k].rows[j].rows.set m q) hjq) := ⟨_, rfl⟩
            rw [← hqs2] at HX2
            have hk2' : k < qs2.length := by rw [hqs2, List.length_set]; exact hkq
            have hat2 : qs2[k] = qs[k].reE j (qs[k].rows[j].rows.set m q) hjq := by simp [hqs2]
            have hj2' : j < qs2[k].rows.length := by rw [hat2]; show j < (List.set _ _ _).length; rw [List.length_set]; exact hjq
            have HAX2 : Hid (qs2[k].rows[j].ad = some ⟨bX, 0, none⟩ ∧ qs2[k].rows[j].cap = capX) := by
             have e : qs2[k].rows[j] = { qs[k].rows[j] with rows := qs[k].rows[j].rows.set m q } := by simp [hat2, TR.reE]
             rw [e]; exact HAX.out
            have HAD2 : Hid (qs2[k].ad = some ⟨b2, 0, none⟩) := by rw [hat2]; exact HAD.out
            have HQ2 : Hid (tys qs2 = xR (tys rs) typ frm to k rs[k].p j rs[k].rows[j].p (m + 1)) := by
             show _ = _
             have e1 : tys qs2 = (tys qs).set k ⟨qs[k].name, (rls qs[k].rows).set j ⟨qs[k].rows[j].name, (exs qs[k].rows[j].rows).set m q.e⟩⟩ := by rw [hqs2]; simp [tys, TR.p, TR.reE, rls, RR.p, exs, List.map_set]
             have e2 : qs[k].name = rs[k].p.name := congrArg Ty.name HQK.out
             have e3 : qs[k].rows[j].name = rs[k].rows[j].p.name := congrArg Rl.name HRJ.out
             rw [e1, HQ.out, HRQ.out, HEE.out, HQE.out, mixL_succ _ _ m hmp, e2, e3]
             unfold xR
             rw [List.set_set, List.set_set]
            have HBX2 : Hid (Below w1.heap.size w1 W2) := by
             show Below _ _ _
             rw [hW2]
             exact ((((HB9.out.setCell HBB.out _).setCell HBB.out _).setCell HBB.out _).setCell HBB.out _).setCell HBB.out _
            have c0 : w9.cell? ⟨bX, m * 5, none⟩ = some (.int .i64 x.e.kind) := (HC9.out.cell hgb HNS.out.2).trans d0
            have c1 : w9.cell? ⟨bX, m * 5 + 1, none⟩ = some (.slice x.adA x.e.allow.length x.capA) := (HC9.out.cell hgb HNS.out.2).trans d1
            have c2 : w9.cell? ⟨bX, m * 5 + 2, none⟩ = some (.string x.e.over) := (HC9.out.cell hgb HNS.out.2).trans d2
            have c3 : w9.cell? ⟨bX, m * 5 + 3, none⟩ = some (.string x.e.name) := (HC9.out.cell hgb HNS.out.2).trans d3
            have c4 : w9.cell? ⟨bX, m * 5 + 4, none⟩ = some (.slice x.adK x.e.kids.length x.capK) := (HC9.out.cell hgb HNS.out.2).trans d4
            have cf : ∀ y, w9.frozen? ⟨bX, y, none⟩ = false := HC9.out.free bX hgb hfz
            have hz3 := HZ3.out
            unfold cNX at hz3
            have v0 : w9.cell? ⟨z, 0, none⟩ = some (.int .i64 x.e.kind) := by simp [World.cell?, hz3]
            have v1 : w9.cell? ⟨z, 1, none⟩ = some (.slice x.adA x.e.allow.length x.capA) := by simp [World.cell?, hz3]
            have v2 : w9.cell? ⟨z, 2, none⟩ = some (.string ov) := by simp [World.cell?, hz3]
            have v3 : w9.cell? ⟨z, 3, none⟩ = some (.string nm) := by simp [World.cell?, hz3]
            have v4 : w9.cell? ⟨z, 4, none⟩ = some (.slice x.adK x.e.kids.length x.capK) := by simp [World.cell?, hz3]
            clear hbad d0 d1 d2 d3 d4 z0 z1 hz3 eov enm n1 n2 n3 n4 hdeep hvs hqs2 hat2 hq hel hpl
            go_wp2
            rw [← hW2]
            go_roundw
            case rel => exact ⟨m + 1, qs2, hk2', hj2', by omega, by go_num, HX2, HQ2, HBX2, HAX2, HAD2, HM2⟩
            case measure => first | (simp [intOf]; done) | (simp [intOf]; omega)
         ·obtain rfl : m = rs[k].rows[j].rows.length := by omega
          have HPL := toHX hpl
          clear hpl hel
          have HJ2 : Hid (∀ j' (hj : j' < rs[k].p.rels.length), j' < j + 1 → ovR (pMix (tys rs) typ frm to) rs[k].p.name rs[k].p.rels[j'] = false) := fun j' hj' h => by
           by_cases e : j' = j
           ·subst e
            rw [HRP.out]
            exact ovR_end fun i hi => HM.out i hi (by rw [← HPL.out]; exact hi)
           ·exact HJ.out j' hj' (by omega)
          have HQ3 : Hid (tys qs = (uR (tys rs) typ frm to k).set k ⟨rs[k].p.name, (mixL (renR (tys rs) typ frm to rs[k].p.name) rs[k].p.rels j).set j ⟨rs[k].rows[j].p.name, rs[k].rows[j].p.expr.map (renX (tys rs) typ frm to rs[k].p.name)⟩⟩) := by
           show _ = _
           rw [HQ.out, ← HPL.out]; unfold xR; rw [mixL_all]
          have HTR := toHX (HS1.out.below HB.out)
          have HTM2 := toHX (HTR.out.mem HTM.out)
          have hb0 : b < wr.heap.size := Nat.lt_of_lt_of_le HBS.out HB.out.size
          obtain ⟨z0, z1⟩ := (HRS.out k hlt).later HBS.out HB.out
          obtain ⟨bs, offs, hads, hrows, hbls⟩ := SlR.row HTM2.out hjt
          obtain ⟨y0, y1⟩ := hrows
          rw [hads] at z1
          clear hads
          cases htn : (rs[k].name.toList == typ.toList) with
          | false =>
           have HQ4 : Hid (tys qs = vR (tys rs) typ frm to k rs[k].p (j + 1)) := by
            show _ = _
            rw [HQ3.out]; unfold vR
            rw [← mixL_succ _ rs[k].p.rels j HJL.out, HRP.out]
            have e : renR (tys rs) typ frm to rs[k].p.name rs[k].rows[j].p = ⟨rs[k].rows[j].p.name, rs[k].rows[j].p.expr.map (renX (tys rs) typ frm to rs[k].p.name)⟩ := by
             unfold renR renN
             have h : (rs[k].p.name.toList == typ.toList) = false := htn
             rw [h]; rfl
            rw [e]
           go_wp2
           go_roundw
           case rel => exact ⟨j + 1, qs, by omega, by go_num, HX, HQ4, HB, HJ2⟩
           case measure => first | (simp [intOf]; done) | (simp [intOf]; omega)
          | true =>
           cases hfn : (rs[k].rows[j].name.toList == frm.toList) with
           | false =>
            have HQ4 : Hid (tys qs = vR (tys rs) typ frm to k rs[k].p (j + 1)) := by
             show _ = _
             rw [HQ3.out]; unfold vR
             rw [← mixL_succ _ rs[k].p.rels j HJL.out, HRP.out]
             have e : renR (tys rs) typ frm to rs[k].p.name rs[k].rows[j].p = ⟨rs[k].rows[j].p.name, rs[k].rows[j].p.expr.map (renX (tys rs) typ frm to rs[k].p.name)⟩ := by
              unfold renR renN
              have h : (rs[k].rows[j].p.name.toList == frm.toList) = false := hfn
              rw [h, Bool.and_false]; rfl
             rw [e]
            go_wp2
            go_roundw
            case rel => exact ⟨j + 1, qs, by omega, by go_num, HX, HQ4, HB, HJ2⟩
            case measure => first | (simp [intOf]; done) | (simp [intOf]; omega)
           | true =>
            have HX2 := toHX (TypM.relname to HX.out hkq hjq HAD.out)
            have HQ4 : Hid (tys (qs.set k (qs[k].reN j to hjq)) = vR (tys rs) typ frm to k rs[k].p (j + 1)) := by
             show _ = _
             have e1 : tys (qs.set k (qs[k].reN j to hjq)) = (tys qs).set k ⟨qs[k].name, (rls qs[k].rows).set j ⟨to, exs qs[k].rows[j].rows⟩⟩ := by simp [tys, TR.p, TR.reN, rls, RR.p, List.map_set]
             have e2 : qs[k].name = rs[k].p.name := congrArg Ty.name HQK.out
             rw [e1, HQ3.out, HRQ.out, HEE.out, e2, ← HPL.out, mixL_all, List.set_set, List.set_set]
             unfold vR
             rw [← mixL_succ _ rs[k].p.rels j HJL.out, HRP.out]
             have e : renR (tys rs) typ frm to rs[k].p.name rs[k].rows[j].p = ⟨to, rs[k].rows[j].p.expr.map (renX (tys rs) typ frm to rs[k].p.name)⟩ := by
              unfold renR renN
              have h : (rs[k].p.name.toList == typ.toList) = true := htn
              have h2 : (rs[k].rows[j].p.name.toList == frm.toList) = true := hfn
              rw [h, h2]; rfl
             rw [e]
            have hkid : RelM wr w1.heap.size (.slice qs[k].ad qs[k].rows.length qs[k].cap) qs[k].rows := HX.out.kid _ (List.getElem_mem hkq)
            rw [HAD.out] at hkid
            have hb2 := hkid.own.lt b2 rfl
            have HB2' : Hid (Below w1.heap.size w1 (wr.setCell ⟨b2, j * 2, none⟩ (.string to))) := HB.out.setCell hb2.1 _
            have c0 : wr.cell? ⟨b2, j * 2, none⟩ = some (.string qs[k].rows[j].name) := by
             rw [hkid.own.cellAt (j * 2) (by omega)]
             have := cells2_at (cells := RR.cells) (fun _ => rfl) qs[k].rows j hjq 0 (by omega)
             rw [Nat.add_zero] at this
             exact this
            have cf : ∀ y, wr.frozen? ⟨b2, y, none⟩ = false := fun y => hkid.own.frozenAt y
            have hb2l := hb2.2
            have hrlq : qs[k].rows.length = rs[k].rows.length := by
             have h := congrArg List.length HRQ.out
             rw [rls_len, List.length_set, mixL_len] at h
             exact h.trans (rls_len _)
            have HAT : Hid (AtT wr bO (k * 2) qs[k] ∧ bO < wr.heap.size) := by
             obtain ⟨a, c, e, h, -⟩ := TypM.read HX.out
             injection e with e1 e2 e3
             subst e1
             have := SlT.row h hkq
             rwa [Nat.zero_add] at this
            obtain ⟨⟨t0, t1⟩, tb⟩ := HAT.out
            rw [HAD.out, hrlq] at t1
            clear hkid hb2 hrlq
            go_wp2
            go_roundw
            case rel => exact ⟨j + 1, _, by omega, by go_num, HX2, HQ4, HB2', HJ2⟩
            case measure => first | (simp [intOf]; done) | (simp [intOf]; omega)
       ·have ej : j = rs[k].p.rels.length := by show j = (rls rs[k].rows).length; rw [rls_len]; omega
        have HK2 : Hid (∀ k' (hk : k' < (tys rs).length), k' < k + 1 → ovT (pMix (tys rs) typ frm to) (tys rs)[k'] = false) := fun k' hk' h => by
         by_cases e : k' = k
         ·subst e
          rw [HTK.out]
          exact ovT_end fun i hi => HJ.out i hi (by omega)
         ·exact HK.out k' hk' (by omega)
        have hsq : SlR wr qs[k].ad qs[k].rows := slR_of (HX.out.kid _ (List.getElem_mem hkq))
        have HCALL := toHX (l7Sort_any qs[k].ad qs[k].cap qs[k].rows wr (by rw [HRL.out]; exact hr6) hsq)
        rw [HRL.out, ← HCT.out] at HCALL
        have hpd : ¬ (j : Int) < (rs[k].rows.length : Int) := by omega
        clear hsq
        go_wp2_with fail
        refine HCALL.out.mono ?_
        rintro e w7 ⟨v7, rfl, hown7, hb7⟩
        obtain ⟨ad7, cap7, rfl⟩ := own_slice hown7
        have HX7 := toHX (TypM.resort (c' := cap7) (ad' := ad7) HX.out (by have h := congrArg List.length HQ.out; rw [tys_len, vR, List.length_set, uR, mixL_len, tys_len] at h; exact h.symm) hb7 HB.out.size hkq (sortQ_perm qs[k].rows) (by rw [HRL.out]; exact hown7))
        rw [HRL.out] at HX7
        have HQ7 : Hid (tys (qs.set k ⟨qs[k].name, sortQ qs[k].rows, ad7, cap7⟩) = uR (tys rs) typ frm to (k + 1)) := by
         show _ = _
         have e1 : tys (qs.set k ⟨qs[k].name, sortQ qs[k].rows, ad7, cap7⟩) = (tys qs).set k ⟨qs[k].name, rls (sortQ qs[k].rows)⟩ := by simp [tys, TR.p, List.map_set]
         rw [e1, HQ.out, sortQ_p, HRQ.out, ej, mixL_all, HNQ.out]
         unfold vR uR
         rw [List.set_set, ← mixL_succ _ (tys rs) k htl, HTK.out]
         rfl
        have hbO := HX.out.own.lt bO rfl
        have HB7 : Hid (Below w1.heap.size w1 (w7.setCell ⟨bO, k * 2 + 1, none⟩ (.slice ad7 rs[k].rows.length cap7))) := (HB.out.trans (hb7.mono HB.out.size)).setCell hbO.1 _
        have c1 := kept hb7 tb t1
        have cf : ∀ y, w7.frozen? ⟨bO, y, none⟩ = false := fun y => keptF hb7 tb (by
         have ho := HX.out.own
         have hq : rs.length = qs.length := by have h := congrArg List.length HQ.out; rw [tys_len, vR, List.length_set, uR, mixL_len, tys_len] at h; exact h.symm
         rw [← hq] at ho
         exact ho.frozenAt y)
        have tb7 : bO < w7.heap.size := Nat.lt_of_lt_of_le tb hb7.size
        clear hown7 hb7 hbO t0 t1 ej
        go_wp2
        go_roundw
        case rel => exact ⟨k + 1, _, by omega, by go_num, HX7, HQ7, HB7, HK2⟩
        case measure => first | (simp [intOf]; done) | (simp [intOf]; omega)
     ·obtain rfl : k = rs.length := by omega
      have HOV : Hid (ovS (pMix (tys rs) typ frm to) (tys rs) = false) := ovS_end fun i hi => HK.out i hi (by rw [tys_len] at hi; exact hi)
      have HPD := toHX (HSOME.out HOV.out)
      have HTQ : Hid (tys qs = renS (tys rs) typ frm to) := by
       show _ = _
       rw [HQ.out, ← tys_len rs]; unfold uR; rw [mixL_all]; rfl
      have HTD : Hid (TypM wo w.heap.size (.slice (some ⟨bO, 0, none⟩) rs.length capO) qs) := TypM.mono HX.out HB1.out.size
      have HBD : Hid (Below w.heap.size w wo) := HB1.out.trans (HB.out.mono HB1.out.size)
      go_wp2
      refine bodyPost_ret (v := .tuple #[.slice (some ⟨bO, 0, none⟩) rs.length capO, .bool true]) ?_ rfl ⟨.slice (some ⟨bO, 0, none⟩) rs.length capO, qs, by rw [HPD.out]; rfl, by rw [HPD.out]; exact HTQ.out, HTD.out, HBD.out⟩
      simp [results, Tryz.results7, go_sem]
   ·have HN : Hid (renD (tys rs) typ frm to = none) := by
     have e : hasB (tys rs) typ to = true := by
      unfold hasB
      rw [← HX1.out]
      cases rows1 with
      | nil => exact absurd rfl hz1
      | cons a b => rfl
     show _ = _; unfold renD; rw [e]; simp
    have hly : (0 : Int) < (rows1.length : Int) := by
     have : rows1.length ≠ 0 := fun h => hz1 (List.length_eq_zero_iff.1 h)
     omega
    have hly2 : 0 < rows1.length := by omega
    clear hz1
    go_wp2
    refine bodyPost_ret (v := .tuple #[.slice none 0 0, .bool false]) ?_ rfl (ansT_none HN.out HB1.out)
    simp [results, Tryz.results7, go_sem]
end Go.Proofs.YtmghabcaakgjiaaGreat
