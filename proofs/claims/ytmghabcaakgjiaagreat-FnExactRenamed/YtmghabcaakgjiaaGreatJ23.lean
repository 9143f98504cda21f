/- Contracts of the program's function on strata and on right schemas. -/
import Derived.Test.YtmghabcaakgjiaaGreatJ20
import Derived.Test.YtmghabcaakgjiaaGreatImplTypes
import Derived.Test.YtmghabcaakgjiaaGreatJ16
import Derived.Deep.RegionHeld3
import Derived.Test.YtmghabcaakgjiaaGreatJ2
namespace Go.Proofs.YtmghabcaakgjiaaGreat
open Go.ChangeShapes Go.WideShapes Go.ChangeAt Go.RowKit Go.Maps
open Pl
def OPost (ts : List Ty) (w : World) (e : Ending) (w' : World) : Prop :=
 ((∃ (b n : Nat) (σ : Ky → Option Int), e = .returned (.tuple #[.map (some b), .bool true]) ∧ SchemaP ts ∧ MapV encK Tryz.prog 73 w' b n (intS σ) ∧ Least ts (fun k => (σ k).getD 0) ∧ ∀ k, (∃ x, σ k = some x) ↔ k ∈ ents ts) ∨ (e = .returned (.tuple #[.map none, .bool false]) ∧ ¬ SchemaP ts)) ∧ Below w.heap.size w w'
set_option maxRecDepth 100000 in
set_option maxHeartbeats 8000000 in
theorem strataOf_any (ad : Option Addr) (cap : Nat) (rs : List TR) (w : World) (hlen : rs.length ≤ 1048576) (hs : SlT w ad rs) (hl : ∀ r ∈ rs, r.light) (hf : ∀ r ∈ rs, r.fits) (hcp : ∀ r ∈ rs, r.caps) :
  Calls Tryz.prog 59 #[.slice ad rs.length cap] w (OPost (tys rs) w) := by
 have HS : Hid (SlT w ad rs) := hs
 have HL : Hid (∀ r ∈ rs, r.light) := hl
 have HFT : Hid (∀ r ∈ rs, r.fits) := hf
 have HCT : Hid (∀ r ∈ rs, r.caps) := hcp
 clear hs hl hf hcp
 go_enter Tryz.func59, Tryz.ntmps59
 go_wp2_with fail
 refine (typesOk_any ad cap rs _ hlen HS.out HL.out HFT.out HCT.out).mono ?_
 rintro e w1 ⟨rfl, hb1⟩
 have HB1 : Hid (Below w.heap.size w w1) := hb1
 clear hb1
 cases hsh : shapeB (tys rs) with
 | false =>
  have HP : Hid (OPost (tys rs) w (.returned (.tuple #[.map none, .bool false])) w1) := ⟨.inr ⟨rfl, fun h => by rw [h.1] at hsh; cases hsh⟩, HB1.out⟩
  go_wp2
  refine bodyPost_ret (v := .tuple #[.map none, .bool false]) ?_ rfl HP.out
  simp [results, Tryz.results59, go_sem]
 | true =>
  have HSH : Hid (shapeB (tys rs) = true) := hsh
  obtain ⟨h6, hr6, hex⟩ := shape_facts hsh
  have HR6 : Hid (∀ r ∈ rs, r.rows.length ≤ 6) := hr6
  have HEX : Hid (∀ r ∈ rs, ∀ q ∈ r.rows, specE (exs q.rows) = true ∧ q.rows.length ≤ 15 ∧ ∀ e ∈ q.rows, kidsRow q.rows.length e.e.kids) := hex
  have HT : Hid (Tab rs (tabM rs)) := tab_of hsh
  clear hsh hr6 hex
  go_wp2_with fail
  refine (tableOf_any ad cap rs _ h6 (HS.out.below HB1.out) HR6.out HFT.out).mono ?_
  rintro e w2 ⟨rfl, hV2, hb2⟩
  have HB2 : Hid (Below w.heap.size w w2) := HB1.out.trans (hb2.mono HB1.out.size)
  obtain ⟨bT, hbT⟩ : ∃ bT, bT = w1.heap.size := ⟨_, rfl⟩
  rw [← hbT] at hV2 ⊢
  have HV2 : Hid (MapV encK Tryz.prog 73 w2 bT 36 (tabM rs)) := hV2
  clear hV2 hb2 hbT HB1
  go_wp2_with fail
  go_loopw [16] (fun i wr => ∃ k : Nat, k ≤ rs.length ∧ i = .int .i64 k ∧ Hid (((tys rs).take k).all (refsT (tys rs)) = true) ∧ Hid (Below w.heap.size w wr) ∧ Hid (MapV encK Tryz.prog 73 wr bT 36 (tabM rs))) (fun i _ => rs.length - (intOf i).toNat)
  case atStart => exact ⟨0, Nat.zero_le _, rfl, (by show _ = _; simp), HB2, HV2⟩
  case round =>
   clear HB2 HV2
   obtain ⟨k, hk, rfl, HP, HB, HV⟩ := hrel
   by_cases hlt : k < rs.length
   ·rcases HS.out.below HB.out with rfl | ⟨b, off, rfl, hb, hr, -⟩
    ·simp at hlt
    obtain ⟨t0, t1⟩ := hr k hlt
    have hk1 : (0 : Int) ≤ (k : Int) := by omega
    have hk2 : (k : Int) < (rs.length : Int) := by omega
    have h66 := HR6.out _ (List.getElem_mem hlt)
    have z0 : rs[k].name.size ≤ maxLen := (HFT.out _ (List.getElem_mem hlt)).1
    obtain ⟨W1, hW1⟩ : ∃ W1, W1 = wr.alloc (.cells #[.string rs[k].name, .slice rs[k].ad rs[k].rows.length rs[k].cap] 44) := ⟨_, rfl⟩
    have hal : Below wr.heap.size wr W1 := by rw [hW1]; exact (Below.refl _ _).alloc (Nat.le_refl _) _
    obtain ⟨g6, hg6⟩ : ∃ g6, g6 = wr.heap.size := ⟨_, rfl⟩
    have HC1 : Hid (W1.cell? ⟨g6, 0, none⟩ = some (.string rs[k].name) ∧ g6 < W1.heap.size) := ⟨by rw [hW1, hg6]; simp, by rw [hW1, hg6]; simp⟩
    have HB1 : Hid (Below w.heap.size w W1) := HB.out.trans (hal.mono HB.out.size)
    have HV1 : Hid (MapV encK Tryz.prog 73 W1 bT 36 (tabM rs)) := HV.out.below hal
    clear hr hal HB HV
    go_wp2_with fail
    rw [← hW1, ← hg6]
    clear hW1 t0 t1 hg6
    go_loopw [23] (fun i w3 => ∃ j : Nat, j ≤ rs[k].rows.length ∧ i = .int .i64 j ∧ Hid (((rls rs[k].rows).take j).all (fun r => refsP (tys rs) rs[k].name r.expr) = true) ∧ Hid (Below w.heap.size w w3) ∧ Hid (MapV encK Tryz.prog 73 w3 bT 36 (tabM rs)) ∧ Hid (w3.cell? ⟨g6, 0, none⟩ = some (.string rs[k].name) ∧ g6 < w3.heap.size)) (fun i _ => rs[k].rows.length - (intOf i).toNat)
    case atStart => exact ⟨0, Nat.zero_le _, rfl, (by show _ = _; simp), HB1, HV1, HC1⟩
    case round =>
     clear HB1 HV1 HC1
     obtain ⟨j, hj, rfl, HR, HB, HV, HC⟩ := hrel
     by_cases hjl : j < rs[k].rows.length
     ·rcases HS.out.below HB.out with hnil | ⟨b', off', he, hb2, hr, hok⟩
      ·rw [hnil] at hlt; simp at hlt
      injection he with he; injection he with he1 he2; subst he1; subst he2
      have ok := hok rs[k] (List.getElem_mem hlt)
      rcases ok with hnil | ⟨b2, off2, had, hbb, hr2, hok2⟩
      ·rw [hnil] at hjl; simp at hjl
      obtain ⟨q0, q1⟩ := hr2 j hjl
      have HSE : Hid (SlE wr rs[k].rows[j].ad rs[k].rows[j].rows) := hok2 _ (List.getElem_mem hjl)
      have HLG : Hid (rs[k].rows[j].light) := (HL.out _ (List.getElem_mem hlt)).2 _ (List.getElem_mem hjl)
      have HFE : Hid (rs[k].rows[j].fits) := (HFT.out _ (List.getElem_mem hlt)).2.2 _ (List.getElem_mem hjl)
      have HNB : Hid (∀ q ∈ rs[k].rows[j].rows, nodeB q.e = true) := fun q hq => specE_nodes (HEX.out _ (List.getElem_mem hlt) _ (List.getElem_mem hjl)).1 q.e (by unfold exs; exact List.mem_map_of_mem hq)
      have hj1 : (0 : Int) ≤ (j : Int) := by omega
      have hj2 : (j : Int) < (rs[k].rows.length : Int) := by omega
      obtain ⟨x0, x1⟩ := HC.out
      obtain ⟨W3, hW3⟩ : ∃ W3, W3 = wr.alloc (.cells #[.string rs[k].rows[j].name, .slice rs[k].rows[j].ad rs[k].rows[j].rows.length rs[k].rows[j].cap] 46) := ⟨_, rfl⟩
      have hal : Below wr.heap.size wr W3 := by rw [hW3]; exact (Below.refl _ _).alloc (Nat.le_refl _) _
      have HB3 : Hid (Below w.heap.size w W3) := HB.out.trans (hal.mono HB.out.size)
      have HV3 : Hid (MapV encK Tryz.prog 73 W3 bT 36 (tabM rs)) := HV.out.below hal
      have HAL : Hid (Below wr.heap.size wr W3) := hal
      have HC3 : Hid (W3.cell? ⟨g6, 0, none⟩ = some (.string rs[k].name) ∧ g6 < W3.heap.size) := ⟨kept5 hal x1 x0, Nat.lt_of_lt_of_le x1 hal.size⟩
      have HTS : Hid ((rls rs[k].rows).take (j + 1) = (rls rs[k].rows).take j ++ [rs[k].rows[j].p]) := rls_take rs[k].rows j hjl
      rw [had]
      clear hr hok hr2 hok2 hal HB HV HC
      go_wp2_with fail
      rw [← hW3]
      clear hW3 q0 q1 x0 x1
      refine (namesFound_any (some ⟨b, off, none⟩) rs[k].rows[j].ad cap rs[k].rows[j].cap rs bT 36 (tabM rs) rs[k].name rs[k].rows[j].rows _ hlen (HS.out.below HB3.out) HL.out HFT.out HV3.out HT.out z0 HLG.out.1 (HSE.out.below HAL.out) HLG.out.2 HFE.out.2.2 HNB.out).mono ?_
      rintro e w5 ⟨rfl, hb5⟩
      have HB5 : Hid (Below w.heap.size w w5) := HB3.out.trans (hb5.mono HB3.out.size)
      have HV5 : Hid (MapV encK Tryz.prog 73 w5 bT 36 (tabM rs)) := HV3.out.below hb5
      have HC5 : Hid (w5.cell? ⟨g6, 0, none⟩ = some (.string rs[k].name) ∧ g6 < w5.heap.size) := ⟨kept5 hb5 HC3.out.2 HC3.out.1, Nat.lt_of_lt_of_le HC3.out.2 hb5.size⟩
      clear hb5
      cases hrf : refsP (tys rs) rs[k].name (exs rs[k].rows[j].rows) with
      | false =>
       have HPO : Hid (OPost (tys rs) w (.returned (.tuple #[.map none, .bool false])) w5) := by
        refine ⟨.inr ⟨rfl, fun hs => ?_⟩, HB5.out⟩
        have h1 := hs.2.1
        unfold refsAll at h1
        rw [List.all_eq_true] at h1
        have h2 := h1 rs[k].p (by unfold tys; exact List.mem_map_of_mem (List.getElem_mem hlt))
        unfold refsT at h2
        rw [List.all_eq_true] at h2
        have h3 := h2 rs[k].rows[j].p (by show _ ∈ rls rs[k].rows; unfold rls; exact List.mem_map_of_mem (List.getElem_mem hjl))
        have h4 : refsP (tys rs) rs[k].name (exs rs[k].rows[j].rows) = true := h3
        rw [hrf] at h4; cases h4
       go_wp2
       refine bodyPost_ret (v := .tuple #[.map none, .bool false]) ?_ rfl HPO.out
       simp [results, Tryz.results59, go_sem]
      | true =>
       have HRN : Hid (((rls rs[k].rows).take (j + 1)).all (fun r => refsP (tys rs) rs[k].name r.expr) = true) := by
        show _ = _
        rw [HTS.out, List.all_append, HR.out]
        have : refsP (tys rs) rs[k].name rs[k].rows[j].p.expr = true := hrf
        simp [this]
       go_wp2
       go_roundw
       case rel => exact ⟨j + 1, by omega, by go_num, HRN, HB5, HV5, HC5⟩
       case measure => first | (simp [intOf]; done) | (simp [intOf]; omega)
     ·obtain rfl : j = rs[k].rows.length := by omega
      have HPN : Hid (((tys rs).take (k + 1)).all (refsT (tys rs)) = true) := by
       show _ = _
       rw [tys_take rs k hlt, List.all_append, HP.out]
       have h1 := HR.out
       rw [← rls_len, List.take_length] at h1
       have : refsT (tys rs) rs[k].p = true := h1
       simp [this]
      go_wp2
      go_roundw
      case rel => exact ⟨k + 1, by omega, by go_num, HPN, HB, HV⟩
      case measure => first | (simp [intOf]; done) | (simp [intOf]; omega)
   ·obtain rfl : k = rs.length := by omega
    have HRA : Hid (refsAll (tys rs) = true) := by
     have h1 := HP.out
     rw [← tys_len, List.take_length] at h1
     exact h1
    go_wp2_with fail
    refine (leanersOf_any ad cap rs bT 36 (tabM rs) _ h6 (HS.out.below HB.out) HL.out HFT.out HR6.out (fun r hr q hq => (HEX.out r hr q hq).2) (allow6 HSH.out) HV.out HT.out).mono ?_
    rintro e w5 ⟨rfl, ⟨nL, ML, hG5⟩, hb5⟩
    have HB5 : Hid (Below w.heap.size w w5) := HB.out.trans (hb5.mono HB.out.size)
    have HG5 : Hid (Grp w5 wr.heap.size nL ML (typsE (tys rs) rs)) := hG5
    clear hG5 hb5
    go_wp2_with fail
    refine (leastStrata_any ad cap rs wr.heap.size nL ML (typsE (tys rs) rs) _ h6 (HS.out.below HB5.out) HFT.out HR6.out HG5.out (edge_of HSH.out HRA.out) (found_of HRA.out) (typsE_len rs HR6.out HEX.out (allow6 HSH.out))).mono ?_
    rintro e w6 ⟨hL, hb6⟩
    have HB6 : Hid (Below w.heap.size w w6) := HB5.out.trans (hb6.mono HB5.out.size)
    clear hb6
    rcases hL with ⟨bS, nS, σ, rfl, hM, hLe, hk⟩ | ⟨rfl, hno⟩
    ·have HPO : Hid (OPost (tys rs) w (.returned (.tuple #[.map (some bS), .bool true])) w6) := ⟨.inl ⟨bS, nS, σ, rfl, ⟨HSH.out, HRA.out, _, hLe.sol⟩, hM, hLe, hk⟩, HB6.out⟩
     clear hM hLe hk
     go_wp2
     refine bodyPost_ret (v := .tuple #[.map (some bS), .bool true]) ?_ rfl HPO.out
     simp [results, Tryz.results59, go_sem]
    ·have HPO : Hid (OPost (tys rs) w (.returned (.tuple #[.map none, .bool false])) w6) := ⟨.inr ⟨rfl, fun h => hno h.2.2⟩, HB6.out⟩
     clear hno
     go_wp2
     refine bodyPost_ret (v := .tuple #[.map none, .bool false]) ?_ rfl HPO.out
     simp [results, Tryz.results59, go_sem]
theorem implSchemaOk_any (ad : Option Addr) (cap : Nat) (rs : List TR) (w : World) (hlen : rs.length ≤ 1048576) (hs : SlT w ad rs) (hl : ∀ r ∈ rs, r.light) (hf : ∀ r ∈ rs, r.fits) (hcp : ∀ r ∈ rs, r.caps) :
  Calls Tryz.prog 25 #[.slice ad rs.length cap] w fun e w' => e = .returned (.bool (schemaD (tys rs))) ∧ Below w.heap.size w w' := by
 have HC := strataOf_any ad cap rs w hlen hs hl hf hcp
 clear hs hl hf hcp
 go_enter Tryz.func25, Tryz.ntmps25
 go_wp2_with fail
 refine HC.mono ?_
 rintro e w6 ⟨hL, hb6⟩
 rcases hL with ⟨bS, nS, σ, rfl, hS, -⟩ | ⟨rfl, hno⟩
 ·have HY := schemaD_yes hS
  have HY2 : Hid (schemaD (tys rs) = true) := HY
  clear HY hS HC
  go_wp2
  go_ret
  exact ⟨ret_bool HY2.out.symm, hb6⟩
 ·have HY2 : Hid (schemaD (tys rs) = false) := schemaD_no hno
  clear hno HC
  go_wp2
  go_ret
  exact ⟨ret_bool HY2.out.symm, hb6⟩
end Go.Proofs.YtmghabcaakgjiaaGreat
namespace Go.Proofs.YtmghabcaakgjiaaGreat
set_option maxRecDepth 100000
set_option linter.unusedVariables false
open Go.ChangeShapes Go.WideShapes Go.ChangeAt Go.RowKit Go.Maps
open Pl
theorem SlA.keepB {w w2 : World} {ad : Option Addr} {xs : List Al} (h : SlA w ad xs) (hs : w.heap.size ≤ w2.heap.size) (hb : ∀ g, g < w.heap.size → w2.heap[g]? = w.heap[g]?) : SlA w2 ad xs := by
 rcases h with h | ⟨b, off, e, hb', hr⟩
 ·exact .inl h
 ·exact .inr ⟨b, off, e, Nat.lt_of_lt_of_le hb' hs, fun i hi => (hr i hi).same fun o => World.cell?_of_block (a := ⟨b, o, none⟩) (hb b hb')⟩
theorem SlI.keepB {w w2 : World} {ad : Option Addr} {xs : List Int} (h : SlI w ad xs) (hs : w.heap.size ≤ w2.heap.size) (hb : ∀ g, g < w.heap.size → w2.heap[g]? = w.heap[g]?) : SlI w2 ad xs := by
 rcases h with h | ⟨b, off, e, hb', hr⟩
 ·exact .inl h
 ·exact .inr ⟨b, off, e, Nat.lt_of_lt_of_le hb' hs, fun i hi => (World.cell?_of_block (a := ⟨b, off + i, none⟩) (hb b hb')).trans (hr i hi)⟩
theorem slE_one {w1 w2 : World} {r : ER} {b : Nat} (hb : w1.heap[b]? = some (.cells #[.int .i64 r.e.kind, .slice r.adA r.e.allow.length r.capA, .string r.e.over, .string r.e.name, .slice r.adK r.e.kids.length r.capK] 50 (0, 0))) (hlt : b < w1.heap.size) (hs : w1.heap.size ≤ w2.heap.size) (h2 : w2.heap[b]? = w1.heap[b]?) (hok : r.ok w2) : SlE w2 (some ⟨b, 0, none⟩) [r] := by
 refine .inr ⟨b, 0, rfl, Nat.lt_of_lt_of_le hlt hs, fun i hi => ?_, fun q hq => by rw [List.mem_singleton] at hq; subst hq; exact hok⟩
 have e : i = 0 := by simpa using hi
 subst e
 have hc : ∀ o, w2.cell? ⟨b, o, none⟩ = w1.cell? ⟨b, o, none⟩ := fun o => World.cell?_of_block (a := ⟨b, o, none⟩) h2
 refine ⟨?_, ?_, ?_, ?_, ?_⟩
 all_goals
  rw [hc]
  simp [World.cell?, hb]
theorem belowN {B : Nat} {w w' : World} (h : Below B w w') (n : Nat) : Below B w (w'.drewN n) := ⟨h.os, h.tape, h.output, h.size, h.block⟩
end Go.Proofs.YtmghabcaakgjiaaGreat
namespace Go.Proofs.YtmghabcaakgjiaaGreat
open Pl
theorem exsP {rs rs' : List ER} {p : Ex → Prop} (h : exs rs' = exs rs) (hp : ∀ r ∈ rs, p r.e) : ∀ r ∈ rs', p r.e := by
 intro r hr
 have h1 : r.e ∈ exs rs' := List.mem_map.2 ⟨r, hr, rfl⟩
 rw [h] at h1
 obtain ⟨q, hq, e⟩ := List.mem_map.1 h1
 rw [← e]
 exact hp q hq
theorem rlsP {rs rs' : List RR} (h : rls rs' = rls rs) : ∀ r ∈ rs', ∃ q ∈ rs, q.name = r.name ∧ exs r.rows = exs q.rows := by
 intro r hr
 have h1 : r.p ∈ rls rs' := List.mem_map.2 ⟨r, hr, rfl⟩
 rw [h] at h1
 obtain ⟨q, hq, e⟩ := List.mem_map.1 h1
 injection e with e1 e2
 exact ⟨q, hq, e1, e2.symm⟩
theorem tysP {rs rs' : List TR} (h : tys rs' = tys rs) : ∀ r ∈ rs', ∃ q ∈ rs, q.name = r.name ∧ rls r.rows = rls q.rows := by
 intro r hr
 have h1 : r.p ∈ tys rs' := List.mem_map.2 ⟨r, hr, rfl⟩
 rw [h] at h1
 obtain ⟨q, hq, e⟩ := List.mem_map.1 h1
 injection e with e1 e2
 exact ⟨q, hq, e1, e2.symm⟩
theorem lightP {rs rs' : List TR} (h : tys rs' = tys rs) (hl : ∀ r ∈ rs, r.light) : ∀ r ∈ rs', r.light := by
 intro r hr
 obtain ⟨q, hq, -, e⟩ := tysP h r hr
 have h1 := hl q hq
 refine ⟨by rw [← rls_len, e, rls_len]; exact h1.1, fun x hx => ?_⟩
 obtain ⟨y, hy, -, e2⟩ := rlsP e x hx
 have h2 := h1.2 y hy
 exact ⟨by rw [← exs_len, e2, exs_len]; exact h2.1, exsP e2 h2.2⟩
theorem fitsP {rs rs' : List TR} (h : tys rs' = tys rs) (hl : ∀ r ∈ rs, r.fits) : ∀ r ∈ rs', r.fits := by
 intro r hr
 obtain ⟨q, hq, en, e⟩ := tysP h r hr
 have h1 := hl q hq
 refine ⟨by rw [← en]; exact h1.1, by rw [← rls_len, e, rls_len]; exact h1.2.1, fun x hx => ?_⟩
 obtain ⟨y, hy, en2, e2⟩ := rlsP e x hx
 have h2 := h1.2.2 y hy
 exact ⟨by rw [← en2]; exact h2.1, by rw [← exs_len, e2, exs_len]; exact h2.2.1, exsP e2 h2.2.2⟩
theorem lenP {rs rs' : List TR} (h : tys rs' = tys rs) : rs'.length = rs.length := by rw [← tys_len, h, tys_len]
end Go.Proofs.YtmghabcaakgjiaaGreat
