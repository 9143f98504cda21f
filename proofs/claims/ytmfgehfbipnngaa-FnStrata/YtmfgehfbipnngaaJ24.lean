/- Contracts of both functions that tell a relation's expression. -/
import Derived.Test.YtmfgehfbipnngaaCopyS
import Derived.Test.YtmfgehfbipnngaaJ23
namespace Go.Proofs.Ytmfgehfbipnngaa
open Go.ChangeShapes Go.WideShapes Go.ChangeAt Go.RowKit Go.Maps
open Pl
def relD (ts : List Ty) (typ rel : ByteArray) : List Ex := if schemaD ts then relOr ts typ rel else []
set_option maxRecDepth 100000 in
set_option maxHeartbeats 2000000 in
theorem implRelOf_any (ad : Option Addr) (cap : Nat) (rs : List TR) (typ rel : ByteArray) (w : World) (hlen : rs.length ≤ 1048576) (hs : SlT w ad rs) (hl : ∀ r ∈ rs, r.light) (hf : ∀ r ∈ rs, r.fits) (hcp : ∀ r ∈ rs, r.caps) (ht : typ.size ≤ maxLen) (hr : rel.size ≤ maxLen) :
  Calls Try.prog 11 #[.slice ad rs.length cap, .string typ, .string rel] w fun e w' => ∃ (ad' : Option Addr) (cap' : Nat) (qs : List ER), e = .returned (.tuple #[.slice ad' qs.length cap', .bool (!(relD (tys rs) typ rel).isEmpty)]) ∧ exs qs = relD (tys rs) typ rel ∧ SlE w' ad' qs ∧ (qs ≠ [] → ∃ b, ad' = some ⟨b, 0, none⟩ ∧ w.heap.size ≤ b ∧ b < w'.heap.size ∧ OwnE b w' qs ∧ Free w' b) ∧ Below w.heap.size w w' := by
 obtain ⟨kl, hkl⟩ := relKeyOf (typ, rel) ht hr
 have HKL : Hid (keyOf Try.prog 72 (encK (typ, rel)) = some kl) := hkl
 have HS : Hid (SlT w ad rs) := hs
 have HL : Hid (∀ r ∈ rs, r.light) := hl
 have HFT : Hid (∀ r ∈ rs, r.fits) := hf
 have HCP : Hid (∀ r ∈ rs, r.caps) := hcp
 clear hs hl hf hcp hkl
 go_enter Try.func11, Try.ntmps11
 go_wp2_with fail
 refine (implSchemaOk_any ad cap rs _ hlen HS.out HL.out HFT.out HCP.out).mono ?_
 rintro e w1 ⟨rfl, hb1⟩
 have HB1 : Hid (Below w.heap.size w w1) := hb1
 clear hb1
 cases hd : schemaD (tys rs) with
 | false =>
  have HN : Hid (relD (tys rs) typ rel = []) := by show _ = _; unfold relD; rw [hd]; rfl
  go_wp2
  refine bodyPost_ret (v := .tuple #[.slice none 0 0, .bool false]) ?_ rfl ⟨none, 0, [], by rw [HN.out]; rfl, by rw [HN.out]; rfl, .inl rfl, fun h => absurd rfl h, HB1.out⟩
  simp [results, Try.results11, go_sem]
 | true =>
  have HN : Hid (relD (tys rs) typ rel = relOr (tys rs) typ rel) := by show _ = _; unfold relD; rw [hd]; rfl
  have hSP := schemaD_iff.1 hd
  obtain ⟨h6, hr6, hex⟩ := shape_facts hSP.1
  have HR6 : Hid (∀ r ∈ rs, r.rows.length ≤ 6) := hr6
  have HEX : Hid (∀ r ∈ rs, ∀ q ∈ r.rows, specE (exs q.rows) = true ∧ q.rows.length ≤ 15 ∧ ∀ e ∈ q.rows, kidsRow q.rows.length e.e.kids) := hex
  have HTAB : Hid (Tab rs (tabM rs)) := tab_of hSP.1
  clear hd hSP hr6 hex
  go_wp2_with fail
  refine (tableOf_any ad cap rs _ h6 (HS.out.below HB1.out) HR6.out HFT.out).mono ?_
  rintro e w2 ⟨rfl, hmv, hb2⟩
  have HB2 : Hid (Below w.heap.size w w2) := HB1.out.trans (hb2.mono HB1.out.size)
  have HMV : Hid (MapV encK Try.prog 72 w2 w1.heap.size 36 (tabM rs)) := hmv
  clear hmv hb2
  cases hm : tabM rs (typ, rel) with
  | none =>
   have HN2 : Hid (relD (tys rs) typ rel = []) := by
    show _ = _
    rw [HN.out]; unfold relOr; rw [HTAB.out.no _ hm]; rfl
   go_wp2_with (at_lookup; refine wpList_lookV_ok _ rfl _ _ 75 rfl 72 28 relLaw Try.underlying75 (zeroExprs _) w1.heap.size 36 (tabM rs) rfl HMV.out (typ, rel) kl rfl HKL.out ?_; simp only [hm, Option.getD_none, Option.isSome_none])
   refine bodyPost_ret (v := .tuple #[.slice none 0 0, .bool false]) ?_ rfl ⟨none, 0, [], by rw [HN2.out]; rfl, by rw [HN2.out]; rfl, .inl rfl, fun h => absurd rfl h, HB2.out⟩
   simp [results, Try.results11, go_sem]
  | some v =>
   obtain ⟨t, htm, q, hq, -, rfl, e1, -⟩ := HTAB.out.yes _ v hm
   have HN2 : Hid (relD (tys rs) typ rel = exs q.rows) := by
    show _ = _
    rw [HN.out]; unfold relOr; rw [e1]; rfl
   have hsp := HEX.out t htm q hq
   have HNE : Hid ((relD (tys rs) typ rel).isEmpty = false) := by
    show _ = _
    rw [HN2.out]
    have := (specE_few hsp.1).1
    cases h : exs q.rows with
    | nil => rw [h] at this; simp at this
    | cons a b => rfl
   have hrl := hsp.2.1
   have HSE : Hid (SlE w2 q.ad q.rows) := SlR.mem (SlT.mem (HS.out.below HB2.out) htm) hq
   have HLG : Hid (∀ r ∈ q.rows, r.e.light) := ((HL.out t htm).2 q hq).2
   have HM : Hid (tabM rs (typ, rel) = some (.slice q.ad q.rows.length q.cap)) := hm
   clear e1 hsp hm
   go_wp2_with (at_lookup; refine wpList_lookV_ok _ rfl _ _ 75 rfl 72 28 relLaw Try.underlying75 (zeroExprs _) w1.heap.size 36 (tabM rs) rfl HMV.out (typ, rel) kl rfl HKL.out ?_; rw [HM.out]; simp only [Option.getD_some, Option.isSome_some])
   refine (copyExpr_any q.ad q.cap q.rows _ hrl HSE.out HLG.out).mono ?_
   rintro e w3 ⟨qs, rfl, hqe, hqs, hqo, hqf, hql, hb3⟩
   have HB3 : Hid (Below w.heap.size w w3) := HB2.out.trans (hb3.mono HB2.out.size)
   have HQE : Hid (exs qs = relD (tys rs) typ rel) := by show _ = _; rw [hqe, HN2.out]
   have HQS : Hid (SlE w3 (some ⟨w2.heap.size, 0, none⟩) qs) := hqs
   have HQO : Hid (qs ≠ [] → ∃ b, (some ⟨w2.heap.size, 0, none⟩ : Option Addr) = some ⟨b, 0, none⟩ ∧ w.heap.size ≤ b ∧ b < w3.heap.size ∧ OwnE b w3 qs ∧ Free w3 b) := fun _ => ⟨w2.heap.size, rfl, HB2.out.size, hql, hqo, hqf⟩
   clear hqe hqs hqo hqf hql hb3
   go_wp2
   refine bodyPost_ret (v := .tuple #[.slice (some ⟨w2.heap.size, 0, none⟩) qs.length qs.length, .bool true]) ?_ rfl ⟨some ⟨w2.heap.size, 0, none⟩, qs.length, qs, by rw [HNE.out]; rfl, HQE.out, HQS.out, HQO.out, HB3.out⟩
   simp [results, Try.results11, go_sem]
end Go.Proofs.Ytmfgehfbipnngaa
namespace Go.Proofs.Ytmfgehfbipnngaa
open Go.ChangeShapes Go.WideShapes Go.ChangeAt Go.RowKit
open Pl
theorem least_bound : ∀ (l : List Int) (m : Int), least m l ≤ m ∧ ∀ x ∈ l, least m l ≤ x
 | [], m => ⟨Int.le_refl _, fun x hx => by cases hx⟩
 | y :: ys, m => by
  obtain ⟨h1, h2⟩ := least_bound ys (if y < m then y else m)
  have hm : (if y < m then y else m) ≤ m ∧ (if y < m then y else m) ≤ y := by split <;> omega
  simp only [least]
  refine ⟨Int.le_trans h1 hm.1, fun x hx => ?_⟩
  rcases List.mem_cons.1 hx with rfl | hx
  ·exact Int.le_trans h1 hm.2
  ·exact h2 x hx
theorem least_in : ∀ (l : List Int) (m : Int), least m l = m ∨ least m l ∈ l
 | [], _ => .inl rfl
 | y :: ys, m => by
  simp only [least]
  rcases least_in ys (if y < m then y else m) with h | h
  ·rw [h]
   split
   ·exact .inr (List.mem_cons_self ..)
   ·exact .inl rfl
  ·exact .inr (List.mem_cons_of_mem _ h)
theorem strat_yes {ts : List Ty} {k : Ky} (hS : SchemaP ts) (hk : k ∈ ents ts) : stratumP ts k = least (ents ts).length ((solsB ts).map fun f => f k) := by
 unfold stratumP
 rw [if_pos (Bool.and_eq_true_iff.2 ⟨schemaD_iff.2 hS, any_key.2 hk⟩)]
theorem strat_le {ts : List Ty} {k : Ky} (hS : SchemaP ts) (hk : k ∈ ents ts) {f : Ky → Int} (hf : f ∈ solsB ts) : stratumP ts k ≤ f k := by
 rw [strat_yes hS hk]
 exact (least_bound _ _).2 _ (List.mem_map.2 ⟨f, hf, rfl⟩)
theorem strat_min {ts : List Ty} {k : Ky} (hS : SchemaP ts) (hk : k ∈ ents ts) : ∃ f ∈ solsB ts, stratumP ts k = f k := by
 obtain ⟨g0, hg0⟩ := hS.2.2
 obtain ⟨g, hg, hb⟩ := hg0.few (found_of hS.2.1)
 obtain ⟨f2, hf2, hfe⟩ := solsB_of (found_of hS.2.1) hg hb
 have h1 := strat_le hS hk hf2
 have h2 := hb k hk
 have h3 := hfe k hk
 rcases least_in ((solsB ts).map fun f => f k) (ents ts).length with h | h
 ·rw [← strat_yes hS hk] at h
  omega
 ·rw [← strat_yes hS hk] at h
  obtain ⟨f, hf, e⟩ := List.mem_map.1 h
  exact ⟨f, hf, e.symm⟩
theorem strat_edge {ts : List Ty} {k : Ky} (hS : SchemaP ts) (hk : k ∈ ents ts) {d : Dp} (hd : d ∈ depsK ts k) : 0 ≤ stratumP ts (d.typ, d.rel) ∧ stratumP ts (d.typ, d.rel) + stepOf d ≤ stratumP ts k := by
 have hm := found_of hS.2.1 k hk d hd
 obtain ⟨f, hf, e⟩ := strat_min hS hk
 obtain ⟨g, hg, e2⟩ := strat_min hS hm
 have h1 := (solsB_sol hf).up k hk d hd
 have h2 := strat_le hS hm hf
 exact ⟨by rw [e2]; exact (solsB_sol hg).pos _, by rw [e]; omega⟩
theorem deps_rel {ts : List Ty} {typ : ByteArray} {es : List Ex} {i : Nat} {e : Ex} (he : es[i]? = some e) (h2 : e.kind = 2) : (⟨typ, e.name, (negP es).getD i false⟩ : Dp) ∈ depsP ts typ es :=
 depsUp_mk (i := i) (by unfold depsAt; rw [he]; simp [depsN, h2]) (List.getElem?_eq_some_iff.1 he).1
theorem strat_rel {ts : List Ty} {typ rel : ByteArray} (hS : SchemaP ts) (hk : (typ, rel) ∈ ents ts) {i : Nat} {e : Ex} (he : (relOr ts typ rel)[i]? = some e) (h2 : e.kind = 2) :
  0 ≤ stratumP ts (typ, e.name) ∧ stratumP ts (typ, e.name) + (if (negP (relOr ts typ rel)).getD i false then 1 else 0) ≤ stratumP ts (typ, rel) :=
 strat_edge hS hk (d := ⟨typ, e.name, (negP (relOr ts typ rel)).getD i false⟩) (deps_rel he h2)
theorem key_there {rs : List TR} {typ rel : ByteArray} {es : List Ex} (e : relP (tys rs) typ rel = some es) : (typ, rel) ∈ ents (tys rs) := by
 obtain ⟨t, ht, q, hq, rfl, rfl, rfl⟩ := relP_row e
 exact mem_ents.2 ⟨t.p, List.mem_map_of_mem ht, q.p, List.mem_map_of_mem hq, rfl⟩
theorem strat_there {rs : List TR} (typ rel : ByteArray) : decide (0 ≤ stratumP (tys rs) (typ, rel)) = !(relD (tys rs) typ rel).isEmpty := by
 by_cases hS : SchemaP (tys rs)
 ·have e1 : relD (tys rs) typ rel = relOr (tys rs) typ rel := by unfold relD; rw [schemaD_iff.2 hS]; rfl
  rw [e1]
  unfold relOr
  cases e : relP (tys rs) typ rel with
  | none =>
   have hn : (typ, rel) ∉ ents (tys rs) := fun hk => by
    obtain ⟨t, ht, r, hr, e3⟩ := mem_ents.1 hk
    obtain ⟨t', ht', rfl⟩ := List.mem_map.1 ht
    obtain ⟨q, hq, rfl⟩ := List.mem_map.1 hr
    injection e3 with e4 e5
    subst e4; subst e5
    have := rel_row_of hS.1 ht' hq
    rw [show relP (tys rs) t'.name q.name = none from e] at this
    cases this
   rw [stratumP_none hn]
   rfl
  | some es =>
   have hk := key_there e
   obtain ⟨t, ht, q, hq, rfl, rfl, rfl⟩ := relP_row e
   obtain ⟨f, hf, e2⟩ := strat_min hS hk
   have h0 := (solsB_sol hf).pos (t.name, q.name)
   have h1 := (specE_few ((shape_facts hS.1).2.2 t ht q hq).1).1
   rw [e2, decide_eq_true h0]
   cases h : exs q.rows with
   | nil => rw [h] at h1; simp at h1
   | cons a b => rfl
 ·have e1 : relD (tys rs) typ rel = [] := by
   unfold relD
   rw [if_neg (fun h => hS (schemaD_iff.1 h))]
  rw [stratumP_no hS, e1]
  rfl
end Go.Proofs.Ytmfgehfbipnngaa
