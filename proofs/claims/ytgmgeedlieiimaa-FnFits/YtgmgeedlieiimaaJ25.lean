import Derived.Test.YtgmgeedlieiimaaCopyS
import Derived.Test.YtgmgeedlieiimaaJ24
import Derived.Deep.RegionHeld3
import Derived.Deep.DrawnRows
namespace Go.Proofs.Ytgmgeedlieiimaa
open Go.ChangeShapes Go.WideShapes Go.ChangeAt Go.RowKit Go.Maps
open Pl
def relD (ts : List Ty) (typ rel : ByteArray) : List Ex := if schemaD ts then relOr ts typ rel else []
set_option maxRecDepth 100000 in
set_option maxHeartbeats 2000000 in
theorem implRelOf_any (ad : Option Addr) (cap : Nat) (rs : List TR) (typ rel : ByteArray) (w : World) (hlen : rs.length ≤ 1048576) (hs : SlT w ad rs) (hl : ∀ r ∈ rs, r.light) (hf : ∀ r ∈ rs, r.fits) (hcp : ∀ r ∈ rs, r.caps) (ht : typ.size ≤ maxLen) (hr : rel.size ≤ maxLen) :
  Calls Try.prog 11 #[.slice ad rs.length cap, .string typ, .string rel] w fun e w' => ∃ (ad' : Option Addr) (cap' : Nat) (qs : List ER), e = .returned (.tuple #[.slice ad' qs.length cap', .bool (!(relD (tys rs) typ rel).isEmpty)]) ∧ exs qs = relD (tys rs) typ rel ∧ SlE w' ad' qs ∧ (qs ≠ [] → ∃ b, ad' = some ⟨b, 0, none⟩ ∧ w.heap.size ≤ b ∧ b < w'.heap.size ∧ OwnE b w' qs ∧ Free w' b) ∧ Below w.heap.size w w' := by
 obtain ⟨kl, hkl⟩ := relKeyOf (typ, rel) ht hr
 have HKL : Hid (keyOf Try.prog 72 (encK (typ, rel)) = some kl) := hkl
 have HS : Hid (SlT w ad rs) := hs
 have HL : Hid (∀ r ∈ rs, r.light) := hl
 have HFT : Hid (∀ r ∈ rs, r.fits) := hf
 have HCP : Hid (∀ r ∈ rs, r.caps) := hcp
 clear hs hl hf hcp hkl
 go_enter Try.func11, Try.ntmps11
 go_wp2_with fail
 refine (implSchemaOk_any ad cap rs _ hlen HS.out HL.out HFT.out HCP.out).mono ?_
 rintro e w1 ⟨rfl, hb1⟩
 have HB1 : Hid (Below w.heap.size w w1) := hb1
 clear hb1
 cases hd : schemaD (tys rs) with
 | false =>
  have HN : Hid (relD (tys rs) typ rel = []) := by show _ = _; unfold relD; rw [hd]; rfl
  go_wp2
  refine bodyPost_ret (v := .tuple #[.slice none 0 0, .bool false]) ?_ rfl ⟨none, 0, [], by rw [HN.out]; rfl, by rw [HN.out]; rfl, .inl rfl, fun h => absurd rfl h, HB1.out⟩
  simp [results, Try.results11, go_sem]
 | true =>
  have HN : Hid (relD (tys rs) typ rel = relOr (tys rs) typ rel) := by show _ = _; unfold relD; rw [hd]; rfl
  have hSP := schemaD_iff.1 hd
  obtain ⟨h6, hr6, hex⟩ := shape_facts hSP.1
  have HR6 : Hid (∀ r ∈ rs, r.rows.length ≤ 6) := hr6
  have HEX : Hid (∀ r ∈ rs, ∀ q ∈ r.rows, specE (exs q.rows) = true ∧ q.rows.length ≤ 15 ∧ ∀ e ∈ q.rows, kidsRow q.rows.length e.e.kids) := hex
  have HTAB : Hid (Tab rs (tabM rs)) := tab_of hSP.1
  clear hd hSP hr6 hex
  go_wp2_with fail
  refine (tableOf_any ad cap rs _ h6 (HS.out.below HB1.out) HR6.out HFT.out).mono ?_
  rintro e w2 ⟨rfl, hmv, hb2⟩
  have HB2 : Hid (Below w.heap.size w w2) := HB1.out.trans (hb2.mono HB1.out.size)
  have HMV : Hid (MapV encK Try.prog 72 w2 w1.heap.size 36 (tabM rs)) := hmv
  clear hmv hb2
  cases hm : tabM rs (typ, rel) with
  | none =>
   have HN2 : Hid (relD (tys rs) typ rel = []) := by
    show _ = _
    rw [HN.out]; unfold relOr; rw [HTAB.out.no _ hm]; rfl
   go_wp2_with (at_lookup; refine wpList_lookV_ok _ rfl _ _ 75 rfl 72 28 relLaw Try.underlying75 (zeroExprs _) w1.heap.size 36 (tabM rs) rfl HMV.out (typ, rel) kl rfl HKL.out ?_; simp only [hm, Option.getD_none, Option.isSome_none])
   refine bodyPost_ret (v := .tuple #[.slice none 0 0, .bool false]) ?_ rfl ⟨none, 0, [], by rw [HN2.out]; rfl, by rw [HN2.out]; rfl, .inl rfl, fun h => absurd rfl h, HB2.out⟩
   simp [results, Try.results11, go_sem]
  | some v =>
   obtain ⟨t, htm, q, hq, -, rfl, e1, -⟩ := HTAB.out.yes _ v hm
   have HN2 : Hid (relD (tys rs) typ rel = exs q.rows) := by
    show _ = _
    rw [HN.out]; unfold relOr; rw [e1]; rfl
   have hsp := HEX.out t htm q hq
   have HNE : Hid ((relD (tys rs) typ rel).isEmpty = false) := by
    show _ = _
    rw [HN2.out]
    have := (specE_few hsp.1).1
    cases h : exs q.rows with
    | nil => rw [h] at this; simp at this
    | cons a b => rfl
   have hrl := hsp.2.1
   have HSE : Hid (SlE w2 q.ad q.rows) := SlR.mem (SlT.mem (HS.out.below HB2.out) htm) hq
   have HLG : Hid (∀ r ∈ q.rows, r.e.light) := ((HL.out t htm).2 q hq).2
   have HM : Hid (tabM rs (typ, rel) = some (.slice q.ad q.rows.length q.cap)) := hm
   clear e1 hsp hm
   go_wp2_with (at_lookup; refine wpList_lookV_ok _ rfl _ _ 75 rfl 72 28 relLaw Try.underlying75 (zeroExprs _) w1.heap.size 36 (tabM rs) rfl HMV.out (typ, rel) kl rfl HKL.out ?_; rw [HM.out]; simp only [Option.getD_some, Option.isSome_some])
   refine (copyExpr_any q.ad q.cap q.rows _ hrl HSE.out HLG.out).mono ?_
   rintro e w3 ⟨qs, rfl, hqe, hqs, hqo, hqf, hql, hb3⟩
   have HB3 : Hid (Below w.heap.size w w3) := HB2.out.trans (hb3.mono HB2.out.size)
   have HQE : Hid (exs qs = relD (tys rs) typ rel) := by show _ = _; rw [hqe, HN2.out]
   have HQS : Hid (SlE w3 (some ⟨w2.heap.size, 0, none⟩) qs) := hqs
   have HQO : Hid (qs ≠ [] → ∃ b, (some ⟨w2.heap.size, 0, none⟩ : Option Addr) = some ⟨b, 0, none⟩ ∧ w.heap.size ≤ b ∧ b < w3.heap.size ∧ OwnE b w3 qs ∧ Free w3 b) := fun _ => ⟨w2.heap.size, rfl, HB2.out.size, hql, hqo, hqf⟩
   clear hqe hqs hqo hqf hql hb3
   go_wp2
   refine bodyPost_ret (v := .tuple #[.slice (some ⟨w2.heap.size, 0, none⟩) qs.length qs.length, .bool true]) ?_ rfl ⟨some ⟨w2.heap.size, 0, none⟩, qs.length, qs, by rw [HNE.out]; rfl, HQE.out, HQS.out, HQO.out, HB3.out⟩
   simp [results, Try.results11, go_sem]
end Go.Proofs.Ytgmgeedlieiimaa
namespace Go.Proofs.Ytgmgeedlieiimaa
open Go.ChangeShapes Go.WideShapes Go.ChangeAt Go.RowKit
open Pl
attribute [local go_sem ↓] Go.wp_at_zero Go.wp_at_succ
theorem keep6 {w W w' : World} {n : Nat} {x0 x1 x2 x3 x4 x5 : Value} (h : W.cell? ⟨n, 0, none⟩ = some x0 ∧ W.cell? ⟨n, 1, none⟩ = some x1 ∧ W.cell? ⟨n, 2, none⟩ = some x2 ∧ W.cell? ⟨n, 3, none⟩ = some x3 ∧ W.cell? ⟨n, 4, none⟩ = some x4 ∧ W.cell? ⟨n, 5, none⟩ = some x5 ∧ n < W.heap.size ∧ Below n w W) (hb : Below W.heap.size W w') : w'.cell? ⟨n, 0, none⟩ = some x0 ∧ w'.cell? ⟨n, 1, none⟩ = some x1 ∧ w'.cell? ⟨n, 2, none⟩ = some x2 ∧ w'.cell? ⟨n, 3, none⟩ = some x3 ∧ w'.cell? ⟨n, 4, none⟩ = some x4 ∧ w'.cell? ⟨n, 5, none⟩ = some x5 ∧ n < w'.heap.size ∧ Below n w w' := by
 obtain ⟨h0, h1, h2, h3, h4, h5, hn, hB⟩ := h
 have hc : ∀ o, w'.cell? ⟨n, o, none⟩ = W.cell? ⟨n, o, none⟩ := fun o => hb.cell (p := ⟨n, o, none⟩) hn
 refine ⟨by rw [hc]; exact h0, by rw [hc]; exact h1, by rw [hc]; exact h2, by rw [hc]; exact h3, by rw [hc]; exact h4, by rw [hc]; exact h5, Nat.lt_of_lt_of_le hn hb.size, hB.trans (hb.mono (Nat.le_of_lt hn))⟩
theorem specTupText_any (a b r c d s : ByteArray) (w : World) (ha : a.size ≤ maxLen) (hb : b.size ≤ maxLen) (hr : r.size ≤ maxLen) (hc : c.size ≤ maxLen) (hd : d.size ≤ maxLen) (hs : s.size ≤ maxLen) :
  Calls Try.prog 16 #[.agg #[.string a, .string b, .string r, .string c, .string d, .string s]] w fun e w' => e = .returned (.string (tupText a b r c d s)) ∧ Below w.heap.size w w' := by
 by_cases hn : tupB a b r c d s = true
 ·obtain ⟨h1, h2, h3, h4⟩ := tupB_parts hn
  have hx := objText_size a b
  have hy := objText_size c d
  have hr12 := (nameB_le h2).2
  have hs12 := setB_le h4
  clear h1 h2 h3 h4
  go_enter Try.func16, Try.ntmps16
  go_wp2_with fail
  refine (specTup_any _ _ _ _ _ _ _ ha hb hr hc hd hs).mono ?_
  rintro e w1 ⟨rfl, hb1⟩
  obtain ⟨hc1, hf1⟩ := bcell hb1
  have hz1 : w.heap.size < w1.heap.size := by have := hb1.size; simp at this; omega
  have k : ∀ o v, (w.alloc (.cells #[.string a, .string b, .string r, .string c, .string d, .string s] 39)).cell? ⟨w.heap.size, o, none⟩ = some v → w1.cell? ⟨w.heap.size, o, none⟩ = some v := fun o v h => by rw [hc1 _ _ (by simp)]; exact h
  have k0 := k 0 (.string a) (by simp)
  have k1 := k 1 (.string b) (by simp)
  have k2 := k 2 (.string r) (by simp)
  have k3 := k 3 (.string c) (by simp)
  have k4 := k 4 (.string d) (by simp)
  have k5 := k 5 (.string s) (by simp)
  have HB1 : Below w.heap.size w w1 := ((Below.refl _ _).alloc (Nat.le_refl _) _).trans (hb1.mono (by simp))
  clear k hb1 hc1 hf1
  have q1 : (9223372036854775807 < (objText a b).size + 1) = False := by simp; omega
  have q2 : (9223372036854775807 < (objText a b).size + 1 + r.size) = False := by simp; omega
  have q3 : (9223372036854775807 < (objText a b).size + 1 + r.size + 1) = False := by simp; omega
  have q4 : (9223372036854775807 < (objText a b).size + 1 + r.size + 1 + (objText c d).size) = False := by simp; omega
  go_wp2_with fail
  go_region_held3 (fun w' => w'.cell? ⟨w.heap.size, 0, none⟩ = some (.string a) ∧ w'.cell? ⟨w.heap.size, 1, none⟩ = some (.string b) ∧ w'.cell? ⟨w.heap.size, 2, none⟩ = some (.string r) ∧ w'.cell? ⟨w.heap.size, 3, none⟩ = some (.string c) ∧ w'.cell? ⟨w.heap.size, 4, none⟩ = some (.string d) ∧ w'.cell? ⟨w.heap.size, 5, none⟩ = some (.string s) ∧ w.heap.size < w'.heap.size ∧ Below w.heap.size w w')
   (first | exact keep6 (by assumption) hbx | exact ⟨k0, k1, k2, k3, k4, k5, hz1, HB1.drew⟩)
   (first | (go_at_call 45; refine (specObjText_any _ _ _ (by assumption) (by assumption)).mono ?_; rintro e w' ⟨rfl, hbx⟩))
  rename_i hH
  obtain ⟨g0, g1, g2, g3, g4, g5, gz, gB⟩ := hH
  clear k0 k1 k2 k3 k4 k5 hbx q1 q2 q3 q4 HB1
  by_cases he : s.toList.isEmpty = true
  ·have HT : Hid (tupText a b r c d s = _) := tupText_one hn he
   go_wp2
   go_ret
   exact ⟨ret_str HT.out.symm, gB⟩
  ·have he' : s.toList.isEmpty = false := by simpa using he
   have HT : Hid (tupText a b r c d s = _) := tupText_two hn he'
   clear he
   go_wp2
   go_ret
   exact ⟨ret_str HT.out.symm, gB⟩
 ·have hn' : tupB a b r c d s = false := by simpa using hn
  have HT : Hid (tupText a b r c d s = ⟨#[]⟩) := tupText_no hn'
  clear hn
  go_enter Try.func16, Try.ntmps16
  go_wp2_with fail
  refine (specTup_any _ _ _ _ _ _ _ ha hb hr hc hd hs).mono ?_
  rintro e w1 ⟨rfl, hb1⟩
  go_wp2
  go_ret
  exact ⟨ret_str HT.out.symm, ((Below.refl _ _).alloc (Nat.le_refl _) _).trans (hb1.mono (by simp))⟩
end Go.Proofs.Ytgmgeedlieiimaa
