/- Proved here: FnFits answers true for every slice of bytes and leaves it as it was, with no condition on it. -/
import Derived.Test.YtgmgeedlieiimaaCopyS
import Derived.Test.YtgmgeedlieiimaaJ24
import Derived.Deep.RegionHeld3
import Derived.Deep.DrawnRows
import Derived.Test.YtgmgeedlieiimaaJ18
import Derived.Test.YtgmgeedlieiimaaFits
import Derived.OpenShut
import Derived.ShutString
import Derived.HandedShaped
namespace Go.Proofs.Ytgmgeedlieiimaa
open Go.ChangeShapes Go.WideShapes Go.ChangeAt Go.RowKit Go.Maps
open Pl
def relD (ts : List Ty) (typ rel : ByteArray) : List Ex := if schemaD ts then relOr ts typ rel else []
set_option maxRecDepth 100000 in
set_option maxHeartbeats 2000000 in
theorem implRelOf_any (ad : Option Addr) (cap : Nat) (rs : List TR) (typ rel : ByteArray) (w : World) (hlen : rs.length ≤ 1048576) (hs : SlT w ad rs) (hl : ∀ r ∈ rs, r.light) (hf : ∀ r ∈ rs, r.fits) (hcp : ∀ r ∈ rs, r.caps) (ht : typ.size ≤ maxLen) (hr : rel.size ≤ maxLen) :
  Calls Try.prog 11 #[.slice ad rs.length cap, .string typ, .string rel] w fun e w' => ∃ (ad' : Option Addr) (cap' : Nat) (qs : List ER), e = .returned (.tuple #[.slice ad' qs.length cap', .bool (!(relD (tys rs) typ rel).isEmpty)]) ∧ exs qs = relD (tys rs) typ rel ∧ SlE w' ad' qs ∧ (qs ≠ [] → ∃ b, ad' = some ⟨b, 0, none⟩ ∧ w.heap.size ≤ b ∧ b < w'.heap.size ∧ OwnE b w' qs ∧ Free w' b) ∧ Below w.heap.size w w' := by
 obtain ⟨kl, hkl⟩ := relKeyOf (typ, rel) ht hr
 have HKL : Hid (keyOf Try.prog 72 (encK (typ, rel)) = some kl) := hkl
 have HS : Hid (SlT w ad rs) := hs
 have HL : Hid (∀ r ∈ rs, r.light) := hl
 have HFT : Hid (∀ r ∈ rs, r.fits) := hf
 have HCP : Hid (∀ r ∈ rs, r.caps) := hcp
 clear hs hl hf hcp hkl
 go_enter Try.func11, Try.ntmps11
 go_wp2_with fail
 refine (implSchemaOk_any ad cap rs _ hlen HS.out HL.out HFT.out HCP.out).mono ?_
 rintro e w1 ⟨rfl, hb1⟩
 have HB1 : Hid (Below w.heap.size w w1) := hb1
 clear hb1
 cases hd : schemaD (tys rs) with
 | false =>
  have HN : Hid (relD (tys rs) typ rel = []) := by show _ = _; unfold relD; rw [hd]; rfl
  go_wp2
  refine bodyPost_ret (v := .tuple #[.slice none 0 0, .bool false]) ?_ rfl ⟨none, 0, [], by rw [HN.out]; rfl, by rw [HN.out]; rfl, .inl rfl, fun h => absurd rfl h, HB1.out⟩
  simp [results, Try.results11, go_sem]
 | true =>
  have HN : Hid (relD (tys rs) typ rel = relOr (tys rs) typ rel) := by show _ = _; unfold relD; rw [hd]; rfl
  have hSP := schemaD_iff.1 hd
  obtain ⟨h6, hr6, hex⟩ := shape_facts hSP.1
  have HR6 : Hid (∀ r ∈ rs, r.rows.length ≤ 6) := hr6
  have HEX : Hid (∀ r ∈ rs, ∀ q ∈ r.rows, specE (exs q.rows) = true ∧ q.rows.length ≤ 15 ∧ ∀ e ∈ q.rows, kidsRow q.rows.length e.e.kids) := hex
  have HTAB : Hid (Tab rs (tabM rs)) := tab_of hSP.1
  clear hd hSP hr6 hex
  go_wp2_with fail
  refine (tableOf_any ad cap rs _ h6 (HS.out.below HB1.out) HR6.out HFT.out).mono ?_
  rintro e w2 ⟨rfl, hmv, hb2⟩
  have HB2 : Hid (Below w.heap.size w w2) := HB1.out.trans (hb2.mono HB1.out.size)
  have HMV : Hid (MapV encK Try.prog 72 w2 w1.heap.size 36 (tabM rs)) := hmv
  clear hmv hb2
  cases hm : tabM rs (typ, rel) with
  | none =>
   have HN2 : Hid (relD (tys rs) typ rel = []) := by
    show _ = _
    rw [HN.out]; unfold relOr; rw [HTAB.out.no _ hm]; rfl
   go_wp2_with (at_lookup; refine wpList_lookV_ok _ rfl _ _ 75 rfl 72 28 relLaw Try.underlying75 (zeroExprs _) w1.heap.size 36 (tabM rs) rfl HMV.out (typ, rel) kl rfl HKL.out ?_; simp only [hm, Option.getD_none, Option.isSome_none])
   refine bodyPost_ret (v := .tuple #[.slice none 0 0, .bool false]) ?_ rfl ⟨none, 0, [], by rw [HN2.out]; rfl, by rw [HN2.out]; rfl, .inl rfl, fun h => absurd rfl h, HB2.out⟩
   simp [results, Try.results11, go_sem]
  | some v =>
   obtain ⟨t, htm, q, hq, -, rfl, e1, -⟩ := HTAB.out.yes _ v hm
   have HN2 : Hid (relD (tys rs) typ rel = exs q.rows) := by
    show _ = _
    rw [HN.out]; unfold relOr; rw [e1]; rfl
   have hsp := HEX.out t htm q hq
   have HNE : Hid ((relD (tys rs) typ rel).isEmpty = false) := by
    show _ = _
    rw [HN2.out]
    have := (specE_few hsp.1).1
    cases h : exs q.rows with
    | nil => rw [h] at this; simp at this
    | cons a b => rfl
   have hrl := hsp.2.1
   have HSE : Hid (SlE w2 q.ad q.rows) := SlR.mem (SlT.mem (HS.out.below HB2.out) htm) hq
   have HLG : Hid (∀ r ∈ q.rows, r.e.light) := ((HL.out t htm).2 q hq).2
   have HM : Hid (tabM rs (typ, rel) = some (.slice q.ad q.rows.length q.cap)) := hm
   clear e1 hsp hm
   go_wp2_with (at_lookup; refine wpList_lookV_ok _ rfl _ _ 75 rfl 72 28 relLaw Try.underlying75 (zeroExprs _) w1.heap.size 36 (tabM rs) rfl HMV.out (typ, rel) kl rfl HKL.out ?_; rw [HM.out]; simp only [Option.getD_some, Option.isSome_some])
   refine (copyExpr_any q.ad q.cap q.rows _ hrl HSE.out HLG.out).mono ?_
   rintro e w3 ⟨qs, rfl, hqe, hqs, hqo, hqf, hql, hb3⟩
   have HB3 : Hid (Below w.heap.size w w3) := HB2.out.trans (hb3.mono HB2.out.size)
   have HQE : Hid (exs qs = relD (tys rs) typ rel) := by show _ = _; rw [hqe, HN2.out]
   have HQS : Hid (SlE w3 (some ⟨w2.heap.size, 0, none⟩) qs) := hqs
   have HQO : Hid (qs ≠ [] → ∃ b, (some ⟨w2.heap.size, 0, none⟩ : Option Addr) = some ⟨b, 0, none⟩ ∧ w.heap.size ≤ b ∧ b < w3.heap.size ∧ OwnE b w3 qs ∧ Free w3 b) := fun _ => ⟨w2.heap.size, rfl, HB2.out.size, hql, hqo, hqf⟩
   clear hqe hqs hqo hqf hql hb3
   go_wp2
   refine bodyPost_ret (v := .tuple #[.slice (some ⟨w2.heap.size, 0, none⟩) qs.length qs.length, .bool true]) ?_ rfl ⟨some ⟨w2.heap.size, 0, none⟩, qs.length, qs, by rw [HNE.out]; rfl, HQE.out, HQS.out, HQO.out, HB3.out⟩
   simp [results, Try.results11, go_sem]
end Go.Proofs.Ytgmgeedlieiimaa
namespace Go.Proofs.Ytgmgeedlieiimaa
open Go.ChangeShapes Go.WideShapes Go.ChangeAt Go.RowKit
open Pl
attribute [local go_sem ↓] Go.wp_at_zero Go.wp_at_succ
theorem keep6 {w W w' : World} {n : Nat} {x0 x1 x2 x3 x4 x5 : Value} (h : W.cell? ⟨n, 0, none⟩ = some x0 ∧ W.cell? ⟨n, 1, none⟩ = some x1 ∧ W.cell? ⟨n, 2, none⟩ = some x2 ∧ W.cell? ⟨n, 3, none⟩ = some x3 ∧ W.cell? ⟨n, 4, none⟩ = some x4 ∧ W.cell? ⟨n, 5, none⟩ = some x5 ∧ n < W.heap.size ∧ Below n w W) (hb : Below W.heap.size W w') : w'.cell? ⟨n, 0, none⟩ = some x0 ∧ w'.cell? ⟨n, 1, none⟩ = some x1 ∧ w'.cell? ⟨n, 2, none⟩ = some x2 ∧ w'.cell? ⟨n, 3, none⟩ = some x3 ∧ w'.cell? ⟨n, 4, none⟩ = some x4 ∧ w'.cell? ⟨n, 5, none⟩ = some x5 ∧ n < w'.heap.size ∧ Below n w w' := by
 obtain ⟨h0, h1, h2, h3, h4, h5, hn, hB⟩ := h
 have hc : ∀ o, w'.cell? ⟨n, o, none⟩ = W.cell? ⟨n, o, none⟩ := fun o => hb.cell (p := ⟨n, o, none⟩) hn
 refine ⟨by rw [hc]; exact h0, by rw [hc]; exact h1, by rw [hc]; exact h2, by rw [hc]; exact h3, by rw [hc]; exact h4, by rw [hc]; exact h5, Nat.lt_of_lt_of_le hn hb.size, hB.trans (hb.mono (Nat.le_of_lt hn))⟩
theorem specTupText_any (a b r c d s : ByteArray) (w : World) (ha : a.size ≤ maxLen) (hb : b.size ≤ maxLen) (hr : r.size ≤ maxLen) (hc : c.size ≤ maxLen) (hd : d.size ≤ maxLen) (hs : s.size ≤ maxLen) :
  Calls Try.prog 16 #[.agg #[.string a, .string b, .string r, .string c, .string d, .string s]] w fun e w' => e = .returned (.string (tupText a b r c d s)) ∧ Below w.heap.size w w' := by
 by_cases hn : tupB a b r c d s = true
 ·obtain ⟨h1, h2, h3, h4⟩ := tupB_parts hn
  have hx := objText_size a b
  have hy := objText_size c d
  have hr12 := (nameB_le h2).2
  have hs12 := setB_le h4
  clear h1 h2 h3 h4
  go_enter Try.func16, Try.ntmps16
  go_wp2_with fail
  refine (specTup_any _ _ _ _ _ _ _ ha hb hr hc hd hs).mono ?_
  rintro e w1 ⟨rfl, hb1⟩
  obtain ⟨hc1, hf1⟩ := bcell hb1
  have hz1 : w.heap.size < w1.heap.size := by have := hb1.size; simp at this; omega
  have k : ∀ o v, (w.alloc (.cells #[.string a, .string b, .string r, .string c, .string d, .string s] 39)).cell? ⟨w.heap.size, o, none⟩ = some v → w1.cell? ⟨w.heap.size, o, none⟩ = some v := fun o v h => by rw [hc1 _ _ (by simp)]; exact h
  have k0 := k 0 (.string a) (by simp)
  have k1 := k 1 (.string b) (by simp)
  have k2 := k 2 (.string r) (by simp)
  have k3 := k 3 (.string c) (by simp)
  have k4 := k 4 (.string d) (by simp)
  have k5 := k 5 (.string s) (by simp)
  have HB1 : Below w.heap.size w w1 := ((Below.refl _ _).alloc (Nat.le_refl _) _).trans (hb1.mono (by simp))
  clear k hb1 hc1 hf1
  have q1 : (9223372036854775807 < (objText a b).size + 1) = False := by simp; omega
  have q2 : (9223372036854775807 < (objText a b).size + 1 + r.size) = False := by simp; omega
  have q3 : (9223372036854775807 < (objText a b).size + 1 + r.size + 1) = False := by simp; omega
  have q4 : (9223372036854775807 < (objText a b).size + 1 + r.size + 1 + (objText c d).size) = False := by simp; omega
  go_wp2_with fail
  go_region_held3 (fun w' => w'.cell? ⟨w.heap.size, 0, none⟩ = some (.string a) ∧ w'.cell? ⟨w.heap.size, 1, none⟩ = some (.string b) ∧ w'.cell? ⟨w.heap.size, 2, none⟩ = some (.string r) ∧ w'.cell? ⟨w.heap.size, 3, none⟩ = some (.string c) ∧ w'.cell? ⟨w.heap.size, 4, none⟩ = some (.string d) ∧ w'.cell? ⟨w.heap.size, 5, none⟩ = some (.string s) ∧ w.heap.size < w'.heap.size ∧ Below w.heap.size w w')
   (first | exact keep6 (by assumption) hbx | exact ⟨k0, k1, k2, k3, k4, k5, hz1, HB1.drew⟩)
   (first | (go_at_call 45; refine (specObjText_any _ _ _ (by assumption) (by assumption)).mono ?_; rintro e w' ⟨rfl, hbx⟩))
  rename_i hH
  obtain ⟨g0, g1, g2, g3, g4, g5, gz, gB⟩ := hH
  clear k0 k1 k2 k3 k4 k5 hbx q1 q2 q3 q4 HB1
  by_cases he : s.toList.isEmpty = true
  ·have HT : Hid (tupText a b r c d s = _) := tupText_one hn he
   go_wp2
   go_ret
   exact ⟨ret_str HT.out.symm, gB⟩
  ·have he' : s.toList.isEmpty = false := by simpa using he
   have HT : Hid (tupText a b r c d s = _) := tupText_two hn he'
   clear he
   go_wp2
   go_ret
   exact ⟨ret_str HT.out.symm, gB⟩
 ·have hn' : tupB a b r c d s = false := by simpa using hn
  have HT : Hid (tupText a b r c d s = ⟨#[]⟩) := tupText_no hn'
  clear hn
  go_enter Try.func16, Try.ntmps16
  go_wp2_with fail
  refine (specTup_any _ _ _ _ _ _ _ ha hb hr hc hd hs).mono ?_
  rintro e w1 ⟨rfl, hb1⟩
  go_wp2
  go_ret
  exact ⟨ret_str HT.out.symm, ((Below.refl _ _).alloc (Nat.le_refl _) _).trans (hb1.mono (by simp))⟩
end Go.Proofs.Ytgmgeedlieiimaa
namespace Go.Proofs.Ytgmgeedlieiimaa.fnFits
open Go.ChangeShapes Go.WideShapes Go.ChangeAt Go.RowKit
open Pl
set_option linter.unusedVariables false
theorem HID {p : Prop} (h : p) : Hid p := h
def Six (w : World) (n : Nat) (a b r c d s : ByteArray) : Prop := n < w.heap.size ∧ w.cell? ⟨n, 0, none⟩ = some (.string a) ∧ w.cell? ⟨n, 1, none⟩ = some (.string b) ∧ w.cell? ⟨n, 2, none⟩ = some (.string r) ∧ w.cell? ⟨n, 3, none⟩ = some (.string c) ∧ w.cell? ⟨n, 4, none⟩ = some (.string d) ∧ w.cell? ⟨n, 5, none⟩ = some (.string s)
theorem Six.below {w w' : World} {n : Nat} {a b r c d s : ByteArray} (h : Six w n a b r c d s) (hb : Below w.heap.size w w') : Six w' n a b r c d s := by
 obtain ⟨h, h0, h1, h2, h3, h4, h5⟩ := h
 exact ⟨Nat.lt_of_lt_of_le h hb.size, by rw [hb.cell (p := ⟨n, 0, none⟩) h]; exact h0, by rw [hb.cell (p := ⟨n, 1, none⟩) h]; exact h1, by rw [hb.cell (p := ⟨n, 2, none⟩) h]; exact h2, by rw [hb.cell (p := ⟨n, 3, none⟩) h]; exact h3, by rw [hb.cell (p := ⟨n, 4, none⟩) h]; exact h4, by rw [hb.cell (p := ⟨n, 5, none⟩) h]; exact h5⟩
theorem six_new (w : World) (t : TypeId) (a b r c d s : ByteArray) : Six (w.alloc (.cells #[.string a, .string b, .string r, .string c, .string d, .string s] t)) w.heap.size a b r c d s := by
 refine ⟨by simp, ?_, ?_, ?_, ?_, ?_, ?_⟩ <;> simp
def mayE (A : Al) (e : Ex) : Bool := inPre e.allow e.allow.length A
theorem rel_facts {rs : List TR} (hl : ∀ r ∈ rs, r.light) (ty n : ByteArray) : (relD (tys rs) ty n).length ≤ 15 ∧ ∀ e ∈ relD (tys rs) ty n, e.allow.length ≤ 1048576 ∧ nodeB e = true := by
 unfold relD
 cases hd : schemaD (tys rs) with
 | false => simp
 | true =>
  simp only [if_true]
  unfold relOr
  cases e : relP (tys rs) ty n with
  | none => simp
  | some es =>
   obtain ⟨t, ht, q, hq, -, -, rfl⟩ := relP_row e
   obtain ⟨h1, h2, h3⟩ := (shape_facts (schemaD_iff.1 hd).1).2.2 t ht q hq
   simp only [Option.getD_some]
   refine ⟨by rw [exs_len]; exact h2, fun x hx => ?_⟩
   have h4 : (exs q.rows).all nodeB = true := by simp only [specE, Bool.and_eq_true] at h1; exact h1.1.1.1.2
   refine ⟨?_, List.all_eq_true.1 h4 x hx⟩
   obtain ⟨y, hy, rfl⟩ := List.mem_map.1 hx
   exact (((hl t ht).2 q hq).2 y hy).1
theorem may_one (A : Al) {e : Ex} (h : nodeB e = true) : mayE A e = fitE A e := by
 unfold mayE fitE
 by_cases h1 : e.kind = 1
 ·simp [h1]
 ·have h0 : e.allow.length = 0 := by
   unfold nodeB at h
   rw [if_neg h1] at h
   split at h
   ·simp at h; simp [h]
   split at h
   ·simp at h; simp [h]
   split at h
   ·simp at h; simp [h]
   split at h
   ·simp at h; simp [h]
   ·simp at h
  simp [h1, List.length_eq_zero_iff.1 h0, inPre]
theorem may_same (A : Al) : ∀ {es : List Ex}, (∀ e ∈ es, nodeB e = true) → es.any (mayE A) = es.any (fitE A)
 | [], _ => rfl
 | e :: es, h => by rw [List.any_cons, List.any_cons, may_same A (fun x hx => h x (by simp [hx])), may_one A (h e (by simp))]
theorem fits_is {rs : List TR} (hl : ∀ r ∈ rs, r.light) (a b r c d s : ByteArray) : fitsD (tys rs) a b r c d s = ((relD (tys rs) a r).any (mayE ⟨c, s⟩) && tupB a b r c d s) := by
 rw [may_same _ fun e he => ((rel_facts hl a r).2 e he).2]
 cases hd : schemaD (tys rs) with
 | false => simp [fitsD, relD, hd]
 | true =>
  have e1 : relD (tys rs) a r = relOr (tys rs) a r := by unfold relD; rw [hd]; rfl
  unfold fitsD fitsS
  rw [hd, e1, fit_same ⟨c, s⟩ (own_rel (schemaD_iff.1 hd) a r)]
  rfl
theorem any_take (A : Al) (qs : List ER) (k : Nat) (h : k < qs.length) : (exs (qs.take (k + 1))).any (mayE A) = ((exs (qs.take k)).any (mayE A) || inPre qs[k].e.allow qs[k].e.allow.length A) := by
 rw [List.take_succ_eq_append_getElem h]
 show ((qs.take k ++ [qs[k]]).map ER.e).any (mayE A) = _
 rw [List.map_append, List.any_append]
 simp [exs, mayE]
theorem drewB {B : Nat} {w w' : World} (h : Below B w w') (n : Nat) : Below B w (w'.drewN n) := ⟨h.os, h.tape, h.output, h.size, h.block⟩
theorem text_full {a b r c d s : ByteArray} (h : tupB a b r c d s = true) : (tupText a b r c d s).toList.isEmpty = false := by
 have h0 : 0 < (tupText a b r c d s).size := by
  have e1 : (⟨#[35]⟩ : ByteArray).size = 1 := rfl
  cases hs : s.toList.isEmpty with
  | true => rw [tupText_one h hs]; simp only [ByteArray.size_append]; omega
  | false => rw [tupText_two h hs]; simp only [ByteArray.size_append]; omega
 cases k : (tupText a b r c d s).toList.isEmpty with
 | false => rfl
 | true => have := toList_isEmpty k; omega
structure St (w : World) (n : Nat) (a b r c d s : ByteArray) (adS : Option Addr) (rs : List TR) (W : World) : Prop where
 bel : Below w.heap.size w W
 six : Six W n a b r c d s
 sl : SlT W adS rs
theorem St.later {w W W' : World} {n : Nat} {a b r c d s : ByteArray} {adS : Option Addr} {rs : List TR} (h : St w n a b r c d s adS rs W) (hb : Below W.heap.size W W') : St w n a b r c d s adS rs W' :=
 ⟨h.bel.trans (hb.mono h.bel.size), h.six.below hb, h.sl.below hb⟩
set_option maxRecDepth 100000 in
set_option maxHeartbeats 8000000 in
theorem walk (ad : Option Addr) (len cap : Nat) (w : World) (h : Bytes w ad len) :
  Calls Try.prog 4 #[.slice ad len cap] w fun e w' => e = .returned (.bool true) ∧ Below w.heap.size w w' := by
 have H := HID h
 clear h
 go_enter Try.func4, Try.ntmps4
 go_wp2_with fail
 refine (big_any ad len cap w).mono ?_
 rintro e w0 ⟨rfl, rfl⟩
 by_cases hbig : (1048576 : Int) < (len : Int)
 ·go_wp2
  go_ret
  exact ⟨rfl, Below.refl _ _⟩
 go_wp2_with fail
 refine (drawFits_any ad len cap _ H.out).mono ?_
 rintro e w1 ⟨v, rs, a, b, r, c, d, s, rfl, ⟨za, zb, zr, zc, zd, zs⟩, hT, ⟨hG1, hG2, hG3⟩, hb1⟩
 obtain ⟨adS, capS, rfl, hs1, hcp⟩ := hT.read
 obtain ⟨W2, hW2⟩ : ∃ W2, W2 = w1.alloc (.cells #[.string a, .string b, .string r, .string c, .string d, .string s] 39) := ⟨_, rfl⟩
 have hb2 : Below w1.heap.size w1 W2 := by rw [hW2]; exact (Below.refl _ _).alloc (Nat.le_refl _) _
 have K2 : Hid (St w0 w1.heap.size a b r c d s adS rs W2) := ⟨hb1.trans (hb2.mono hb1.size), by rw [hW2]; exact six_new w1 _ a b r c d s, hs1.below hb2⟩
 have hlen : rs.length ≤ 1048576 := by omega
 have HL := HID hG2
 have HF := HID hG3
 have HC := HID hcp
 have m1 : a.size ≤ maxLen := by unfold maxLen; omega
 have m2 : b.size ≤ maxLen := by unfold maxLen; omega
 have m3 : r.size ≤ maxLen := by unfold maxLen; omega
 have m4 : c.size ≤ maxLen := by unfold maxLen; omega
 have m5 : d.size ≤ maxLen := by unfold maxLen; omega
 have m6 : s.size ≤ maxLen := by unfold maxLen; omega
 clear hT hG2 hG3 hcp hb1 hb2 hs1 hbig
 obtain ⟨-, x0, x1, x2, x3, x4, x5⟩ := K2.out.six
 go_wp2_with fail
 rw [← hW2]
 clear hW2
 refine (implFits_any adS capS rs a b r c d s _ hlen K2.out.sl HL.out HF.out HC.out m1 m2 m3 m4 m5 m6).mono ?_
 rintro e w3 ⟨rfl, hb3⟩
 have K3 := HID (K2.out.later hb3)
 clear hb3 K2 x0 x1 x2 x3 x4 x5
 obtain ⟨-, x0, x1, x2, x3, x4, x5⟩ := K3.out.six
 go_wp2_with fail
 refine (specFits_any adS capS rs a b r c d s _ hlen K3.out.sl HL.out HF.out m1 m2 m3 m4 m5 m6).mono ?_
 rintro e w4 ⟨rfl, hb4⟩
 have K4 := HID (K3.out.later hb4)
 clear hb4 K3 x0 x1 x2 x3 x4 x5
 obtain ⟨-, x0, x1, x2, x3, x4, x5⟩ := K4.out.six
 go_wp2_with fail
 refine (implRelOf_any adS capS rs a r _ hlen K4.out.sl HL.out HF.out HC.out m1 m3).mono ?_
 rintro e w5 ⟨adE, capE, qs, rfl, hqe, hqs, -, hb5⟩
 have K5 := HID (K4.out.later hb5)
 have HE := HID hqs
 have HQ := HID hqe
 have hql : qs.length ≤ 15 := by have := (rel_facts HL.out a r).1; rw [← hqe, exs_len] at this; exact this
 have HAL : Hid (∀ q ∈ qs, q.e.allow.length ≤ 1048576) := fun q hq => ((rel_facts HL.out a r).2 q.e (by rw [← hqe]; exact List.mem_map.2 ⟨q, hq, rfl⟩)).1
 have HIS : Hid (fitsD (tys rs) a b r c d s = ((exs qs).any (mayE ⟨c, s⟩) && tupB a b r c d s)) := by show _ = _; rw [fits_is HL.out, ← hqe]
 have HTH : Hid ((relD (tys rs) a r).isEmpty = (exs qs).isEmpty) := by show _ = _; rw [hqe]
 rw [HTH.out]
 generalize hF : fitsD (tys rs) a b r c d s = F
 rw [hF] at HIS
 clear hb5 K4 x0 x1 x2 x3 x4 x5 hqs hqe hF HQ HTH
 go_wp2
 go_loopw [8, 9] (fun m i wr => ∃ k : Nat, k ≤ qs.length ∧ m = .bool ((exs (qs.take k)).any (mayE ⟨c, s⟩)) ∧ i = .int .i64 k ∧ Hid (Below w5.heap.size w5 wr)) (fun _ i _ => qs.length - (intOf i).toNat)
 case atStart => exact ⟨0, Nat.zero_le _, rfl, rfl, Below.refl _ _⟩
 case round =>
  obtain ⟨k, hk, rfl, rfl, HB⟩ := hrel
  have hk1 : (0 : Int) ≤ (k : Int) := by omega
  by_cases hlt : k < qs.length
  ·have hk2 : (k : Int) < (qs.length : Int) := by omega
   have HAT := HID (any_take ⟨c, s⟩ qs k hlt)
   generalize hp : (exs (qs.take k)).any (mayE ⟨c, s⟩) = p
   rw [hp] at HAT
   clear hp
   have hal := HAL.out qs[k] (List.getElem_mem hlt)
   obtain ⟨bE, offE, rfl⟩ : ∃ bE offE, adE = some ⟨bE, offE, none⟩ := by
    rcases HE.out with hnil | ⟨b0, off, e0, -⟩
    ·rw [hnil] at hlt; simp at hlt
    ·exact ⟨b0, off, e0⟩
   go_wp2
   go_loopw [8, 10] (fun m j wc => ∃ l : Nat, l ≤ qs[k].e.allow.length ∧ m = .bool (p || inPre qs[k].e.allow l ⟨c, s⟩) ∧ j = .int .i64 l ∧ Hid (Below w5.heap.size w5 wc)) (fun _ j _ => qs[k].e.allow.length - (intOf j).toNat)
   case atStart => exact ⟨0, Nat.zero_le _, by rw [inPre_zero, Bool.or_false], rfl, HB⟩
   case round =>
    obtain ⟨l, hl, rfl, rfl, HC5⟩ := hrel
    rcases HE.out.below HC5.out with hnil | ⟨b0, off, e0, hb0, hr, hok⟩
    ·rw [hnil] at hlt; simp at hlt
    injection e0 with e0; injection e0 with e1 e2
    subst e1; subst e2
    obtain ⟨t0, t1, t2, t3, t4⟩ := hr k hlt
    have hA := (hok qs[k] (List.getElem_mem hlt)).1
    obtain ⟨-, x0, x1, x2, x3, x4, x5⟩ := (K5.out.later HC5.out).six
    have hl1 : (0 : Int) ≤ (l : Int) := by omega
    clear hr hok t0 t2 t3 t4
    by_cases hll : l < qs[k].e.allow.length
    ·have hl2 : (l : Int) < (qs[k].e.allow.length : Int) := by omega
     have hsu := inPre_succ qs[k].e.allow l ⟨c, s⟩ hll
     rcases hA with hnil | ⟨bA, offA, hAd, hbA, hrA⟩
     ·rw [hnil] at hll; simp at hll
     obtain ⟨u0, u1⟩ := hrA l hll
     rw [hAd] at t1
     clear hrA hAd
     cases hpv : (p || inPre qs[k].e.allow l ⟨c, s⟩) with
     | true =>
      have HN := HID (show (Value.bool true) = .bool (p || inPre qs[k].e.allow (l + 1) ⟨c, s⟩) by rw [hsu, ← Bool.or_assoc, hpv]; rfl)
      clear hsu hpv
      go_wp2_with fail
      go_quiet (fail)
      have HD := HID (drewB HC5.out nq)
      go_wp2
      go_roundw
      case rel => exact ⟨l + 1, by omega, HN.out, by go_num, HD⟩
      case measure => first | (simp [intOf]; done) | (simp [intOf]; omega)
     | false =>
      cases hq : alEq qs[k].e.allow[l] ⟨c, s⟩ with
      | true =>
       have HEQ := al_eql qs[k].e.allow[l] ⟨c, s⟩ hq
       have HN := HID (show (Value.bool true) = .bool (p || inPre qs[k].e.allow (l + 1) ⟨c, s⟩) by rw [hsu, ← Bool.or_assoc, hpv, hq]; rfl)
       clear hsu hpv hq
       go_wp2_with fail
       go_quiet (fail)
       have HD := HID (drewB HC5.out nq)
       go_wp2
       go_roundw
       case rel => exact ⟨l + 1, by omega, HN.out, by go_num, HD⟩
       case measure => first | (simp [intOf]; done) | (simp [intOf]; omega)
      | false =>
       have HEQ := al_eql qs[k].e.allow[l] ⟨c, s⟩ hq
       have HN := HID (show (Value.bool false) = .bool (p || inPre qs[k].e.allow (l + 1) ⟨c, s⟩) by rw [hsu, ← Bool.or_assoc, hpv, hq]; rfl)
       clear hsu hpv hq
       go_wp2_with fail
       go_quiet (fail)
       have HD := HID (drewB HC5.out nq)
       go_wp2
       go_roundw
       case rel => exact ⟨l + 1, by omega, HN.out, by go_num, HD⟩
       case measure => first | (simp [intOf]; done) | (simp [intOf]; omega)
    ·obtain rfl : l = qs[k].e.allow.length := by omega
     clear hA
     go_wp2
     go_roundw
     case rel => exact ⟨k + 1, by omega, by rw [HAT.out], by go_num, HC5⟩
     case measure => first | (simp [intOf]; done) | (simp [intOf]; omega)
  ·obtain rfl : k = qs.length := by omega
   have K6 := HID (K5.out.later HB.out)
   obtain ⟨-, x0, x1, x2, x3, x4, x5⟩ := K6.out.six
   rw [List.take_length]
   cases hth : (exs qs).isEmpty with
   | true =>
    have hm : (exs qs).any (mayE ⟨c, s⟩) = false := by rw [List.isEmpty_iff.1 hth]; rfl
    have hF : F = false := by rw [HIS.out, hm]; rfl
    rw [hm, hF]
    go_wp2
    go_ret
    exact ⟨rfl, K6.out.bel⟩
   | false =>
    cases hm : (exs qs).any (mayE ⟨c, s⟩) with
    | false =>
     have hF : F = false := by rw [HIS.out, hm]; rfl
     rw [hF]
     go_wp2
     go_ret
     exact ⟨rfl, K6.out.bel⟩
    | true =>
     have hF : F = tupB a b r c d s := by rw [HIS.out, hm]; rfl
     rw [hF]
     clear hF hm hth
     go_wp2_with fail
     refine (specTupText_any a b r c d s _ m1 m2 m3 m4 m5 m6).mono ?_
     rintro e w7 ⟨rfl, hb7⟩
     have K7 := HID (K6.out.later hb7)
     clear hb7 K6 x0 x1 x2 x3 x4 x5
     cases ht : tupB a b r c d s with
     | true =>
      have hn := text_full ht
      go_wp2
      go_ret
      exact ⟨rfl, K7.out.bel⟩
     | false =>
      rw [tupText_no ht]
      go_wp2
      go_ret
      exact ⟨rfl, K7.out.bel⟩
theorem own : ownKnob Try.prog.godebug = none := by kernel_rfl
theorem laidOut : laidOutB Try.prog = true := by kernel_rfl
set_option maxRecDepth 100000 in
theorem lifted (os : Os) (started : os.Started) (H : Type) (enc : TypeId × Value → H) :
  ReturnsInHanded {} Try.checked os 4 .any (Rows.fnFitsSpec.pre6 enc Try.prog Try.f4 Rows.fnFitsRow.domain false) (Rows.fnFitsSpec.post enc Try.prog Try.f4 false true false false) := by
 refine returnsInHanded_of_change_shaped (C := Try.checked) own started (by kernel_rfl) Try.func4
  (ChangeSpec.witness6 (enc := enc) (C := Try.checked) false ⟨#[], #[.slice none 0 0], []⟩ 8 (by kernel_rfl) (by kernel_rfl) (by kernel_rfl) (by kernel_rfl)) ?_
 intro W base args ds gs before hval0 hW hcnd _ hsh _
 have hval : ∀ (j : Nat) t v, Try.f4.params[j]? = some t → args[j]? = some v → Value.okWide Try.prog W .any base t v := hval0
 have hW' := hW
 obtain ⟨p, q, hA0, hV, rfl, hfz, hnd⟩ := hW
 have hA : DataW.TrodAll enc Try.prog W 0 (fun _ => true) true Try.f4.params.toList args.toList ds p := hA0
 rw [Try.params4] at hA hval
 obtain ⟨v0, vs0, d0, ds0, p0, q0, hargs, rfl, rfl, h0, r0⟩ := trodAll_cons hA
 obtain ⟨rfl, rfl, rfl⟩ := trodAll_nil r0
 obtain rfl : args = #[v0] := by cases args; simp_all
 obtain ⟨rfl, rfl⟩ := trodVars_none hV
 have k0 := h0
 have lt0 : ∀ x ∈ p0, x.block < W.heap.size := by obtain ⟨m, hm⟩ := k0; exact DataW.trod_lt m _ _ _ hm
 obtain ⟨ad0, len0, cap0, hv0⟩ := okWide_slice Try.underlying22 (hval 0 22 v0 rfl rfl)
 subst hv0
 obtain ⟨fuel0, hf0⟩ := h0
 have hby0 := open_bytes (by simpa [Value.cells] using hf0)
 clear hA0 hval0
 refine (walk ad0 len0 cap0 W hby0).mono fun e W' ⟨he, bel⟩ => ?_
 subst he
 exact ⟨_, rfl, _, _, _, [], _, [], hW', trodAll_mk1 (shut_bool Try.underlying4 _), (trodAll_cons_mk (Below.trod laidOut (by kernel_rfl) (of_decide_eq_true (by kernel_rfl)) k0 bel lt0) trodAll_mk0), rfl, bel.frame _, fun h => by cases h⟩
theorem over : Rows.fnFitsRow.holds Try.pinned (OpenSpec.ofChange Rows.fnFitsSpec) :=
 OpenClaim.holds_of_wide 4 Try.f4 rfl rfl rfl rfl rfl rfl rfl ⟨rfl, rfl, rfl, rfl, rfl⟩ rfl rfl rfl rfl rfl (by kernel_rfl) Try.func4 (by kernel_rfl)
  (of_decide_eq_true (by kernel_rfl)) (by unfold Func.isWrapper; first | (rw [if_pos (by decide +kernel)]; kernel_rfl) | (rw [if_neg (by decide +kernel)]; exact ⟨rfl, rfl⟩))
  (fun os started H enc _ => lifted os started H enc)
end Go.Proofs.Ytgmgeedlieiimaa.fnFits
namespace Go.Proofs.Ytgmgeedlieiimaa
theorem FnFits_holds : Rows.FnFitsSaid := fnFits.over
end Go.Proofs.Ytgmgeedlieiimaa
