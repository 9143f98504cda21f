/- Contract of the document's l7Put: a tree written anew behind what is there, with another one in the place of a name. -/
import Derived.Test.YtmghabcaakgjiaaGreatL7Put
import Derived.Deep.DeepMust
namespace Go.Proofs.YtmghabcaakgjiaaGreat
set_option maxRecDepth 100000
set_option linter.unusedVariables false
open Go.ChangeShapes Go.WideShapes Go.ChangeAt Go.RowKit Go.Maps
open Pl

/-- nothing but the row v and what is new has changed -/
structure PutW (w : World) (v : Value) (w' : World) (v' : Value) : Prop where
  os : w'.os = w.os
  tape : w'.tape = w.tape
  output : w'.output = w.output
  size : w.heap.size ≤ w'.heap.size
  block : ∀ g, g < w.heap.size → v.ownBlock ≠ some g → w'.heap[g]? = w.heap[g]?
  own : v'.ownBlock = v.ownBlock ∨ ∃ g, v'.ownBlock = some g ∧ w.heap.size ≤ g
theorem PutW.refl (w : World) (v : Value) : PutW w v w v := ⟨rfl, rfl, rfl, Nat.le_refl _, fun _ _ _ => rfl, .inl rfl⟩
theorem PutW.apart {w w' : World} {v v' : Value} (h : PutW w v w' v') {g : Nat} (hg : g < w.heap.size) (hv : v.ownBlock ≠ some g) : v'.ownBlock ≠ some g := by
  rcases h.own with e | ⟨k, e, hk⟩
  · rw [e]; exact hv
  · rw [e]; intro e2; injection e2 with e2; omega
theorem PutW.trans {w w1 w2 : World} {v v1 v2 : Value} (h : PutW w v w1 v1) (k : PutW w1 v1 w2 v2) : PutW w v w2 v2 := by
  refine ⟨k.os.trans h.os, k.tape.trans h.tape, k.output.trans h.output, Nat.le_trans h.size k.size, fun g hg hv => (k.block g (Nat.lt_of_lt_of_le hg h.size) (h.apart hg hv)).trans (h.block g hg hv), ?_⟩
  rcases k.own with e | ⟨g, e, hg⟩
  · rw [e]; exact h.own
  · exact .inr ⟨g, e, Nat.le_trans h.size hg⟩
theorem PutW.of {w w' : World} {v : Value} (h : Below w.heap.size w w') : PutW w v w' v := ⟨h.os, h.tape, h.output, h.size, fun g hg _ => h.block g hg, .inl rfl⟩
theorem PutW.below {w w' : World} {v v' : Value} {m : Nat} (h : PutW w v w' v') (hm : m ≤ w.heap.size) (hv : ∀ g, v.ownBlock = some g → m ≤ g) : Below m w w' := ⟨h.os, h.tape, h.output, h.size, fun g hg => h.block g (Nat.lt_of_lt_of_le hg hm) fun e => by have := hv g e; omega⟩
/-- which leaves another tree comes for -/
def subB (rel : ByteArray) (bs : List Ex) (e : Ex) : Option (List Ex) := if isNm rel e && !bs.isEmpty then some bs else none
/-- what l7Put leaves -/
def PutP (w : World) (base : Nat) (v : Value) (qs : List ER) (E : List Ex) (e : Ending) (w' : World) : Prop := ∃ (v' : Value) (qs' : List ER), e = .returned v' ∧ NodM w' base v' (qs ++ qs') ∧ exs qs' = E ∧ PutW w v w' v' ∧ ∀ q ∈ qs', ∀ g, inR q g → w.heap.size ≤ g
/-- an expression that is only read while new blocks are made -/
structure Fixd (W : World) (ad : Option Addr) (rs : List ER) : Prop where
  sl : SlE W ad rs
  light : ∀ r ∈ rs, r.e.light
  zero : ∀ r ∈ rs, r.atZero
  low : kidsLow (exs rs)
  len : rs.length ≤ 15

set_option maxHeartbeats 16000000 in
theorem l7Put_any (W : World) (base : Nat) (hW : W.heap.size ≤ base) (rel : ByteArray) (adE adB : Option Addr) (capE capB : Nat) (rs bs : List ER) (hE : Fixd W adE rs) (hbl : bs.length ≤ 15) (hnm : ∀ r ∈ rs, isNm rel r.e = true → r.e.kids = [])
    (hbody : bs ≠ [] → ∀ (w : World) (v : Value) (qs : List ER), Below W.heap.size W w → base ≤ w.heap.size → NodM w base v qs → qs.length + bs.length ≤ 1000 → Calls Tryz.prog 39 #[.slice adB bs.length capB, .int .i64 ((bs.length : Int) - 1), .string rel, .slice none 0 0, v] w (PutP w base v qs ((exs bs).map (movX fun k => (qs.length : Int) + k)))) :
    ∀ (fuel n : Nat), n < rs.length → n < fuel → ∀ (w : World) (v : Value) (qs : List ER), Below W.heap.size W w → base ≤ w.heap.size → NodM w base v qs → qs.length + (putF (subB rel (exs bs)) (exs rs) fuel n qs.length).length ≤ 1000 →
      Calls Tryz.prog 39 #[.slice adE rs.length capE, .int .i64 (n : Int), .string rel, .slice adB bs.length capB, v] w (PutP w base v qs (putF (subB rel (exs bs)) (exs rs) fuel n qs.length))
  | 0, n, _, hf => absurd hf (Nat.not_lt_zero _)
  | fuel + 1, n, hn, hf => by
    intro w v qs hb hbase hnod hql
    have IH := toHX (l7Put_any W base hW rel adE adB capE capB rs bs hE hbl hnm hbody fuel)
    have HE := toHX hE
    have HBO := toHX hbody
    have HNM := toHX hnm
    have HB := toHX hb
    have HN := toHX hnod
    obtain ⟨b, off, hadr, hrow, hbb⟩ := SlE.rowI hE.sl hn
    obtain ⟨t0, t1, t2, t3, t4⟩ := hrow.same fun o => hb.cell (p := ⟨b, o, none⟩) hbb
    obtain ⟨W1, hW1⟩ : ∃ W1, W1 = w.alloc (.cells #[.int .i64 rs[n].e.kind, .slice rs[n].adA rs[n].e.allow.length rs[n].capA, .string rs[n].e.over, .string rs[n].e.name, .slice rs[n].adK rs[n].e.kids.length rs[n].capK] 50) := ⟨_, rfl⟩
    have HA1 : Hid (Below w.heap.size w W1) := by show Below _ _ _; rw [hW1]; exact (Below.refl _ _).alloc (Nat.le_refl _) _
    have HBOX : Hid ((W1.cell? ⟨w.heap.size, 0, none⟩ = some (.int .i64 rs[n].e.kind) ∧ W1.cell? ⟨w.heap.size, 1, none⟩ = some (.slice rs[n].adA rs[n].e.allow.length rs[n].capA) ∧ W1.cell? ⟨w.heap.size, 2, none⟩ = some (.string rs[n].e.over) ∧ W1.cell? ⟨w.heap.size, 3, none⟩ = some (.string rs[n].e.name) ∧ W1.cell? ⟨w.heap.size, 4, none⟩ = some (.slice rs[n].adK rs[n].e.kids.length rs[n].capK)) ∧ (∀ y, W1.frozen? ⟨w.heap.size, y, none⟩ = false) ∧ W1.heap.size = w.heap.size + 1) := by
      show _ ∧ _; rw [hW1]; exact ⟨⟨by simp, by simp, by simp, by simp, by simp⟩, fun y => by simp, by simp⟩
    have HNX : Hid (∀ g, v.ownBlock = some g → base ≤ g ∧ g < w.heap.size) := fun g hg => hnod.own.lt g hg
    have hn1 : (0 : Int) ≤ (n : Int) := by omega
    have hn2 : (n : Int) < (rs.length : Int) := by omega
    have hnl : n < (exs rs).length := by rw [exs_len]; exact hn
    have HSUB : Hid (subB rel (exs bs) (exs rs)[n] = if isNm rel rs[n].e && !(exs bs).isEmpty then some (exs bs) else none) := by show _ = _; rw [exs_at hn]; rfl
    have hbe : (exs bs).isEmpty = bs.isEmpty := by cases bs <;> rfl
    rw [hadr] at IH ⊢
    clear hb hnod hrow hadr hbody hnm hE
    go_enter Tryz.func39, Tryz.ntmps39
    by_cases hA : isNm rel rs[n].e = true ∧ bs ≠ []
    · have HPF : Hid (putF (subB rel (exs bs)) (exs rs) (fuel + 1) n qs.length = (exs bs).map (movX fun k => (qs.length : Int) + k)) := by
        refine putF_sub hnl (HSUB.out.trans ?_)
        rw [hA.1, hbe]
        have : bs.isEmpty = false := by cases h : bs with | nil => exact absurd h hA.2 | cons a b => rfl
        rw [this]; rfl
      have h1 := hA.1
      unfold isNm at h1
      rw [Bool.and_eq_true] at h1
      have hk1 : (rs[n].e.kind == 2) = true := by simpa using h1.1
      have hk2 : decide (rs[n].e.kind = 2) = true := h1.1
      have hk3 : (rs[n].e.name.toList == rel.toList) = true := h1.2
      have hp : 0 < bs.length := List.length_pos_iff.2 hA.2
      have hp1 : (0 : Int) < (bs.length : Int) := by omega
      have HCALL := toHX (HBO.out hA.2 W1 v qs (HB.out.trans (HA1.out.mono HB.out.size)) (Nat.le_trans hbase HA1.out.size) (ExM.nod (HN.out.ex.below kidE HA1.out)) (by rw [HPF.out, List.length_map, exs_len] at hql; exact hql))
      clear h1 hA
      go_wp2_with fail
      rw [← hW1]
      refine HCALL.out.mono ?_
      rintro e w3 ⟨v', qs', rfl, h3, h4, h5, h6⟩
      have HFIN : Hid (PutP w base v qs (putF (subB rel (exs bs)) (exs rs) (fuel + 1) n qs.length) (.returned v') w3) := ⟨v', qs', rfl, h3, h4.trans HPF.out.symm, (PutW.of HA1.out).trans h5, fun q hq g hg => Nat.le_trans HA1.out.size (h6 q hq g hg)⟩
      clear h3 h4 h5 h6
      go_wp2
      go_ret
      exact HFIN.out
    · have hsn : subB rel (exs bs) (exs rs)[n] = none := by
        rw [HSUB.out, hbe]
        refine if_neg fun h => hA ?_
        rw [Bool.and_eq_true] at h
        exact ⟨h.1, fun e => by rw [e] at h; simp at h⟩
      have HPF : Hid (putF (subB rel (exs bs)) (exs rs) (fuel + 1) n qs.length = (kidsStep (putF (subB rel (exs bs)) (exs rs) fuel) rs[n].e.kids qs.length).1 ++ [{ rs[n].e with kids := (kidsStep (putF (subB rel (exs bs)) (exs rs) fuel) rs[n].e.kids qs.length).2 }]) := by
        have := putF_node (sub := subB rel (exs bs)) (fuel := fuel) (o := qs.length) hnl hsn
        rw [exs_at hn] at this
        exact this
      have HLEN : Hid (qs.length + (kidsStep (putF (subB rel (exs bs)) (exs rs) fuel) rs[n].e.kids qs.length).1.length + 1 ≤ 1000) := by
        rw [HPF.out, List.length_append, List.length_singleton] at hql; show _ ≤ _; omega
      have hcase : ((rs[n].e.kind == 2) = false ∧ decide (rs[n].e.kind = 2) = false) ∨ (((rs[n].e.kind == 2) = true ∧ decide (rs[n].e.kind = 2) = true) ∧ (rs[n].e.name.toList == rel.toList) = false) ∨ (((rs[n].e.kind == 2) = true ∧ decide (rs[n].e.kind = 2) = true) ∧ (rs[n].e.name.toList == rel.toList) = true ∧ ¬ 0 < bs.length ∧ ¬ (0 : Int) < (bs.length : Int)) := by
        cases c1 : (rs[n].e.kind == 2) with
        | false => exact .inl ⟨rfl, decide_eq_false (by simpa using c1)⟩
        | true =>
          have c1' : decide (rs[n].e.kind = 2) = true := decide_eq_true (by simpa using c1)
          cases c2 : (rs[n].e.name.toList == rel.toList) with
          | false => exact .inr (.inl ⟨⟨rfl, c1'⟩, rfl⟩)
          | true =>
            have h0 : ¬ 0 < bs.length := fun h => hA ⟨by unfold isNm; rw [c2, Bool.and_true]; exact c1', List.length_pos_iff.1 h⟩
            exact .inr (.inr ⟨⟨rfl, c1'⟩, rfl, h0, by omega⟩)
      have hqlq : qs.length ≤ 1000 := by have := HLEN.out; omega
      obtain ⟨iI, hiI, zI0, zI1, zI2⟩ := info_parts (P := Tryz.prog) (e := 2) (z := .int .i64 0) (size := 1) (bytes := 8) (by kernel_rfl)
      have HII : Hid (Tryz.prog.info? 2 = some iI ∧ iI.zero = some (.int .i64 0) ∧ iI.size = 1 ∧ iI.bytes = 8) := ⟨hiI, zI0, zI1, zI2⟩
      obtain ⟨iA, hiA, zA0, zA1, zA2⟩ := info_parts (P := Tryz.prog) (e := 90) (z := .agg #[.string ⟨#[]⟩, .string ⟨#[]⟩]) (size := 2) (bytes := 32) (by kernel_rfl)
      have HIA : Hid (Tryz.prog.info? 90 = some iA ∧ iA.zero = some (.agg #[.string ⟨#[]⟩, .string ⟨#[]⟩]) ∧ iA.size = 2 ∧ iA.bytes = 32) := ⟨hiA, zA0, zA1, zA2⟩
      obtain ⟨iE, hiE, zE0, zE1, zE2⟩ := info_parts (P := Tryz.prog) (e := 50) (z := .agg #[.int .i64 0, .slice none 0 0, .string ⟨#[]⟩, .string ⟨#[]⟩, .slice none 0 0]) (size := 5) (bytes := 88) (by kernel_rfl)
      have HIE : Hid (Tryz.prog.info? 50 = some iE ∧ iE.zero = some (.agg #[.int .i64 0, .slice none 0 0, .string ⟨#[]⟩, .string ⟨#[]⟩, .slice none 0 0]) ∧ iE.size = 5 ∧ iE.bytes = 88) := ⟨hiE, zE0, zE1, zE2⟩
      obtain ⟨G, hG⟩ : ∃ G, G = putF (subB rel (exs bs)) (exs rs) fuel := ⟨_, rfl⟩
      rw [← hG] at HPF HLEN IH
      have hlgn := HE.out.light rs[n] (List.getElem_mem hn)
      have lA : rs[n].e.allow.length ≤ 1048576 := hlgn.1
      have lK : rs[n].e.kids.length ≤ 1048576 := hlgn.2
      obtain ⟨gA, gK, hA0, hK0⟩ := HE.out.zero rs[n] (List.getElem_mem hn)
      have HA0 := toHX hA0
      clear hA0 hK0
      have HLOW : Hid (∀ x ∈ rs[n].e.kids, 0 ≤ x ∧ x < (n : Int)) := fun x hx => HE.out.low n hnl x (by rw [exs_at hn]; exact hx)
      have HOKW : Hid (rs[n].ok W) := by
        rcases HE.out.sl with h | ⟨_, _, _, _, _, h⟩
        · rw [h] at hn; simp at hn
        · exact h _ (List.getElem_mem hn)
      obtain ⟨W2, hW2⟩ : ∃ W2, W2 = (w.alloc (.cells #[.int .i64 rs[n].e.kind, .slice rs[n].adA rs[n].e.allow.length rs[n].capA, .string rs[n].e.over, .string rs[n].e.name, .slice rs[n].adK rs[n].e.kids.length rs[n].capK] 50)).alloc (.cells #[] 2) := ⟨_, rfl⟩
      have HA2 : Hid (Below W1.heap.size W1 W2) := by show Below _ _ _; rw [hW2, ← hW1]; exact (Below.refl _ _).alloc (Nat.le_refl _) _
      have HROW : Hid (W2.ownsRow (w.heap.size + 1) 2 1 (.slice (some ⟨w.heap.size + 1, 0, none⟩) 0 0) 0 []) := by
        show World.ownsRow _ _ _ _ _ _ _
        have := World.ownsRow_lit W1 #[] 0 (base := w.heap.size + 1) (e := 2) (size := 1) (by rw [HBOX.out.2.2]; exact Nat.le_refl _) (by unfold maxLen; omega) (by simp)
        rw [HBOX.out.2.2] at this
        rw [hW2, ← hW1]; exact this
      have HNV : Hid (v.ownBlock ≠ some w.heap.size) := fun e => by have := (HNX.out _ e).2; omega
      clear hA hsn hql hbe hiI zI0 zI1 zI2 hiA zA0 zA1 zA2 hiE zE0 zE1 zE2 hlgn HBO HNM HSUB hG hW1
      rcases hcase with ⟨c1, c1'⟩ | ⟨⟨c1, c1'⟩, c2⟩ | ⟨⟨c1, c1'⟩, c2, c3, c3'⟩
      all_goals
        go_wp2_with fail
        rw [← hW2]
        clear hW2 t0 t1 t2 t3 t4 c1 c1'
        go_loopw [4, 12, 13] (fun vo kv i wr => ∃ (j : Nat) (qa : List ER), j ≤ rs[n].e.kids.length ∧ i = .int .i64 j ∧ Hid (NodM wr base vo (qs ++ qa)) ∧ Hid (exs qa = (kidsStep G (rs[n].e.kids.take j) qs.length).1) ∧ Hid (wr.ownsRow (w.heap.size + 1) 2 1 kv j (ints (kidsStep G (rs[n].e.kids.take j) qs.length).2)) ∧ Hid (PutW W1 v wr vo) ∧ Hid (∀ g, kv.ownBlock = some g → ¬ inLot inR vo (qs ++ qa) g) ∧ Hid (∀ q ∈ qa, ∀ g, inR q g → w.heap.size + 1 ≤ g)) (fun _ _ i _ => rs[n].e.kids.length - (intOf i).toNat)
        case atStart =>
          have hNW2 : NodM W2 base v qs := ExM.nod ((HN.out.ex.below kidE HA1.out).below kidE HA2.out)
          refine ⟨0, [], Nat.zero_le _, rfl, by rw [List.append_nil]; exact hNW2, by show _ = _; simp [exs, kidsStep], by show World.ownsRow _ _ _ _ _ _ _; simpa [kidsStep, ints] using HROW.out, PutW.of HA2.out, fun g hg hi => ?_, fun q hq => (by cases hq)⟩
          have e : w.heap.size + 1 = g := by simpa [Value.ownBlock] using hg
          rw [List.append_nil] at hi
          have := (LotM.lt kidE HN.out.ex hi).2
          omega
        case round =>
          obtain ⟨j, qa, hj, rfl, HNR, HQA, HKV, HPW, HAP, HNEW⟩ := hrel
          have hsz1 : W1.heap.size = w.heap.size + 1 := HBOX.out.2.2
          have HSZ1 := toHX hsz1
          have HBWR : Hid (Below W.heap.size W wr) := by
            have h1 : Below W.heap.size W W1 := HB.out.trans (HA1.out.mono HB.out.size)
            exact h1.trans (HPW.out.below h1.size fun g hg => by have := (HNX.out g hg).1; omega)
          have hxl : w.heap.size < W1.heap.size := by omega
          have HBX : Hid ((wr.cell? ⟨w.heap.size, 0, none⟩ = some (.int .i64 rs[n].e.kind) ∧ wr.cell? ⟨w.heap.size, 1, none⟩ = some (.slice rs[n].adA rs[n].e.allow.length rs[n].capA) ∧ wr.cell? ⟨w.heap.size, 2, none⟩ = some (.string rs[n].e.over) ∧ wr.cell? ⟨w.heap.size, 3, none⟩ = some (.string rs[n].e.name) ∧ wr.cell? ⟨w.heap.size, 4, none⟩ = some (.slice rs[n].adK rs[n].e.kids.length rs[n].capK)) ∧ ∀ y, wr.frozen? ⟨w.heap.size, y, none⟩ = false) := by
            have hbk := HPW.out.block _ hxl HNV.out
            obtain ⟨⟨p0, p1, p2, p3, p4⟩, p5, -⟩ := HBOX.out
            have hc := fun o => World.cell?_of_block (w := W1) (a := ⟨w.heap.size, o, none⟩) hbk
            exact ⟨⟨(hc 0).trans p0, (hc 1).trans p1, (hc 2).trans p2, (hc 3).trans p3, (hc 4).trans p4⟩, fun y => (World.frozen?_of_block (w := W1) (a := ⟨w.heap.size, y, none⟩) hbk).trans (p5 y)⟩
          have HJL : Hid (∀ i, (kidsStep G (rs[n].e.kids.take i) qs.length).1.length + qs.length + 1 ≤ 1000) := fun i => by
            have h1 := kidsStep_le G rs[n].e.kids i qs.length
            have h2 := HLEN.out
            omega
          have HQL : Hid ((qs ++ qa).length = qs.length + (kidsStep G (rs[n].e.kids.take j) qs.length).1.length) := by
            show _ = _; rw [List.length_append, ← exs_len qa, HQA.out]
          have x4 := HBX.out.1.2.2.2.2
          clear hsz1
          by_cases hjt : j < rs[n].e.kids.length
          · obtain ⟨kn, hkn⟩ : ∃ kn : Nat, rs[n].e.kids[j] = (kn : Int) := ⟨rs[n].e.kids[j].toNat, by have := (HLOW.out _ (List.getElem_mem hjt)).1; omega⟩
            have hknl := (HLOW.out _ (List.getElem_mem hjt)).2
            rcases HOKW.out.2.below HBWR.out with h | ⟨bK, offK, hadK, hbK, hrK⟩
            · rw [h] at hjt; simp at hjt
            have y0 := hrK j hjt
            rw [hkn] at y0
            rw [hadK] at x4
            have hj1 : (0 : Int) ≤ (j : Int) := by omega
            have hj2 : (j : Int) < (rs[n].e.kids.length : Int) := by omega
            have hsn : kidsStep G (rs[n].e.kids.take (j + 1)) qs.length = ((kidsStep G (rs[n].e.kids.take j) qs.length).1 ++ G kn (qs ++ qa).length, (kidsStep G (rs[n].e.kids.take j) qs.length).2 ++ [(((qs ++ qa).length + (G kn (qs ++ qa).length).length : Nat) : Int) - 1]) := by
              rw [List.take_succ_eq_append_getElem hjt, kidsStep_snoc, hkn, HQL.out, Int.toNat_natCast]
            have HSN := toHX hsn
            have HCALL := toHX (IH.out kn (by omega) (by omega) wr u4 (qs ++ qa) HBWR.out (by have h1 := HPW.out.size; have h2 := HSZ1.out; omega) HNR.out (by
              have h1 := HJL.out (j + 1)
              rw [hsn, List.length_append] at h1
              rw [HQL.out] at h1 ⊢
              omega))
            clear hrK hadK hkn hsn
            go_wp2_with fail
            refine HCALL.out.mono ?_
            rintro e w5 ⟨v5, q5, rfl, h3, h4, h5, h6⟩
            have HKV5 : Hid (w5.ownsRow (w.heap.size + 1) 2 1 u12 j (ints (kidsStep G (rs[n].e.kids.take j) qs.length).2)) := own_heap HKV.out fun g hg => h5.block g (HKV.out.lt g hg).2 fun e => HAP.out g hg (.inl e)
            have HN5 : Hid (NodM w5 base v5 (qs ++ (qa ++ q5))) := by rw [← List.append_assoc]; exact h3
            have HQ5 : Hid (exs (qa ++ q5) = (kidsStep G (rs[n].e.kids.take (j + 1)) qs.length).1) := by
              show _ = _
              rw [HSN.out]
              show exs (qa ++ q5) = _ ++ _
              rw [← HQA.out, ← h4]; simp [exs]
            have HPW5 : Hid (PutW W1 v w5 v5) := HPW.out.trans h5
            have HNEW5 : Hid (∀ q ∈ qa ++ q5, ∀ g, inR q g → w.heap.size + 1 ≤ g) := fun q hq g hg => by
              rcases List.mem_append.1 hq with hq | hq
              · exact HNEW.out q hq g hg
              · have h1 := h6 q hq g hg
                have h2 := HPW.out.size
                have h3 := HSZ1.out
                omega
            have HAP5 : Hid (∀ g, u12.ownBlock = some g → ¬ inLot inR v5 (qs ++ (qa ++ q5)) g) := fun g hg hi => by
              have hgl := (HKV.out.lt g hg).2
              rcases hi with hi | ⟨q, hq, hi⟩
              · exact h5.apart hgl (fun e => HAP.out g hg (.inl e)) hi
              · rcases List.mem_append.1 hq with hq | hq
                · exact HAP.out g hg (.inr ⟨q, by simp [hq], hi⟩)
                · rcases List.mem_append.1 hq with hq | hq
                  · exact HAP.out g hg (.inr ⟨q, by simp [hq], hi⟩)
                  · have := h6 q hq g hi; omega
            have HS5 : Hid (w.heap.size + 1 ≤ w5.heap.size) := by have h1 := HPW5.out.size; have h2 := HSZ1.out; show _ ≤ _; omega
            have HLQ : Hid ((qs ++ (qa ++ q5)).length = (qs ++ qa).length + (G kn (qs ++ qa).length).length) := by
              show _ = _; rw [← List.append_assoc, List.length_append, ← exs_len q5, h4]
            have HL5 : Hid ((qs ++ (qa ++ q5)).length ≤ 1000) := by
              have h1 := HJL.out (j + 1)
              have h2 := congrArg List.length HQ5.out
              rw [exs_len] at h2
              show _ ≤ _
              rw [List.length_append, h2]; omega
            obtain ⟨qz, hqz⟩ : ∃ qz, qz = qs ++ (qa ++ q5) := ⟨_, rfl⟩
            have HQZ := toHX hqz
            rw [← hqz] at HN5 HAP5 HLQ HL5
            clear h3 h4 h5 h6 hqz x4 y0 HCALL
            have hnod5 := HN5.out
            obtain ⟨adO, capO, rfl, -⟩ := ownsE hnod5.own rfl hnod5.ok
            clear hnod5
            have hqzl : qz.length ≤ 1000 := HL5.out
            have hqz1 : (qz.length : Int) ≤ 1000 := by omega
            go_wp2_with (at_builtin; go_must (refine wpList_append_own_at _ rfl _ _ 48 rfl (w.heap.size + 1) 2 iI (.int .i64 0) 1 8 Tryz.underlying48 HII.out.1 HII.out.2.1 HII.out.2.2.1 HII.out.2.2.2 rfl (by decide) u12 j (ints (kidsStep G (rs[n].e.kids.take j) qs.length).2) rfl (HKV5.out.alloc _) ⟨w5.heap.size, 0, none⟩ 1 1 [.int .i64 ((qz.length : Int) - 1)] rfl rfl (cell_one_new _ _ _) (by intro u hu; simp at hu; subst hu; rfl) (by unfold maxLen; omega) (by omega) (by simp; have := HS5.out; omega) ?_))
            intro v6 w6 hown6 hgr6 _ hv6
            have HA6 : Hid (Below w5.heap.size w5 (w5.alloc (.cells #[.int .i64 ((qz.length : Int) - 1)] 2))) := (Below.refl _ _).alloc (Nat.le_refl _) _
            have hlt5 : ∀ g, inLot inR (.slice adO qz.length capO) qz g → g < w5.heap.size := fun g hi => (LotM.lt kidE HN5.out.ex hi).2
            have HN6 : Hid (NodM w6 base (.slice adO qz.length capO) qz) := ExM.nod ((HN5.out.ex.below kidE HA6.out).heap kidE hgr6.size fun g hi => hgr6.block g (by have := hlt5 g hi; simp; omega) (fun e => HAP5.out g e.symm hi))
            have HKV6 : Hid (w6.ownsRow (w.heap.size + 1) 2 1 v6 (j + 1) (ints (kidsStep G (rs[n].e.kids.take (j + 1)) qs.length).2)) := by
              show World.ownsRow _ _ _ _ _ _ _
              rw [HSN.out]
              have e : ints ((kidsStep G (rs[n].e.kids.take j) qs.length).2 ++ [(((qs ++ qa).length + (G kn (qs ++ qa).length).length : Nat) : Int) - 1]) = ints (kidsStep G (rs[n].e.kids.take j) qs.length).2 ++ [.int .i64 ((qz.length : Int) - 1)] := by rw [← HLQ.out]; simp [ints]
              rw [e]; exact hown6
            have HPW6 : Hid (PutW W1 v w6 (.slice adO qz.length capO)) := by
              have h1 := HPW5.out
              refine ⟨hgr6.os.trans (HA6.out.os.trans h1.os), hgr6.tape.trans (HA6.out.tape.trans h1.tape), hgr6.output.trans (HA6.out.output.trans h1.output), Nat.le_trans h1.size (Nat.le_trans HA6.out.size hgr6.size), fun g hg hv => ?_, h1.own⟩
              have hg5 : g < w5.heap.size := Nat.lt_of_lt_of_le hg h1.size
              rw [hgr6.block g (Nat.lt_of_lt_of_le hg5 HA6.out.size) (fun e => by have h2 := (HKV5.out.lt g e.symm).1; have h3 := HSZ1.out; omega), HA6.out.block g hg5]
              exact h1.block g hg hv
            have HAP6 : Hid (∀ g, v6.ownBlock = some g → ¬ inLot inR (.slice adO qz.length capO) qz g) := fun g hg hi => by
              rcases hv6 with e | e
              · exact HAP5.out g (by rw [← e]; exact hg) hi
              · rw [e] at hg; injection hg with hg
                have := hlt5 g hi
                have h7 : w5.heap.size < g := by rw [← hg]; simp
                omega
            clear hown6 hgr6 hv6 hlt5
            go_wp2
            go_roundw
            case rel => exact ⟨j + 1, qa ++ q5, by omega, by go_num, by rw [← HQZ.out]; exact HN6, HQ5, HKV6, HPW6, by rw [← HQZ.out]; exact HAP6, HNEW5⟩
            case measure => first | (simp [intOf]; done) | (simp [intOf]; omega)
          · obtain rfl : j = rs[n].e.kids.length := by omega
            have HTK : Hid (rs[n].e.kids.take rs[n].e.kids.length = rs[n].e.kids) := List.take_length
            rw [HTK.out] at HQA HKV
            obtain ⟨ks, hks⟩ : ∃ ks, ks = (kidsStep G rs[n].e.kids qs.length).2 := ⟨_, rfl⟩
            have HKL : Hid (ks.length = rs[n].e.kids.length) := by show _ = _; rw [hks, kidsStep_len]
            have HPF2 : Hid (putF (subB rel (exs bs)) (exs rs) (fuel + 1) n qs.length = (kidsStep G rs[n].e.kids qs.length).1 ++ [{ rs[n].e with kids := ks }]) := by rw [hks]; exact HPF.out
            rw [← hks] at HKV
            have hkv := HKV.out
            obtain ⟨adK, cpK, rfl, hsK, hzK, hoK⟩ := ownsI hkv HKL.out.symm
            have HSK := toHX hsK
            have HZK := toHX hzK
            have HOKK := toHX hoK
            clear hks hkv hsK hzK hoK
            have HXW : Hid (w.heap.size < wr.heap.size) := by have h1 := HPW.out.size; have h2 := HSZ1.out; show _ < _; omega
            have hxw := HXW.out
            obtain ⟨x0, x1, x2, x3, -⟩ := HBX.out.1
            have fx := HBX.out.2
            rw [HA0.out] at x1
            have HSA : Hid (SlA wr (some ⟨gA, 0, none⟩) rs[n].e.allow) := by rw [← HA0.out]; exact HOKW.out.1.below HBWR.out
            have HLIT : Hid ((wr.alloc (.cells #[] 90)).ownsRow wr.heap.size 90 2 (.slice (some ⟨wr.heap.size, 0, none⟩) 0 0) 0 []) := World.ownsRow_lit wr #[] 0 (Nat.le_refl _) (by unfold maxLen; omega) (by simp)
            go_wp2_with (at_builtin; go_must (refine wpList_append_own _ rfl _ _ 47 rfl wr.heap.size 90 iA (.agg #[.string ⟨#[]⟩, .string ⟨#[]⟩]) 2 32 Tryz.underlying47 HIA.out.1 HIA.out.2.1 HIA.out.2.2.1 HIA.out.2.2.2 rfl (by decide) _ 0 [] rfl HLIT.out ⟨gA, 0, none⟩ rs[n].e.allow.length rs[n].capA (pairs rs[n].e.allow) rfl (pairs_len _) (newsA (HSA.out.below ((Below.refl _ _).alloc (Nat.le_refl _) _))) (oneCells _) (by unfold maxLen; omega) (by omega) (by simp) ?_))
            intro v8 w8 hown8 hgr8 _
            have HB8 : Hid (Below wr.heap.size wr w8) := ((Below.refl wr.heap.size wr).alloc (Nat.le_refl _) (.cells #[] 90)).grown hgr8 (by simp) (fun k hk => by simp [Value.ownBlock] at hk; omega)
            obtain ⟨adA, cpA, rfl, hsA, hzA, hoA⟩ := ownsA (by simpa using hown8) (by simp)
            have HCA : Hid (rs[n].e.allow.length ≤ cpA) := capsA_le hown8
            have HSA8 := toHX hsA
            have HZA := toHX hzA
            have HOA : Hid (∀ g, rs[n].e.allow ≠ [] → adA = some ⟨g, 0, none⟩ → wr.heap.size ≤ g ∧ g < w8.heap.size ∧ Free w8 g) := hoA
            replace x0 := kept HB8.out hxw x0
            replace x1 := kept HB8.out hxw x1
            replace x2 := kept HB8.out hxw x2
            replace x3 := kept HB8.out hxw x3
            replace x4 := kept HB8.out hxw x4
            have fx8 : ∀ y, w8.frozen? ⟨w.heap.size, y, none⟩ = false := fun y => keptF HB8.out hxw (fx y)
            obtain ⟨q, hq⟩ : ∃ q : ER, q = ⟨{ rs[n].e with kids := ks }, adA, cpA, adK, cpK⟩ := ⟨_, rfl⟩
            obtain ⟨W9, hW9⟩ : ∃ W9, W9 = (w8.setCell ⟨w.heap.size, 1, none⟩ (.slice adA rs[n].e.allow.length cpA)).setCell ⟨w.heap.size, 4, none⟩ (.slice adK ks.length cpK) := ⟨_, rfl⟩
            have HC9 : Hid (Chg (fun g => g = w.heap.size) w8 W9) := by rw [hW9]; exact (Chg.set (S := fun g => g = w.heap.size) _ rfl).trans (Chg.set _ rfl)
            have HZ9 : Hid (W9.heap.size = w8.heap.size) := by show _ = _; rw [hW9]; simp
            obtain ⟨W10, hW10⟩ : ∃ W10, W10 = ((w8.setCell ⟨w.heap.size, 1, none⟩ (.slice adA rs[n].e.allow.length cpA)).setCell ⟨w.heap.size, 4, none⟩ (.slice adK ks.length cpK)).alloc (.cells #[.int .i64 rs[n].e.kind, .slice adA rs[n].e.allow.length cpA, .string rs[n].e.over, .string rs[n].e.name, .slice adK ks.length cpK] 50) := ⟨_, rfl⟩
            have HA10 : Hid (Below W9.heap.size W9 W10) := by show Below _ _ _; rw [hW10, ← hW9]; exact (Below.refl _ _).alloc (Nat.le_refl _) _
            have HNEWC : Hid (∀ j u, q.row[j]? = some u → W10.cell? ((⟨w8.heap.size, 0, none⟩ : Addr).add j) = some u) := by
              rw [hW10, ← hW9, ← HZ9.out, hq]
              exact row_new W9 ⟨{ rs[n].e with kids := ks }, adA, cpA, adK, cpK⟩
            have HU4 : Hid (∀ g, inLot inR u4 (qs ++ qa) g → g ≠ w.heap.size) := fun g hi e => by
              rcases hi with hi | ⟨p, hp, hi⟩
              · exact HPW.out.apart hxl HNV.out (by rw [← e]; exact hi)
              · rcases List.mem_append.1 hp with hp | hp
                · have := (HN.out.lie p hp g hi).2.1; omega
                · have := HNEW.out p hp g hi; omega
            have HX10 : Hid (ExM W10 base u4 (qs ++ qa)) := by
              refine ((HNR.out.ex.below kidE HB8.out).heap (w' := W9) kidE HC9.out.size fun g hi => ?_).below kidE HA10.out
              exact HC9.out.block g (by have := (LotM.lt kidE HNR.out.ex hi).2; have := HB8.out.size; omega) (HU4.out g hi)
            have HC10 : Hid (Chg (fun g => g = w.heap.size) w8 W10) := HC9.out.trans (Chg.of HA10.out)
            have HCK : Hid (Chg (fun g => g = w.heap.size) wr W10) := (Chg.of HB8.out).trans HC10.out
            have HQ10 : Hid (kE W10 base q) := by
              rw [hq]
              have hz8 := HB8.out.size
              refine ⟨HZA.out, HZK.out, ⟨HSA8.out.chg HC10.out fun g o hne e => ?_, HSK.out.chg HCK.out fun g o hne e => ?_⟩, ?_, ?_, HCA.out⟩
              · obtain ⟨g0, e0⟩ := HZA.out hne
                rw [e0] at e; injection e with e; injection e with e1 e2
                have := (HOA.out g0 hne e0).1
                omega
              · obtain ⟨g0, e0⟩ := HZK.out hne
                rw [e0] at e; injection e with e; injection e with e1 e2
                have := (HOKK.out g0 hne e0).1
                omega
              · rintro g (⟨hne, e⟩ | ⟨hne, e⟩)
                · obtain ⟨a1, a2, a3⟩ := HOA.out g hne e
                  exact ⟨by omega, Nat.lt_of_lt_of_le a2 HC10.out.size, HC10.out.free g a2 a3⟩
                · obtain ⟨a1, a2, a3⟩ := HOKK.out g hne e
                  exact ⟨by omega, Nat.lt_of_lt_of_le a2 HCK.out.size, HCK.out.free g a2 a3⟩
              · rintro g ⟨hne, e⟩ ⟨hne2, e2⟩
                obtain ⟨a1, a2, a3⟩ := HOA.out g hne e
                obtain ⟨b1, b2, b3⟩ := HOKK.out g hne2 e2
                omega
            have HQB : Hid (∀ g, inR q g → (wr.heap.size ≤ g ∨ (Value.slice adK ks.length cpK).ownBlock = some g) ∧ w.heap.size ≤ g) := by
              rw [hq]
              rintro g (⟨hne, e⟩ | ⟨hne, e⟩)
              · have := (HOA.out g hne e).1; exact ⟨.inl this, by omega⟩
              · have e' : adK = some ⟨g, 0, none⟩ := e
                have := (HOKK.out g hne e).1; exact ⟨.inr (by rw [e']; rfl), by omega⟩
            have HQE : Hid (q.e = { rs[n].e with kids := ks }) := by show _ = _; rw [hq]
            have HO10 : Hid (W10.ownsRow base 50 5 u4 (qs ++ qa).length (rows5 (qs ++ qa))) := HX10.out.own
            have HLL : Hid ((qs ++ qa).length ≤ 1000) := by
              have h1 := HLEN.out
              have h2 := congrArg List.length HQA.out
              rw [exs_len] at h2
              show _ ≤ _; rw [List.length_append]; omega
            obtain ⟨qz, hqz⟩ : ∃ qz, qz = qs ++ qa := ⟨_, rfl⟩
            have HQZ := toHX hqz
            rw [← hqz] at HO10 HLL HX10 HU4 HAP
            have hll := HLL.out
            have HBS : Hid (base ≤ W10.heap.size) := by have h1 := HCK.out.size; show _ ≤ _; omega
            clear hown8 hgr8 hsA hzA hoA hq hqz hW9 fx
            go_wp2_with (at_builtin; go_must (rw [← hW10]; clear hW10; refine wpList_append_own_at _ rfl _ _ 38 rfl base 50 iE (.agg #[.int .i64 0, .slice none 0 0, .string ⟨#[]⟩, .string ⟨#[]⟩, .slice none 0 0]) 5 88 Tryz.underlying38 HIE.out.1 HIE.out.2.1 HIE.out.2.2.1 HIE.out.2.2.2 rfl (by decide) u4 qz.length (rows5 qz) rfl HO10.out ⟨w8.heap.size, 0, none⟩ 1 1 q.row rfl rfl HNEWC.out (row5_one q) (by unfold maxLen; omega) (by omega) HBS.out ?_))
            intro v11 w11 hown11 hgr11 _ hv11
            have HFIN : Hid (PutP w base v qs (putF (subB rel (exs bs)) (exs rs) (fuel + 1) n qs.length) (.returned v11) w11) := by
              have hz := HCK.out.size
              have hnod : ExM w11 base v11 (qz ++ [q]) := LotM.snoc kidE HX10.out hown11 hgr11 (hv11.imp id fun e => ⟨_, e, Nat.le_refl _⟩) HQ10.out (fun g hi e => by
                rcases (HQB.out g hi).1 with h | h
                · have := (HNR.out.own.lt g e).2; omega
                · exact HAP.out g h (.inl e)) (fun p hp g h1 h2 => by
                rcases (HQB.out g h2).1 with h | h
                · have := (HNR.out.lie p (by rw [← HQZ.out]; exact hp) g h1).2.1; omega
                · exact HAP.out g h (.inr ⟨p, hp, h1⟩))
              refine ⟨v11, qa ++ [q], rfl, by rw [← List.append_assoc, ← HQZ.out]; exact ExM.nod hnod, ?_, ?_, fun p hp g hg => ?_⟩
              · rw [HPF2.out, exs_snoc, HQA.out, HQE.out]
              · have h1 := HPW.out
                have hs1 := HSZ1.out
                refine ⟨hgr11.os.trans (HCK.out.base.os.trans (h1.os.trans HA1.out.os)), hgr11.tape.trans (HCK.out.base.tape.trans (h1.tape.trans HA1.out.tape)), hgr11.output.trans (HCK.out.base.output.trans (h1.output.trans HA1.out.output)), by have := hgr11.size; omega, fun g hg hv => ?_, ?_⟩
                · have hg1 : g < W1.heap.size := by omega
                  have hgr : g < wr.heap.size := by omega
                  rw [hgr11.block g (by omega) (fun e => h1.apart hg1 hv e.symm), HCK.out.block g hgr (by omega), h1.block g hg1 hv]
                  exact HA1.out.block g hg
                · rcases hv11 with e | e
                  · rcases h1.own with e2 | ⟨g, e2, hg⟩
                    · exact .inl (e.trans e2)
                    · exact .inr ⟨g, e.trans e2, by omega⟩
                  · exact .inr ⟨_, e, by omega⟩
              · rcases List.mem_append.1 hp with hp | hp
                · have := HNEW.out p hp g hg; omega
                · rw [List.mem_singleton] at hp; subst hp
                  exact (HQB.out g hg).2
            clear hown11 hgr11 hv11
            go_wp2
            go_ret
            exact HFIN.out
end Go.Proofs.YtmghabcaakgjiaaGreat
