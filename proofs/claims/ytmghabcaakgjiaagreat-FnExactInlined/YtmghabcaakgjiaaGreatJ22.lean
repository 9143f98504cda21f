/- What the document's Inlined writes, relation by relation, is the schema whose leaves are changed; its answer has a shape. -/
import Derived.Test.YtmghabcaakgjiaaGreatJ10
import Derived.Test.YtmghabcaakgjiaaGreatImplInlined
import Derived.Test.YtmghabcaakgjiaaGreatL7Put2
import Derived.Test.YtmghabcaakgjiaaGreatChgSch
import Derived.Test.YtmghabcaakgjiaaGreatSpecPruned
import Derived.Test.YtmghabcaakgjiaaGreatJ11
namespace Go.Proofs.YtmghabcaakgjiaaGreat
set_option linter.unusedVariables false
open Pl

/-- leaves that stay leave all as it was -/
theorem chgE_id {f : Ex → List Ex} {es : List Ex} (h : specE es = true) (hf : ∀ e ∈ es, f e = [e]) : chgE f es = es := by
  have h1 := put_all (sub := fun _ => none) (f := f) h ⟨fun e he _ => hf e he, fun _ _ _ h => by cases h⟩
  have h2 := put_all (sub := fun _ => none) (f := fun e => [e]) h ⟨fun _ _ _ => rfl, fun _ _ _ h => by cases h⟩
  rw [← h1, h2, chgE_same (kidsLow_of h)]
theorem nodeB_nm {rel : ByteArray} {e : Ex} (h : nodeB e = true) (hn : isNm rel e = true) : e.kids = [] := by
  unfold isNm at hn
  rw [Bool.and_eq_true] at hn
  have hk : e.kind = 2 := of_decide_eq_true hn.1
  unfold nodeB at h
  rw [if_neg (by omega), if_pos hk] at h
  simp only [Bool.and_eq_true, decide_eq_true_eq] at h
  exact List.length_eq_zero_iff.1 h.2
/-- a relation of the type itself -/
theorem inl_put {typ rel tn : ByteArray} {body es : List Ex} (ht : (tn.toList == typ.toList) = true) (h : specE es = true) (hb : body ≠ []) : putF (subB rel body) es es.length (es.length - 1) 0 = chgE (inlF typ rel body tn) es := by
  have hbe : body.isEmpty = false := by cases hb2 : body with | nil => exact absurd hb2 hb | cons a b => rfl
  refine put_all h ⟨fun e he hs => ?_, fun e he bs hs => ?_⟩
  · unfold subB at hs
    unfold inlF
    rw [hbe] at hs
    cases hn : isNm rel e with
    | true => rw [hn] at hs; cases hs
    | false => rw [Bool.and_false]; rfl
  · unfold subB at hs
    rw [hbe] at hs
    cases hn : isNm rel e with
    | false => rw [hn] at hs; cases hs
    | true =>
      rw [hn] at hs
      injection hs with hs
      subst hs
      refine ⟨nodeB_nm (specE_nodes h e he) hn, ?_⟩
      unfold inlF
      rw [ht, hn]; rfl
/-- the relation that is put in full, and all relations of other types, stay -/
theorem inl_stays {typ rel tn : ByteArray} {body es : List Ex} (h : specE es = true) (hn : (tn.toList == typ.toList) = false ∨ es.any (isNm rel) = false) : chgE (inlF typ rel body tn) es = es := by
  refine chgE_id h fun e he => ?_
  unfold inlF
  rcases hn with hn | hn
  · rw [hn]; rfl
  · have : isNm rel e = false := by
      rw [List.any_eq_false] at hn
      simpa using hn e he
    rw [this, Bool.and_false]; rfl
theorem inl_shape {ts us : List Ty} {typ rel : ByteArray} (h : inlD ts typ rel = some us) : shapeB us = true := by
  unfold inlD at h
  split at h
  · rename_i hc
    injection h with h
    subst h
    simp only [Bool.and_eq_true] at hc
    exact (schemaD_iff.1 hc.2).1
  · cases h
theorem any_or (p q : Ex → Bool) (xs : List Ex) : (xs.any fun e => p e || q e) = (xs.any p || xs.any q) := by
  induction xs with
  | nil => rfl
  | cons x xs ih => simp only [List.any_cons, ih]; cases p x <;> cases q x <;> simp
end Go.Proofs.YtmghabcaakgjiaaGreat

/- A list in memory whose elements hold lists: another element at any place, by its cells or by its own blocks alone. -/
namespace Go.Proofs.YtmghabcaakgjiaaGreat
set_option maxRecDepth 100000
set_option linter.unusedVariables false
open Go.ChangeShapes Go.WideShapes Go.ChangeAt Go.RowKit
open Pl

section
variable {α : Type} {T : TypeId} {size : Nat} {cells : α → List Value} {K : World → Nat → α → Prop} {I : α → Nat → Prop} {w w' : World} {base : Nat} {v : Value} {rs : List α}
theorem two_set {i : Nat} {q' : α} (hi : i < rs.length) (h : ∀ (x y : Nat) (hx : x < rs.length) (hy : y < rs.length), x ≠ y → ∀ g, I rs[x] g → ¬ I rs[y] g) (hq : ∀ (x : Nat) (hx : x < rs.length), x ≠ i → ∀ g, I rs[x] g → ¬ I q' g) :
    ∀ (x y : Nat) (hx : x < (rs.set i q').length) (hy : y < (rs.set i q').length), x ≠ y → ∀ g, I (rs.set i q')[x] g → ¬ I (rs.set i q')[y] g := by
  intro x y hx hy hxy g h1 h2
  rw [List.length_set] at hx hy
  rw [List.getElem_set] at h1 h2
  split at h1
  · rename_i e
    split at h2
    · rename_i e2; omega
    · rename_i e2; exact hq y hy (Ne.symm e2) g h2 h1
  · rename_i e
    split at h2
    · rename_i e2; exact hq x hx (Ne.symm e) g h1 h2
    · exact h x y hx hy hxy g h1 h2
theorem mem_set {i : Nat} {q' p : α} (hp : p ∈ rs.set i q') : p = q' ∨ ∃ (x : Nat) (hx : x < rs.length), x ≠ i ∧ p = rs[x] := by
  obtain ⟨x, hx, rfl⟩ := List.getElem_of_mem hp
  rw [List.length_set] at hx
  rw [List.getElem_set]
  split
  · exact .inl rfl
  · rename_i e; exact .inr ⟨x, hx, Ne.symm e, rfl⟩
/-- another element whose cells are the same: nothing but its own blocks, and new ones, has changed -/
theorem LotM.setIn (kd : Kid K I) (h : LotM T size cells K I w base v rs) {i : Nat} (hi : i < rs.length) {q' : α} (hs : w.heap.size ≤ w'.heap.size) (hh : ∀ g, g < w.heap.size → ¬ I rs[i] g → w'.heap[g]? = w.heap[g]?) (hc : cells q' = cells rs[i]) (hk : K w' base q') (hI : ∀ g, I q' g → I rs[i] g ∨ w.heap.size ≤ g) :
    LotM T size cells K I w' base v (rs.set i q') := by
  have hfl : (rs.set i q').flatMap cells = rs.flatMap cells := by
    rw [List.flatMap_def, List.flatMap_def, List.map_set, hc]
    congr 1
    rw [← List.getElem_map (f := cells) (h := by simpa using hi)]
    exact List.set_getElem_self _
  refine ⟨?_, fun p hp => ?_, fun p hp g hg => ?_, two_set hi h.two fun x hx hne g h1 h2 => ?_⟩
  · rw [List.length_set, hfl]
    exact own_heap h.own fun g hg => hh g (h.own.lt g hg).2 fun hi2 => h.head _ (List.getElem_mem hi) g hi2 hg
  · rcases mem_set hp with rfl | ⟨x, hx, hne, rfl⟩
    · exact hk
    · exact kd.heap w w' base _ (h.kid _ (List.getElem_mem hx)) hs fun g hg => hh g (kd.lt w base _ (h.kid _ (List.getElem_mem hx)) g hg).2 (h.two x i hx hi hne g hg)
  · rcases mem_set hp with rfl | ⟨x, hx, hne, rfl⟩
    · rcases hI g hg with h2 | h2
      · exact h.head _ (List.getElem_mem hi) g h2
      · intro e; have := (h.own.lt g e).2; omega
    · exact h.head _ (List.getElem_mem hx) g hg
  · rcases hI g h2 with h3 | h3
    · exact h.two x i hx hi hne g h1 h3
    · have := (kd.lt w base _ (h.kid _ (List.getElem_mem hx)) g h1).2; omega
/-- another element, in new blocks: one cell of the row is set -/
theorem LotM.setAt (kd : Kid K I) {b n cap j : Nat} {u : Value} (h : LotM T size cells K I w base (.slice (some ⟨b, 0, none⟩) n cap) rs) (hn : n = rs.length) {w0 : World} (h0 : LotM T size cells K I w0 base (.slice (some ⟨b, 0, none⟩) n cap) rs) {i : Nat} (hi : i < rs.length) {q' : α} (hk : ∀ w2 : World, w.heap.size ≤ w2.heap.size → (∀ g, I q' g → w2.heap[g]? = w.heap[g]?) → K w2 base q') (hI : ∀ g, I q' g → w0.heap.size ≤ g) (hset : (rs.flatMap cells).set j u = (rs.set i q').flatMap cells) :
    LotM T size cells K I (w.setCell ⟨b, j, none⟩ u) base (.slice (some ⟨b, 0, none⟩) n cap) (rs.set i q') := by
  have own1 := h.own
  rw [← hn] at own1
  obtain ⟨own2, hg2⟩ := own1.stored j u
  rw [hset] at own2
  have hbl : b < w0.heap.size := (h0.own.lt b rfl).2
  have hsm : ∀ g, g ≠ b → (w.setCell ⟨b, j, none⟩ u).heap[g]? = w.heap[g]? := fun g hne => Below.heap_setCell w _ u g hne
  refine ⟨by rw [List.length_set, ← hn]; exact own2, fun p hp => ?_, fun p hp g hg => ?_, two_set hi h.two fun x hx hne g h1 h2 => ?_⟩
  · rcases mem_set hp with rfl | ⟨x, hx, hne, rfl⟩
    · exact hk _ hg2.size fun g hg => hsm g (by have := hI g hg; omega)
    · exact kd.heap w _ base _ (h.kid _ (List.getElem_mem hx)) hg2.size fun g hg => hsm g fun e => h.head _ (List.getElem_mem hx) g hg (by rw [e]; rfl)
  · rcases mem_set hp with rfl | ⟨x, hx, hne, rfl⟩
    · intro e
      have e : b = g := by simpa [Value.ownBlock] using e
      have := hI g hg; omega
    · exact h.head _ (List.getElem_mem hx) g hg
  · have h3 := (kd.lt w0 base _ (h0.kid _ (List.getElem_mem hx)) g h1).2
    have := hI g h2; omega
end
end Go.Proofs.YtmghabcaakgjiaaGreat

/- A schema whose first types, and of the next one whose first relations, are changed. -/
namespace Go.Proofs.YtmghabcaakgjiaaGreat
set_option maxRecDepth 100000
set_option linter.unusedVariables false
open Go.ChangeShapes Go.WideShapes Go.ChangeAt Go.RowKit Go.Maps
open Pl

/-- a type whose first k relations are changed -/
def mixT (F : ByteArray → Ex → List Ex) (t : Ty) (k : Nat) : Ty := ⟨t.name, (t.rels.take k).map (chgR F t.name) ++ t.rels.drop k⟩
theorem mixT_zero (F : ByteArray → Ex → List Ex) (t : Ty) : mixT F t 0 = t := by cases t; simp [mixT]
theorem mixT_all (F : ByteArray → Ex → List Ex) (t : Ty) : mixT F t t.rels.length = chgT F t := by simp [mixT, chgT]
/-- a schema whose first i types are changed -/
def mixS (F : ByteArray → Ex → List Ex) (ts : List Ty) (i : Nat) : List Ty := (ts.take i).map (chgT F) ++ ts.drop i
theorem mixS_zero (F : ByteArray → Ex → List Ex) (ts : List Ty) : mixS F ts 0 = ts := by simp [mixS]
theorem mixS_all (F : ByteArray → Ex → List Ex) (ts : List Ty) : mixS F ts ts.length = chgS F ts := by simp [mixS, chgS]
theorem mix_set {α : Type} (f : α → α) (xs : List α) (i : Nat) (h : i < xs.length) (y : α) : ((xs.take i).map f ++ xs.drop i).set i y = (xs.take i).map f ++ y :: xs.drop (i + 1) := by
  have hl : ((xs.take i).map f).length = i := by rw [List.length_map, List.length_take]; omega
  rw [List.set_append_right _ _ (by omega), hl, Nat.sub_self, List.drop_eq_getElem_cons h, List.set_cons_zero]
theorem mixS_at (F : ByteArray → Ex → List Ex) (ts : List Ty) (i : Nat) (h : i < ts.length) : mixS F ts i = (mixS F ts i).set i ts[i] := by
  unfold mixS
  rw [mix_set _ _ _ h, ← List.drop_eq_getElem_cons h]
theorem mixS_succ (F : ByteArray → Ex → List Ex) (ts : List Ty) (i : Nat) (h : i < ts.length) : (mixS F ts i).set i (chgT F ts[i]) = mixS F ts (i + 1) := by
  unfold mixS
  rw [mix_set _ _ _ h, List.take_succ_eq_append_getElem h, List.map_append, List.append_assoc]; rfl
theorem mixS_len (F : ByteArray → Ex → List Ex) (ts : List Ty) (i : Nat) : (mixS F ts i).length = ts.length := by
  unfold mixS; simp; omega
theorem mixT_len (F : ByteArray → Ex → List Ex) (t : Ty) (k : Nat) : (mixT F t k).rels.length = t.rels.length := by
  unfold mixT; simp; omega
theorem mixT_succ (F : ByteArray → Ex → List Ex) (t : Ty) (k : Nat) (h : k < t.rels.length) : mixT F t (k + 1) = ⟨t.name, (mixT F t k).rels.set k (chgR F t.name t.rels[k])⟩ := by
  unfold mixT
  simp only
  rw [mix_set _ _ _ h, List.take_succ_eq_append_getElem h, List.map_append, List.append_assoc]; rfl
theorem mixT_at (F : ByteArray → Ex → List Ex) (t : Ty) (k : Nat) (h : k < t.rels.length) : (mixT F t k).rels[k]'(by rw [mixT_len]; exact h) = t.rels[k] := by
  unfold mixT
  simp only
  rw [List.getElem_append_right (by simp; omega)]
  simp [Nat.min_eq_left (Nat.le_of_lt h)]
end Go.Proofs.YtmghabcaakgjiaaGreat

/- A drawn region with one call: all other operations read; the last one stores what was answered. -/
namespace Go.Proofs.YtmghabcaakgjiaaGreat
set_option linter.unusedVariables false
open Go.ChangeShapes Go.WideShapes Go.ChangeAt Go.RowKit
open Pl

structure CL (c p q : Nat) (C : Nat → Value) (W : World) (M1 : Value → World → Prop) (l : Nat → Bool) (f : Nat → Value) (w : World) : Prop where
  val : ∀ k, k ≠ c → l k = true → f k = C k
  bel : Below W.heap.size W w
  mid : l c = true → M1 (f c) w
  dep : l p = true → l q = true
section
variable {c p q : Nat} {C : Nat → Value} {W : World} {M1 : Value → World → Prop} {l : Nat → Bool} {f : Nat → Value} {w w' : World}
theorem CL.put (h : CL c p q C W M1 l f w) {i : Nat} (hi : i ≠ c) (hd : i = p → l q = true) {v : Value} (hv : v = C i) : CL c p q C W M1 (fun k => if k = i then true else l k) (upd f i v) w := by
  refine ⟨fun k hk hl => ?_, h.bel, fun hl => ?_, fun hl => ?_⟩
  · by_cases e : k = i
    · subst e; simp [upd, hv]
    · simp only [if_neg e] at hl; simp only [upd, if_neg e]; exact h.val k hk hl
  · simp only [if_neg (Ne.symm hi)] at hl
    simp only [upd, if_neg (Ne.symm hi)]; exact h.mid hl
  · have : l q = true := by
      by_cases e : p = i
      · exact hd e.symm
      · rw [if_neg e] at hl; exact h.dep hl
    show (if q = i then true else l q) = true
    rw [this]; split <;> rfl
theorem CL.call (h : CL c p q C W M1 l f w) (hpc : p ≠ c) {v : Value} (hb : Below W.heap.size W w') (h1 : M1 v w') : CL c p q C W M1 (fun k => if k = c then true else l k) (upd f c v) w' := by
  refine ⟨fun k hk hl => ?_, hb, fun _ => by simpa [upd] using h1, fun hl => ?_⟩
  · simp only [if_neg hk] at hl; simp only [upd, if_neg hk]; exact h.val k hk hl
  · rw [if_neg hpc] at hl
    show (if q = c then true else l q) = true
    rw [h.dep hl]; split <;> rfl
end
/-- another expression of a relation of a type: the schema in memory with it -/
theorem TypM.reput {w w1 : World} {base bO n cap : Nat} {qs : List TR} {k j b2 : Nat} {qn : List ER} {ad' : Option Addr} {cap' : Nat} (h : TypM w base (.slice (some ⟨bO, 0, none⟩) n cap) qs) (hb : Below w.heap.size w w1) (hk : k < qs.length) (hj : j < qs[k].rows.length) (had : qs[k].ad = some ⟨b2, 0, none⟩) (hbase : base ≤ w.heap.size) (hn : NodM w1 w.heap.size (.slice ad' qn.length cap') qn) :
    TypM (w1.setCell ⟨b2, j * 2 + 1, none⟩ (.slice ad' qn.length cap')) base (.slice (some ⟨bO, 0, none⟩) n cap) (qs.set k { qs[k] with rows := qs[k].rows.set j ⟨qs[k].rows[j].name, qn, ad', cap'⟩ }) := by
  have hkid := h.kid _ (List.getElem_mem hk)
  have hkid1 : kT w1 base qs[k] := LotM.below kidR hkid hb
  have hvs : qs[k].vs = .slice (some ⟨b2, 0, none⟩) qs[k].rows.length qs[k].cap := by unfold TR.vs; rw [had]
  have hin : RelM (w1.setCell ⟨b2, j * 2 + 1, none⟩ (.slice ad' qn.length cap')) base qs[k].vs (qs[k].rows.set j ⟨qs[k].rows[j].name, qn, ad', cap'⟩) := by
    have r1 : RelM w1 base (.slice (some ⟨b2, 0, none⟩) qs[k].rows.length qs[k].cap) qs[k].rows := by rw [← hvs]; exact hkid1
    have r0 : RelM w base (.slice (some ⟨b2, 0, none⟩) qs[k].rows.length qs[k].cap) qs[k].rows := by rw [← hvs]; exact hkid
    rw [hvs]
    refine LotM.setAt kidR r1 rfl r0 hj (q' := ⟨qs[k].rows[j].name, qn, ad', cap'⟩) (fun w2 hs2 hh => ?_) (fun g hg => ?_) ?_
    · exact NodM.mono (kidR.heap w1 w2 w.heap.size ⟨qs[k].rows[j].name, qn, ad', cap'⟩ hn hs2 hh) hbase
    · exact (kidR.lt w1 w.heap.size ⟨qs[k].rows[j].name, qn, ad', cap'⟩ hn g hg).1
    · have hgen : ∀ (xs : List RR) (j : Nat) (hj : j < xs.length), (xs.flatMap RR.cells).set (j * 2 + 1) (Value.slice ad' qn.length cap') = (xs.set j ⟨xs[j].name, qn, ad', cap'⟩).flatMap RR.cells := by
        intro xs
        induction xs with
        | nil => intro j hj; simp at hj
        | cons x xs ih =>
          intro j hj
          cases j with
          | zero => simp [RR.cells, RR.vs]
          | succ j =>
            have := ih j (by simpa using hj)
            simp only [List.flatMap_cons, List.getElem_cons_succ, List.set_cons_succ]
            rw [← this, show (j + 1) * 2 + 1 = (j * 2 + 1) + 2 by omega]
            simp [RR.cells]
      exact hgen _ j hj
  have hbo : ∀ g, g < w.heap.size → ¬ iT qs[k] g → (w1.setCell ⟨b2, j * 2 + 1, none⟩ (.slice ad' qn.length cap')).heap[g]? = w.heap[g]? := fun g hg hi => by
    rw [Below.heap_setCell w1 _ _ g (fun e => hi (.inl (by rw [hvs]; show some b2 = some g; rw [e])))]
    exact hb.block g hg
  refine LotM.setIn kidT h hk (by simpa using hb.size) hbo ?_ ?_ ?_
  · simp [TR.cells, TR.vs]
  · show RelM _ base (TR.vs { qs[k] with rows := _ }) _
    have e : TR.vs { qs[k] with rows := qs[k].rows.set j ⟨qs[k].rows[j].name, qn, ad', cap'⟩ } = qs[k].vs := by simp [TR.vs]
    rw [e]; exact hin
  · rintro g (hg | ⟨q, hq, hg⟩)
    · exact .inl (.inl (by simpa [TR.vs] using hg))
    · rcases mem_set hq with rfl | ⟨x, hx, hne, rfl⟩
      · exact .inr (kidR.lt w1 w.heap.size ⟨qs[k].rows[j].name, qn, ad', cap'⟩ hn g hg).1
      · exact .inl (.inr ⟨_, List.getElem_mem hx, hg⟩)
end Go.Proofs.YtmghabcaakgjiaaGreat
