/- The document's reader in memory: its block, its nodes, each node's lists in blocks of their own; one more node. -/
import Derived.Test.YtjmbgpdbnffkpaaRdxAdd
namespace Go.Proofs.Ytjmbgpdbnffkpaa
set_option maxRecDepth 100000
open Go.ChangeShapes Go.WideShapes Go.ChangeAt Go.RowKit
open Pl

/-- what a step of the reader leaves: the row is the old one, or a new one -/
structure Went (R : Nat) (v : Value) (w : World) (v' : Value) (w' : World) : Prop where
  onl : Onl R v w w'
  own : v'.ownBlock = v.ownBlock ∨ ∃ g, v'.ownBlock = some g ∧ w.heap.size ≤ g
theorem Onl.refl (R : Nat) (v : Value) (w : World) : Onl R v w w := ⟨rfl, rfl, rfl, Nat.le_refl _, fun _ _ _ _ => rfl⟩
theorem Went.refl (R : Nat) (v : Value) (w : World) : Went R v w v w := ⟨Onl.refl R v w, .inl rfl⟩
theorem Went.apart {R : Nat} {v v' : Value} {w w' : World} (h : Went R v w v' w') {k : Nat} (hk : k < w.heap.size) (hv : v.ownBlock ≠ some k) : v'.ownBlock ≠ some k := by
  rcases h.own with e | ⟨g, e, hg⟩
  · rw [e]; exact hv
  · rw [e]; intro h2; injection h2 with h2; omega
theorem Went.trans {R : Nat} {v v1 v2 : Value} {w w1 w2 : World} (h : Went R v w v1 w1) (h2 : Went R v1 w1 v2 w2) : Went R v w v2 w2 := by
  refine ⟨⟨h2.onl.os.trans h.onl.os, h2.onl.tape.trans h.onl.tape, h2.onl.output.trans h.onl.output, Nat.le_trans h.onl.size h2.onl.size, fun k hk h3 h4 => (h2.onl.block k (Nat.lt_of_lt_of_le hk h.onl.size) h3 (h.apart hk h4)).trans (h.onl.block k hk h3 h4)⟩, ?_⟩
  rcases h2.own with e | ⟨g, e, hg⟩
  · rw [e]; exact h.own
  · exact .inr ⟨g, e, Nat.le_trans h.onl.size hg⟩
/-- an empty row: nothing but the reader's block changes -/
abbrev nilV : Value := .slice none 0 0
theorem Onl.any {R : Nat} {w w' : World} (h : Onl R nilV w w') (v : Value) : Went R v w v w' := ⟨⟨h.os, h.tape, h.output, h.size, fun k hk h1 _ => h.block k hk h1 (by simp [Value.ownBlock])⟩, .inl rfl⟩
theorem Onl.of_grown {R : Nat} {w w' : World} (h : w.grownBy w' (some R)) : Onl R nilV w w' := ⟨h.os, h.tape, h.output, h.size, fun k hk h1 _ => h.block k hk (fun e => h1 (by injection e))⟩
theorem Onl.trans0 {R : Nat} {w w1 w2 : World} (h : Onl R nilV w w1) (h2 : Onl R nilV w1 w2) : Onl R nilV w w2 := ((h.any nilV).trans (h2.any nilV)).onl
theorem Onl.of_below {R : Nat} {w w' : World} (h : Below w.heap.size w w') : Onl R nilV w w' := ⟨h.os, h.tape, h.output, h.size, fun k hk _ _ => h.block k hk⟩
/-- a node's kids lie in a row of their own, with room to its capacity -/
def KidO (w : World) (base : Nat) (q : ER) : Prop := (q.e.kids = [] ∧ q.adK = none ∧ q.capK = 0) ∨ (q.e.kids ≠ [] ∧ w.ownsRow base 2 1 (.slice q.adK q.e.kids.length q.capK) q.e.kids.length (ints q.e.kids))
/-- the reader with its nodes -/
structure RdF (w : World) (R : Nat) (s : ByteArray) (st : RS) (base : Nat) (v : Value) (qs : List ER) : Prop where
  rd : RdC w R s st.p st.bad v
  own : w.ownsRow base 56 5 v qs.length (rows5 qs)
  out : exs qs = st.out
  zA : ∀ q ∈ qs, q.e.allow ≠ [] → ∃ g, q.adA = some ⟨g, 0, none⟩
  zK : ∀ q ∈ qs, q.e.kids ≠ [] → ∃ g, q.adK = some ⟨g, 0, none⟩
  ok : ∀ q ∈ qs, q.ok w
  lie : ∀ q ∈ qs, ∀ g, inR q g → base ≤ g ∧ g < w.heap.size ∧ Free w g ∧ v.ownBlock ≠ some g
  one : ∀ q ∈ qs, ∀ g, bA q g → ¬ bK q g
  two : ∀ (x y : Nat) (hx : x < qs.length) (hy : y < qs.length), x ≠ y → ∀ g, inR qs[x] g → ¬ inR qs[y] g
  cA : ∀ q ∈ qs, q.e.allow.length ≤ q.capA
  cK : ∀ q ∈ qs, KidO w base q
theorem SlA.heap {w w' : World} {ad : Option Addr} {xs : List Al} (h : SlA w ad xs) (hs : w.heap.size ≤ w'.heap.size) (hz : xs ≠ [] → ∃ g, ad = some ⟨g, 0, none⟩) (hn : ∀ g, xs ≠ [] → ad = some ⟨g, 0, none⟩ → w'.heap[g]? = w.heap[g]?) : SlA w' ad xs := by
  rcases h with h | ⟨b, off, e, hb, hr⟩
  · exact .inl h
  · by_cases hx : xs = []
    · exact .inl hx
    · obtain ⟨g, eg⟩ := hz hx
      have e2 := e
      rw [eg] at e; injection e with e; injection e with e1 e3
      subst e1
      have hh := hn g hx eg
      exact .inr ⟨g, off, e2, Nat.lt_of_lt_of_le hb hs, fun i hi => ⟨(World.cell?_of_block (w := w) (a := ⟨g, _, none⟩) hh).trans (hr i hi).1, (World.cell?_of_block (w := w) (a := ⟨g, _, none⟩) hh).trans (hr i hi).2⟩⟩
theorem SlI.heap {w w' : World} {ad : Option Addr} {xs : List Int} (h : SlI w ad xs) (hs : w.heap.size ≤ w'.heap.size) (hz : xs ≠ [] → ∃ g, ad = some ⟨g, 0, none⟩) (hn : ∀ g, xs ≠ [] → ad = some ⟨g, 0, none⟩ → w'.heap[g]? = w.heap[g]?) : SlI w' ad xs := by
  rcases h with h | ⟨b, off, e, hb, hr⟩
  · exact .inl h
  · by_cases hx : xs = []
    · exact .inl hx
    · obtain ⟨g, eg⟩ := hz hx
      have e2 := e
      rw [eg] at e; injection e with e; injection e with e1 e3
      subst e1
      have hh := hn g hx eg
      exact .inr ⟨g, off, e2, Nat.lt_of_lt_of_le hb hs, fun i hi => (World.cell?_of_block (w := w) (a := ⟨g, _, none⟩) hh).trans (hr i hi)⟩
theorem ok_heap {w w' : World} {q : ER} (h : q.ok w) (hs : w.heap.size ≤ w'.heap.size) (zA : q.e.allow ≠ [] → ∃ g, q.adA = some ⟨g, 0, none⟩) (zK : q.e.kids ≠ [] → ∃ g, q.adK = some ⟨g, 0, none⟩) (hn : ∀ g, inR q g → w'.heap[g]? = w.heap[g]?) : q.ok w' :=
  ⟨h.1.heap hs zA fun g h1 h2 => hn g (.inl ⟨h1, h2⟩), h.2.heap hs zK fun g h1 h2 => hn g (.inr ⟨h1, h2⟩)⟩
theorem free_heap {w w' : World} {g : Nat} (h : Free w g) (hh : w'.heap[g]? = w.heap[g]?) : Free w' g := fun j => (World.frozen?_of_block (w := w) (a := ⟨g, j, none⟩) hh).trans (h j)
theorem own_heap {w w' : World} {base : Nat} {e : TypeId} {size : Nat} {v : Value} {n : Nat} {xs : List Value} (h : w.ownsRow base e size v n xs) (hh : ∀ g, v.ownBlock = some g → w'.heap[g]? = w.heap[g]?) : w'.ownsRow base e size v n xs := by
  refine ⟨h.1, ?_⟩
  rcases h.2 with hl | ⟨g, cap, cur, rfl, h1, h2, h3⟩
  · exact .inl hl
  · exact .inr ⟨g, cap, cur, rfl, h1, (hh g rfl).trans h2, h3⟩
theorem KidO.heap {w w' : World} {base : Nat} {q : ER} (h : KidO w base q) (hz : q.e.kids ≠ [] → ∃ g, q.adK = some ⟨g, 0, none⟩) (hh : ∀ g, inR q g → w'.heap[g]? = w.heap[g]?) : KidO w' base q := by
  rcases h with h | ⟨hne, h⟩
  · exact .inl h
  · obtain ⟨g, eg⟩ := hz hne
    refine .inr ⟨hne, own_heap h fun g' hg' => ?_⟩
    rw [eg] at hg'
    have : g = g' := by simpa [Value.ownBlock] using hg'
    subst this
    exact hh g (.inr ⟨hne, eg⟩)
theorem KidO.mono {w : World} {base base' : Nat} {q : ER} (h : KidO w base q) (hb : base' ≤ base) : KidO w base' q := by
  rcases h with h | ⟨hne, h⟩
  · exact .inl h
  · refine .inr ⟨hne, h.1, ?_⟩
    rcases h.2 with hl | ⟨g, cap, cur, e, h1, h2⟩
    · exact .inl hl
    · exact .inr ⟨g, cap, cur, e, Nat.le_trans hb h1, h2⟩
/-- where nothing but the reader's own block has changed -/
theorem RdF.over {w w' : World} {R : Nat} {s : ByteArray} {st : RS} {base : Nat} {v : Value} {qs : List ER} (h : RdF w R s st base v qs) (hR : R < base) (ho : Onl R nilV w w') {p : Nat} {bad : Bool} (hr : RdC w' R s p bad v) : RdF w' R s ⟨p, bad, st.out⟩ base v qs where
  rd := hr
  own := own_heap h.own fun g hg => ho.block g (h.own.lt g hg).2 (by have := (h.own.lt g hg).1; omega) (by simp [Value.ownBlock])
  out := h.out
  zA := h.zA
  zK := h.zK
  ok q hq := ok_heap (h.ok q hq) ho.size (h.zA q hq) (h.zK q hq) fun g hg => ho.block g (h.lie q hq g hg).2.1 (by have := (h.lie q hq g hg).1; omega) (by simp [Value.ownBlock])
  lie q hq g hg := by
    obtain ⟨h1, h2, h3, h4⟩ := h.lie q hq g hg
    exact ⟨h1, Nat.lt_of_lt_of_le h2 ho.size, free_heap h3 (ho.block g h2 (by omega) (by simp [Value.ownBlock])), h4⟩
  one := h.one
  two := h.two
  cA := h.cA
  cK q hq := (h.cK q hq).heap (h.zK q hq) fun g hg => ho.block g (h.lie q hq g hg).2.1 (by have := (h.lie q hq g hg).1; omega) (by simp [Value.ownBlock])
/-- a node whose lists are new -/
structure NewQ (X : Nat) (w : World) (q : ER) : Prop where
  zA : q.e.allow ≠ [] → ∃ g, q.adA = some ⟨g, 0, none⟩
  zK : q.e.kids ≠ [] → ∃ g, q.adK = some ⟨g, 0, none⟩
  ok : q.ok w
  lie : ∀ g, inR q g → X ≤ g ∧ g < w.heap.size ∧ Free w g
  one : ∀ g, bA q g → ¬ bK q g
  cA : q.e.allow.length ≤ q.capA
theorem rows5_snoc (qs : List ER) (q : ER) : rows5 (qs ++ [q]) = rows5 qs ++ q.row := by simp [rows5]
/-- one more node -/
theorem addF (R : Nat) (s : ByteArray) (st : RS) (base : Nat) (v : Value) (qs : List ER) (q : ER) (w : World) (h : RdF w R s st base v qs) (hR : R < base) (hB : base ≤ w.heap.size) (hn : qs.length ≤ 100000)
    (hq : NewQ base w q) (hkid : KidO w base q) (ha : ∀ g, inR q g → v.ownBlock ≠ some g ∧ ∀ q' ∈ qs, ¬ inR q' g) :
    Calls Try.prog 61 #[.pointer (some ⟨R, 0, none⟩), q.val] w fun e w' => ∃ v', e = .returned (.int .i64 (st.out.length : Int)) ∧ RdF w' R s (addP q.e st) base v' (qs ++ [q]) ∧ Went R v w v' w' := by
  have hlen : qs.length = st.out.length := by rw [← h.out]; simp [exs]
  refine (add_any R s st.p st.bad v base qs.length (rows5 qs) q w h.rd h.own hR hB hn).mono ?_
  rintro e w' ⟨g, cap, rfl, hrd, hown, honl, hat⟩
  have hW : Went R v w (.slice (some ⟨g, 0, none⟩) (qs.length + 1) cap) w' := ⟨honl, by
    rcases hat with e | e
    · exact .inl (by rw [e]; rfl)
    · exact .inr ⟨g, rfl, e⟩⟩
  have keep : ∀ k, k < w.heap.size → base ≤ k → v.ownBlock ≠ some k → w'.heap[k]? = w.heap[k]? := fun k h1 h2 h3 => honl.block k h1 (by omega) h3
  refine ⟨.slice (some ⟨g, 0, none⟩) (qs.length + 1) cap, by rw [hlen], ?_, hW⟩
  refine ⟨by unfold addP; rw [← hlen]; exact hrd, ?_, ?_, ?_, ?_, ?_, ?_, ?_, ?_, ?_, ?_⟩
  · rw [List.length_append, List.length_singleton, rows5_snoc]; exact hown
  · simp [exs, addP, ← h.out]
  · intro q' hq'
    rcases List.mem_append.1 hq' with h1 | h1
    · exact h.zA q' h1
    · rw [List.mem_singleton] at h1; subst h1; exact hq.zA
  · intro q' hq'
    rcases List.mem_append.1 hq' with h1 | h1
    · exact h.zK q' h1
    · rw [List.mem_singleton] at h1; subst h1; exact hq.zK
  · intro q' hq'
    rcases List.mem_append.1 hq' with h1 | h1
    · exact ok_heap (h.ok q' h1) honl.size (h.zA q' h1) (h.zK q' h1) fun k hk => keep k (h.lie q' h1 k hk).2.1 (h.lie q' h1 k hk).1 (h.lie q' h1 k hk).2.2.2
    · rw [List.mem_singleton] at h1; subst h1
      exact ok_heap hq.ok honl.size hq.zA hq.zK fun k hk => keep k (hq.lie k hk).2.1 (hq.lie k hk).1 (ha k hk).1
  · intro q' hq' k hk
    rcases List.mem_append.1 hq' with h1 | h1
    · obtain ⟨a1, a2, a3, a4⟩ := h.lie q' h1 k hk
      exact ⟨a1, Nat.lt_of_lt_of_le a2 honl.size, free_heap a3 (keep k a2 a1 a4), hW.apart a2 a4⟩
    · rw [List.mem_singleton] at h1; subst h1
      obtain ⟨a1, a2, a3⟩ := hq.lie k hk
      exact ⟨a1, Nat.lt_of_lt_of_le a2 honl.size, free_heap a3 (keep k a2 a1 (ha k hk).1), hW.apart a2 (ha k hk).1⟩
  · intro q' hq'
    rcases List.mem_append.1 hq' with h1 | h1
    · exact h.one q' h1
    · rw [List.mem_singleton] at h1; subst h1; exact hq.one
  · intro x y hx hy hxy k hkx hky
    rw [List.length_append, List.length_singleton] at hx hy
    by_cases ex : x < qs.length
    · rw [List.getElem_append_left ex] at hkx
      by_cases ey : y < qs.length
      · rw [List.getElem_append_left ey] at hky
        exact h.two x y ex ey hxy k hkx hky
      · have : y = qs.length := by omega
        subst this
        rw [List.getElem_append_right (Nat.le_refl _)] at hky
        simp at hky
        exact (ha k hky).2 _ (List.getElem_mem ex) hkx
    · have : x = qs.length := by omega
      subst this
      rw [List.getElem_append_right (Nat.le_refl _)] at hkx
      simp at hkx
      have ey : y < qs.length := by omega
      rw [List.getElem_append_left ey] at hky
      exact (ha k hkx).2 _ (List.getElem_mem ey) hky
  · intro q' hq'
    rcases List.mem_append.1 hq' with h1 | h1
    · exact h.cA q' h1
    · rw [List.mem_singleton] at h1; subst h1; exact hq.cA
  · intro q' hq'
    rcases List.mem_append.1 hq' with h1 | h1
    · exact (h.cK q' h1).heap (h.zK q' h1) fun k hk => keep k (h.lie q' h1 k hk).2.1 (h.lie q' h1 k hk).1 (h.lie q' h1 k hk).2.2.2
    · rw [List.mem_singleton] at h1; subst h1
      exact hkid.heap hq.zK fun k hk => keep k (hq.lie k hk).2.1 (hq.lie k hk).1 (ha k hk).1
end Go.Proofs.Ytjmbgpdbnffkpaa

/- Contract of the document's reader: an item that is a row in brackets. -/
namespace Go.Proofs.Ytjmbgpdbnffkpaa
set_option maxRecDepth 100000
open Go.ChangeShapes Go.WideShapes Go.ChangeAt Go.RowKit
open Pl

/-- what a call of the reader leaves -/
def RPost (R : Nat) (s : ByteArray) (base : Nat) (v : Value) (qs : List ER) (w : World) (x : Int × RS) (e : Ending) (w' : World) : Prop :=
  ∃ v' ns, e = .returned (.int .i64 x.1) ∧ RdF w' R s x.2 base v' (qs ++ ns) ∧ Went R v w v' w' ∧ ∀ q ∈ ns, ∀ g, inR q g → w.heap.size ≤ g
/-- the closing bracket -/
def closeP (s : ByteArray) (x : Int × RS) : Int × RS := if isP s tClose x.2 then (x.1, onP tClose x.2) else (x.1, endP x.2)
theorem closeP_yes {s : ByteArray} {x : Int × RS} (h : isB s tClose x.2.p x.2.bad = true) : closeP s x = (x.1, onP tClose x.2) := if_pos h
theorem closeP_no {s : ByteArray} {x : Int × RS} (h : isB s tClose x.2.p x.2.bad = false) : closeP s x = (x.1, endP x.2) := if_neg (fun e => by rw [isP, ← isB, h] at e; cases e)
theorem isP_isB (s t : ByteArray) (st : RS) : isP s t st = isB s t st.p st.bad := rfl
theorem RdF.is_no {w w' : World} {R : Nat} {s t : ByteArray} {st : RS} {base : Nat} {v : Value} {qs : List ER} (h : RdF w R s st base v qs) (hR : R < base) (hb : isB s t st.p st.bad = false) (hr : RdC w' R s (isE s t st.p st.bad) st.bad v) (hg : w.grownBy w' (some R)) : RdF w' R s st base v qs := by
  rw [isE_no hb] at hr
  exact h.over hR (Onl.of_grown hg) hr
theorem RdF.is_yes {w w' : World} {R : Nat} {s t : ByteArray} {st : RS} {base : Nat} {v : Value} {qs : List ER} (h : RdF w R s st base v qs) (hR : R < base) (hb : isB s t st.p st.bad = true) (hr : RdC w' R s (isE s t st.p st.bad) st.bad v) (hg : w.grownBy w' (some R)) : RdF w' R s (onP t st) base v qs := by
  rw [isE_yes hb] at hr
  exact h.over hR (Onl.of_grown hg) hr
theorem isB_le {s t : ByteArray} {p : Nat} {bad : Bool} (h : isB s t p bad = true) : p + t.size ≤ s.size := by
  unfold isB at h
  simp only [Bool.and_eq_true] at h
  exact litAt_le h.2

set_option maxHeartbeats 4000000 in
theorem item_row (R : Nat) (s : ByteArray) (st : RS) (base : Nat) (v : Value) (qs : List ER) (w : World) (h : RdF w R s st base v qs) (hR : R < base) (hs : s.size ≤ 1000) (hp : st.p ≤ s.size)
    (h0 : isB s tThis st.p st.bad = false) (h1 : isB s tOpen st.p st.bad = true) (x : Int × RS) (hx : x.2.p ≤ s.size)
    (hrow : ∀ w1, RdF w1 R s (onP tOpen st) base v qs → w.heap.size ≤ w1.heap.size → Calls Try.prog 26 #[.pointer (some ⟨R, 0, none⟩)] w1 (RPost R s base v qs w1 x)) :
    Calls Try.prog 58 #[.pointer (some ⟨R, 0, none⟩)] w (RPost R s base v qs w (closeP s x)) := by
  have H := toHid h
  have HROW := toHid hrow
  have HX := toHid hx
  have HP := toHid hp
  clear h hrow hx hp
  go_enter Try.func58, Try.ntmps58
  go_wp2_with fail
  refine (is_any R s tThis st.p st.bad v w H.out.rd hs HP.out (by decide)).mono ?_
  rintro e w1 ⟨rfl, hr1, hg1⟩
  have HF1 := toHid (H.out.is_no hR h0 hr1 hg1)
  have HO1 := toHid (Onl.of_grown hg1)
  rw [h0]
  clear hr1 hg1 h0
  go_wp2_with fail
  refine (is_any R s tOpen st.p st.bad v w1 HF1.out.rd hs HP.out (by decide)).mono ?_
  rintro e w2 ⟨rfl, hr2, hg2⟩
  have HF2 := toHid (HF1.out.is_yes hR h1 hr2 hg2)
  have HO2 := toHid (HO1.out.trans0 (Onl.of_grown hg2))
  rw [h1]
  clear hr2 hg2 h1
  go_wp2_with fail
  refine (HROW.out w2 HF2.out HO2.out.size).mono ?_
  rintro e w3 ⟨v3, ns, rfl, hF3, hW3, hns⟩
  have HF3 := toHid hF3
  have HW3 := toHid ((HO2.out.any v).trans hW3)
  have HNS : Hid (∀ q ∈ ns, ∀ g, inR q g → w.heap.size ≤ g) := fun q hq g hg => Nat.le_trans HO2.out.size (hns q hq g hg)
  clear hF3 hW3 hns HF1 HO1 HF2 HO2 HROW
  go_wp2_with fail
  refine (is_any R s tClose x.2.p x.2.bad v3 w3 HF3.out.rd hs HX.out (by decide)).mono ?_
  rintro e w4 ⟨rfl, hr4, hg4⟩
  cases hc : isB s tClose x.2.p x.2.bad with
  | true =>
    have HF4 := toHid (HF3.out.is_yes hR hc hr4 hg4)
    have HW4 := toHid (HW3.out.trans ((Onl.of_grown hg4).any v3))
    have EQ := toHid (closeP_yes (x := x) hc)
    clear hr4 hg4 hc
    go_wp2
    exact bodyPost_ret (v := .int .i64 x.1) (by simp [results, Try.results58, go_sem]) rfl (by rw [EQ.out]; exact ⟨v3, ns, rfl, HF4.out, HW4.out, HNS.out⟩)
  | false =>
    have HF4 := toHid (HF3.out.is_no hR hc hr4 hg4)
    have HW4 := toHid (HW3.out.trans ((Onl.of_grown hg4).any v3))
    have c2 := HF4.out.rd.c2
    have f2 := HF4.out.rd.fr 2
    have hl := HF4.out.rd.lt
    have EQ := toHid (closeP_no (x := x) hc)
    clear hr4 hg4 hc
    go_wp2
    exact bodyPost_ret (v := .int .i64 x.1) (by simp [results, Try.results58, go_sem]) rfl (by rw [EQ.out]; exact ⟨v3, ns, rfl, HF4.out.over hR ((Onl.refl R nilV w4).at_own _ _) HF4.out.rd.hurt, HW4.out.trans (((Onl.refl R nilV w4).at_own _ _).any v3), HNS.out⟩)
end Go.Proofs.Ytjmbgpdbnffkpaa
