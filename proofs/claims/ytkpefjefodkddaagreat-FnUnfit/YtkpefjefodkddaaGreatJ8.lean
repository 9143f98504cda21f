/- The document's reader in memory: its block, its nodes, each node's lists in blocks of their own; one more node. -/
import Derived.Test.YtkpefjefodkddaaGreatRdxAdd
import Derived.Test.YtkpefjefodkddaaGreatJ2
import Derived.Test.YtkpefjefodkddaaGreatJ5
namespace Go.Proofs.YtkpefjefodkddaaGreat
set_option maxRecDepth 100000
open Go.ChangeShapes Go.WideShapes Go.ChangeAt Go.RowKit
open Pl
structure Went (R : Nat) (v : Value) (w : World) (v' : Value) (w' : World) : Prop where
 onl : Onl R v w w'
 own : v'.ownBlock = v.ownBlock ∨ ∃ g, v'.ownBlock = some g ∧ w.heap.size ≤ g
theorem Onl.refl (R : Nat) (v : Value) (w : World) : Onl R v w w := ⟨rfl, rfl, rfl, Nat.le_refl _, fun _ _ _ _ => rfl⟩
theorem Went.refl (R : Nat) (v : Value) (w : World) : Went R v w v w := ⟨Onl.refl R v w, .inl rfl⟩
theorem Went.apart {R : Nat} {v v' : Value} {w w' : World} (h : Went R v w v' w') {k : Nat} (hk : k < w.heap.size) (hv : v.ownBlock ≠ some k) : v'.ownBlock ≠ some k := by
 rcases h.own with e | ⟨g, e, hg⟩
 ·rw [e]; exact hv
 ·rw [e]; intro h2; injection h2 with h2; omega
theorem Went.trans {R : Nat} {v v1 v2 : Value} {w w1 w2 : World} (h : Went R v w v1 w1) (h2 : Went R v1 w1 v2 w2) : Went R v w v2 w2 := by
 refine ⟨⟨h2.onl.os.trans h.onl.os, h2.onl.tape.trans h.onl.tape, h2.onl.output.trans h.onl.output, Nat.le_trans h.onl.size h2.onl.size, fun k hk h3 h4 => (h2.onl.block k (Nat.lt_of_lt_of_le hk h.onl.size) h3 (h.apart hk h4)).trans (h.onl.block k hk h3 h4)⟩, ?_⟩
 rcases h2.own with e | ⟨g, e, hg⟩
 ·rw [e]; exact h.own
 ·exact .inr ⟨g, e, Nat.le_trans h.onl.size hg⟩
abbrev nilV : Value := .slice none 0 0
theorem Onl.any {R : Nat} {w w' : World} (h : Onl R nilV w w') (v : Value) : Went R v w v w' := ⟨⟨h.os, h.tape, h.output, h.size, fun k hk h1 _ => h.block k hk h1 (by simp [Value.ownBlock])⟩, .inl rfl⟩
theorem Onl.of_grown {R : Nat} {w w' : World} (h : w.grownBy w' (some R)) : Onl R nilV w w' := ⟨h.os, h.tape, h.output, h.size, fun k hk h1 _ => h.block k hk (fun e => h1 (by injection e))⟩
theorem Onl.trans0 {R : Nat} {w w1 w2 : World} (h : Onl R nilV w w1) (h2 : Onl R nilV w1 w2) : Onl R nilV w w2 := ((h.any nilV).trans (h2.any nilV)).onl
theorem Onl.of_below {R : Nat} {w w' : World} (h : Below w.heap.size w w') : Onl R nilV w w' := ⟨h.os, h.tape, h.output, h.size, fun k hk _ _ => h.block k hk⟩
structure RdF (w : World) (R : Nat) (s : ByteArray) (st : RS) (base : Nat) (v : Value) (qs : List ER) : Prop where
 rd : RdC w R s st.p st.bad v
 own : w.ownsRow base 92 5 v qs.length (rows5 qs)
 out : exs qs = st.out
 zA : ∀ q ∈ qs, q.e.allow ≠ [] → ∃ g, q.adA = some ⟨g, 0, none⟩
 zK : ∀ q ∈ qs, q.e.kids ≠ [] → ∃ g, q.adK = some ⟨g, 0, none⟩
 ok : ∀ q ∈ qs, q.ok w
 lie : ∀ q ∈ qs, ∀ g, inR q g → base ≤ g ∧ g < w.heap.size ∧ Free w g ∧ v.ownBlock ≠ some g
 one : ∀ q ∈ qs, ∀ g, bA q g → ¬ bK q g
 two : ∀ (x y : Nat) (hx : x < qs.length) (hy : y < qs.length), x ≠ y → ∀ g, inR qs[x] g → ¬ inR qs[y] g
 cA : ∀ q ∈ qs, q.e.allow.length ≤ q.capA
theorem SlA.heap {w w' : World} {ad : Option Addr} {xs : List Al} (h : SlA w ad xs) (hs : w.heap.size ≤ w'.heap.size) (hz : xs ≠ [] → ∃ g, ad = some ⟨g, 0, none⟩) (hn : ∀ g, xs ≠ [] → ad = some ⟨g, 0, none⟩ → w'.heap[g]? = w.heap[g]?) : SlA w' ad xs := by
 rcases h with h | ⟨b, off, e, hb, hr⟩
 ·exact .inl h
 ·by_cases hx : xs = []
  ·exact .inl hx
  ·obtain ⟨g, eg⟩ := hz hx
   have e2 := e
   rw [eg] at e; injection e with e; injection e with e1 e3
   subst e1
   have hh := hn g hx eg
   exact .inr ⟨g, off, e2, Nat.lt_of_lt_of_le hb hs, fun i hi => ⟨(World.cell?_of_block (w := w) (a := ⟨g, _, none⟩) hh).trans (hr i hi).1, (World.cell?_of_block (w := w) (a := ⟨g, _, none⟩) hh).trans (hr i hi).2⟩⟩
theorem SlI.heap {w w' : World} {ad : Option Addr} {xs : List Int} (h : SlI w ad xs) (hs : w.heap.size ≤ w'.heap.size) (hz : xs ≠ [] → ∃ g, ad = some ⟨g, 0, none⟩) (hn : ∀ g, xs ≠ [] → ad = some ⟨g, 0, none⟩ → w'.heap[g]? = w.heap[g]?) : SlI w' ad xs := by
 rcases h with h | ⟨b, off, e, hb, hr⟩
 ·exact .inl h
 ·by_cases hx : xs = []
  ·exact .inl hx
  ·obtain ⟨g, eg⟩ := hz hx
   have e2 := e
   rw [eg] at e; injection e with e; injection e with e1 e3
   subst e1
   have hh := hn g hx eg
   exact .inr ⟨g, off, e2, Nat.lt_of_lt_of_le hb hs, fun i hi => (World.cell?_of_block (w := w) (a := ⟨g, _, none⟩) hh).trans (hr i hi)⟩
theorem ok_heap {w w' : World} {q : ER} (h : q.ok w) (hs : w.heap.size ≤ w'.heap.size) (zA : q.e.allow ≠ [] → ∃ g, q.adA = some ⟨g, 0, none⟩) (zK : q.e.kids ≠ [] → ∃ g, q.adK = some ⟨g, 0, none⟩) (hn : ∀ g, inR q g → w'.heap[g]? = w.heap[g]?) : q.ok w' :=
 ⟨h.1.heap hs zA fun g h1 h2 => hn g (.inl ⟨h1, h2⟩), h.2.heap hs zK fun g h1 h2 => hn g (.inr ⟨h1, h2⟩)⟩
theorem free_heap {w w' : World} {g : Nat} (h : Free w g) (hh : w'.heap[g]? = w.heap[g]?) : Free w' g := fun j => (World.frozen?_of_block (w := w) (a := ⟨g, j, none⟩) hh).trans (h j)
theorem own_heap {w w' : World} {base : Nat} {e : TypeId} {size : Nat} {v : Value} {n : Nat} {xs : List Value} (h : w.ownsRow base e size v n xs) (hh : ∀ g, v.ownBlock = some g → w'.heap[g]? = w.heap[g]?) : w'.ownsRow base e size v n xs := by
 refine ⟨h.1, ?_⟩
 rcases h.2 with hl | ⟨g, cap, cur, rfl, h1, h2, h3⟩
 ·exact .inl hl
 ·exact .inr ⟨g, cap, cur, rfl, h1, (hh g rfl).trans h2, h3⟩
theorem RdF.over {w w' : World} {R : Nat} {s : ByteArray} {st : RS} {base : Nat} {v : Value} {qs : List ER} (h : RdF w R s st base v qs) (hR : R < base) (ho : Onl R nilV w w') {p : Nat} {bad : Bool} (hr : RdC w' R s p bad v) : RdF w' R s ⟨p, bad, st.out⟩ base v qs where
 rd := hr
 own := own_heap h.own fun g hg => ho.block g (h.own.lt g hg).2 (by have := (h.own.lt g hg).1; omega) (by simp [Value.ownBlock])
 out := h.out
 zA := h.zA
 zK := h.zK
 ok q hq := ok_heap (h.ok q hq) ho.size (h.zA q hq) (h.zK q hq) fun g hg => ho.block g (h.lie q hq g hg).2.1 (by have := (h.lie q hq g hg).1; omega) (by simp [Value.ownBlock])
 lie q hq g hg := by
  obtain ⟨h1, h2, h3, h4⟩ := h.lie q hq g hg
  exact ⟨h1, Nat.lt_of_lt_of_le h2 ho.size, free_heap h3 (ho.block g h2 (by omega) (by simp [Value.ownBlock])), h4⟩
 one := h.one
 two := h.two
 cA := h.cA
structure NewQ (X : Nat) (w : World) (q : ER) : Prop where
 zA : q.e.allow ≠ [] → ∃ g, q.adA = some ⟨g, 0, none⟩
 zK : q.e.kids ≠ [] → ∃ g, q.adK = some ⟨g, 0, none⟩
 ok : q.ok w
 lie : ∀ g, inR q g → X ≤ g ∧ g < w.heap.size ∧ Free w g
 one : ∀ g, bA q g → ¬ bK q g
 cA : q.e.allow.length ≤ q.capA
theorem rows5_snoc (qs : List ER) (q : ER) : rows5 (qs ++ [q]) = rows5 qs ++ q.row := by simp [rows5]
theorem addF (R : Nat) (s : ByteArray) (st : RS) (base : Nat) (v : Value) (qs : List ER) (q : ER) (w : World) (h : RdF w R s st base v qs) (hR : R < base) (hB : base ≤ w.heap.size) (hn : qs.length ≤ 100000)
  (hq : NewQ base w q) (ha : ∀ g, inR q g → v.ownBlock ≠ some g ∧ ∀ q' ∈ qs, ¬ inR q' g) :
  Calls Tryz.prog 132 #[.pointer (some ⟨R, 0, none⟩), q.val] w fun e w' => ∃ v', e = .returned (.int .i64 (st.out.length : Int)) ∧ RdF w' R s (addP q.e st) base v' (qs ++ [q]) ∧ Went R v w v' w' := by
 have hlen : qs.length = st.out.length := by rw [← h.out]; simp [exs]
 refine (add_any R s st.p st.bad v base qs.length (rows5 qs) q w h.rd h.own hR hB hn).mono ?_
 rintro e w' ⟨g, cap, rfl, hrd, hown, honl, hat⟩
 have hW : Went R v w (.slice (some ⟨g, 0, none⟩) (qs.length + 1) cap) w' := ⟨honl, by
  rcases hat with e | e
  ·exact .inl (by rw [e]; rfl)
  ·exact .inr ⟨g, rfl, e⟩⟩
 have keep : ∀ k, k < w.heap.size → base ≤ k → v.ownBlock ≠ some k → w'.heap[k]? = w.heap[k]? := fun k h1 h2 h3 => honl.block k h1 (by omega) h3
 refine ⟨.slice (some ⟨g, 0, none⟩) (qs.length + 1) cap, by rw [hlen], ?_, hW⟩
 refine ⟨by unfold addP; rw [← hlen]; exact hrd, ?_, ?_, ?_, ?_, ?_, ?_, ?_, ?_, ?_⟩
 ·rw [List.length_append, List.length_singleton, rows5_snoc]; exact hown
 ·simp [exs, addP, ← h.out]
 ·intro q' hq'
  rcases List.mem_append.1 hq' with h1 | h1
  ·exact h.zA q' h1
  ·rw [List.mem_singleton] at h1; subst h1; exact hq.zA
 ·intro q' hq'
  rcases List.mem_append.1 hq' with h1 | h1
  ·exact h.zK q' h1
  ·rw [List.mem_singleton] at h1; subst h1; exact hq.zK
 ·intro q' hq'
  rcases List.mem_append.1 hq' with h1 | h1
  ·exact ok_heap (h.ok q' h1) honl.size (h.zA q' h1) (h.zK q' h1) fun k hk => keep k (h.lie q' h1 k hk).2.1 (h.lie q' h1 k hk).1 (h.lie q' h1 k hk).2.2.2
  ·rw [List.mem_singleton] at h1; subst h1
   exact ok_heap hq.ok honl.size hq.zA hq.zK fun k hk => keep k (hq.lie k hk).2.1 (hq.lie k hk).1 (ha k hk).1
 ·intro q' hq' k hk
  rcases List.mem_append.1 hq' with h1 | h1
  ·obtain ⟨a1, a2, a3, a4⟩ := h.lie q' h1 k hk
   exact ⟨a1, Nat.lt_of_lt_of_le a2 honl.size, free_heap a3 (keep k a2 a1 a4), hW.apart a2 a4⟩
  ·rw [List.mem_singleton] at h1; subst h1
   obtain ⟨a1, a2, a3⟩ := hq.lie k hk
   exact ⟨a1, Nat.lt_of_lt_of_le a2 honl.size, free_heap a3 (keep k a2 a1 (ha k hk).1), hW.apart a2 (ha k hk).1⟩
 ·intro q' hq'
  rcases List.mem_append.1 hq' with h1 | h1
  ·exact h.one q' h1
  ·rw [List.mem_singleton] at h1; subst h1; exact hq.one
 ·intro x y hx hy hxy k hkx hky
  rw [List.length_append, List.length_singleton] at hx hy
  by_cases ex : x < qs.length
  ·rw [List.getElem_append_left ex] at hkx
   by_cases ey : y < qs.length
   ·rw [List.getElem_append_left ey] at hky
    exact h.two x y ex ey hxy k hkx hky
   ·have : y = qs.length := by omega
    subst this
    rw [List.getElem_append_right (Nat.le_refl _)] at hky
    simp at hky
    exact (ha k hky).2 _ (List.getElem_mem ex) hkx
  ·have : x = qs.length := by omega
   subst this
   rw [List.getElem_append_right (Nat.le_refl _)] at hkx
   simp at hkx
   have ey : y < qs.length := by omega
   rw [List.getElem_append_left ey] at hky
   exact (ha k hkx).2 _ (List.getElem_mem ey) hky
 ·intro q' hq'
  rcases List.mem_append.1 hq' with h1 | h1
  ·exact h.cA q' h1
  ·rw [List.mem_singleton] at h1; subst h1; exact hq.cA
end Go.Proofs.YtkpefjefodkddaaGreat
namespace Go.Proofs.YtkpefjefodkddaaGreat
set_option maxRecDepth 100000
open Go.ChangeShapes Go.WideShapes Go.ChangeAt Go.RowKit
open Pl
def RPost (R : Nat) (s : ByteArray) (base : Nat) (v : Value) (qs : List ER) (w : World) (x : Int × RS) (e : Ending) (w' : World) : Prop :=
 ∃ v' ns, e = .returned (.int .i64 x.1) ∧ RdF w' R s x.2 base v' (qs ++ ns) ∧ Went R v w v' w' ∧ ∀ q ∈ ns, ∀ g, inR q g → w.heap.size ≤ g
def closeP (s : ByteArray) (x : Int × RS) : Int × RS := if isP s tClose x.2 then (x.1, onP tClose x.2) else (x.1, endP x.2)
theorem closeP_yes {s : ByteArray} {x : Int × RS} (h : isB s tClose x.2.p x.2.bad = true) : closeP s x = (x.1, onP tClose x.2) := if_pos h
theorem closeP_no {s : ByteArray} {x : Int × RS} (h : isB s tClose x.2.p x.2.bad = false) : closeP s x = (x.1, endP x.2) := if_neg (fun e => by rw [isP, ← isB, h] at e; cases e)
theorem RdF.is_no {w w' : World} {R : Nat} {s t : ByteArray} {st : RS} {base : Nat} {v : Value} {qs : List ER} (h : RdF w R s st base v qs) (hR : R < base) (hb : isB s t st.p st.bad = false) (hr : RdC w' R s (isE s t st.p st.bad) st.bad v) (hg : w.grownBy w' (some R)) : RdF w' R s st base v qs := by
 rw [isE_no hb] at hr
 exact h.over hR (Onl.of_grown hg) hr
theorem RdF.is_yes {w w' : World} {R : Nat} {s t : ByteArray} {st : RS} {base : Nat} {v : Value} {qs : List ER} (h : RdF w R s st base v qs) (hR : R < base) (hb : isB s t st.p st.bad = true) (hr : RdC w' R s (isE s t st.p st.bad) st.bad v) (hg : w.grownBy w' (some R)) : RdF w' R s (onP t st) base v qs := by
 rw [isE_yes hb] at hr
 exact h.over hR (Onl.of_grown hg) hr
theorem isB_le {s t : ByteArray} {p : Nat} {bad : Bool} (h : isB s t p bad = true) : p + t.size ≤ s.size := by
 unfold isB at h
 simp only [Bool.and_eq_true] at h
 exact litAt_le h.2
set_option maxHeartbeats 4000000 in
theorem item_row (R : Nat) (s : ByteArray) (st : RS) (base : Nat) (v : Value) (qs : List ER) (w : World) (h : RdF w R s st base v qs) (hR : R < base) (hs : s.size ≤ 1000) (hp : st.p ≤ s.size)
  (h0 : isB s tThis st.p st.bad = false) (h1 : isB s tOpen st.p st.bad = true) (x : Int × RS) (hx : x.2.p ≤ s.size)
  (hrow : ∀ w1, RdF w1 R s (onP tOpen st) base v qs → w.heap.size ≤ w1.heap.size → Calls Tryz.prog 118 #[.pointer (some ⟨R, 0, none⟩)] w1 (RPost R s base v qs w1 x)) :
  Calls Tryz.prog 129 #[.pointer (some ⟨R, 0, none⟩)] w (RPost R s base v qs w (closeP s x)) := by
 have H := toHid h
 have HROW := toHid hrow
 have HX := toHid hx
 have HP := toHid hp
 clear h hrow hx hp
 go_enter Tryz.func129, Tryz.ntmps129
 go_wp2_with fail
 refine (is_any R s tThis st.p st.bad v w H.out.rd hs HP.out (by decide)).mono ?_
 rintro e w1 ⟨rfl, hr1, hg1⟩
 have HF1 := toHid (H.out.is_no hR h0 hr1 hg1)
 have HO1 := toHid (Onl.of_grown hg1)
 rw [h0]
 clear hr1 hg1 h0
 go_wp2_with fail
 refine (is_any R s tOpen st.p st.bad v w1 HF1.out.rd hs HP.out (by decide)).mono ?_
 rintro e w2 ⟨rfl, hr2, hg2⟩
 have HF2 := toHid (HF1.out.is_yes hR h1 hr2 hg2)
 have HO2 := toHid (HO1.out.trans0 (Onl.of_grown hg2))
 rw [h1]
 clear hr2 hg2 h1
 go_wp2_with fail
 refine (HROW.out w2 HF2.out HO2.out.size).mono ?_
 rintro e w3 ⟨v3, ns, rfl, hF3, hW3, hns⟩
 have HF3 := toHid hF3
 have HW3 := toHid ((HO2.out.any v).trans hW3)
 have HNS : Hid (∀ q ∈ ns, ∀ g, inR q g → w.heap.size ≤ g) := fun q hq g hg => Nat.le_trans HO2.out.size (hns q hq g hg)
 clear hF3 hW3 hns HF1 HO1 HF2 HO2 HROW
 go_wp2_with fail
 refine (is_any R s tClose x.2.p x.2.bad v3 w3 HF3.out.rd hs HX.out (by decide)).mono ?_
 rintro e w4 ⟨rfl, hr4, hg4⟩
 cases hc : isB s tClose x.2.p x.2.bad with
 | true =>
  have HF4 := toHid (HF3.out.is_yes hR hc hr4 hg4)
  have HW4 := toHid (HW3.out.trans ((Onl.of_grown hg4).any v3))
  have EQ := toHid (closeP_yes (x := x) hc)
  clear hr4 hg4 hc
  go_wp2
  exact bodyPost_ret (v := .int .i64 x.1) (by simp [results, Tryz.results129, go_sem]) rfl (by rw [EQ.out]; exact ⟨v3, ns, rfl, HF4.out, HW4.out, HNS.out⟩)
 | false =>
  have HF4 := toHid (HF3.out.is_no hR hc hr4 hg4)
  have HW4 := toHid (HW3.out.trans ((Onl.of_grown hg4).any v3))
  have c2 := HF4.out.rd.c2
  have f2 := HF4.out.rd.fr 2
  have hl := HF4.out.rd.lt
  have EQ := toHid (closeP_no (x := x) hc)
  clear hr4 hg4 hc
  go_wp2
  exact bodyPost_ret (v := .int .i64 x.1) (by simp [results, Tryz.results129, go_sem]) rfl (by rw [EQ.out]; exact ⟨v3, ns, rfl, HF4.out.over hR ((Onl.refl R nilV w4).at_own _ _) HF4.out.rd.hurt, HW4.out.trans (((Onl.refl R nilV w4).at_own _ _).any v3), HNS.out⟩)
end Go.Proofs.YtkpefjefodkddaaGreat
namespace Go.Proofs.YtkpefjefodkddaaGreat
open Go.ChangeShapes Go.WideShapes Go.ChangeAt Go.RowKit
open Pl
theorem l1In_any (n lo hi : Int) (w : World) :
  Calls Tryz.prog 58 #[.int .i64 n, .int .i64 lo, .int .i64 hi] w fun e w' => e = .returned (.bool (decide (lo ≤ n) && decide (n ≤ hi))) ∧ w' = w := by
 go_enter Tryz.func58, Tryz.ntmps58
 go_wp2
 all_goals go_ret
 all_goals exact ⟨ret_bool (by simp [*] <;> omega), rfl⟩
set_option maxRecDepth 8000 in
set_option maxHeartbeats 2000000 in
theorem l2NodeOk_plain (r : ER) (w : World) (hf : r.e.fits) (h1 : r.e.kind ≠ 1) :
  Calls Tryz.prog 57 #[r.val] w fun e w' => e = .returned (.bool (nodeB r.e)) ∧ Below w.heap.size w w' := by
 obtain ⟨⟨kind, allow, over, name, kids⟩, adA, capA, adK, capK⟩ := r
 obtain ⟨f1, f2, f3, f4, f5⟩ := hf
 simp only at f1 f2 f3 f4 f5 h1
 simp only [ER.val]
 unfold maxLen at f4 f5
 by_cases h2 : kind = 2
 ·subst h2
  clear h1
  go_enter Tryz.func57, Tryz.ntmps57
  go_wp2_with (go_at_call 30; refine (specName_any _ _ (by assumption)).mono ?_; rintro e w' ⟨rfl, rfl⟩)
  all_goals go_ret
  all_goals exact ⟨ret_bool (by first | (simp [nodeB, *]; done) | (simp [nodeB, *]; omega) | (simp [nodeB, *]; rw [Bool.eq_iff_iff]; simp; done) | (simp [nodeB, *]; rw [Bool.eq_iff_iff]; simp; omega)), (Below.refl w.heap.size w).alloc (Nat.le_refl _) _⟩
 by_cases h3 : kind = 3
 ·subst h3
  clear h1
  go_enter Tryz.func57, Tryz.ntmps57
  go_wp2_with (go_at_call 30; refine (specName_any _ _ (by assumption)).mono ?_; rintro e w' ⟨rfl, rfl⟩)
  all_goals go_ret
  all_goals exact ⟨ret_bool (by first | (simp [nodeB, *]; done) | (simp [nodeB, *]; omega) | (simp [nodeB, *]; rw [Bool.eq_iff_iff]; simp; done) | (simp [nodeB, *]; rw [Bool.eq_iff_iff]; simp; omega)), (Below.refl w.heap.size w).alloc (Nat.le_refl _) _⟩
 by_cases h4 : kind = 4
 ·subst h4
  clear h1
  go_enter Tryz.func57, Tryz.ntmps57
  go_wp2_with (go_at_call 30; refine (specName_any _ _ (by assumption)).mono ?_; rintro e w' ⟨rfl, rfl⟩)
  all_goals go_ret
  all_goals exact ⟨ret_bool (by first | (simp [nodeB, *]; done) | (simp [nodeB, *]; omega) | (simp [nodeB, *]; rw [Bool.eq_iff_iff]; simp; done) | (simp [nodeB, *]; rw [Bool.eq_iff_iff]; simp; omega)), (Below.refl w.heap.size w).alloc (Nat.le_refl _) _⟩
 by_cases h5 : kind = 5
 ·subst h5
  clear h1
  go_enter Tryz.func57, Tryz.ntmps57
  go_wp2_with (go_at_call 30; refine (specName_any _ _ (by assumption)).mono ?_; rintro e w' ⟨rfl, rfl⟩)
  all_goals go_ret
  all_goals exact ⟨ret_bool (by first | (simp [nodeB, *]; done) | (simp [nodeB, *]; omega) | (simp [nodeB, *]; rw [Bool.eq_iff_iff]; simp; done) | (simp [nodeB, *]; rw [Bool.eq_iff_iff]; simp; omega)), (Below.refl w.heap.size w).alloc (Nat.le_refl _) _⟩
 by_cases h6 : kind = 6
 ·subst h6
  clear h1
  go_enter Tryz.func57, Tryz.ntmps57
  go_wp2_with (go_at_call 30; refine (specName_any _ _ (by assumption)).mono ?_; rintro e w' ⟨rfl, rfl⟩)
  all_goals go_ret
  all_goals exact ⟨ret_bool (by first | (simp [nodeB, *]; done) | (simp [nodeB, *]; omega) | (simp [nodeB, *]; rw [Bool.eq_iff_iff]; simp; done) | (simp [nodeB, *]; rw [Bool.eq_iff_iff]; simp; omega)), (Below.refl w.heap.size w).alloc (Nat.le_refl _) _⟩
 ·go_enter Tryz.func57, Tryz.ntmps57
  go_wp2_with (go_at_call 30; refine (specName_any _ _ (by assumption)).mono ?_; rintro e w' ⟨rfl, rfl⟩)
  all_goals go_ret
  all_goals exact ⟨ret_bool (by first | (simp [nodeB, *]; done) | (simp [nodeB, *]; omega) | (simp [nodeB, *]; rw [Bool.eq_iff_iff]; simp; done) | (simp [nodeB, *]; rw [Bool.eq_iff_iff]; simp; omega)), (Below.refl w.heap.size w).alloc (Nat.le_refl _) _⟩
theorem al_eql (x y : Al) {v : Bool} (h : alEq x y = v) (w : World) :
  (binOp .eql 102 (.agg #[.string x.t, .string x.s]) (.agg #[.string y.t, .string y.s])).run Tryz.prog w = .ok (.bool v) w := by
 subst h
 go_simp
 unfold alEq
 by_cases h1 : x.t.toList = y.t.toList <;> by_cases h2 : x.s.toList = y.s.toList <;> simp [h1, h2]
theorem inPre_hit {xs : List Al} {j k : Nat} {a : Al} (hjk : j < k) (hj : j < xs.length) (h : alEq xs[j] a = true) : inPre xs k a = true := by
 unfold inPre
 rw [List.any_eq_true]
 refine ⟨xs[j], ?_, h⟩
 rw [List.mem_take_iff_getElem]
 exact ⟨j, by omega, rfl⟩
set_option maxRecDepth 8000 in
set_option maxHeartbeats 4000000 in
theorem l2NodeOk_this (r : ER) (w : World) (hf : r.e.fits) (hok : r.ok w) (h1 : r.e.kind = 1) :
  Calls Tryz.prog 57 #[r.val] w fun e w' => e = .returned (.bool (nodeB r.e)) ∧ Below w.heap.size w w' := by
 obtain ⟨⟨kind, allow, over, name, kids⟩, adA, capA, adK, capK⟩ := r
 obtain ⟨f1, f2, f3, f4, f5⟩ := hf
 obtain ⟨hA, hK⟩ := hok
 simp only at f1 f2 f3 f4 f5 h1 hA hK
 subst h1
 simp only [ER.val]
 unfold maxLen at f4 f5
 by_cases hl : 1 ≤ allow.length ∧ allow.length ≤ 6
 ·obtain ⟨hl1, hl2⟩ := hl
  obtain ⟨W, hW⟩ : ∃ W, W = w.alloc (.cells #[.int .i64 1, .slice adA allow.length capA, .string over, .string name, .slice adK kids.length capK] 92) := ⟨_, rfl⟩
  have HB0 : Hid (Below w.heap.size w W) := by show Below _ _ _; rw [hW]; exact (Below.refl w.heap.size w).alloc (Nat.le_refl _) _
  have hz : w.heap.size < W.heap.size := by rw [hW]; simp
  have b1 : W.cell? ⟨w.heap.size, 1, none⟩ = some (.slice adA allow.length capA) := by rw [hW]; simp
  have b2 : W.cell? ⟨w.heap.size, 2, none⟩ = some (.string over) := by rw [hW]; simp
  have b3 : W.cell? ⟨w.heap.size, 3, none⟩ = some (.string name) := by rw [hW]; simp
  have HA : Hid (SlA W adA allow) := hA.below HB0.out
  have HF1 : Hid (∀ a ∈ allow, a.fits) := f1
  clear hA hK f1
  go_enter Tryz.func57, Tryz.ntmps57
  go_wp2_with fail
  rw [← hW]
  clear hW
  go_loopw [4] (fun i wr => ∃ k : Nat, k ≤ allow.length ∧ i = .int .i64 k ∧ Hid (upA allow k = true) ∧ Below W.heap.size W wr) (fun i _ => allow.length - (intOf i).toNat)
  case atStart => exact ⟨0, Nat.zero_le _, rfl, rfl, Below.refl _ _⟩
  case round =>
   obtain ⟨k, hk, rfl, HU, hB⟩ := hrel
   have a1 := kept hB hz b1
   have a2 := kept hB hz b2
   have a3 := kept hB hz b3
   by_cases hlt : k < allow.length
   ·rcases HA.out.below hB with rfl | ⟨b, off, rfl, hb, hr⟩
    ·simp at hlt
    obtain ⟨t0, t1⟩ := hr k hlt
    obtain ⟨z0, z1⟩ := HF1.out allow[k] (List.getElem_mem hlt)
    have HR : Hid (∀ (i : Nat) (h : i < allow.length), At2 wr b (off + i * 2) allow[i]) := hr
    clear hr
    obtain ⟨W1, hW1⟩ : ∃ W1, W1 = wr.alloc (.cells #[.string allow[k].t, .string allow[k].s] 102) := ⟨_, rfl⟩
    have hal : Below wr.heap.size wr W1 := by rw [hW1]; exact (Below.refl _ _).alloc (Nat.le_refl _) _
    have hBW1 : Below W.heap.size wr W1 := hal.mono hB.size
    have hsz : w.heap.size < wr.heap.size := Nat.lt_of_lt_of_le hz hB.size
    have hWs : W.heap.size ≤ W1.heap.size := Nat.le_trans hB.size hal.size
    have c1 := kept hal hsz a1
    have c2 := kept hal hsz a2
    have c3 := kept hal hsz a3
    have hbl : b < W1.heap.size := Nat.lt_of_lt_of_le hb hal.size
    have hgl : wr.heap.size < W1.heap.size := by rw [hW1]; simp
    have g0 : W1.cell? ⟨wr.heap.size, 0, none⟩ = some (.string allow[k].t) := by rw [hW1]; simp
    have g1 : W1.cell? ⟨wr.heap.size, 1, none⟩ = some (.string allow[k].s) := by rw [hW1]; simp
    have HR1 : Hid (∀ (i : Nat) (h : i < allow.length), At2 W1 b (off + i * 2) allow[i]) := fun i hi => (HR.out i hi).same fun o => hal.cell (p := ⟨b, o, none⟩) hb
    cases hn : nameB allow[k].t with
    | false =>
     have HN : Hid (upA allow allow.length = false) := upA_bad allow k hlt (by simp [alB, hn]) _ hlt
     go_wp2_with (go_at_call 30; refine (specName_any _ _ (by assumption)).mono ?_; rintro e w' ⟨rfl, rfl⟩)
     go_ret
     exact ⟨ret_bool (by simp [nodeB, allowB, HN.out]), HB0.out.trans ((hB.trans ((Below.refl _ _).alloc hB.size _)).mono HB0.out.size)⟩
    | true =>
     cases he : allow[k].s.toList.isEmpty with
     | true =>
      have HAl : Hid (alB allow[k] = true) := by show _ = _; simp [alB, setB', hn, he]
      go_wp2_with (go_at_call 30; refine (specName_any _ _ (by assumption)).mono ?_; rintro e w' ⟨rfl, rfl⟩)
      rw [← hW1]
      go_loopw [6] (fun i w2 => ∃ j : Nat, j ≤ k ∧ i = .int .i64 j ∧ Hid (inPre allow j allow[k] = false) ∧ Below W1.heap.size W1 w2) (fun i _ => k - (intOf i).toNat)
      case atStart => exact ⟨0, Nat.zero_le _, rfl, inPre_zero _ _, Below.refl _ _⟩
      case round =>
       obtain ⟨j, hj, rfl, HP, hB2⟩ := hrel
       rename_i w2 _
       have d1 := kept hB2 (by omega) c1
       have d2 := kept hB2 (by omega) c2
       have d3 := kept hB2 (by omega) c3
       have p0 := kept hB2 hgl g0
       have p1 := kept hB2 hgl g1
       by_cases hjk : j < k
       ·obtain ⟨q0, q1⟩ := (HR1.out j (by omega)).same fun o => hB2.cell (p := ⟨b, o, none⟩) hbl
        have hj1 : (0 : Int) ≤ (j : Int) := by omega
        have hj2 : (j : Int) < (allow.length : Int) := by omega
        cases hq : alEq allow[j] allow[k] with
        | true =>
         have HE := al_eql allow[j] allow[k] hq
         have HN : Hid (upA allow allow.length = false) := upA_bad allow k hlt (by rw [(inPre_hit hjk (by omega) hq)]; simp) _ hlt
         go_wp2_with fail
         go_quiet (fail)
         go_wp2
         go_ret
         exact ⟨ret_bool (by simp [nodeB, allowB, HN.out]), HB0.out.trans ((hB.trans (hBW1.trans (hB2.mono (by omega)))).mono HB0.out.size |> fun h => below_drewN h _)⟩
        | false =>
         have HE := al_eql allow[j] allow[k] hq
         have HP2 : Hid (inPre allow (j + 1) allow[k] = false) := by show _ = _; rw [inPre_succ _ _ _ (by omega), HP.out, hq]; rfl
         go_wp2_with fail
         go_quiet (fail)
         go_wp2
         go_roundw
         case rel => exact ⟨j + 1, by omega, by go_num, HP2, below_drewN hB2 _⟩
         case measure => simp [intOf]; omega
       ·obtain rfl : j = k := by omega
        have HU2 : Hid (upA allow (j + 1) = true) := by show _ = _; rw [upA_succ _ _ hlt, HU.out, HAl.out, HP.out]; rfl
        go_wp2
        go_roundw
        case rel => exact ⟨j + 1, by omega, by go_num, HU2, hB.trans (hBW1.trans (hB2.mono (by omega)))⟩
        case measure => simp [intOf]; omega
     | false =>
      cases hm : nameB allow[k].s with
      | false =>
       have HN : Hid (upA allow allow.length = false) := upA_bad allow k hlt (by simp [alB, hn, setB', he, hm]) _ hlt
       go_wp2_with (go_at_call 30; refine (specName_any _ _ (by assumption)).mono ?_; rintro e w' ⟨rfl, rfl⟩)
       go_ret
       exact ⟨ret_bool (by simp [nodeB, allowB, HN.out]), HB0.out.trans ((hB.trans ((Below.refl _ _).alloc hB.size _)).mono HB0.out.size)⟩
      | true =>
       have HAl : Hid (alB allow[k] = true) := by show _ = _; simp [alB, setB', hn, he, hm]
       go_wp2_with (go_at_call 30; refine (specName_any _ _ (by assumption)).mono ?_; rintro e w' ⟨rfl, rfl⟩)
       rw [← hW1]
       go_loopw [6] (fun i w2 => ∃ j : Nat, j ≤ k ∧ i = .int .i64 j ∧ Hid (inPre allow j allow[k] = false) ∧ Below W1.heap.size W1 w2) (fun i _ => k - (intOf i).toNat)
       case atStart => exact ⟨0, Nat.zero_le _, rfl, inPre_zero _ _, Below.refl _ _⟩
       case round =>
        obtain ⟨j, hj, rfl, HP, hB2⟩ := hrel
        rename_i w2 _
        have d1 := kept hB2 (by omega) c1
        have d2 := kept hB2 (by omega) c2
        have d3 := kept hB2 (by omega) c3
        have p0 := kept hB2 hgl g0
        have p1 := kept hB2 hgl g1
        by_cases hjk : j < k
        ·obtain ⟨q0, q1⟩ := (HR1.out j (by omega)).same fun o => hB2.cell (p := ⟨b, o, none⟩) hbl
         have hj1 : (0 : Int) ≤ (j : Int) := by omega
         have hj2 : (j : Int) < (allow.length : Int) := by omega
         cases hq : alEq allow[j] allow[k] with
         | true =>
          have HE := al_eql allow[j] allow[k] hq
          have HN : Hid (upA allow allow.length = false) := upA_bad allow k hlt (by rw [(inPre_hit hjk (by omega) hq)]; simp) _ hlt
          go_wp2_with fail
          go_quiet (fail)
          go_wp2
          go_ret
          exact ⟨ret_bool (by simp [nodeB, allowB, HN.out]), HB0.out.trans ((hB.trans (hBW1.trans (hB2.mono (by omega)))).mono HB0.out.size |> fun h => below_drewN h _)⟩
         | false =>
          have HE := al_eql allow[j] allow[k] hq
          have HP2 : Hid (inPre allow (j + 1) allow[k] = false) := by show _ = _; rw [inPre_succ _ _ _ (by omega), HP.out, hq]; rfl
          go_wp2_with fail
          go_quiet (fail)
          go_wp2
          go_roundw
          case rel => exact ⟨j + 1, by omega, by go_num, HP2, below_drewN hB2 _⟩
          case measure => simp [intOf]; omega
        ·obtain rfl : j = k := by omega
         have HU2 : Hid (upA allow (j + 1) = true) := by show _ = _; rw [upA_succ _ _ hlt, HU.out, HAl.out, HP.out]; rfl
         go_wp2
         go_roundw
         case rel => exact ⟨j + 1, by omega, by go_num, HU2, hB.trans (hBW1.trans (hB2.mono (by omega)))⟩
         case measure => simp [intOf]; omega
   ·obtain rfl : k = allow.length := by omega
    have HAW : Hid (allowB allow = true) := by show _ = _; simp [allowB, hl1, hl2, HU.out]
    go_wp2
    all_goals go_ret
    all_goals exact ⟨ret_bool (by first | (simp [nodeB, HAW.out, *]; done) | (simp [nodeB, HAW.out, *]; rw [Bool.eq_iff_iff]; simp; done)), HB0.out.trans (hB.mono HB0.out.size)⟩
 ·go_enter Tryz.func57, Tryz.ntmps57
  go_wp2_with fail
  all_goals go_ret
  all_goals exact ⟨ret_bool (by simp [nodeB, allowB]; omega), (Below.refl w.heap.size w).alloc (Nat.le_refl _) _⟩
theorem l2NodeOk_any (r : ER) (w : World) (hf : r.e.fits) (hok : r.ok w) :
  Calls Tryz.prog 57 #[r.val] w fun e w' => e = .returned (.bool (nodeB r.e)) ∧ Below w.heap.size w w' := by
 by_cases h : r.e.kind = 1
 ·exact l2NodeOk_this r w hf hok h
 ·exact l2NodeOk_plain r w hf h
end Go.Proofs.YtkpefjefodkddaaGreat
