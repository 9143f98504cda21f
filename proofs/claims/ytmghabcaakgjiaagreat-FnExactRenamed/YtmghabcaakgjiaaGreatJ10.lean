/- Lists in memory whose elements hold lists again, each in a row and in a block of its own: one more at the end, another last one. Expressions, relations and types as such lists. -/
import Derived.Test.YtmghabcaakgjiaaGreatJ9
import Derived.Test.YtmghabcaakgjiaaGreatJ2
import Derived.Maps.AppendAt
namespace Go.Proofs.YtmghabcaakgjiaaGreat
set_option maxRecDepth 100000
set_option linter.unusedVariables false
open Go.ChangeShapes Go.WideShapes Go.ChangeAt Go.RowKit
open Pl
structure Kid {α : Type} (K : World → Nat → α → Prop) (I : α → Nat → Prop) : Prop where
 heap : ∀ (w w' : World) (base : Nat) (q : α), K w base q → w.heap.size ≤ w'.heap.size → (∀ g, I q g → w'.heap[g]? = w.heap[g]?) → K w' base q
 lt : ∀ (w : World) (base : Nat) (q : α), K w base q → ∀ g, I q g → base ≤ g ∧ g < w.heap.size
def inLot {α : Type} (I : α → Nat → Prop) (v : Value) (rs : List α) (g : Nat) : Prop := v.ownBlock = some g ∨ ∃ q ∈ rs, I q g
structure LotM {α : Type} (T : TypeId) (size : Nat) (cells : α → List Value) (K : World → Nat → α → Prop) (I : α → Nat → Prop) (w : World) (base : Nat) (v : Value) (rs : List α) : Prop where
 own : w.ownsRow base T size v rs.length (rs.flatMap cells)
 kid : ∀ q ∈ rs, K w base q
 head : ∀ q ∈ rs, ∀ g, I q g → v.ownBlock ≠ some g
 two : ∀ (x y : Nat) (hx : x < rs.length) (hy : y < rs.length), x ≠ y → ∀ g, I rs[x] g → ¬ I rs[y] g
section
variable {α : Type} {T : TypeId} {size : Nat} {cells : α → List Value} {K : World → Nat → α → Prop} {I : α → Nat → Prop} {w w' : World} {base : Nat} {v : Value} {rs : List α}
theorem LotM.lt (kd : Kid K I) (h : LotM T size cells K I w base v rs) {g : Nat} (hg : inLot I v rs g) : base ≤ g ∧ g < w.heap.size := by
 rcases hg with hg | ⟨q, hq, hg⟩
 ·exact h.own.lt g hg
 ·exact kd.lt w base q (h.kid q hq) g hg
theorem LotM.heap (kd : Kid K I) (h : LotM T size cells K I w base v rs) (hs : w.heap.size ≤ w'.heap.size) (hh : ∀ g, inLot I v rs g → w'.heap[g]? = w.heap[g]?) : LotM T size cells K I w' base v rs where
 own := own_heap h.own fun g hg => hh g (.inl hg)
 kid q hq := kd.heap w w' base q (h.kid q hq) hs fun g hg => hh g (.inr ⟨q, hq, hg⟩)
 head := h.head
 two := h.two
theorem LotM.below (kd : Kid K I) (h : LotM T size cells K I w base v rs) (hb : Below w.heap.size w w') : LotM T size cells K I w' base v rs :=
 h.heap kd hb.size fun g hg => hb.block g (h.lt kd hg).2
theorem lotM_nil (w : World) (base : Nat) : LotM T size cells K I w base (.slice none 0 0) [] :=
 ⟨World.ownsRow_nil _ _ _ _, fun q hq => (by cases hq), fun q hq => (by cases hq), fun x y hx => absurd hx (by simp)⟩
theorem two_snoc {rs : List α} {q : α} (h : ∀ (x y : Nat) (hx : x < rs.length) (hy : y < rs.length), x ≠ y → ∀ g, I rs[x] g → ¬ I rs[y] g) (hq : ∀ p ∈ rs, ∀ g, I p g → ¬ I q g) :
  ∀ (x y : Nat) (hx : x < (rs ++ [q]).length) (hy : y < (rs ++ [q]).length), x ≠ y → ∀ g, I (rs ++ [q])[x] g → ¬ I (rs ++ [q])[y] g := by
 intro x y hx hy hxy g h1 h2
 rw [List.length_append, List.length_singleton] at hx hy
 by_cases ex : x < rs.length
 ·rw [List.getElem_append_left ex] at h1
  by_cases ey : y < rs.length
  ·rw [List.getElem_append_left ey] at h2
   exact h x y ex ey hxy g h1 h2
  ·have : y = rs.length := by omega
   subst this
   rw [List.getElem_append_right (Nat.le_refl _)] at h2
   simp at h2
   exact hq _ (List.getElem_mem ex) g h1 h2
 ·have : x = rs.length := by omega
  subst this
  rw [List.getElem_append_right (Nat.le_refl _)] at h1
  simp at h1
  have ey : y < rs.length := by omega
  rw [List.getElem_append_left ey] at h2
  exact hq _ (List.getElem_mem ey) g h2 h1
theorem two_init {rs : List α} {q : α} (h : ∀ (x y : Nat) (hx : x < (rs ++ [q]).length) (hy : y < (rs ++ [q]).length), x ≠ y → ∀ g, I (rs ++ [q])[x] g → ¬ I (rs ++ [q])[y] g) :
  (∀ (x y : Nat) (hx : x < rs.length) (hy : y < rs.length), x ≠ y → ∀ g, I rs[x] g → ¬ I rs[y] g) ∧ ∀ p ∈ rs, ∀ g, I p g → ¬ I q g := by
 refine ⟨fun x y hx hy hxy g h1 h2 => ?_, fun p hp g h1 h2 => ?_⟩
 ·exact h x y (by simp; omega) (by simp; omega) hxy g (by rw [List.getElem_append_left hx]; exact h1) (by rw [List.getElem_append_left hy]; exact h2)
 ·obtain ⟨x, hx, rfl⟩ := List.getElem_of_mem hp
  exact h x rs.length (by simp; omega) (by simp) (by omega) g (by rw [List.getElem_append_left hx]; exact h1) (by rw [List.getElem_append_right (Nat.le_refl _)]; simpa using h2)
theorem LotM.snoc (kd : Kid K I) (h : LotM T size cells K I w base v rs) {q : α} {v' : Value} (hown : w'.ownsRow base T size v' (rs.length + 1) (rs.flatMap cells ++ cells q)) (hg : w.grownBy w' v.ownBlock) (hat : v'.ownBlock = v.ownBlock ∨ ∃ g, v'.ownBlock = some g ∧ w.heap.size ≤ g)
  (hq : K w base q) (hv : ∀ g, I q g → v.ownBlock ≠ some g) (hr : ∀ p ∈ rs, ∀ g, I p g → ¬ I q g) : LotM T size cells K I w' base v' (rs ++ [q]) := by
 have keep : ∀ (p : α), K w base p → (∀ g, I p g → v.ownBlock ≠ some g) → K w' base p := fun p hp hn => kd.heap w w' base p hp hg.size fun g hi => hg.block g (kd.lt w base p hp g hi).2 (fun e => hn g hi e.symm)
 have apart : ∀ (p : α), K w base p → (∀ g, I p g → v.ownBlock ≠ some g) → ∀ g, I p g → v'.ownBlock ≠ some g := fun p hp hn g hi => by
  rcases hat with e | ⟨g', e, hge⟩
  ·rw [e]; exact hn g hi
  ·rw [e]; intro e2; injection e2 with e2; have := (kd.lt w base p hp g hi).2; omega
 refine ⟨by simpa using hown, fun p hp => ?_, fun p hp => ?_, two_snoc h.two hr⟩
 ·rcases List.mem_append.1 hp with hp | hp
  ·exact keep p (h.kid p hp) (h.head p hp)
  ·rw [List.mem_singleton] at hp; subst hp; exact keep _ hq hv
 ·rcases List.mem_append.1 hp with hp | hp
  ·exact apart p (h.kid p hp) (h.head p hp)
  ·rw [List.mem_singleton] at hp; subst hp; exact apart _ hq hv
theorem LotM.last (kd : Kid K I) {xs : List α} {q q' : α} {b n cap j : Nat} {u : Value} {w1 : World} {row : Option Nat} (h : LotM T size cells K I w base (.slice (some ⟨b, 0, none⟩) n cap) (xs ++ [q])) (hn : n = xs.length + 1)
  (hg : w.grownBy w1 row) (hrow : ∀ r, row = some r → I q r) (hq' : K w1 base q') (hI : ∀ g, I q' g → I q g ∨ (g ≠ b ∧ ∀ p ∈ xs, ¬ I p g)) (hset : ((xs ++ [q]).flatMap cells).set j u = (xs ++ [q']).flatMap cells) :
  LotM T size cells K I (w1.setCell ⟨b, j, none⟩ u) base (.slice (some ⟨b, 0, none⟩) n cap) (xs ++ [q']) := by
 have hbl : b < w.heap.size := (h.own.lt b rfl).2
 have hq := h.kid q (by simp)
 have hqb : ∀ g, I q g → g ≠ b := fun g hi e => h.head q (by simp) g hi (by rw [e]; rfl)
 have hq'b : ∀ g, I q' g → g ≠ b := fun g hi e => by
  rcases hI g hi with h2 | h2
  ·exact hqb g h2 e
  ·exact h2.1 e
 have hb1 : w1.heap[b]? = w.heap[b]? := hg.block b hbl (fun e => hqb b (hrow b e.symm) rfl)
 have own1 : w1.ownsRow base T size (.slice (some ⟨b, 0, none⟩) n cap) (xs ++ [q]).length ((xs ++ [q]).flatMap cells) := own_heap h.own fun g hgo => by
  have e : b = g := by simpa [Value.ownBlock] using hgo
  rw [← e]; exact hb1
 have hlen : (xs ++ [q]).length = n := by simp [hn]
 rw [hlen] at own1
 obtain ⟨own2, hg2⟩ := own1.stored j u
 rw [hset] at own2
 obtain ⟨ht1, ht2⟩ := two_init h.two
 have h2s : ∀ g, g ≠ b → (w1.setCell ⟨b, j, none⟩ u).heap[g]? = w1.heap[g]? := fun g hne => Below.heap_setCell w1 _ u g hne
 refine ⟨by simpa [hn] using own2, fun p hp => ?_, fun p hp g hi => ?_, two_snoc ht1 fun p hp g hi hi' => ?_⟩
 ·rcases List.mem_append.1 hp with hp | hp
  ·have hkp := h.kid p (by simp [hp])
   refine kd.heap w _ base p hkp (Nat.le_trans hg.size hg2.size) fun g hi => ?_
   have hl := (kd.lt w base p hkp g hi).2
   rw [h2s g (fun e => h.head p (by simp [hp]) g hi (by rw [e]; rfl))]
   exact hg.block g hl (fun e => ht2 p hp g hi (hrow g e.symm))
  ·rw [List.mem_singleton] at hp; subst hp
   exact kd.heap w1 _ base _ hq' hg2.size fun g hi => h2s g (hq'b g hi)
 ·intro e
  have e : b = g := by simpa [Value.ownBlock] using e
  rcases List.mem_append.1 hp with hp | hp
  ·exact h.head p (by simp [hp]) g hi (by rw [← e]; rfl)
  ·rw [List.mem_singleton] at hp; subst hp
   exact hq'b g hi e.symm
 ·rcases hI g hi' with h2 | h2
  ·exact ht2 p hp g hi h2
  ·exact h2.2 p hp hi
end
structure NodM (w : World) (base : Nat) (v : Value) (qs : List ER) : Prop where
 own : w.ownsRow base 50 5 v qs.length (rows5 qs)
 zA : ∀ q ∈ qs, q.e.allow ≠ [] → ∃ g, q.adA = some ⟨g, 0, none⟩
 zK : ∀ q ∈ qs, q.e.kids ≠ [] → ∃ g, q.adK = some ⟨g, 0, none⟩
 ok : ∀ q ∈ qs, q.ok w
 lie : ∀ q ∈ qs, ∀ g, inR q g → base ≤ g ∧ g < w.heap.size ∧ Free w g ∧ v.ownBlock ≠ some g
 one : ∀ q ∈ qs, ∀ g, bA q g → ¬ bK q g
 two : ∀ (x y : Nat) (hx : x < qs.length) (hy : y < qs.length), x ≠ y → ∀ g, inR qs[x] g → ¬ inR qs[y] g
 cA : ∀ q ∈ qs, q.e.allow.length ≤ q.capA
theorem NodM.mono {w : World} {base base' : Nat} {v : Value} {qs : List ER} (h : NodM w base v qs) (hb : base' ≤ base) : NodM w base' v qs :=
 ⟨⟨h.own.1, by
  rcases h.own.2 with hl | ⟨g, cap, cur, e, h1, h2⟩
  ·exact .inl hl
  ·exact .inr ⟨g, cap, cur, e, Nat.le_trans hb h1, h2⟩⟩, h.zA, h.zK, h.ok, fun q hq g hg => ⟨Nat.le_trans hb (h.lie q hq g hg).1, (h.lie q hq g hg).2⟩, h.one, h.two, h.cA⟩
def RR.vs (q : RR) : Value := .slice q.ad q.rows.length q.cap
def TR.vs (q : TR) : Value := .slice q.ad q.rows.length q.cap
def kR (w : World) (base : Nat) (q : RR) : Prop := NodM w base q.vs q.rows
def iR (q : RR) : Nat → Prop := inLot inR q.vs q.rows
theorem kidR : Kid kR iR where
 heap w w' base q h hs hh := {
  own := own_heap h.own fun g hg => hh g (.inl hg)
  zA := h.zA
  zK := h.zK
  ok := fun x hx => ok_heap (h.ok x hx) hs (h.zA x hx) (h.zK x hx) fun g hg => hh g (.inr ⟨x, hx, hg⟩)
  lie := fun x hx g hg => by
   obtain ⟨a1, a2, a3, a4⟩ := h.lie x hx g hg
   exact ⟨a1, Nat.lt_of_lt_of_le a2 hs, free_heap a3 (hh g (.inr ⟨x, hx, hg⟩)), a4⟩
  one := h.one
  two := h.two
  cA := h.cA }
 lt w base q h g hg := by
  rcases hg with hg | ⟨x, hx, hg⟩
  ·exact h.own.lt g hg
  ·exact ⟨(h.lie x hx g hg).1, (h.lie x hx g hg).2.1⟩
def RR.cells (q : RR) : List Value := [.string q.name, q.vs]
def TR.cells (q : TR) : List Value := [.string q.name, q.vs]
abbrev RelM := LotM 46 2 RR.cells kR iR
def kT (w : World) (base : Nat) (q : TR) : Prop := RelM w base q.vs q.rows
def iT (q : TR) : Nat → Prop := inLot iR q.vs q.rows
theorem kidT : Kid kT iT where
 heap w w' base q h hs hh := LotM.heap kidR h hs hh
 lt w base q h g hg := LotM.lt kidR h hg
abbrev TypM := LotM 44 2 TR.cells kT iT
theorem cells2_at {α : Type} {cells : α → List Value} (h2 : ∀ q, (cells q).length = 2) : ∀ (rs : List α) (i : Nat) (h : i < rs.length) (j : Nat), j < 2 → (rs.flatMap cells)[i * 2 + j]? = (cells rs[i])[j]?
 | [], i, h, _, _ => by simp at h
 | r :: rs, 0, _, j, hj => by
  simp only [List.flatMap_cons, Nat.zero_mul, Nat.zero_add, List.getElem_cons_zero]
  rw [List.getElem?_append_left (by rw [h2]; exact hj)]
 | r :: rs, i + 1, h, j, hj => by
  have := cells2_at h2 rs i (by simpa using h) j hj
  simp only [List.flatMap_cons, List.getElem_cons_succ]
  rw [List.getElem?_append_right (by rw [h2]; omega), h2, ← this]
  congr 1
  omega
theorem cells2_len {α : Type} {cells : α → List Value} (h2 : ∀ q, (cells q).length = 2) : ∀ (rs : List α), (rs.flatMap cells).length = rs.length * 2
 | [] => rfl
 | r :: rs => by simp only [List.flatMap_cons, List.length_append, h2, cells2_len h2 rs, List.length_cons]; omega
theorem slR_of {w : World} {base : Nat} {q : TR} (h : kT w base q) : SlR w q.ad q.rows := by
 by_cases hz : q.rows = []
 ·exact .inl hz
 rcases h.own.2 with ⟨-, h0⟩ | ⟨g, cap, cur, e, -⟩
 ·exact absurd (List.length_eq_zero_iff.1 h0) hz
 ·have h3 := h.own
  unfold TR.vs at e h3
  injection e with e1 e2 e3
  rw [e1] at h3
  refine .inr ⟨g, 0, e1, (h3.lt g rfl).2, fun i hi => ?_, fun r hr => ?_⟩
  ·have hl : (q.rows.flatMap RR.cells).length = q.rows.length * 2 := cells2_len (fun _ => rfl) _
   have key : ∀ j, j < 2 → w.cell? ⟨g, 0 + i * 2 + j, none⟩ = (RR.cells q.rows[i])[j]? := fun j hj => by
    rw [h3.cellAt (0 + i * 2 + j) (by omega), ← cells2_at (fun _ => rfl) q.rows i hi j hj, Nat.zero_add]
   exact ⟨key 0 (by omega), key 1 (by omega)⟩
  ·have hk := h.kid r hr
   obtain ⟨ad, cap', e4, hsl⟩ := ownsE hk.own rfl hk.ok
   unfold RR.vs at e4
   injection e4 with e5 e6 e7
   show SlE w r.ad r.rows
   rw [e5]; exact hsl
theorem cap_le {w : World} {base size n cap : Nat} {e : TypeId} {ad : Option Addr} {xs : List Value} (h : w.ownsRow base e size (.slice ad n cap) n xs) : n ≤ cap := by
 rcases h.2 with ⟨e1, h0⟩ | ⟨g, cap', cur, e1, -, -, hnc, -⟩
 ·injection e1 with _ e2 e3; omega
 ·injection e1 with _ e2 e3; omega
theorem TypM.read {w : World} {base : Nat} {v : Value} {rs : List TR} (h : TypM w base v rs) : ∃ ad cap, v = .slice ad rs.length cap ∧ SlT w ad rs ∧ ∀ r ∈ rs, r.caps := by
 have hc : ∀ r ∈ rs, r.caps := fun r hr => ⟨cap_le (h.kid r hr).own, fun q hq => ⟨cap_le ((h.kid r hr).kid q hq).own, ((h.kid r hr).kid q hq).cA⟩⟩
 rcases h.own.2 with ⟨rfl, h0⟩ | ⟨g, cap, cur, rfl, -⟩
 ·exact ⟨none, 0, by rw [h0], .inl (List.length_eq_zero_iff.1 h0), hc⟩
 ·have h3 := h.own
  refine ⟨some ⟨g, 0, none⟩, cap, rfl, .inr ⟨g, 0, rfl, (h3.lt g rfl).2, fun i hi => ?_, fun r hr => slR_of (h.kid r hr)⟩, hc⟩
  have hl : (rs.flatMap TR.cells).length = rs.length * 2 := cells2_len (fun _ => rfl) _
  have key : ∀ j, j < 2 → w.cell? ⟨g, 0 + i * 2 + j, none⟩ = (TR.cells rs[i])[j]? := fun j hj => by
   rw [h3.cellAt (0 + i * 2 + j) (by omega), ← cells2_at (fun _ => rfl) rs i hi j hj, Nat.zero_add]
  exact ⟨key 0 (by omega), key 1 (by omega)⟩
end Go.Proofs.YtmghabcaakgjiaaGreat
namespace Go.Proofs.YtmghabcaakgjiaaGreat
set_option maxRecDepth 100000
set_option linter.unusedVariables false
open Go.ChangeShapes Go.WideShapes Go.ChangeAt Go.RowKit
open Pl
def kE (w : World) (base : Nat) (q : ER) : Prop := NewQ base w q
theorem kidE : Kid kE inR where
 heap w w' base q h hs hh := ⟨h.zA, h.zK, ok_heap h.ok hs h.zA h.zK hh, fun g hg => by
  obtain ⟨a1, a2, a3⟩ := h.lie g hg
  exact ⟨a1, Nat.lt_of_lt_of_le a2 hs, free_heap a3 (hh g hg)⟩, h.one, h.cA⟩
 lt w base q h g hg := ⟨(h.lie g hg).1, (h.lie g hg).2.1⟩
abbrev ExM := LotM 50 5 ER.row kE inR
theorem ExM.nod {w : World} {base : Nat} {v : Value} {qs : List ER} (h : ExM w base v qs) : NodM w base v qs :=
 ⟨h.own, fun q hq => (h.kid q hq).zA, fun q hq => (h.kid q hq).zK, fun q hq => (h.kid q hq).ok, fun q hq g hg => ⟨((h.kid q hq).lie g hg).1, ((h.kid q hq).lie g hg).2.1, ((h.kid q hq).lie g hg).2.2, h.head q hq g hg⟩, fun q hq => (h.kid q hq).one, h.two, fun q hq => (h.kid q hq).cA⟩
theorem NodM.ex {w : World} {base : Nat} {v : Value} {qs : List ER} (h : NodM w base v qs) : ExM w base v qs :=
 ⟨h.own, fun q hq => ⟨h.zA q hq, h.zK q hq, h.ok q hq, fun g hg => ⟨(h.lie q hq g hg).1, (h.lie q hq g hg).2.1, (h.lie q hq g hg).2.2.1⟩, h.one q hq, h.cA q hq⟩, fun q hq g hg => (h.lie q hq g hg).2.2.2, h.two⟩
theorem NewQ.mono {X Y : Nat} {w : World} {q : ER} (h : NewQ X w q) (hY : Y ≤ X) : NewQ Y w q := ⟨h.zA, h.zK, h.ok, fun g hg => ⟨Nat.le_trans hY (h.lie g hg).1, (h.lie g hg).2⟩, h.one, h.cA⟩
section
variable {α : Type} {T : TypeId} {size : Nat} {cells : α → List Value} {K : World → Nat → α → Prop} {I : α → Nat → Prop} {w w0 w' : World} {base : Nat} {v : Value} {rs : List α}
theorem LotM.snocN (kd : Kid K I) (h0 : LotM T size cells K I w0 base v rs) (hb0 : Below w0.heap.size w0 w) {q : α} {v' : Value} (hown : w'.ownsRow base T size v' (rs.length + 1) (rs.flatMap cells ++ cells q)) (hg : w.grownBy w' v.ownBlock) (hat : v'.ownBlock = v.ownBlock ∨ ∃ g, v'.ownBlock = some g ∧ w.heap.size ≤ g)
  (hq : K w base q) (hn : ∀ g, I q g → w0.heap.size ≤ g) : LotM T size cells K I w' base v' (rs ++ [q]) :=
 (h0.below kd hb0).snoc kd hown hg hat hq (fun g hg e => by have := (h0.own.lt g e).2; have := hn g hg; omega) (fun p hp g h1 h2 => by have := (kd.lt w0 base p (h0.kid p hp) g h1).2; have := hn g h2; omega)
end
theorem free_own {w : World} {base size n : Nat} {e : TypeId} {v : Value} {xs : List Value} (h : w.ownsRow base e size v n xs) {g : Nat} (hg : v.ownBlock = some g) : Free w g := fun j => by
 rcases h.2 with ⟨rfl, -⟩ | ⟨g', cap, cur, rfl, -, h2, -⟩
 ·simp [Value.ownBlock] at hg
 ·have e : g' = g := by simpa [Value.ownBlock] using hg
  subst e
  simp [World.frozen?, h2]
theorem own_zero {w : World} {base size n cap : Nat} {e : TypeId} {ad : Option Addr} {xs : List Value} (h : w.ownsRow base e size (.slice ad n cap) n xs) (hn : n ≠ 0) : ∃ g, ad = some ⟨g, 0, none⟩ ∧ (Value.slice ad n cap).ownBlock = some g := by
 rcases h.2 with ⟨-, h0⟩ | ⟨g, cap', cur, e1, -⟩
 ·exact absurd h0 hn
 ·injection e1 with e1
  exact ⟨g, e1, by rw [e1]; rfl⟩
theorem NodM.sepE {w : World} {base : Nat} {v : Value} {qs : List ER} (h : NodM w base v qs) {b : Nat} (hb : v.ownBlock = some b) : SepE b qs :=
 ⟨h.zA, h.zK, fun r hr hg => (h.lie r hr b hg).2.2.2 hb, h.one, h.two⟩
theorem blkR_iR {w : World} {base : Nat} {r : RR} (h : kR w base r) {g : Nat} (hg : blkR r g) : iR r g := by
 rcases hg with ⟨hne, e⟩ | ⟨q, hq, hg⟩
 ·exact .inl (by unfold RR.vs; rw [e]; rfl)
 ·exact .inr ⟨q, hq, hg⟩
theorem kR.good {w : World} {base : Nat} {r : RR} (h : kR w base r) : GoodR r := fun hne => by
 obtain ⟨g, e1, e2⟩ := own_zero h.own (fun e => hne (List.length_eq_zero_iff.1 e))
 exact ⟨g, e1, h.sepE e2⟩
theorem iR_free {w : World} {base : Nat} {r : RR} (h : kR w base r) {g : Nat} (hg : iR r g) : Free w g := by
 rcases hg with hg | ⟨q, hq, hg⟩
 ·exact free_own h.own hg
 ·exact (h.lie q hq g hg).2.2.1
theorem kT.sepR {w : World} {base : Nat} {t : TR} (h : kT w base t) {b : Nat} (hb : t.vs.ownBlock = some b) : SepR b t.rows :=
 ⟨fun r hr => (h.kid r hr).good, fun r hr hg => h.head r hr b (blkR_iR (h.kid r hr) hg) hb, fun x y hx hy hne g h1 h2 => h.two x y hx hy hne g (blkR_iR (h.kid _ (List.getElem_mem hx)) h1) (blkR_iR (h.kid _ (List.getElem_mem hy)) h2)⟩
theorem blkT_iT {w : World} {base : Nat} {t : TR} (h : kT w base t) {g : Nat} (hg : blkT t g) : iT t g := by
 rcases hg with ⟨hne, e⟩ | ⟨q, hq, hg⟩
 ·exact .inl (by unfold TR.vs; rw [e]; rfl)
 ·exact .inr ⟨q, hq, blkR_iR (h.kid q hq) hg⟩
theorem kT.good {w : World} {base : Nat} {t : TR} (h : kT w base t) : GoodT t := fun hne => by
 obtain ⟨g, e1, e2⟩ := own_zero h.own (fun e => hne (List.length_eq_zero_iff.1 e))
 exact ⟨g, e1, h.sepR e2⟩
theorem iT_free {w : World} {base : Nat} {t : TR} (h : kT w base t) {g : Nat} (hg : iT t g) : Free w g := by
 rcases hg with hg | ⟨q, hq, hg⟩
 ·exact free_own h.own hg
 ·exact iR_free (h.kid q hq) hg
theorem TypM.sepT {w : World} {base : Nat} {v : Value} {rs : List TR} (h : TypM w base v rs) {b : Nat} (hb : v.ownBlock = some b) : SepT b rs :=
 ⟨fun r hr => kT.good (h.kid r hr), fun r hr hg => h.head r hr b (blkT_iT (h.kid r hr) hg) hb, fun x y hx hy hne g h1 h2 => h.two x y hx hy hne g (blkT_iT (h.kid _ (List.getElem_mem hx)) h1) (blkT_iT (h.kid _ (List.getElem_mem hy)) h2)⟩
theorem TypM.freeP {w : World} {base : Nat} {v : Value} {rs : List TR} (h : TypM w base v rs) {b : Nat} (hb : v.ownBlock = some b) : FreeP w (insT b rs) := fun g hg => by
 rcases hg with rfl | ⟨r, hr, hg⟩
 ·exact ⟨(h.own.lt _ hb).2, free_own h.own hb⟩
 ·exact ⟨(kidT.lt w base r (h.kid r hr) g (blkT_iT (h.kid r hr) hg)).2, iT_free (h.kid r hr) (blkT_iT (h.kid r hr) hg)⟩
theorem TypM.blocks {w : World} {base : Nat} {v : Value} {rs : List TR} (h : TypM w base v rs) {b : Nat} (hb : v.ownBlock = some b) : ∀ g, insT b rs g → base ≤ g := fun g hg => by
 rcases hg with rfl | ⟨r, hr, hg⟩
 ·exact (h.own.lt _ hb).1
 ·exact (kidT.lt w base r (h.kid r hr) g (blkT_iT (h.kid r hr) hg)).1
end Go.Proofs.YtmghabcaakgjiaaGreat
namespace Go.Proofs.YtmghabcaakgjiaaGreat
set_option maxRecDepth 100000
set_option linter.unusedVariables false
open Go.ChangeShapes Go.WideShapes Go.ChangeAt Go.RowKit Go.Maps
open Pl
def movX (f : Int → Int) (e : Ex) : Ex := { e with kids := e.kids.map f }
theorem capsA_le {w : World} {base n m cap : Nat} {e : TypeId} {size : Nat} {ad : Option Addr} {xs : List Value} (h : w.ownsRow base e size (.slice ad n cap) m xs) : n ≤ cap := by
 rcases h.2 with ⟨e1, h0⟩ | ⟨g, cap', cur, e1, -, -, hnc, -⟩
 ·injection e1 with _ e2 e3; omega
 ·injection e1 with _ e2 e3; omega
set_option maxHeartbeats 4000000 in
theorem movedNode_any (F g : Nat) (f : Int → Int) (r : ER) (w : World) (hok : r.ok w) (hlA : r.e.allow.length ≤ 1048576) (hlK : r.e.kids.length ≤ 1048576) (hrun : ∀ (xs : Array Value) (u : World), (callFunc F xs).run Tryz.prog u = .ok (.enter F xs) u) (hpl : ∀ x ∈ r.e.kids, ∀ w1 : World, Below w.heap.size w w1 → Calls Tryz.prog F #[.int .i64 x, .pointer (some ⟨g, 0, none⟩)] w1 fun e w' => e = .returned (.int .i64 (f x)) ∧ w' = w1) :
  Calls Tryz.prog 92 #[r.val, .func (Fn.func F) #[] #[.pointer (some ⟨g, 0, none⟩)]] w fun e w' => ∃ q : ER, e = .returned q.val ∧ q.e = movX f r.e ∧ NewQ w.heap.size w' q ∧ Below w.heap.size w w' := by
 obtain ⟨iA, hiA, zA0, zA1, zA2⟩ := info_parts (P := Tryz.prog) (e := 90) (z := .agg #[.string ⟨#[]⟩, .string ⟨#[]⟩]) (size := 2) (bytes := 32) (by kernel_rfl)
 obtain ⟨iI, hiI, zI0, zI1, zI2⟩ := info_parts (P := Tryz.prog) (e := 2) (z := .int .i64 0) (size := 1) (bytes := 8) (by kernel_rfl)
 have HIA : Hid (Tryz.prog.info? 90 = some iA ∧ iA.zero = some (.agg #[.string ⟨#[]⟩, .string ⟨#[]⟩]) ∧ iA.size = 2 ∧ iA.bytes = 32) := ⟨hiA, zA0, zA1, zA2⟩
 have HII : Hid (Tryz.prog.info? 2 = some iI ∧ iI.zero = some (.int .i64 0) ∧ iI.size = 1 ∧ iI.bytes = 8) := ⟨hiI, zI0, zI1, zI2⟩
 have HOK : Hid (r.ok w) := hok
 have HPL : Hid (∀ x ∈ r.e.kids, ∀ w1 : World, Below w.heap.size w w1 → Calls Tryz.prog F #[.int .i64 x, .pointer (some ⟨g, 0, none⟩)] w1 fun e w' => e = .returned (.int .i64 (f x)) ∧ w' = w1) := hpl
 have HRUN : Hid (∀ (xs : Array Value) (u : World), (callFunc F xs).run Tryz.prog u = .ok (.enter F xs) u) := hrun
 clear hok hpl hrun hiA zA0 zA1 zA2 hiI zI0 zI1 zI2
 obtain ⟨W1, hW1⟩ : ∃ W1, W1 = (w.alloc (.cells #[.int .i64 r.e.kind, .slice r.adA r.e.allow.length r.capA, .string r.e.over, .string r.e.name, .slice r.adK r.e.kids.length r.capK] 50)).alloc (.cells #[.int .i64 0, .slice none 0 0, .string ⟨#[]⟩, .string ⟨#[]⟩, .slice none 0 0] 50) := ⟨_, rfl⟩
 have HB1 : Hid (Below w.heap.size w W1) := by show Below _ _ _; rw [hW1]; exact ((Below.refl _ _).alloc (Nat.le_refl _) _).alloc (by simp) _
 have hgl : w.heap.size + 1 < W1.heap.size := by rw [hW1]; simp
 have HSA1 : Hid (SlA W1 r.adA r.e.allow) := HOK.out.1.below HB1.out
 have HP : Hid (W1.cell? ⟨w.heap.size, 0, none⟩ = some (.int .i64 r.e.kind) ∧ W1.cell? ⟨w.heap.size, 1, none⟩ = some (.slice r.adA r.e.allow.length r.capA) ∧ W1.cell? ⟨w.heap.size, 2, none⟩ = some (.string r.e.over) ∧ W1.cell? ⟨w.heap.size, 3, none⟩ = some (.string r.e.name) ∧ W1.cell? ⟨w.heap.size, 4, none⟩ = some (.slice r.adK r.e.kids.length r.capK) ∧ (∀ y, W1.frozen? ⟨w.heap.size, y, none⟩ = false) ∧ (∀ y, W1.frozen? ⟨w.heap.size + 1, y, none⟩ = false) ∧ ∀ y, y < 5 → (W1.cell? ⟨w.heap.size + 1, y, none⟩).isSome = true) := by
  rw [hW1]
  refine ⟨by simp, by simp, by simp, by simp, by simp, fun y => by simp, fun y => ?_, fun y hy => ?_⟩
  ·simp
  ·have := World.cell?_alloc_mark (w.alloc (.cells #[.int .i64 r.e.kind, .slice r.adA r.e.allow.length r.capA, .string r.e.over, .string r.e.name, .slice r.adK r.e.kids.length r.capK] 50)) #[.int .i64 0, .slice none 0 0, .string ⟨#[]⟩, .string ⟨#[]⟩, .slice none 0 0] 50 (0, 0) y
   rw [show (w.alloc (.cells #[.int .i64 r.e.kind, .slice r.adA r.e.allow.length r.capA, .string r.e.over, .string r.e.name, .slice r.adK r.e.kids.length r.capK] 50)).heap.size = w.heap.size + 1 by simp] at this
   rw [this]
   have hc : y = 0 ∨ y = 1 ∨ y = 2 ∨ y = 3 ∨ y = 4 := by omega
   rcases hc with rfl | rfl | rfl | rfl | rfl <;> rfl
 go_enter Tryz.func92, Tryz.ntmps92
 unfold ER.val
 go_wp2_with (at_builtin; rw [← hW1]; clear hW1; refine wpList_append_copy _ rfl _ _ 47 rfl 90 iA (.agg #[.string ⟨#[]⟩, .string ⟨#[]⟩]) 2 32 Tryz.underlying47 HIA.out.1 HIA.out.2.1 HIA.out.2.2.1 HIA.out.2.2.2 rfl (by decide) rfl r.adA r.e.allow.length r.capA (pairs r.e.allow) rfl (pairs_len _) HSA1.out.none0 (newsAn HSA1.out) (oneCells _) (by unfold maxLen; omega) (by omega) ?_)
 intro v2 w2 hown2 hgr2
 have HB2 : Hid (Below W1.heap.size W1 w2) := (Below.refl _ _).grown hgr2 (Nat.le_refl _) (fun k hk => by cases hk)
 obtain ⟨adA, cpA, rfl, hsA, hzA, hoA⟩ := ownsA (by simpa using hown2) (by simp)
 have HCA : Hid (r.e.allow.length ≤ cpA) := capsA_le hown2
 have HSA2 : Hid (SlA w2 adA r.e.allow) := hsA
 have HZA : Hid (r.e.allow ≠ [] → ∃ g, adA = some ⟨g, 0, none⟩) := hzA
 have HOA : Hid (∀ g, r.e.allow ≠ [] → adA = some ⟨g, 0, none⟩ → W1.heap.size ≤ g ∧ g < w2.heap.size ∧ Free w2 g) := hoA
 have hg0 : w.heap.size < W1.heap.size := by omega
 have x0 : w2.cell? ⟨w.heap.size, 0, none⟩ = some (.int .i64 r.e.kind) := kept HB2.out hg0 HP.out.1
 have x1 : w2.cell? ⟨w.heap.size, 1, none⟩ = some (.slice r.adA r.e.allow.length r.capA) := kept HB2.out hg0 HP.out.2.1
 have x2 : w2.cell? ⟨w.heap.size, 2, none⟩ = some (.string r.e.over) := kept HB2.out hg0 HP.out.2.2.1
 have x3 : w2.cell? ⟨w.heap.size, 3, none⟩ = some (.string r.e.name) := kept HB2.out hg0 HP.out.2.2.2.1
 have x4 : w2.cell? ⟨w.heap.size, 4, none⟩ = some (.slice r.adK r.e.kids.length r.capK) := kept HB2.out hg0 HP.out.2.2.2.2.1
 have fx : ∀ y, w2.frozen? ⟨w.heap.size, y, none⟩ = false := fun y => keptF HB2.out hg0 (HP.out.2.2.2.2.2.1 y)
 have HY : Hid ((∀ y, w2.frozen? ⟨w.heap.size + 1, y, none⟩ = false) ∧ ∀ y, y < 5 → (w2.cell? ⟨w.heap.size + 1, y, none⟩).isSome = true) := ⟨fun y => keptF HB2.out hgl (HP.out.2.2.2.2.2.2.1 y), fun y hy => by rw [HB2.out.cell (p := ⟨w.heap.size + 1, y, none⟩) hgl]; exact HP.out.2.2.2.2.2.2.2 y hy⟩
 clear hown2 hgr2 hsA hzA hoA
 obtain ⟨W3, hW3⟩ : ∃ W3, W3 = w2.setCell ⟨w.heap.size, 1, none⟩ (.slice adA r.e.allow.length cpA) := ⟨_, rfl⟩
 have HB3 : Hid (Below w.heap.size w W3) := by
  show Below _ _ _
  rw [hW3]
  exact (HB1.out.trans (HB2.out.mono HB1.out.size)).setCell (Nat.le_refl _) _
 have HC3 : Hid (Chg (fun g => g = w.heap.size) w2 W3) := by rw [hW3]; exact Chg.set _ rfl
 have HS3 : Hid (W3.heap.size = w2.heap.size) := by show _ = _; rw [hW3]; simp
 have hw2 : w.heap.size + 1 < w2.heap.size := Nat.lt_of_lt_of_le hgl HB2.out.size
 have HX : Hid (W3.cell? ⟨w.heap.size, 0, none⟩ = some (.int .i64 r.e.kind) ∧ W3.cell? ⟨w.heap.size, 1, none⟩ = some (.slice adA r.e.allow.length cpA) ∧ W3.cell? ⟨w.heap.size, 2, none⟩ = some (.string r.e.over) ∧ W3.cell? ⟨w.heap.size, 3, none⟩ = some (.string r.e.name) ∧ W3.cell? ⟨w.heap.size, 4, none⟩ = some (.slice r.adK r.e.kids.length r.capK) ∧ (∀ y, W3.frozen? ⟨w.heap.size, y, none⟩ = false) ∧ (∀ y, W3.frozen? ⟨w.heap.size + 1, y, none⟩ = false) ∧ ∀ y, y < 5 → (W3.cell? ⟨w.heap.size + 1, y, none⟩).isSome = true) := by
  have h8 : ∀ y, W3.cell? ⟨w.heap.size + 1, y, none⟩ = w2.cell? ⟨w.heap.size + 1, y, none⟩ := fun y => HC3.out.cell hw2 (by omega)
  refine ⟨?_, ?_, ?_, ?_, ?_, fun y => ?_, fun y => ?_, fun y hy => by rw [h8]; exact HY.out.2 y hy⟩
  ·rw [hW3, setO' (by omega)]; exact x0
  ·rw [hW3]; exact setS' x1
  ·rw [hW3, setO' (by omega)]; exact x2
  ·rw [hW3, setO' (by omega)]; exact x3
  ·rw [hW3, setO' (by omega)]; exact x4
  ·rw [hW3]; simpa using fx y
  ·rw [hW3]; simpa using HY.out.1 y
 have y4 := HX.out.2.2.2.2.1
 go_wp2
 rw [← hW3]
 clear hW3 x0 x1 x2 x3 x4 fx
 go_loopw [5, 15] (fun v i wr => ∃ k : Nat, k ≤ r.e.kids.length ∧ i = .int .i64 k ∧ Hid (wr.ownsRow W3.heap.size 2 1 v k (ints ((r.e.kids.take k).map f))) ∧ Hid (Below W3.heap.size W3 wr)) (fun _ i _ => r.e.kids.length - (intOf i).toNat)
 case atStart => exact ⟨0, Nat.zero_le _, rfl, World.ownsRow_nil _ _ _ _, Below.refl _ _⟩
 case round =>
  obtain ⟨k, hk, rfl, HOW, HB⟩ := hrel
  have HBW : Hid (Below w.heap.size w wr) := HB3.out.trans (HB.out.mono HB3.out.size)
  by_cases hlt : k < r.e.kids.length
  ·rcases HOK.out.2.below HBW.out with h | ⟨b, off, hadr, hb, hr⟩
   ·rw [h] at hlt; simp at hlt
   have t0 := hr k hlt
   have hk1 : (0 : Int) ≤ (k : Int) := by omega
   have hk2 : (k : Int) < (r.e.kids.length : Int) := by omega
   rw [hadr]
   clear hr hadr
   go_wp2_with fail
   rw [HRUN.out, Oper.upon_enter]
   refine (HPL.out _ (List.getElem_mem hlt) _ HBW.out).mono ?_
   rintro e w4 ⟨rfl, rfl⟩
   go_wp2_with (at_builtin; refine wpList_append_own _ rfl _ _ 48 rfl W3.heap.size 2 iI (.int .i64 0) 1 8 Tryz.underlying48 HII.out.1 HII.out.2.1 HII.out.2.2.1 HII.out.2.2.2 rfl (by decide) _ _ _ rfl (HOW.out.alloc _) ⟨w4.heap.size, 0, none⟩ 1 1 [.int .i64 (f r.e.kids[k])] rfl rfl (cell_one_new _ _ _) (by intro u hu; simp at hu; subst hu; rfl) (by unfold maxLen; omega) (by omega) (by simp; have := HB.out.size; omega) ?_)
   intro v5 w5 hown5 hgr5 _
   have HB5 : Hid (Below W3.heap.size W3 w5) := (HB.out.alloc HB.out.size _).grown hgr5 (by simp; have := HB.out.size; omega) (fun i hi => (HOW.out.lt i hi).1)
   have HO5 : Hid (w5.ownsRow W3.heap.size 2 1 v5 (k + 1) (ints ((r.e.kids.take (k + 1)).map f))) := by
    show World.ownsRow _ _ _ _ _ _ _
    have e : ints ((r.e.kids.take (k + 1)).map f) = ints ((r.e.kids.take k).map f) ++ [.int .i64 (f r.e.kids[k])] := by
     rw [List.take_succ_eq_append_getElem hlt, List.map_append]; unfold ints; rw [List.map_append]; rfl
    rw [e]; simpa [ints] using hown5
   clear hown5 hgr5
   go_wp2
   go_roundw
   case rel => exact ⟨k + 1, by omega, by go_num, HO5, HB5⟩
   case measure => first | (simp [intOf]; done) | (simp [intOf]; omega)
  ·obtain rfl : k = r.e.kids.length := by omega
   have hown := HOW.out
   rw [List.take_length] at hown
   obtain ⟨adK, cpK, rfl, hsK, hzK, hoK⟩ := ownsI hown (by simp)
   have hml : (r.e.kids.map f).length = r.e.kids.length := by simp
   obtain ⟨q, hq⟩ : ∃ q : ER, q = ⟨movX f r.e, adA, cpA, adK, cpK⟩ := ⟨_, rfl⟩
   have hs3 := HS3.out
   have hgw : w.heap.size < W3.heap.size := by omega
   have hgw1 : w.heap.size + 1 < W3.heap.size := by omega
   obtain ⟨c0, c1, c2, c3, c4, f0, f1, h5⟩ := HX.out
   have c0 := kept HB.out hgw c0
   have c1 := kept HB.out hgw c1
   have c2 := kept HB.out hgw c2
   have c3 := kept HB.out hgw c3
   have c4 := kept HB.out hgw c4
   have f0 : ∀ y, wr.frozen? ⟨w.heap.size, y, none⟩ = false := fun y => keptF HB.out hgw (f0 y)
   have f1 : ∀ y, wr.frozen? ⟨w.heap.size + 1, y, none⟩ = false := fun y => keptF HB.out hgw1 (f1 y)
   have h5 : ∀ y, y < 5 → (wr.cell? ⟨w.heap.size + 1, y, none⟩).isSome = true := fun y hy => by rw [HB.out.cell (p := ⟨w.heap.size + 1, y, none⟩) hgw1]; exact h5 y hy
   obtain ⟨a0, u0⟩ := Option.isSome_iff_exists.mp (h5 0 (by omega))
   obtain ⟨a1, u1⟩ := Option.isSome_iff_exists.mp (h5 1 (by omega))
   obtain ⟨a2, u2⟩ := Option.isSome_iff_exists.mp (h5 2 (by omega))
   obtain ⟨a3, u3⟩ := Option.isSome_iff_exists.mp (h5 3 (by omega))
   obtain ⟨a4, u4⟩ := Option.isSome_iff_exists.mp (h5 4 (by omega))
   have HSK : Hid (SlI wr adK (r.e.kids.map f)) := hsK
   have HZK : Hid (r.e.kids.map f ≠ [] → ∃ g, adK = some ⟨g, 0, none⟩) := hzK
   have HOKK : Hid (∀ g, r.e.kids.map f ≠ [] → adK = some ⟨g, 0, none⟩ → W3.heap.size ≤ g ∧ g < wr.heap.size ∧ Free wr g) := hoK
   have HFIN : Hid (∀ w9 : World, Chg (fun g => g = w.heap.size ∨ g = w.heap.size + 1) wr w9 → NewQ w.heap.size w9 q ∧ Below w.heap.size w w9) := fun w9 hc => by
    have hb9 : Below w.heap.size w w9 := HBW.out.trans (hc.below (m := w.heap.size) (fun g hg => by rcases hg with h | h <;> omega) HBW.out.size)
    have hcA : Chg (fun g => g = w.heap.size ∨ g = w.heap.size + 1) w2 w9 := ((HC3.out.mono fun g hg => .inl hg).trans (Chg.of HB.out)).trans hc
    refine ⟨?_, hb9⟩
    rw [hq]
    refine ⟨HZA.out, HZK.out, ⟨HSA2.out.chg hcA fun g o hne e => ?_, HSK.out.chg hc fun g o hne e => ?_⟩, ?_, ?_, HCA.out⟩
    ·obtain ⟨g0, e0⟩ := HZA.out hne
     rw [e0] at e; injection e with e; injection e with e1 e2
     have := (HOA.out g0 hne e0).1
     omega
    ·obtain ⟨g0, e0⟩ := HZK.out hne
     rw [e0] at e; injection e with e; injection e with e1 e2
     have := (HOKK.out g0 hne e0).1
     omega
    ·rintro g (⟨hne, e⟩ | ⟨hne, e⟩)
     ·obtain ⟨p1, p2, p3⟩ := HOA.out g hne e
      exact ⟨by omega, Nat.lt_of_lt_of_le p2 hcA.size, hcA.free g p2 p3⟩
     ·obtain ⟨p1, p2, p3⟩ := HOKK.out g hne e
      exact ⟨by omega, Nat.lt_of_lt_of_le p2 hc.size, hc.free g p2 p3⟩
    ·rintro g ⟨hne, e⟩ ⟨hne2, e2⟩
     obtain ⟨p1, p2, p3⟩ := HOA.out g hne e
     obtain ⟨r1, r2, r3⟩ := HOKK.out g hne2 e2
     omega
   have HQV : Hid (Value.agg #[.int .i64 q.e.kind, .slice q.adA q.e.allow.length q.capA, .string q.e.over, .string q.e.name, .slice q.adK q.e.kids.length q.capK] = .agg #[.int .i64 r.e.kind, .slice adA r.e.allow.length cpA, .string r.e.over, .string r.e.name, .slice adK r.e.kids.length cpK] ∧ q.e = movX f r.e) := by
    show _ ∧ _
    rw [hq]; exact ⟨by simp [movX], rfl⟩
   have hlt1 : w.heap.size < wr.heap.size := Nat.lt_of_lt_of_le hgw HB.out.size
   have hlt2 : w.heap.size + 1 < wr.heap.size := Nat.lt_of_lt_of_le hgw1 HB.out.size
   clear hq hown hsK hzK hoK h5 y4 hs3
   rw [hml]
   clear hml
   go_wp2
   obtain ⟨W9, hW9⟩ : ∃ W9, W9 = ((((((wr.setCell ⟨w.heap.size, 4, none⟩ (.slice adK r.e.kids.length cpK)).setCell ⟨w.heap.size + 1, 0, none⟩ (.int .i64 r.e.kind)).setCell ⟨w.heap.size + 1, 1, none⟩ (.slice adA r.e.allow.length cpA)).setCell ⟨w.heap.size + 1, 2, none⟩ (.string r.e.over)).setCell ⟨w.heap.size + 1, 3, none⟩ (.string r.e.name)).setCell ⟨w.heap.size + 1, 4, none⟩ (.slice adK r.e.kids.length cpK)) := ⟨_, rfl⟩
   have HC9 : Hid (Chg (fun g => g = w.heap.size ∨ g = w.heap.size + 1) wr W9) := by
    rw [hW9]
    exact (((((Chg.set (S := fun g => g = w.heap.size ∨ g = w.heap.size + 1) _ (.inl rfl)).trans (Chg.set _ (.inr rfl))).trans (Chg.set _ (.inr rfl))).trans (Chg.set _ (.inr rfl))).trans (Chg.set _ (.inr rfl))).trans (Chg.set _ (.inr rfl))
   refine bodyPost_ret (v := .agg #[.int .i64 r.e.kind, .slice adA r.e.allow.length cpA, .string r.e.over, .string r.e.name, .slice adK r.e.kids.length cpK]) ?_ rfl ?_
   ·simp [results, Tryz.results92, go_sem, *]
   rw [← hW9]
   exact ⟨q, by rw [HQV.out.1], HQV.out.2, HFIN.out _ HC9.out⟩
end Go.Proofs.YtmghabcaakgjiaaGreat
