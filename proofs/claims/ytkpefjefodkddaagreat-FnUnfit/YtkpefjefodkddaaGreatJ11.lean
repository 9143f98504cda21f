/- Lists in memory whose elements hold lists again, each in a row and in a block of its own: one more at the end, another last one. Expressions, relations and types as such lists. -/
import Derived.Test.YtkpefjefodkddaaGreatJ10
import Derived.Test.YtkpefjefodkddaaGreatJ5
import Derived.Test.YtkpefjefodkddaaGreatJ1
import Derived.Maps.OwnSet
import Derived.DeepKeys4
namespace Go.Proofs.YtkpefjefodkddaaGreat
set_option maxRecDepth 100000
set_option linter.unusedVariables false
open Go.ChangeShapes Go.WideShapes Go.ChangeAt Go.RowKit
open Pl
structure Kid {α : Type} (K : World → Nat → α → Prop) (I : α → Nat → Prop) : Prop where
 heap : ∀ (w w' : World) (base : Nat) (q : α), K w base q → w.heap.size ≤ w'.heap.size → (∀ g, I q g → w'.heap[g]? = w.heap[g]?) → K w' base q
 lt : ∀ (w : World) (base : Nat) (q : α), K w base q → ∀ g, I q g → base ≤ g ∧ g < w.heap.size
def inLot {α : Type} (I : α → Nat → Prop) (v : Value) (rs : List α) (g : Nat) : Prop := v.ownBlock = some g ∨ ∃ q ∈ rs, I q g
structure LotM {α : Type} (T : TypeId) (size : Nat) (cells : α → List Value) (K : World → Nat → α → Prop) (I : α → Nat → Prop) (w : World) (base : Nat) (v : Value) (rs : List α) : Prop where
 own : w.ownsRow base T size v rs.length (rs.flatMap cells)
 kid : ∀ q ∈ rs, K w base q
 head : ∀ q ∈ rs, ∀ g, I q g → v.ownBlock ≠ some g
 two : ∀ (x y : Nat) (hx : x < rs.length) (hy : y < rs.length), x ≠ y → ∀ g, I rs[x] g → ¬ I rs[y] g
section
variable {α : Type} {T : TypeId} {size : Nat} {cells : α → List Value} {K : World → Nat → α → Prop} {I : α → Nat → Prop} {w w' : World} {base : Nat} {v : Value} {rs : List α}
theorem LotM.lt (kd : Kid K I) (h : LotM T size cells K I w base v rs) {g : Nat} (hg : inLot I v rs g) : base ≤ g ∧ g < w.heap.size := by
 rcases hg with hg | ⟨q, hq, hg⟩
 ·exact h.own.lt g hg
 ·exact kd.lt w base q (h.kid q hq) g hg
theorem LotM.heap (kd : Kid K I) (h : LotM T size cells K I w base v rs) (hs : w.heap.size ≤ w'.heap.size) (hh : ∀ g, inLot I v rs g → w'.heap[g]? = w.heap[g]?) : LotM T size cells K I w' base v rs where
 own := own_heap h.own fun g hg => hh g (.inl hg)
 kid q hq := kd.heap w w' base q (h.kid q hq) hs fun g hg => hh g (.inr ⟨q, hq, hg⟩)
 head := h.head
 two := h.two
theorem LotM.below (kd : Kid K I) (h : LotM T size cells K I w base v rs) (hb : Below w.heap.size w w') : LotM T size cells K I w' base v rs :=
 h.heap kd hb.size fun g hg => hb.block g (h.lt kd hg).2
theorem lotM_nil (w : World) (base : Nat) : LotM T size cells K I w base (.slice none 0 0) [] :=
 ⟨World.ownsRow_nil _ _ _ _, fun q hq => (by cases hq), fun q hq => (by cases hq), fun x y hx => absurd hx (by simp)⟩
theorem two_snoc {rs : List α} {q : α} (h : ∀ (x y : Nat) (hx : x < rs.length) (hy : y < rs.length), x ≠ y → ∀ g, I rs[x] g → ¬ I rs[y] g) (hq : ∀ p ∈ rs, ∀ g, I p g → ¬ I q g) :
  ∀ (x y : Nat) (hx : x < (rs ++ [q]).length) (hy : y < (rs ++ [q]).length), x ≠ y → ∀ g, I (rs ++ [q])[x] g → ¬ I (rs ++ [q])[y] g := by
 intro x y hx hy hxy g h1 h2
 rw [List.length_append, List.length_singleton] at hx hy
 by_cases ex : x < rs.length
 ·rw [List.getElem_append_left ex] at h1
  by_cases ey : y < rs.length
  ·rw [List.getElem_append_left ey] at h2
   exact h x y ex ey hxy g h1 h2
  ·have : y = rs.length := by omega
   subst this
   rw [List.getElem_append_right (Nat.le_refl _)] at h2
   simp at h2
   exact hq _ (List.getElem_mem ex) g h1 h2
 ·have : x = rs.length := by omega
  subst this
  rw [List.getElem_append_right (Nat.le_refl _)] at h1
  simp at h1
  have ey : y < rs.length := by omega
  rw [List.getElem_append_left ey] at h2
  exact hq _ (List.getElem_mem ey) g h2 h1
theorem two_init {rs : List α} {q : α} (h : ∀ (x y : Nat) (hx : x < (rs ++ [q]).length) (hy : y < (rs ++ [q]).length), x ≠ y → ∀ g, I (rs ++ [q])[x] g → ¬ I (rs ++ [q])[y] g) :
  (∀ (x y : Nat) (hx : x < rs.length) (hy : y < rs.length), x ≠ y → ∀ g, I rs[x] g → ¬ I rs[y] g) ∧ ∀ p ∈ rs, ∀ g, I p g → ¬ I q g := by
 refine ⟨fun x y hx hy hxy g h1 h2 => ?_, fun p hp g h1 h2 => ?_⟩
 ·exact h x y (by simp; omega) (by simp; omega) hxy g (by rw [List.getElem_append_left hx]; exact h1) (by rw [List.getElem_append_left hy]; exact h2)
 ·obtain ⟨x, hx, rfl⟩ := List.getElem_of_mem hp
  exact h x rs.length (by simp; omega) (by simp) (by omega) g (by rw [List.getElem_append_left hx]; exact h1) (by rw [List.getElem_append_right (Nat.le_refl _)]; simpa using h2)
theorem LotM.snoc (kd : Kid K I) (h : LotM T size cells K I w base v rs) {q : α} {v' : Value} (hown : w'.ownsRow base T size v' (rs.length + 1) (rs.flatMap cells ++ cells q)) (hg : w.grownBy w' v.ownBlock) (hat : v'.ownBlock = v.ownBlock ∨ ∃ g, v'.ownBlock = some g ∧ w.heap.size ≤ g)
  (hq : K w base q) (hv : ∀ g, I q g → v.ownBlock ≠ some g) (hr : ∀ p ∈ rs, ∀ g, I p g → ¬ I q g) : LotM T size cells K I w' base v' (rs ++ [q]) := by
 have keep : ∀ (p : α), K w base p → (∀ g, I p g → v.ownBlock ≠ some g) → K w' base p := fun p hp hn => kd.heap w w' base p hp hg.size fun g hi => hg.block g (kd.lt w base p hp g hi).2 (fun e => hn g hi e.symm)
 have apart : ∀ (p : α), K w base p → (∀ g, I p g → v.ownBlock ≠ some g) → ∀ g, I p g → v'.ownBlock ≠ some g := fun p hp hn g hi => by
  rcases hat with e | ⟨g', e, hge⟩
  ·rw [e]; exact hn g hi
  ·rw [e]; intro e2; injection e2 with e2; have := (kd.lt w base p hp g hi).2; omega
 refine ⟨by simpa using hown, fun p hp => ?_, fun p hp => ?_, two_snoc h.two hr⟩
 ·rcases List.mem_append.1 hp with hp | hp
  ·exact keep p (h.kid p hp) (h.head p hp)
  ·rw [List.mem_singleton] at hp; subst hp; exact keep _ hq hv
 ·rcases List.mem_append.1 hp with hp | hp
  ·exact apart p (h.kid p hp) (h.head p hp)
  ·rw [List.mem_singleton] at hp; subst hp; exact apart _ hq hv
theorem LotM.last (kd : Kid K I) {xs : List α} {q q' : α} {b n cap j : Nat} {u : Value} {w1 : World} {row : Option Nat} (h : LotM T size cells K I w base (.slice (some ⟨b, 0, none⟩) n cap) (xs ++ [q])) (hn : n = xs.length + 1)
  (hg : w.grownBy w1 row) (hrow : ∀ r, row = some r → I q r) (hq' : K w1 base q') (hI : ∀ g, I q' g → I q g ∨ (g ≠ b ∧ ∀ p ∈ xs, ¬ I p g)) (hset : ((xs ++ [q]).flatMap cells).set j u = (xs ++ [q']).flatMap cells) :
  LotM T size cells K I (w1.setCell ⟨b, j, none⟩ u) base (.slice (some ⟨b, 0, none⟩) n cap) (xs ++ [q']) := by
 have hbl : b < w.heap.size := (h.own.lt b rfl).2
 have hq := h.kid q (by simp)
 have hqb : ∀ g, I q g → g ≠ b := fun g hi e => h.head q (by simp) g hi (by rw [e]; rfl)
 have hq'b : ∀ g, I q' g → g ≠ b := fun g hi e => by
  rcases hI g hi with h2 | h2
  ·exact hqb g h2 e
  ·exact h2.1 e
 have hb1 : w1.heap[b]? = w.heap[b]? := hg.block b hbl (fun e => hqb b (hrow b e.symm) rfl)
 have own1 : w1.ownsRow base T size (.slice (some ⟨b, 0, none⟩) n cap) (xs ++ [q]).length ((xs ++ [q]).flatMap cells) := own_heap h.own fun g hgo => by
  have e : b = g := by simpa [Value.ownBlock] using hgo
  rw [← e]; exact hb1
 have hlen : (xs ++ [q]).length = n := by simp [hn]
 rw [hlen] at own1
 obtain ⟨own2, hg2⟩ := own1.stored j u
 rw [hset] at own2
 obtain ⟨ht1, ht2⟩ := two_init h.two
 have h2s : ∀ g, g ≠ b → (w1.setCell ⟨b, j, none⟩ u).heap[g]? = w1.heap[g]? := fun g hne => Below.heap_setCell w1 _ u g hne
 refine ⟨by simpa [hn] using own2, fun p hp => ?_, fun p hp g hi => ?_, two_snoc ht1 fun p hp g hi hi' => ?_⟩
 ·rcases List.mem_append.1 hp with hp | hp
  ·have hkp := h.kid p (by simp [hp])
   refine kd.heap w _ base p hkp (Nat.le_trans hg.size hg2.size) fun g hi => ?_
   have hl := (kd.lt w base p hkp g hi).2
   rw [h2s g (fun e => h.head p (by simp [hp]) g hi (by rw [e]; rfl))]
   exact hg.block g hl (fun e => ht2 p hp g hi (hrow g e.symm))
  ·rw [List.mem_singleton] at hp; subst hp
   exact kd.heap w1 _ base _ hq' hg2.size fun g hi => h2s g (hq'b g hi)
 ·intro e
  have e : b = g := by simpa [Value.ownBlock] using e
  rcases List.mem_append.1 hp with hp | hp
  ·exact h.head p (by simp [hp]) g hi (by rw [← e]; rfl)
  ·rw [List.mem_singleton] at hp; subst hp
   exact hq'b g hi e.symm
 ·rcases hI g hi' with h2 | h2
  ·exact ht2 p hp g hi h2
  ·exact h2.2 p hp hi
end
structure NodM (w : World) (base : Nat) (v : Value) (qs : List ER) : Prop where
 own : w.ownsRow base 92 5 v qs.length (rows5 qs)
 zA : ∀ q ∈ qs, q.e.allow ≠ [] → ∃ g, q.adA = some ⟨g, 0, none⟩
 zK : ∀ q ∈ qs, q.e.kids ≠ [] → ∃ g, q.adK = some ⟨g, 0, none⟩
 ok : ∀ q ∈ qs, q.ok w
 lie : ∀ q ∈ qs, ∀ g, inR q g → base ≤ g ∧ g < w.heap.size ∧ Free w g ∧ v.ownBlock ≠ some g
 one : ∀ q ∈ qs, ∀ g, bA q g → ¬ bK q g
 two : ∀ (x y : Nat) (hx : x < qs.length) (hy : y < qs.length), x ≠ y → ∀ g, inR qs[x] g → ¬ inR qs[y] g
 cA : ∀ q ∈ qs, q.e.allow.length ≤ q.capA
theorem RdF.nod {w : World} {R : Nat} {s : ByteArray} {st : RS} {base : Nat} {v : Value} {qs : List ER} (h : RdF w R s st base v qs) : NodM w base v qs := ⟨h.own, h.zA, h.zK, h.ok, h.lie, h.one, h.two, h.cA⟩
theorem NodM.mono {w : World} {base base' : Nat} {v : Value} {qs : List ER} (h : NodM w base v qs) (hb : base' ≤ base) : NodM w base' v qs :=
 ⟨⟨h.own.1, by
  rcases h.own.2 with hl | ⟨g, cap, cur, e, h1, h2⟩
  ·exact .inl hl
  ·exact .inr ⟨g, cap, cur, e, Nat.le_trans hb h1, h2⟩⟩, h.zA, h.zK, h.ok, fun q hq g hg => ⟨Nat.le_trans hb (h.lie q hq g hg).1, (h.lie q hq g hg).2⟩, h.one, h.two, h.cA⟩
def RR.vs (q : RR) : Value := .slice q.ad q.rows.length q.cap
def TR.vs (q : TR) : Value := .slice q.ad q.rows.length q.cap
def kR (w : World) (base : Nat) (q : RR) : Prop := NodM w base q.vs q.rows
def iR (q : RR) : Nat → Prop := inLot inR q.vs q.rows
theorem kidR : Kid kR iR where
 heap w w' base q h hs hh := {
  own := own_heap h.own fun g hg => hh g (.inl hg)
  zA := h.zA
  zK := h.zK
  ok := fun x hx => ok_heap (h.ok x hx) hs (h.zA x hx) (h.zK x hx) fun g hg => hh g (.inr ⟨x, hx, hg⟩)
  lie := fun x hx g hg => by
   obtain ⟨a1, a2, a3, a4⟩ := h.lie x hx g hg
   exact ⟨a1, Nat.lt_of_lt_of_le a2 hs, free_heap a3 (hh g (.inr ⟨x, hx, hg⟩)), a4⟩
  one := h.one
  two := h.two
  cA := h.cA }
 lt w base q h g hg := by
  rcases hg with hg | ⟨x, hx, hg⟩
  ·exact h.own.lt g hg
  ·exact ⟨(h.lie x hx g hg).1, (h.lie x hx g hg).2.1⟩
def RR.cells (q : RR) : List Value := [.string q.name, q.vs]
def TR.cells (q : TR) : List Value := [.string q.name, q.vs]
abbrev RelM := LotM 61 2 RR.cells kR iR
def kT (w : World) (base : Nat) (q : TR) : Prop := RelM w base q.vs q.rows
def iT (q : TR) : Nat → Prop := inLot iR q.vs q.rows
theorem kidT : Kid kT iT where
 heap w w' base q h hs hh := LotM.heap kidR h hs hh
 lt w base q h g hg := LotM.lt kidR h hg
abbrev TypM := LotM 58 2 TR.cells kT iT
theorem cells2_at {α : Type} {cells : α → List Value} (h2 : ∀ q, (cells q).length = 2) : ∀ (rs : List α) (i : Nat) (h : i < rs.length) (j : Nat), j < 2 → (rs.flatMap cells)[i * 2 + j]? = (cells rs[i])[j]?
 | [], i, h, _, _ => by simp at h
 | r :: rs, 0, _, j, hj => by
  simp only [List.flatMap_cons, Nat.zero_mul, Nat.zero_add, List.getElem_cons_zero]
  rw [List.getElem?_append_left (by rw [h2]; exact hj)]
 | r :: rs, i + 1, h, j, hj => by
  have := cells2_at h2 rs i (by simpa using h) j hj
  simp only [List.flatMap_cons, List.getElem_cons_succ]
  rw [List.getElem?_append_right (by rw [h2]; omega), h2, ← this]
  congr 1
  omega
theorem cells2_len {α : Type} {cells : α → List Value} (h2 : ∀ q, (cells q).length = 2) : ∀ (rs : List α), (rs.flatMap cells).length = rs.length * 2
 | [] => rfl
 | r :: rs => by simp only [List.flatMap_cons, List.length_append, h2, cells2_len h2 rs, List.length_cons]; omega
theorem slR_of {w : World} {base : Nat} {q : TR} (h : kT w base q) : SlR w q.ad q.rows := by
 by_cases hz : q.rows = []
 ·exact .inl hz
 rcases h.own.2 with ⟨-, h0⟩ | ⟨g, cap, cur, e, -⟩
 ·exact absurd (List.length_eq_zero_iff.1 h0) hz
 ·have h3 := h.own
  unfold TR.vs at e h3
  injection e with e1 e2 e3
  rw [e1] at h3
  refine .inr ⟨g, 0, e1, (h3.lt g rfl).2, fun i hi => ?_, fun r hr => ?_⟩
  ·have hl : (q.rows.flatMap RR.cells).length = q.rows.length * 2 := cells2_len (fun _ => rfl) _
   have key : ∀ j, j < 2 → w.cell? ⟨g, 0 + i * 2 + j, none⟩ = (RR.cells q.rows[i])[j]? := fun j hj => by
    rw [h3.cellAt (0 + i * 2 + j) (by omega), ← cells2_at (fun _ => rfl) q.rows i hi j hj, Nat.zero_add]
   exact ⟨key 0 (by omega), key 1 (by omega)⟩
  ·have hk := h.kid r hr
   obtain ⟨ad, cap', e4, hsl⟩ := ownsE hk.own rfl hk.ok
   unfold RR.vs at e4
   injection e4 with e5 e6 e7
   show SlE w r.ad r.rows
   rw [e5]; exact hsl
theorem cap_le {w : World} {base size n cap : Nat} {e : TypeId} {ad : Option Addr} {xs : List Value} (h : w.ownsRow base e size (.slice ad n cap) n xs) : n ≤ cap := by
 rcases h.2 with ⟨e1, h0⟩ | ⟨g, cap', cur, e1, -, -, hnc, -⟩
 ·injection e1 with _ e2 e3; omega
 ·injection e1 with _ e2 e3; omega
theorem TypM.read {w : World} {base : Nat} {v : Value} {rs : List TR} (h : TypM w base v rs) : ∃ ad cap, v = .slice ad rs.length cap ∧ SlT w ad rs ∧ ∀ r ∈ rs, r.caps := by
 have hc : ∀ r ∈ rs, r.caps := fun r hr => ⟨cap_le (h.kid r hr).own, fun q hq => ⟨cap_le ((h.kid r hr).kid q hq).own, ((h.kid r hr).kid q hq).cA⟩⟩
 rcases h.own.2 with ⟨rfl, h0⟩ | ⟨g, cap, cur, rfl, -⟩
 ·exact ⟨none, 0, by rw [h0], .inl (List.length_eq_zero_iff.1 h0), hc⟩
 ·have h3 := h.own
  refine ⟨some ⟨g, 0, none⟩, cap, rfl, .inr ⟨g, 0, rfl, (h3.lt g rfl).2, fun i hi => ?_, fun r hr => slR_of (h.kid r hr)⟩, hc⟩
  have hl : (rs.flatMap TR.cells).length = rs.length * 2 := cells2_len (fun _ => rfl) _
  have key : ∀ j, j < 2 → w.cell? ⟨g, 0 + i * 2 + j, none⟩ = (TR.cells rs[i])[j]? := fun j hj => by
   rw [h3.cellAt (0 + i * 2 + j) (by omega), ← cells2_at (fun _ => rfl) rs i hi j hj, Nat.zero_add]
  exact ⟨key 0 (by omega), key 1 (by omega)⟩
end Go.Proofs.YtkpefjefodkddaaGreat
namespace Go.Proofs.YtkpefjefodkddaaGreat
open Go.ChangeShapes Go.WideShapes Go.ChangeAt Go.RowKit Go.Maps
def anyR (v : Value) : Option (DataW Value × List MemPlace) := some (.held v, [])
section
variable {K : Type} (enc : K → Value) (P : Program) (k : TypeId)
def SaysAt (D : DataW Value) (kl : Lit) : Option Value → Prop
 | none => Maps.has D kl = false ∧ ∀ z, D.atKey kl z = z
 | some v => Maps.has D kl = true ∧ ∀ z, D.atKey kl z = .held v
def MapV (w : World) (b n : Nat) (M : K → Option Value) : Prop :=
 ∃ D : DataW Value, w.ownsMap P k anyR b n D ∧ ∀ x kl, keyOf P k (enc x) = some kl → SaysAt D kl (M x)
def updM [DecidableEq K] (M : K → Option Value) (x : K) (v : Option Value) : K → Option Value := fun y => if y = x then v else M y
end
section
variable {K : Type} {enc : K → Value} {P : Program} {k : TypeId} {w : World} {b n : Nat} {M : K → Option Value}
theorem updM_same [DecidableEq K] (M : K → Option Value) (x : K) (v : Option Value) : updM M x v x = v := by simp [updM]
theorem updM_other [DecidableEq K] {M : K → Option Value} {x y : K} {v : Option Value} (h : y ≠ x) : updM M x v y = M y := by simp [updM, h]
theorem mapV_made (enc : K → Value) (P : Program) (k : TypeId) (w : World) : MapV enc P k (w.alloc (.map #[] 0)) w.heap.size 0 (fun _ => none) :=
 ⟨.map [], World.ownsMap_made w P k anyR, fun _ kl _ => ⟨rfl, fun z => by simp [DataW.atKey]⟩⟩
theorem MapV.lt (h : MapV enc P k w b n M) : b < w.heap.size := by obtain ⟨D, h1, -⟩ := h; exact h1.lt
theorem MapV.mono (h : MapV enc P k w b n M) {n' : Nat} (hn : n ≤ n') : MapV enc P k w b n' M := by obtain ⟨D, h1, h2⟩ := h; exact ⟨D, h1.mono hn, h2⟩
theorem MapV.kept {w' : World} {row : Option Nat} (h : MapV enc P k w b n M) (hg : w.grownBy w' row) (hne : some b ≠ row) : MapV enc P k w' b n M := by
 obtain ⟨D, h1, h2⟩ := h; exact ⟨D, h1.kept hg hne, h2⟩
theorem MapV.below {w' : World} (h : MapV enc P k w b n M) (hB : Below w.heap.size w w') : MapV enc P k w' b n M :=
 h.kept (row := none) ⟨hB.os, hB.tape, hB.output, hB.size, fun k hk _ => hB.block k hk⟩ (by simp)
theorem MapV.setCell (h : MapV enc P k w b n M) {a : Addr} (ha : b ≠ a.block) (u : Value) : MapV enc P k (w.setCell a u) b n M := by
 obtain ⟨D, h1, h2⟩ := h; exact ⟨D, h1.setCell ha u, h2⟩
theorem MapV.look {t e : TypeId} (h : MapV enc P k w b n M) (L : Keyed P k) (ht : P.underlying t = some (.map k e)) {z : Value} (hz : (zeroValue e).run P w = .ok z w) {x : K} {kl : Lit} (hkey : keyOf P k (enc x) = some kl) :
  (Instr.lookup t (.map (some b)) (enc x) false).run P w = .ok ((M x).getD z) w := by
 obtain ⟨D, h1, h2⟩ := h
 obtain ⟨v, ps, hrun, hv⟩ := h1.lookup L ht hz (zd := .held z) (zp := []) rfl hkey
 have h3 := h2 x kl hkey
 rw [hrun]
 have : v = (M x).getD z := by
  simp only [anyR, Option.some.injEq, Prod.mk.injEq] at hv
  cases e : M x with
  | none => rw [e] at h3; rw [h3.2] at hv; injection hv.1 with h4
  | some u => rw [e] at h3; rw [h3.2] at hv; injection hv.1 with h4
 rw [this]
theorem MapV.look_ok {t e : TypeId} (h : MapV enc P k w b n M) (L : Keyed P k) (ht : P.underlying t = some (.map k e)) {z : Value} (hz : (zeroValue e).run P w = .ok z w) {x : K} {kl : Lit} (hkey : keyOf P k (enc x) = some kl) :
  (Instr.lookup t (.map (some b)) (enc x) true).run P w = .ok (.tuple #[(M x).getD z, .bool (M x).isSome]) w := by
 obtain ⟨D, h1, h2⟩ := h
 obtain ⟨v, ps, hrun, hv⟩ := h1.look_ok L ht hz (zd := .held z) (zp := []) rfl hkey
 have h3 := h2 x kl hkey
 rw [hrun]
 simp only [anyR, Option.some.injEq, Prod.mk.injEq] at hv
 cases e : M x with
 | none => rw [e] at h3; rw [h3.2] at hv; injection hv.1 with h4; rw [h4, h3.1]; rfl
 | some u => rw [e] at h3; rw [h3.2] at hv; injection hv.1 with h4; rw [h4, h3.1]; rfl
theorem MapV.store [DecidableEq K] {t e : TypeId} (h : MapV enc P k w b n M) (L : Keyed P k) (hinj : ∀ x y, enc x = enc y → x = y) (ht : P.underlying t = some (.map k e)) (hn : n < maxLen) {x : K} {kl : Lit} (hkey : keyOf P k (enc x) = some kl) (v : Value) :
  ∃ w', (Instr.mapUpdate t (.map (some b)) (enc x) v).run P w = .ok () w' ∧ MapV enc P k w' b (n + 1) (updM M x (some v)) ∧ w.grownBy w' (some b) := by
 obtain ⟨D, h1, h2⟩ := h
 obtain ⟨w', hrun, h3, h4⟩ := h1.update L ht hn hkey (val := v) (d := .held v) (ps := []) rfl
 refine ⟨w', hrun, ⟨D.put kl (.held v), h3, fun y ky hy => ?_⟩, h4⟩
 by_cases e : y = x
 ·subst e
  obtain rfl : ky = kl := by rw [hkey] at hy; injection hy with hy; exact hy.symm
  rw [updM_same]
  exact ⟨has_put_same h1.isMap (L.key hkey) _, fun z => atKey_put_same h1.isMap (L.key hkey) _ z⟩
 ·have hne : ky ≠ kl := fun e2 => e (hinj _ _ (L.inj (by rw [e2] at hy; exact hy) hkey))
  rw [updM_other e]
  have h5 := h2 y ky hy
  cases e3 : M y with
  | none => rw [e3] at h5; exact ⟨by rw [has_put_other hne]; exact h5.1, fun z => by rw [atKey_put_other hne]; exact h5.2 z⟩
  | some u => rw [e3] at h5; exact ⟨by rw [has_put_other hne]; exact h5.1, fun z => by rw [atKey_put_other hne]; exact h5.2 z⟩
end
section
variable {K : Type} {enc : K → Value} {P : Program} (w : World) {ops : Array Oper} {rest : List Oper} {o : Oper} {a : Act} {Q : Exit → Act → World → Prop}
theorem wpList_lookV (hg : o.guard = none) (m x : Operand) (t : TypeId) (hop : o.op = Op.lookup t m x false) (k e : TypeId) (L : Keyed P k) (ht : P.underlying t = some (.map k e)) {z : Value} (hz : (zeroValue e).run P w = .ok z w) (b n : Nat) (M : K → Option Value)
  (hm : a.eval m = .map (some b)) (hV : MapV enc P k w b n M) (y : K) (kl : Lit) (hx : a.eval x = enc y) (hkey : keyOf P k (enc y) = some kl)
  (hK : wpList P ops Q rest (a.put o.dst ((M y).getD z)) w) : wpList P ops Q (o :: rest) a w := by
 refine wpList_plain hg fun K' hK' => ?_
 have hrun := hV.look L ht hz hkey
 unfold Oper.wp
 simp [execOp, hop, hm, hx, hrun, Result.andThen]
 exact hK' _ _ hK
theorem wpList_lookV_ok (hg : o.guard = none) (m x : Operand) (t : TypeId) (hop : o.op = Op.lookup t m x true) (k e : TypeId) (L : Keyed P k) (ht : P.underlying t = some (.map k e)) {z : Value} (hz : (zeroValue e).run P w = .ok z w) (b n : Nat) (M : K → Option Value)
  (hm : a.eval m = .map (some b)) (hV : MapV enc P k w b n M) (y : K) (kl : Lit) (hx : a.eval x = enc y) (hkey : keyOf P k (enc y) = some kl)
  (hK : wpList P ops Q rest (a.put o.dst (.tuple #[(M y).getD z, .bool (M y).isSome])) w) : wpList P ops Q (o :: rest) a w := by
 refine wpList_plain hg fun K' hK' => ?_
 have hrun := hV.look_ok L ht hz hkey
 unfold Oper.wp
 simp [execOp, hop, hm, hx, hrun, Result.andThen]
 exact hK' _ _ hK
theorem wpList_storeV [DecidableEq K] (hg : o.guard = none) (m x v : Operand) (t : TypeId) (hop : o.op = Op.mapUpdate t m x v) (k e : TypeId) (L : Keyed P k) (hinj : ∀ x y, enc x = enc y → x = y) (ht : P.underlying t = some (.map k e)) (b n : Nat) (M : K → Option Value)
  (hm : a.eval m = .map (some b)) (hV : MapV enc P k w b n M) (hn : n < maxLen) (y : K) (kl : Lit) (hx : a.eval x = enc y) (hkey : keyOf P k (enc y) = some kl) (u : Value) (hv : a.eval v = u)
  (hK : ∀ w', MapV enc P k w' b (n + 1) (updM M y (some u)) → w.grownBy w' (some b) → wpList P ops Q rest (a.put o.dst undef) w') : wpList P ops Q (o :: rest) a w := by
 refine wpList_plain hg fun K' hK' => ?_
 obtain ⟨w', hrun, r1, r2⟩ := hV.store L hinj ht hn hkey u
 unfold Oper.wp
 simp [execOp, hop, hm, hx, hv, hrun, Result.andThen]
 exact hK' _ _ (hK w' r1 r2)
end
end Go.Proofs.YtkpefjefodkddaaGreat
namespace Go.Proofs.YtkpefjefodkddaaGreat
open Go.ChangeShapes Go.WideShapes Go.ChangeAt Go.RowKit Go.Maps
def encK (k : ByteArray × ByteArray) : Value := .agg #[.string k.1, .string k.2]
theorem encK_inj (x y : ByteArray × ByteArray) (h : encK x = encK y) : x = y := by
 unfold encK at h
 injection h with h
 have h1 := congrArg Array.toList h
 simp at h1
 exact Prod.ext h1.1 h1.2
theorem laidOutM : laidOutB Tryz.prog = true := by kernel_rfl
theorem relRow : (100 : TypeId) < Tryz.prog.types.size := of_decide_eq_true (by kernel_rfl)
theorem relWide : (match Tryz.prog.underlying 100 with | some (.array _ _) | some (.struct _) => true | _ => false) = true := by rw [Tryz.underlying100]
set_option maxRecDepth 100000 in
theorem relLaw0 : WideMaps.KeyLaw Tryz.prog 100 := deep_law_laid laidOutM (m := 2) (by omega) relRow (by kernel_rfl) relWide
theorem relLaw : Keyed Tryz.prog 100 := Keyed.of_law relLaw0
theorem relKeyT : Tryz.prog.keyType 100 = true := by kernel_rfl
theorem relCells : Tryz.prog.cellsOf 100 = 2 := by kernel_rfl
theorem strCells : Tryz.prog.cellsOf 9 = 1 := by kernel_rfl
theorem typesSize : ∃ n, Tryz.prog.types.size = n + 1 := Nat.exists_eq_succ_of_ne_zero (Nat.ne_of_gt (Nat.lt_of_le_of_lt (Nat.zero_le _) relRow))
theorem relKeyOf (k : ByteArray × ByteArray) (h1 : k.1.size ≤ maxLen) (h2 : k.2.size ≤ maxLen) : ∃ kl, keyOf Tryz.prog 100 (encK k) = some kl := by
 obtain ⟨n, hn⟩ := typesSize
 refine ⟨.string (keyBytes [.string k.1.data.toList, .string k.2.data.toList]), ?_⟩
 unfold keyOf
 rw [Tryz.underlying100]
 simp only [relKeyT, encK, Value.formed, Tryz.underlying100, relCells, hn, Value.cells]
 simp [Program.keyLits, Tryz.underlying100, Tryz.underlying9, relCells, strCells, h1, h2]
end Go.Proofs.YtkpefjefodkddaaGreat
