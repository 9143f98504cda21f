/- Contract of the program's without: a schema without a relation; the expressions are shared. -/
import Derived.Test.YtmghabcaakgjiaaGreatChgSch
namespace Go.Proofs.YtmghabcaakgjiaaGreat
set_option maxRecDepth 100000
set_option linter.unusedVariables false
open Go.ChangeShapes Go.WideShapes Go.ChangeAt Go.RowKit Go.Maps
open Pl
def keyB (a b c d : ByteArray) : Bool := a.toList == c.toList && b.toList == d.toList
def cutW (typ rel : ByteArray) (t : TR) : List RR := t.rows.filter fun r => !keyB typ rel t.name r.name
def kW (w : World) (base : Nat) (t : TR) : Prop := w.ownsRow base 46 2 t.vs t.rows.length (t.rows.flatMap RR.cells)
def iW (t : TR) (g : Nat) : Prop := t.vs.ownBlock = some g
abbrev WoM := LotM 44 2 TR.cells kW iW
theorem slR_own {w : World} {base cap : Nat} {ad : Option Addr} {rows : List RR} (h : w.ownsRow base 46 2 (.slice ad rows.length cap) rows.length (rows.flatMap RR.cells)) (hk : ∀ r ∈ rows, r.ok w) : SlR w ad rows := by
 by_cases hz : rows = []
 ·exact .inl hz
 rcases h.2 with ⟨-, h0⟩ | ⟨g, cap, cur, e, -⟩
 ·exact absurd (List.length_eq_zero_iff.1 h0) hz
 ·injection e with e1 e2 e3
  rw [e1] at h ⊢
  refine .inr ⟨g, 0, rfl, (h.lt g rfl).2, fun i hi => ?_, hk⟩
  have hl : (rows.flatMap RR.cells).length = rows.length * 2 := cells2_len (fun _ => rfl) _
  have key : ∀ j, j < 2 → w.cell? ⟨g, 0 + i * 2 + j, none⟩ = (RR.cells rows[i])[j]? := fun j hj => by
   rw [h.cellAt (0 + i * 2 + j) (by omega), ← cells2_at (fun _ => rfl) rows i hi j hj, Nat.zero_add]
  exact ⟨key 0 (by omega), key 1 (by omega)⟩
theorem WoM.read {w : World} {base : Nat} {v : Value} {rs : List TR} (h : WoM w base v rs) (hk : ∀ t ∈ rs, ∀ r ∈ t.rows, r.ok w) : ∃ ad cap, v = .slice ad rs.length cap ∧ SlT w ad rs := by
 have hr : ∀ t ∈ rs, t.ok w := fun t ht => slR_own (h.kid t ht) (hk t ht)
 rcases h.own.2 with ⟨rfl, h0⟩ | ⟨g, cap, cur, rfl, -⟩
 ·exact ⟨none, 0, by rw [h0], .inl (List.length_eq_zero_iff.1 h0)⟩
 ·have h3 := h.own
  refine ⟨some ⟨g, 0, none⟩, cap, rfl, .inr ⟨g, 0, rfl, (h3.lt g rfl).2, fun i hi => ?_, hr⟩⟩
  have hl : (rs.flatMap TR.cells).length = rs.length * 2 := cells2_len (fun _ => rfl) _
  have key : ∀ j, j < 2 → w.cell? ⟨g, 0 + i * 2 + j, none⟩ = (TR.cells rs[i])[j]? := fun j hj => by
   rw [h3.cellAt (0 + i * 2 + j) (by omega), ← cells2_at (fun _ => rfl) rs i hi j hj, Nat.zero_add]
  exact ⟨key 0 (by omega), key 1 (by omega)⟩
def CutOf (typ rel : ByteArray) (rs qs : List TR) : Prop := qs.map (fun t => (t.name, t.rows)) = rs.map fun t => (t.name, cutW typ rel t)
theorem CutOf.mem {typ rel : ByteArray} {rs qs : List TR} (h : CutOf typ rel rs qs) : ∀ t ∈ qs, ∃ s ∈ rs, t.name = s.name ∧ t.rows = cutW typ rel s := by
 intro t ht
 have h1 : (t.name, t.rows) ∈ qs.map (fun t => (t.name, t.rows)) := List.mem_map.2 ⟨t, ht, rfl⟩
 rw [h] at h1
 obtain ⟨s, hs, e⟩ := List.mem_map.1 h1
 injection e with e1 e2
 exact ⟨s, hs, e1.symm, e2.symm⟩
theorem CutOf.len {typ rel : ByteArray} {rs qs : List TR} (h : CutOf typ rel rs qs) : qs.length = rs.length := by
 have := congrArg List.length h
 simpa using this
theorem own_mono {w : World} {base base' size n : Nat} {e : TypeId} {v : Value} {xs : List Value} (h : w.ownsRow base e size v n xs) (hb : base' ≤ base) : w.ownsRow base' e size v n xs := by
 refine ⟨h.1, ?_⟩
 rcases h.2 with hl | ⟨g, cap, cur, e, h1, h2⟩
 ·exact .inl hl
 ·exact .inr ⟨g, cap, cur, e, Nat.le_trans hb h1, h2⟩
end Go.Proofs.YtmghabcaakgjiaaGreat
