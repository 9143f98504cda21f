/- Contract of the program's Pruned. -/
import Derived.Test.YtmghabcaakgjiaaGreatJ23
import Derived.Test.YtmghabcaakgjiaaGreatJ15
namespace Go.Proofs.YtmghabcaakgjiaaGreat
set_option maxRecDepth 100000
set_option linter.unusedVariables false
open Go.ChangeShapes Go.WideShapes Go.ChangeAt Go.RowKit Go.Maps
open Pl
def AnsT (w0 : World) (D : Option (List Ty)) (e : Ending) (w' : World) : Prop := ∃ (v : Value) (qs : List TR), e = .returned (.tuple #[v, .bool D.isSome]) ∧ tys qs = D.getD [] ∧ TypM w' w0.heap.size v qs ∧ Below w0.heap.size w0 w'
theorem ansT_none {w0 w' : World} {D : Option (List Ty)} (h : D = none) (hb : Below w0.heap.size w0 w') : AnsT w0 D (.returned (.tuple #[.slice none 0 0, .bool false])) w' := ⟨.slice none 0 0, [], by rw [h]; rfl, by rw [h]; rfl, lotM_nil _ _, hb⟩
structure PI (w2 : World) (SLV : Value) (typ rel : ByteArray) (M : ByteArray × ByteArray → Option Value) (l : Nat → Bool) (f : Nat → Value) (w : World) : Prop where
 v0 : l 0 = true → f 0 = SLV
 v2 : l 2 = true → f 2 = .string typ
 v3 : l 3 = true → f 3 = .string rel
 v4 : l 4 = true → f 4 = .agg #[.string typ, .string rel]
 bel : Below w2.heap.size w2 w
 c1 : l 1 = true → ∃ b, f 1 = .map (some b) ∧ w2.heap.size ≤ b ∧ MapV encK Tryz.prog 73 w b 36 M
 a5 : l 5 = true → ∃ g, f 5 = .pointer (some ⟨g, 0, none⟩) ∧ w2.heap.size ≤ g ∧ w.heap[g]? = some (.cells #[if l 7 = true then f 1 else .map none] 56 (0, 0))
 a6 : l 6 = true → ∃ g, f 6 = .pointer (some ⟨g, 0, none⟩) ∧ w2.heap.size ≤ g ∧ w.heap[g]? = some (.cells #[.string ⟨#[]⟩, .string ⟨#[]⟩] 73 (0, 0))
 o7 : l 7 = true → l 1 = true ∧ l 5 = true
theorem lt_of_some {w : World} {g : Nat} {o : Obj} (h : w.heap[g]? = some o) : g < w.heap.size := (Array.getElem?_eq_some_iff.1 h).1
theorem PI.later {w2 w w' : World} {SLV : Value} {typ rel : ByteArray} {M : ByteArray × ByteArray → Option Value} {l : Nat → Bool} {f : Nat → Value} (h : PI w2 SLV typ rel M l f w) (hb : Below w.heap.size w w') : PI w2 SLV typ rel M l f w' where
 v0 := h.v0
 v2 := h.v2
 v3 := h.v3
 v4 := h.v4
 bel := h.bel.trans (hb.mono h.bel.size)
 c1 hl := by obtain ⟨b, e, hb2, hm⟩ := h.c1 hl; exact ⟨b, e, hb2, hm.below hb⟩
 a5 hl := by obtain ⟨g, e, h1, h2⟩ := h.a5 hl; exact ⟨g, e, h1, (hb.block g (lt_of_some h2)).trans h2⟩
 a6 hl := by obtain ⟨g, e, h1, h2⟩ := h.a6 hl; exact ⟨g, e, h1, (hb.block g (lt_of_some h2)).trans h2⟩
 o7 := h.o7
theorem PI.add {w2 w : World} {SLV : Value} {typ rel : ByteArray} {M : ByteArray × ByteArray → Option Value} {l : Nat → Bool} {f : Nat → Value} (h : PI w2 SLV typ rel M l f w) (i : Nat) (v : Value) (hl : l i = false) (h7 : i ≠ 7)
  (n0 : i = 0 → v = SLV) (n2 : i = 2 → v = .string typ) (n3 : i = 3 → v = .string rel) (n4 : i = 4 → v = .agg #[.string typ, .string rel]) (n1 : i = 1 → ∃ b, v = .map (some b) ∧ w2.heap.size ≤ b ∧ MapV encK Tryz.prog 73 w b 36 M)
  (n5 : i = 5 → ∃ g, v = .pointer (some ⟨g, 0, none⟩) ∧ w2.heap.size ≤ g ∧ w.heap[g]? = some (.cells #[.map none] 56 (0, 0))) (n6 : i = 6 → ∃ g, v = .pointer (some ⟨g, 0, none⟩) ∧ w2.heap.size ≤ g ∧ w.heap[g]? = some (.cells #[.string ⟨#[]⟩, .string ⟨#[]⟩] 73 (0, 0))) :
  PI w2 SLV typ rel M (fun k => if k = i then true else l k) (upd f i v) w := by
 have key : ∀ {k : Nat} {P : Value → Prop}, (l k = true → P (f k)) → (i = k → P v) → (if k = i then true else l k) = true → P (upd f i v k) := fun {k P} h1 h2 h3 => by
  by_cases e : k = i
  ·subst e; simp only [upd, if_true]; exact h2 rfl
  ·rw [if_neg e] at h3; simp only [upd, if_neg e]; exact h1 h3
 have e7 : (if (7 : Nat) = i then true else l 7) = l 7 := if_neg (Ne.symm h7)
 refine ⟨key (P := fun x => x = SLV) h.v0 n0, key (P := fun x => x = .string typ) h.v2 n2, key (P := fun x => x = .string rel) h.v3 n3, key (P := fun x => x = .agg #[.string typ, .string rel]) h.v4 n4, h.bel, key (P := fun x => ∃ b, x = .map (some b) ∧ w2.heap.size ≤ b ∧ MapV encK Tryz.prog 73 w b 36 M) h.c1 n1, fun h5 => ?_, key (P := fun x => ∃ g, x = .pointer (some ⟨g, 0, none⟩) ∧ w2.heap.size ≤ g ∧ w.heap[g]? = some (.cells #[.string ⟨#[]⟩, .string ⟨#[]⟩] 73 (0, 0))) h.a6 n6, fun h8 => ?_⟩
 ·show ∃ g : Nat, upd f i v 5 = .pointer (some ⟨g, 0, none⟩) ∧ w2.heap.size ≤ g ∧ w.heap[g]? = some (Obj.cells #[if (if (7 : Nat) = i then true else l 7) = true then upd f i v 1 else .map none] 56 (0, 0))
  rw [e7]
  by_cases e : (5 : Nat) = i
  ·have hf : l 7 = false := by
    cases h9 : l 7 with
    | false => rfl
    | true => have := (h.o7 h9).2; rw [← e] at hl; rw [hl] at this; cases this
   rw [hf]
   subst e
   simpa [upd] using n5 rfl
  ·rw [if_neg e] at h5
   obtain ⟨g, e1, e2, e3⟩ := h.a5 h5
   refine ⟨g, by simp only [upd, if_neg e]; exact e1, e2, ?_⟩
   cases h9 : l 7 with
   | false => rw [h9] at e3; simpa using e3
   | true =>
    have h1 : (1 : Nat) ≠ i := fun e4 => by have := (h.o7 h9).1; rw [← e4] at hl; rw [hl] at this; cases this
    rw [h9] at e3
    simp only [upd, if_neg h1]
    exact e3
 ·have h8 : (if (7 : Nat) = i then true else l 7) = true := h8
  rw [e7] at h8
  have := h.o7 h8
  exact ⟨by show (if (1 : Nat) = i then true else l 1) = true; rw [this.1]; split <;> rfl, by show (if (5 : Nat) = i then true else l 5) = true; rw [this.2]; split <;> rfl⟩
theorem TypM.mono {w : World} {base base' : Nat} {v : Value} {rs : List TR} (h : TypM w base v rs) (hb : base' ≤ base) : TypM w base' v rs := LotM.mono h hb fun q hq => RelM.mono hq hb
theorem goals_few {rs : List TR} (hl : ∀ r ∈ rs, r.light) (tn over nm : ByteArray) : (goalsI (tys rs) tn over nm).length ≤ 1048576 := by
 unfold goalsI
 split
 ·unfold goalsP
  refine Nat.le_trans (gl_len _ _ _) ?_
  unfold relOr
  cases e : relP (tys rs) tn over with
  | none => exact Nat.zero_le _
  | some es =>
   obtain ⟨t, ht, q, hq, -, -, h⟩ := relP_row e
   show (allowP es).length ≤ _
   rw [← h]; exact allowP_len _ ((hl t ht).2 q hq).2
 ·exact Nat.zero_le _
end Go.Proofs.YtmghabcaakgjiaaGreat
