/- A map of rows that are appended to, key by key. -/
import Derived.Test.YtpmgkkbkficgpaaMapE
import Derived.Test.YtpmgkkbkficgpaaImplLeans
import Derived.Test.YtpmgkkbkficgpaaImplAway
namespace Go.Proofs.Ytpmgkkbkficgpaa
open Go.ChangeShapes Go.WideShapes Go.ChangeAt Go.RowKit Go.Maps
open Pl

abbrev Ky := ByteArray × ByteArray
def lookL (E : List (Ky × St)) (k : Ky) : List St := E.filterMap fun p => if p.1 = k then some p.2 else none
theorem lookL_append (E F : List (Ky × St)) (k : Ky) : lookL (E ++ F) k = lookL E k ++ lookL F k := by unfold lookL; rw [List.filterMap_append]
theorem lookL_same (E : List (Ky × St)) (k : Ky) (s : St) : lookL (E ++ [(k, s)]) k = lookL E k ++ [s] := by rw [lookL_append]; simp [lookL]
theorem lookL_other (E : List (Ky × St)) {k y : Ky} (s : St) (h : k ≠ y) : lookL (E ++ [(y, s)]) k = lookL E k := by rw [lookL_append]; simp [lookL, Ne.symm h]
theorem mem_lookL {E : List (Ky × St)} {k : Ky} {s : St} : s ∈ lookL E k ↔ (k, s) ∈ E := by
  unfold lookL
  rw [List.mem_filterMap]
  constructor
  · rintro ⟨⟨a, b⟩, h1, h2⟩
    simp only at h2
    split at h2
    · rename_i e; injection h2 with h2; rw [← e, ← h2]; exact h1
    · cases h2
  · intro h; exact ⟨(k, s), h, by simp⟩

/-- no row lies in block g -/
def FreeB (M : Ky → Option Value) (g : Nat) : Prop := ∀ k v, M k = some v → v.ownBlock ≠ some g
structure Grp (w : World) (bL n : Nat) (M : Ky → Option Value) (E : List (Ky × St)) : Prop where
  map : MapV encK Try.prog 84 w bL n M
  row : ∀ k, (M k = none ∧ lookL E k = []) ∨ ∃ v, M k = some v ∧ w.ownsRow (bL + 1) 151 3 v (lookL E k).length (flatS (lookL E k))
  apart : ∀ k k' v v', k ≠ k' → M k = some v → M k' = some v' → ∀ g, v.ownBlock = some g → v'.ownBlock ≠ some g
theorem Grp.lt {w : World} {bL n : Nat} {M : Ky → Option Value} {E : List (Ky × St)} (h : Grp w bL n M E) {k : Ky} {v : Value} (hk : M k = some v) {g : Nat} (hg : v.ownBlock = some g) : bL < g ∧ g < w.heap.size := by
  rcases h.row k with ⟨e, -⟩ | ⟨v', e, ho⟩
  · rw [e] at hk; cases hk
  · rw [e] at hk; injection hk with hk; subst hk
    have := ho.lt g hg
    exact ⟨by omega, this.2⟩
theorem Grp.fresh {w : World} {bL n : Nat} {M : Ky → Option Value} {E : List (Ky × St)} (h : Grp w bL n M E) {g : Nat} (hg : w.heap.size ≤ g) : FreeB M g := fun k v hk e => by
  have := (h.lt hk e).2; omega
theorem Grp.mono {w : World} {bL n n' : Nat} {M : Ky → Option Value} {E : List (Ky × St)} (h : Grp w bL n M E) (hn : n ≤ n') : Grp w bL n' M E := ⟨h.map.mono hn, h.row, h.apart⟩
theorem Grp.below {w w' : World} {bL n : Nat} {M : Ky → Option Value} {E : List (Ky × St)} (h : Grp w bL n M E) (hB : Below w.heap.size w w') : Grp w' bL n M E where
  map := h.map.below hB
  row k := by
    rcases h.row k with e | ⟨v, e, ho⟩
    · exact .inl e
    · exact .inr ⟨v, e, own_below ho hB⟩
  apart := h.apart
theorem grp_made (w : World) : Grp (w.alloc (.map #[] 0)) w.heap.size 0 (fun _ => none) [] where
  map := mapV_made _ _ _ w
  row k := .inl ⟨rfl, rfl⟩
  apart k k' v v' _ h := by cases h

/-- what stays while rows are appended to -/
structure Stl (W : World) (M : Ky → Option Value) (w2 : World) (M2 : Ky → Option Value) (bL : Nat) : Prop where
  size : W.heap.size ≤ w2.heap.size
  block : ∀ g, g < W.heap.size → g ≠ bL → FreeB M g → w2.heap[g]? = W.heap[g]?
  free : ∀ g, g < W.heap.size → FreeB M g → FreeB M2 g
theorem Stl.refl (W : World) (M : Ky → Option Value) (bL : Nat) : Stl W M W M bL := ⟨Nat.le_refl _, fun _ _ _ _ => rfl, fun _ _ h => h⟩
theorem Stl.trans {W w2 w3 : World} {M M2 M3 : Ky → Option Value} {bL : Nat} (h : Stl W M w2 M2 bL) (h2 : Stl w2 M2 w3 M3 bL) : Stl W M w3 M3 bL where
  size := Nat.le_trans h.size h2.size
  block g hg hb hf := (h2.block g (Nat.lt_of_lt_of_le hg h.size) hb (h.free g hg hf)).trans (h.block g hg hb hf)
  free g hg hf := h2.free g (Nat.lt_of_lt_of_le hg h.size) (h.free g hg hf)
theorem Stl.below {W w2 : World} {M : Ky → Option Value} {bL : Nat} (hB : Below W.heap.size W w2) : Stl W M w2 M bL := ⟨hB.size, fun g hg _ _ => hB.block g hg, fun _ _ h => h⟩
/-- a cell that stays -/
structure Cel (w : World) (M : Ky → Option Value) (bL g o : Nat) (u : Value) : Prop where
  cell : w.cell? ⟨g, o, none⟩ = some u
  lt : g < w.heap.size
  free : FreeB M g
  ne : g ≠ bL
theorem Cel.stl {w w2 : World} {M M2 : Ky → Option Value} {bL g o : Nat} {u : Value} (h : Cel w M bL g o u) (hS : Stl w M w2 M2 bL) : Cel w2 M2 bL g o u where
  cell := (World.cell?_of_block (w := w) (hS.block g h.lt h.ne h.free)).trans h.cell
  lt := Nat.lt_of_lt_of_le h.lt hS.size
  free := hS.free g h.lt h.free
  ne := h.ne

/-- one more at a key: the three steps together -/
theorem Grp.step {W0 w1 w2 w3 : World} {bL n : Nat} {M : Ky → Option Value} {E : List (Ky × St)} {y : Ky} {v' : Value} {s : St} (h : Grp W0 bL n M E) (hg1 : W0.grownBy w1 (some bL)) (hown : w2.ownsRow (bL + 1) 151 3 v' ((lookL E y).length + 1) (flatS (lookL E y) ++ s.cells))
    (hg2 : w1.grownBy w2 ((M y).getD (.slice none 0 0)).ownBlock) (hloc : v'.ownBlock = ((M y).getD (.slice none 0 0)).ownBlock ∨ v'.ownBlock = some w1.heap.size) (hg3 : w2.grownBy w3 (some bL)) (hM : MapV encK Try.prog 84 w3 bL (n + 1) (updM M y (some v'))) :
    Grp w3 bL (n + 1) (updM M y (some v')) (E ++ [(y, s)]) ∧ Stl W0 M w3 (updM M y (some v')) bL := by
  have hrow0 : ∀ k v, M k = some v → ∃ xs m, W0.ownsRow (bL + 1) 151 3 v m xs := fun k v hk => by
    rcases h.row k with ⟨e, -⟩ | ⟨v1, e, ho⟩
    · rw [e] at hk; cases hk
    · rw [e] at hk; injection hk with hk; subst hk; exact ⟨_, _, ho⟩
  have hne2 : ∀ k v, k ≠ y → M k = some v → v.ownBlock = none ∨ v.ownBlock ≠ ((M y).getD (.slice none 0 0)).ownBlock := fun k v hky hk => by
    cases e : v.ownBlock with
    | none => exact .inl rfl
    | some g =>
      right
      cases ey : M y with
      | none => simp [Value.ownBlock]
      | some vy => intro e2; exact h.apart k y v vy hky hk ey g e (by simpa using e2.symm)
  have hnb : ∀ v, (∃ k, M k = some v) → v.ownBlock = none ∨ v.ownBlock ≠ some bL := fun v ⟨k, hk⟩ => by
    cases e : v.ownBlock with
    | none => exact .inl rfl
    | some g => right; have := (h.lt hk e).1; intro e2; injection e2 with e2; omega
  have hnew : ∀ g, v'.ownBlock = some g → bL < g := fun g e => by have := (hown.lt g e).1; omega
  have hv'b : v'.ownBlock = none ∨ v'.ownBlock ≠ some bL := by
    cases e : v'.ownBlock with
    | none => exact .inl rfl
    | some g => right; have := hnew g e; intro e2; injection e2 with e2; omega
  constructor
  · refine ⟨hM, fun k => ?_, fun k k' v u hkk hk hk' g e => ?_⟩
    · by_cases ek : k = y
      · subst ek
        rw [updM_same, lookL_same]
        refine .inr ⟨v', rfl, ?_⟩
        rw [flatS_snoc, List.length_append]
        exact hown.kept hg3 hv'b
      · rw [updM_other ek, lookL_other _ _ ek]
        rcases h.row k with e | ⟨v, e, ho⟩
        · exact .inl e
        · exact .inr ⟨v, e, ((ho.kept hg1 (hnb v ⟨k, e⟩)).kept hg2 (hne2 k v ek e)).kept hg3 (hnb v ⟨k, e⟩)⟩
    · by_cases ek : k = y
      · subst ek
        rw [updM_same] at hk; injection hk with hk; subst hk
        rw [updM_other (Ne.symm hkk)] at hk'
        intro e2
        rcases hloc with el | el
        · rw [e] at el
          cases ey : M k with
          | none => rw [ey] at el; simp [Value.ownBlock] at el
          | some vy => rw [ey] at el; exact h.apart k k' vy u hkk ey hk' g (by simpa using el.symm) e2
        · rw [e] at el; injection el with el
          have := (h.lt hk' e2).2
          have := hg1.size
          omega
      · rw [updM_other ek] at hk
        by_cases ek' : k' = y
        · subst ek'
          rw [updM_same] at hk'; injection hk' with hk'; subst hk'
          intro e2
          rcases hloc with el | el
          · rw [e2] at el
            cases ey : M k' with
            | none => rw [ey] at el; simp [Value.ownBlock] at el
            | some vy => rw [ey] at el; exact h.apart k k' v vy hkk hk ey g e (by simpa using el.symm)
          · rw [e2] at el; injection el with el
            have := (h.lt hk e).2
            have := hg1.size
            omega
        · rw [updM_other ek'] at hk'
          exact h.apart k k' v u hkk hk hk' g e
  · refine ⟨Nat.le_trans hg1.size (Nat.le_trans hg2.size hg3.size), fun g hg hb hf => ?_, fun g hg hf k v hk => ?_⟩
    · have h1 := hg1.block g hg (fun e => hb (by injection e))
      have h2 := hg2.block g (Nat.lt_of_lt_of_le hg hg1.size) (fun e => by
        cases ey : M y with
        | none => rw [ey] at e; simp [Value.ownBlock] at e
        | some vy => rw [ey] at e; exact hf y vy ey (by simpa using e.symm))
      have h3 := hg3.block g (Nat.lt_of_lt_of_le hg (Nat.le_trans hg1.size hg2.size)) (fun e => hb (by injection e))
      rw [h3, h2, h1]
    · by_cases ek : k = y
      · subst ek
        rw [updM_same] at hk; injection hk with hk; subst hk
        intro e2
        rcases hloc with el | el
        · rw [e2] at el
          cases ey : M k with
          | none => rw [ey] at el; simp [Value.ownBlock] at el
          | some vy => rw [ey] at el; exact hf k vy ey (by simpa using el.symm)
        · rw [e2] at el; injection el with el; have := hg1.size; omega
      · rw [updM_other ek] at hk
        exact hf k v hk
end Go.Proofs.Ytpmgkkbkficgpaa
