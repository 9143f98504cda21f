/- A map of rows that are appended to, key by key: whatever the keys, whatever the rows. -/
import Derived.Test.YtpnjoniolfmbnaaGreatDoorJ11
import Derived.Test.YtpnjoniolfmbnaaGreatDoorJ10
namespace Go.Proofs.YtpnjoniolfmbnaaGreatDoor.G
open Go.ChangeShapes Go.WideShapes Go.ChangeAt Go.RowKit Go.Maps
open Pl

variable {K α : Type} {enc : K → Value} {P : Program} {kt et : TypeId} {sz : Nat} {cl : α → List Value}
/-- no row lies in block g -/
def FreeB (M : K → Option Value) (g : Nat) : Prop := ∀ k v, M k = some v → v.ownBlock ≠ some g
/-- what stays while rows are appended to -/
structure Stl (W : World) (M : K → Option Value) (w2 : World) (M2 : K → Option Value) (bL : Nat) : Prop where
  size : W.heap.size ≤ w2.heap.size
  block : ∀ g, g < W.heap.size → g ≠ bL → FreeB M g → w2.heap[g]? = W.heap[g]?
  free : ∀ g, g < W.heap.size → FreeB M g → FreeB M2 g
theorem Stl.refl (W : World) (M : K → Option Value) (bL : Nat) : Stl W M W M bL := ⟨Nat.le_refl _, fun _ _ _ _ => rfl, fun _ _ h => h⟩
theorem Stl.trans {W w2 w3 : World} {M M2 M3 : K → Option Value} {bL : Nat} (h : Stl W M w2 M2 bL) (h2 : Stl w2 M2 w3 M3 bL) : Stl W M w3 M3 bL where
  size := Nat.le_trans h.size h2.size
  block g hg hb hf := (h2.block g (Nat.lt_of_lt_of_le hg h.size) hb (h.free g hg hf)).trans (h.block g hg hb hf)
  free g hg hf := h2.free g (Nat.lt_of_lt_of_le hg h.size) (h.free g hg hf)
theorem Stl.below {W w2 : World} {M : K → Option Value} {bL : Nat} (hB : Below W.heap.size W w2) : Stl W M w2 M bL := ⟨hB.size, fun g hg _ _ => hB.block g hg, fun _ _ h => h⟩
/-- a cell that stays -/
structure Cel (w : World) (M : K → Option Value) (bL g o : Nat) (u : Value) : Prop where
  cell : w.cell? ⟨g, o, none⟩ = some u
  lt : g < w.heap.size
  free : FreeB M g
  ne : g ≠ bL
theorem Cel.stl {w w2 : World} {M M2 : K → Option Value} {bL g o : Nat} {u : Value} (h : Cel w M bL g o u) (hS : Stl w M w2 M2 bL) : Cel w2 M2 bL g o u where
  cell := (World.cell?_of_block (w := w) (hS.block g h.lt h.ne h.free)).trans h.cell
  lt := Nat.lt_of_lt_of_le h.lt hS.size
  free := hS.free g h.lt h.free
  ne := h.ne

theorem own_belowG {w w' : World} {base : Nat} {e : TypeId} {size : Nat} {v : Value} {n : Nat} {xs : List Value} (h : w.ownsRow base e size v n xs) (hb : Below w.heap.size w w') : w'.ownsRow base e size v n xs := by
  have hl := fun g hg => (h.lt g hg).2
  refine ⟨h.1, ?_⟩
  rcases h.2 with h0 | ⟨g, cap, cur, rfl, h1, h2, h3⟩
  · exact .inl h0
  · exact .inr ⟨g, cap, cur, rfl, h1, (hb.block g (hl g rfl)).trans h2, h3⟩
variable [DecidableEq K]
def flatG (cl : α → List Value) (xs : List α) : List Value := xs.flatMap cl
theorem flatG_snoc (cl : α → List Value) (xs : List α) (x : α) : flatG cl (xs ++ [x]) = flatG cl xs ++ cl x := by simp [flatG]
def lookL (E : List (K × α)) (k : K) : List α := E.filterMap fun p => if p.1 = k then some p.2 else none
theorem lookL_append (E F : List (K × α)) (k : K) : lookL (E ++ F) k = lookL E k ++ lookL F k := by unfold lookL; rw [List.filterMap_append]
theorem lookL_same (E : List (K × α)) (k : K) (s : α) : lookL (E ++ [(k, s)]) k = lookL E k ++ [s] := by rw [lookL_append]; simp [lookL]
theorem lookL_other (E : List (K × α)) {k y : K} (s : α) (h : k ≠ y) : lookL (E ++ [(y, s)]) k = lookL E k := by rw [lookL_append]; simp [lookL, Ne.symm h]
theorem mem_lookL {E : List (K × α)} {k : K} {s : α} : s ∈ lookL E k ↔ (k, s) ∈ E := by
  unfold lookL
  rw [List.mem_filterMap]
  constructor
  · rintro ⟨⟨a, b⟩, h1, h2⟩
    simp only at h2
    split at h2
    · rename_i e; injection h2 with h2; rw [← e, ← h2]; exact h1
    · cases h2
  · intro h; exact ⟨(k, s), h, by simp⟩

structure Grp (enc : K → Value) (P : Program) (kt et : TypeId) (sz : Nat) (cl : α → List Value) (w : World) (bL n : Nat) (M : K → Option Value) (E : List (K × α)) : Prop where
  map : MapV enc P kt w bL n M
  row : ∀ k, (M k = none ∧ lookL E k = []) ∨ ∃ v, M k = some v ∧ w.ownsRow (bL + 1) et sz v (lookL E k).length (flatG cl (lookL E k))
  apart : ∀ k k' v v', k ≠ k' → M k = some v → M k' = some v' → ∀ g, v.ownBlock = some g → v'.ownBlock ≠ some g
theorem Grp.lt {w : World} {bL n : Nat} {M : K → Option Value} {E : List (K × α)} (h : Grp enc P kt et sz cl w bL n M E) {k : K} {v : Value} (hk : M k = some v) {g : Nat} (hg : v.ownBlock = some g) : bL < g ∧ g < w.heap.size := by
  rcases h.row k with ⟨e, -⟩ | ⟨v', e, ho⟩
  · rw [e] at hk; cases hk
  · rw [e] at hk; injection hk with hk; subst hk
    have := ho.lt g hg
    exact ⟨by omega, this.2⟩
theorem Grp.fresh {w : World} {bL n : Nat} {M : K → Option Value} {E : List (K × α)} (h : Grp enc P kt et sz cl w bL n M E) {g : Nat} (hg : w.heap.size ≤ g) : FreeB M g := fun k v hk e => by
  have := (h.lt hk e).2; omega
theorem Grp.mono {w : World} {bL n n' : Nat} {M : K → Option Value} {E : List (K × α)} (h : Grp enc P kt et sz cl w bL n M E) (hn : n ≤ n') : Grp enc P kt et sz cl w bL n' M E := ⟨h.map.mono hn, h.row, h.apart⟩
theorem Grp.below {w w' : World} {bL n : Nat} {M : K → Option Value} {E : List (K × α)} (h : Grp enc P kt et sz cl w bL n M E) (hB : Below w.heap.size w w') : Grp enc P kt et sz cl w' bL n M E where
  map := h.map.below hB
  row k := by
    rcases h.row k with e | ⟨v, e, ho⟩
    · exact .inl e
    · exact .inr ⟨v, e, own_belowG ho hB⟩
  apart := h.apart
theorem grp_made (w : World) : Grp enc P kt et sz cl (w.alloc (.map #[] 0)) w.heap.size 0 (fun _ => none) [] where
  map := mapV_made _ _ _ w
  row k := .inl ⟨rfl, rfl⟩
  apart k k' v v' _ h := by cases h

/-- one more at a key: the three steps together -/
theorem Grp.step {W0 w1 w2 w3 : World} {bL n : Nat} {M : K → Option Value} {E : List (K × α)} {y : K} {v' : Value} {s : α} (h : Grp enc P kt et sz cl W0 bL n M E) (hg1 : W0.grownBy w1 (some bL)) (hown : w2.ownsRow (bL + 1) et sz v' ((lookL E y).length + 1) (flatG cl (lookL E y) ++ cl s))
    (hg2 : w1.grownBy w2 ((M y).getD (.slice none 0 0)).ownBlock) (hloc : v'.ownBlock = ((M y).getD (.slice none 0 0)).ownBlock ∨ v'.ownBlock = some w1.heap.size) (hg3 : w2.grownBy w3 (some bL)) (hM : MapV enc P kt w3 bL (n + 1) (updM M y (some v'))) :
    Grp enc P kt et sz cl w3 bL (n + 1) (updM M y (some v')) (E ++ [(y, s)]) ∧ Stl W0 M w3 (updM M y (some v')) bL := by
  have hrow0 : ∀ k v, M k = some v → ∃ xs m, W0.ownsRow (bL + 1) et sz v m xs := fun k v hk => by
    rcases h.row k with ⟨e, -⟩ | ⟨v1, e, ho⟩
    · rw [e] at hk; cases hk
    · rw [e] at hk; injection hk with hk; subst hk; exact ⟨_, _, ho⟩
  have hne2 : ∀ k v, k ≠ y → M k = some v → v.ownBlock = none ∨ v.ownBlock ≠ ((M y).getD (.slice none 0 0)).ownBlock := fun k v hky hk => by
    cases e : v.ownBlock with
    | none => exact .inl rfl
    | some g =>
      right
      cases ey : M y with
      | none => simp [Value.ownBlock]
      | some vy => intro e2; exact h.apart k y v vy hky hk ey g e (by simpa using e2.symm)
  have hnb : ∀ v, (∃ k, M k = some v) → v.ownBlock = none ∨ v.ownBlock ≠ some bL := fun v ⟨k, hk⟩ => by
    cases e : v.ownBlock with
    | none => exact .inl rfl
    | some g => right; have := (h.lt hk e).1; intro e2; injection e2 with e2; omega
  have hnew : ∀ g, v'.ownBlock = some g → bL < g := fun g e => by have := (hown.lt g e).1; omega
  have hv'b : v'.ownBlock = none ∨ v'.ownBlock ≠ some bL := by
    cases e : v'.ownBlock with
    | none => exact .inl rfl
    | some g => right; have := hnew g e; intro e2; injection e2 with e2; omega
  constructor
  · refine ⟨hM, fun k => ?_, fun k k' v u hkk hk hk' g e => ?_⟩
    · by_cases ek : k = y
      · subst ek
        rw [updM_same, lookL_same]
        refine .inr ⟨v', rfl, ?_⟩
        rw [flatG_snoc, List.length_append]
        exact hown.kept hg3 hv'b
      · rw [updM_other ek, lookL_other _ _ ek]
        rcases h.row k with e | ⟨v, e, ho⟩
        · exact .inl e
        · exact .inr ⟨v, e, ((ho.kept hg1 (hnb v ⟨k, e⟩)).kept hg2 (hne2 k v ek e)).kept hg3 (hnb v ⟨k, e⟩)⟩
    · by_cases ek : k = y
      · subst ek
        rw [updM_same] at hk; injection hk with hk; subst hk
        rw [updM_other (Ne.symm hkk)] at hk'
        intro e2
        rcases hloc with el | el
        · rw [e] at el
          cases ey : M k with
          | none => rw [ey] at el; simp [Value.ownBlock] at el
          | some vy => rw [ey] at el; exact h.apart k k' vy u hkk ey hk' g (by simpa using el.symm) e2
        · rw [e] at el; injection el with el
          have := (h.lt hk' e2).2
          have := hg1.size
          omega
      · rw [updM_other ek] at hk
        by_cases ek' : k' = y
        · subst ek'
          rw [updM_same] at hk'; injection hk' with hk'; subst hk'
          intro e2
          rcases hloc with el | el
          · rw [e2] at el
            cases ey : M k' with
            | none => rw [ey] at el; simp [Value.ownBlock] at el
            | some vy => rw [ey] at el; exact h.apart k k' v vy hkk hk ey g e (by simpa using el.symm)
          · rw [e2] at el; injection el with el
            have := (h.lt hk e).2
            have := hg1.size
            omega
        · rw [updM_other ek'] at hk'
          exact h.apart k k' v u hkk hk hk' g e
  · refine ⟨Nat.le_trans hg1.size (Nat.le_trans hg2.size hg3.size), fun g hg hb hf => ?_, fun g hg hf k v hk => ?_⟩
    · have h1 := hg1.block g hg (fun e => hb (by injection e))
      have h2 := hg2.block g (Nat.lt_of_lt_of_le hg hg1.size) (fun e => by
        cases ey : M y with
        | none => rw [ey] at e; simp [Value.ownBlock] at e
        | some vy => rw [ey] at e; exact hf y vy ey (by simpa using e.symm))
      have h3 := hg3.block g (Nat.lt_of_lt_of_le hg (Nat.le_trans hg1.size hg2.size)) (fun e => hb (by injection e))
      rw [h3, h2, h1]
    · by_cases ek : k = y
      · subst ek
        rw [updM_same] at hk; injection hk with hk; subst hk
        intro e2
        rcases hloc with el | el
        · rw [e2] at el
          cases ey : M k with
          | none => rw [ey] at el; simp [Value.ownBlock] at el
          | some vy => rw [ey] at el; exact hf k vy ey (by simpa using el.symm)
        · rw [e2] at el; injection el with el; have := hg1.size; omega
      · rw [updM_other ek] at hk
        exact hf k v hk
end Go.Proofs.YtpnjoniolfmbnaaGreatDoor.G

/- Regions whose operations may stand late behind one another: only what binds in every order counts. -/
namespace Go.Proofs.YtpnjoniolfmbnaaGreatDoor
open Go.RowKit
variable {P : Program} {ops : Array Oper} {Q : Exit → Act → World → Prop}

/-- every operation waits for earlier ones alone, of those that bind in every order -/
def ordOkB (ops : Array Oper) : Bool := (List.range ops.size).all (fun i => (ops[i]?.map (fun o => o.after.all (fun e => !Region.binds .any e || decide (e.on < i)))).getD true)
theorem ordOkB_of {ops : Array Oper} (h : ordOkB ops = true) : ∀ (i : Nat) (o : Oper), ops[i]? = some o → ∀ e ∈ o.after, Region.binds .any e = true → e.on < i := by
  intro i o ho e he hb
  rw [ordOkB, List.all_eq_true] at h
  have h1 := h i (by simpa using (Array.getElem?_eq_some_iff.1 ho).1)
  rw [ho] at h1
  simp only [Option.map_some, Option.getD_some, Array.all_eq_true_iff_forall_mem] at h1
  have h2 := h1 e he
  rw [hb] at h2
  simpa using h2
theorem all_listedB {listed : Array Bool} {n : Nat} (hr : Region.ready .any ops listed = []) (hs : ops.size = n) (hord : ∀ (i : Nat) (o : Oper), ops[i]? = some o → ∀ e ∈ o.after, Region.binds .any e = true → e.on < i) (hsz : listed.size = n) : ∀ i, i < n → listed.getD i true = true := by
  intro i
  induction i using Nat.strongRecOn with
  | ind i ih =>
    intro hi
    cases hl : listed.getD i true with
    | true => rfl
    | false =>
      exfalso
      have hmem : i ∈ Region.ready .any ops listed := by
        refine mem_ready.2 ⟨hl, ops[i]'(by omega), Array.getElem?_eq_getElem (by omega), fun e he hb => ?_⟩
        have hlt := hord i _ (Array.getElem?_eq_getElem (by omega)) e he hb
        have := ih e.on hlt (by omega)
        rw [Array.getD_eq_getD_getElem?, Array.getElem?_eq_getElem (by omega)] at this ⊢
        simpa using this
      rw [hr] at hmem
      cases hmem

theorem wp_region_midB {id : Nat} {a : Act} {w : World} (L : Nat) (f0 : Nat → Value) (F : (Nat → Value) → Act) (V : Nat → Value → World → Prop) (G : World → Prop)
    (hm : P.follows .mixedOrders = true) (hsz : ops.size = L + 1) (hord : ordOkB ops = true) (hlo : lastOk ops L = true)
    (h0 : a = F f0) (hG0 : G w.drew)
    (hstep : ∀ i, i < L → ∀ o, ops[i]? = some o → ∀ f w', G w' → (∀ e ∈ o.after, Region.binds .any e = true → V e.on (f e.on) w') →
      wpOp P ops Q i (fun a' w'' => ∃ v, a' = F (upd f i v) ∧ G w'' ∧ V i v w'' ∧ ∀ k u, V k u w' → V k u w'') (F f) w')
    (hfin : ∀ o, ops[L]? = some o → ∀ f w', G w' → (∀ k, k < L → V k (f k) w') → wpOp P ops Q L (fun a' w'' => Q .normal a' w'') (F f) w') :
    (Code.region id ops true).wp P Q a w := by
  refine wp_region_inv (fun listed a' w' => listed.size = L + 1 ∧ ((listed.getD L false = false ∧ ∃ f, a' = F f ∧ G w' ∧ ∀ k, k < L → listed.getD k false = true → V k (f k) w') ∨ ((∀ j, j ≤ L → listed.getD j true = true) ∧ Q .normal a' w'))) hm ?_ ?_ ?_
  · refine ⟨by simpa using hsz, Or.inl ⟨?_, _, h0, hG0, fun k _ h => ?_⟩⟩
    · rw [Array.getD_eq_getD_getElem?, Array.getElem?_replicate]; split <;> rfl
    · rw [Array.getD_eq_getD_getElem?, Array.getElem?_replicate] at h; split at h <;> cases h
  · rintro listed a' w' ⟨hs, h⟩ i hi
    obtain ⟨hl, o, ho, hpre⟩ := mem_ready.1 hi
    have hiL : i < L + 1 := by have := (Array.getElem?_eq_some_iff.1 ho).1; omega
    rcases h with ⟨hn, f, rfl, hG, hV⟩ | ⟨hall, -⟩
    · by_cases e : i = L
      · subst e
        have hall : ∀ k, k < i → listed.getD k false = true := fun k hk => by
          obtain ⟨e, he, rfl, hb⟩ := lastOk_of hlo o ho k hk
          exact hpre e he hb
        refine wpOp_mono (fun a'' w'' hq => ⟨by simpa using hs, Or.inr ⟨fun j hj => ?_, hq⟩⟩) (hfin o ho f w' hG (fun k hk => hV k hk (hall k hk)))
        rw [getTF (by simp; omega), getF_set' _ _ _ (by omega)]
        by_cases e : j = i
        · simp [e]
        · rw [if_neg e]; exact hall j (by omega)
      · refine wpOp_mono ?_ (hstep i (by omega) o ho f w' hG (fun e he hb => hV e.on (by have := ordOkB_of hord i o ho e he hb; omega) (hpre e he hb)))
        rintro a'' w'' ⟨v, rfl, hG', hv, hmono⟩
        refine ⟨by simpa using hs, Or.inl ⟨?_, _, rfl, hG', fun k hk hkl => ?_⟩⟩
        · rw [getF_set' _ _ _ (by omega), if_neg (Ne.symm e)]; exact hn
        · rw [getF_set' _ _ _ (by omega)] at hkl
          by_cases ek : k = i
          · subst ek; simpa [upd] using hv
          · rw [if_neg ek] at hkl
            simp only [upd, if_neg ek]
            exact hmono _ _ (hV k hk hkl)
    · rw [hall i (by omega)] at hl; cases hl
  · rintro listed a' w' ⟨hs, h⟩ hr
    rcases h with ⟨hn, -⟩ | ⟨-, hq⟩
    · have := all_listedB hr hsz (ordOkB_of hord) hs L (by omega)
      rw [getTF (by omega)] at this
      rw [this] at hn; cases hn
    · exact hq

/-- the same where the world's invariant knows what has come up, and an operation may change what the world says of its own place -/
theorem wp_region_midN {id : Nat} {a : Act} {w : World} (L : Nat) (f0 : Nat → Value) (F : (Nat → Value) → Act) (V : Nat → Value → World → Prop) (G : Array Bool → World → Prop)
    (hm : P.follows .mixedOrders = true) (hsz : ops.size = L + 1) (hord : ordOkB ops = true) (hlo : lastOk ops L = true)
    (h0 : a = F f0) (hG0 : G (Array.replicate ops.size false) w.drew)
    (hstep : ∀ i, i < L → ∀ o, ops[i]? = some o → ∀ (listed : Array Bool) f w', listed.size = L + 1 → listed.getD i true = false → G listed w' → (∀ e ∈ o.after, Region.binds .any e = true → V e.on (f e.on) w') →
      wpOp P ops Q i (fun a' w'' => ∃ v, a' = F (upd f i v) ∧ G (listed.setIfInBounds i true) w'' ∧ V i v w'' ∧ ∀ k u, k ≠ i → V k u w' → V k u w'') (F f) w')
    (hfin : ∀ o, ops[L]? = some o → ∀ (listed : Array Bool) f w', G listed w' → (∀ k, k < L → V k (f k) w') → wpOp P ops Q L (fun a' w'' => Q .normal a' w'') (F f) w') :
    (Code.region id ops true).wp P Q a w := by
  refine wp_region_inv (fun listed a' w' => listed.size = L + 1 ∧ ((listed.getD L false = false ∧ ∃ f, a' = F f ∧ G listed w' ∧ ∀ k, k < L → listed.getD k false = true → V k (f k) w') ∨ ((∀ j, j ≤ L → listed.getD j true = true) ∧ Q .normal a' w'))) hm ?_ ?_ ?_
  · refine ⟨by simpa using hsz, Or.inl ⟨?_, _, h0, hG0, fun k _ h => ?_⟩⟩
    · rw [Array.getD_eq_getD_getElem?, Array.getElem?_replicate]; split <;> rfl
    · rw [Array.getD_eq_getD_getElem?, Array.getElem?_replicate] at h; split at h <;> cases h
  · rintro listed a' w' ⟨hs, h⟩ i hi
    obtain ⟨hl, o, ho, hpre⟩ := mem_ready.1 hi
    have hiL : i < L + 1 := by have := (Array.getElem?_eq_some_iff.1 ho).1; omega
    rcases h with ⟨hn, f, rfl, hG, hV⟩ | ⟨hall, -⟩
    · by_cases e : i = L
      · subst e
        have hall : ∀ k, k < i → listed.getD k false = true := fun k hk => by
          obtain ⟨e, he, rfl, hb⟩ := lastOk_of hlo o ho k hk
          exact hpre e he hb
        refine wpOp_mono (fun a'' w'' hq => ⟨by simpa using hs, Or.inr ⟨fun j hj => ?_, hq⟩⟩) (hfin o ho listed f w' hG (fun k hk => hV k hk (hall k hk)))
        rw [getTF (by simp; omega), getF_set' _ _ _ (by omega)]
        by_cases e : j = i
        · simp [e]
        · rw [if_neg e]; exact hall j (by omega)
      · refine wpOp_mono ?_ (hstep i (by omega) o ho listed f w' hs hl hG (fun e he hb => hV e.on (by have := ordOkB_of hord i o ho e he hb; omega) (hpre e he hb)))
        rintro a'' w'' ⟨v, rfl, hG', hv, hmono⟩
        refine ⟨by simpa using hs, Or.inl ⟨?_, _, rfl, hG', fun k hk hkl => ?_⟩⟩
        · rw [getF_set' _ _ _ (by omega), if_neg (Ne.symm e)]; exact hn
        · rw [getF_set' _ _ _ (by omega)] at hkl
          by_cases ek : k = i
          · subst ek; simpa [upd] using hv
          · rw [if_neg ek] at hkl
            simp only [upd, if_neg ek]
            exact hmono _ _ ek (hV k hk hkl)
    · rw [hall i (by omega)] at hl; cases hl
  · rintro listed a' w' ⟨hs, h⟩ hr
    rcases h with ⟨hn, -⟩ | ⟨-, hq⟩
    · have := all_listedB hr hsz (ordOkB_of hord) hs L (by omega)
      rw [getTF (by omega)] at this
      rw [this] at hn; cases hn
    · exact hq

/-- every operation but the last one has a later one that waits for it -/
def lastOkT (ops : Array Oper) (L : Nat) : Bool := (List.range L).all fun j => (List.range (L + 1)).any fun k => decide (j < k) && (ops[k]?.map (fun o => o.after.any (fun e => e.on == j && Region.binds .any e))).getD false
theorem lastOkT_of {ops : Array Oper} {L : Nat} (h : lastOkT ops L = true) : ∀ j, j < L → ∃ k o, j < k ∧ k ≤ L ∧ ops[k]? = some o ∧ ∃ e ∈ o.after, e.on = j ∧ Region.binds .any e = true := by
  intro j hj
  rw [lastOkT, List.all_eq_true] at h
  have h1 := h j (List.mem_range.2 hj)
  rw [List.any_eq_true] at h1
  obtain ⟨k, hk, h2⟩ := h1
  simp only [Bool.and_eq_true, decide_eq_true_eq] at h2
  cases ho : ops[k]? with
  | none => rw [ho] at h2; simp at h2
  | some o =>
    rw [ho] at h2
    simp only [Option.map_some, Option.getD_some] at h2
    obtain ⟨h3, h4⟩ := h2
    rw [Array.any_eq_true'] at h4
    obtain ⟨e, he, h5⟩ := h4
    simp only [Bool.and_eq_true, beq_iff_eq] at h5
    exact ⟨k, o, h3, by have := List.mem_range.1 hk; omega, ho, e, he, h5.1, h5.2⟩
/-- what is listed has all listed that it waits for -/
def Shut (ops : Array Oper) (listed : Array Bool) : Prop := ∀ (k : Nat) (o : Oper), ops[k]? = some o → listed.getD k false = true → ∀ e ∈ o.after, Region.binds .any e = true → listed.getD e.on false = true
theorem shut_all {ops : Array Oper} {listed : Array Bool} {L : Nat} (hlo : lastOkT ops L = true) (hS : Shut ops listed) {o : Oper} (ho : ops[L]? = some o) (hpre : ∀ e ∈ o.after, Region.binds .any e = true → listed.getD e.on false = true) : ∀ d j, j + d = L → j < L → listed.getD j false = true := by
  intro d
  induction d using Nat.strongRecOn with
  | ind d ih =>
    intro j hjd hj
    obtain ⟨k, o', h1, h2, h3, e, he, h4, h5⟩ := lastOkT_of hlo j hj
    by_cases hk : k = L
    · subst hk
      rw [ho] at h3; injection h3 with h3; subst h3
      rw [← h4]; exact hpre e he h5
    · have := ih (L - k) (by omega) k (by omega) (by omega)
      rw [← h4]; exact hS k o' h3 this e he h5

/-- the same where the last operation waits for all others by way of others -/
theorem wp_region_midT {id : Nat} {a : Act} {w : World} (L : Nat) (f0 : Nat → Value) (F : (Nat → Value) → Act) (V : Nat → Value → World → Prop) (G : Array Bool → World → Prop)
    (hm : P.follows .mixedOrders = true) (hsz : ops.size = L + 1) (hord : ordOkB ops = true) (hlo : lastOkT ops L = true)
    (h0 : a = F f0) (hG0 : G (Array.replicate ops.size false) w.drew)
    (hstep : ∀ i, i < L → ∀ o, ops[i]? = some o → ∀ (listed : Array Bool) f w', listed.size = L + 1 → listed.getD i true = false → G listed w' → (∀ e ∈ o.after, Region.binds .any e = true → V e.on (f e.on) w') →
      wpOp P ops Q i (fun a' w'' => ∃ v, a' = F (upd f i v) ∧ G (listed.setIfInBounds i true) w'' ∧ V i v w'' ∧ ∀ k u, k ≠ i → V k u w' → V k u w'') (F f) w')
    (hfin : ∀ o, ops[L]? = some o → ∀ (listed : Array Bool) f w', G listed w' → (∀ k, k < L → V k (f k) w') → wpOp P ops Q L (fun a' w'' => Q .normal a' w'') (F f) w') :
    (Code.region id ops true).wp P Q a w := by
  refine wp_region_inv (fun listed a' w' => listed.size = L + 1 ∧ ((listed.getD L false = false ∧ Shut ops listed ∧ ∃ f, a' = F f ∧ G listed w' ∧ ∀ k, k < L → listed.getD k false = true → V k (f k) w') ∨ ((∀ j, j ≤ L → listed.getD j true = true) ∧ Q .normal a' w'))) hm ?_ ?_ ?_
  · refine ⟨by simpa using hsz, Or.inl ⟨?_, fun k o _ h => ?_, _, h0, hG0, fun k _ h => ?_⟩⟩
    · rw [Array.getD_eq_getD_getElem?, Array.getElem?_replicate]; split <;> rfl
    · rw [Array.getD_eq_getD_getElem?, Array.getElem?_replicate] at h; split at h <;> cases h
    · rw [Array.getD_eq_getD_getElem?, Array.getElem?_replicate] at h; split at h <;> cases h
  · rintro listed a' w' ⟨hs, h⟩ i hi
    obtain ⟨hl, o, ho, hpre⟩ := mem_ready.1 hi
    have hiL : i < L + 1 := by have := (Array.getElem?_eq_some_iff.1 ho).1; omega
    rcases h with ⟨hn, hS, f, rfl, hG, hV⟩ | ⟨hall, -⟩
    · by_cases e : i = L
      · subst e
        have hall : ∀ k, k < i → listed.getD k false = true := fun k hk => shut_all hlo hS ho hpre (i - k) k (by omega) hk
        refine wpOp_mono (fun a'' w'' hq => ⟨by simpa using hs, Or.inr ⟨fun j hj => ?_, hq⟩⟩) (hfin o ho listed f w' hG (fun k hk => hV k hk (hall k hk)))
        rw [getTF (by simp; omega), getF_set' _ _ _ (by omega)]
        by_cases e : j = i
        · simp [e]
        · rw [if_neg e]; exact hall j (by omega)
      · refine wpOp_mono ?_ (hstep i (by omega) o ho listed f w' hs hl hG (fun e he hb => hV e.on (by have := ordOkB_of hord i o ho e he hb; omega) (hpre e he hb)))
        rintro a'' w'' ⟨v, rfl, hG', hv, hmono⟩
        refine ⟨by simpa using hs, Or.inl ⟨?_, fun k o' ho' hkl e' he' hb' => ?_, _, rfl, hG', fun k hk hkl => ?_⟩⟩
        · rw [getF_set' _ _ _ (by omega), if_neg (Ne.symm e)]; exact hn
        · rw [getF_set' _ _ _ (by omega)] at hkl ⊢
          by_cases ee : e'.on = i
          · rw [if_pos ee]
          · rw [if_neg ee]
            by_cases ek : k = i
            · subst ek
              rw [ho] at ho'; injection ho' with ho'; subst ho'
              exact hpre e' he' hb'
            · rw [if_neg ek] at hkl
              exact hS k o' ho' hkl e' he' hb'
        · rw [getF_set' _ _ _ (by omega)] at hkl
          by_cases ek : k = i
          · subst ek; simpa [upd] using hv
          · rw [if_neg ek] at hkl
            simp only [upd, if_neg ek]
            exact hmono _ _ ek (hV k hk hkl)
    · rw [hall i (by omega)] at hl; cases hl
  · rintro listed a' w' ⟨hs, h⟩ hr
    rcases h with ⟨hn, -⟩ | ⟨-, hq⟩
    · have := all_listedB hr hsz (ordOkB_of hord) hs L (by omega)
      rw [getTF (by omega)] at this
      rw [this] at hn; cases hn
    · exact hq
end Go.Proofs.YtpnjoniolfmbnaaGreatDoor
