/- What a right expression is, in plain words, in the document's way and in the program's way, and that both say the same. -/
import Derived.Test.YtjmbgpdbnffkpaaJ1
namespace Go.Proofs.Ytjmbgpdbnffkpaa
open Pl

def alEq (x y : Al) : Bool := x.t.toList == y.t.toList && x.s.toList == y.s.toList
def alB (a : Al) : Bool := nameB a.t && setB' a.s
/-- is it among the first k? -/
def inPre (xs : List Al) (k : Nat) (a : Al) : Bool := (xs.take k).any fun x => alEq x a
theorem inPre_succ (xs : List Al) (k : Nat) (a : Al) (h : k < xs.length) : inPre xs (k + 1) a = (inPre xs k a || alEq xs[k] a) := by
  unfold inPre; rw [List.take_succ_eq_append_getElem h, List.any_append]; simp
theorem inPre_zero (xs : List Al) (a : Al) : inPre xs 0 a = false := by simp [inPre]
/-- the first k are right and unlike -/
def upA (xs : List Al) : Nat → Bool
  | 0 => true
  | k + 1 => upA xs k && (xs[k]?.map fun a => alB a && !inPre xs k a).getD true
theorem upA_succ (xs : List Al) (k : Nat) (h : k < xs.length) : upA xs (k + 1) = (upA xs k && (alB xs[k] && !inPre xs k xs[k])) := by
  simp [upA, h]
theorem upA_bad (xs : List Al) (k : Nat) (h : k < xs.length) (hb : (alB xs[k] && !inPre xs k xs[k]) = false) : ∀ n, k < n → upA xs n = false
  | 0, hn => by omega
  | n + 1, hn => by
    by_cases e : n = k
    · subst e; rw [upA_succ _ _ h, hb]; simp
    · simp [upA, upA_bad xs k h hb n (by omega)]
def allowB (xs : List Al) : Bool := decide (1 ≤ xs.length) && decide (xs.length ≤ 6) && upA xs xs.length

def nodeB (e : Ex) : Bool :=
  if e.kind = 1 then allowB e.allow && e.over.toList.isEmpty && e.name.toList.isEmpty && decide (e.kids.length = 0)
  else if e.kind = 2 then nameB e.name && decide (e.allow.length = 0) && e.over.toList.isEmpty && decide (e.kids.length = 0)
  else if e.kind = 3 then nameB e.over && nameB e.name && decide (e.allow.length = 0) && decide (e.kids.length = 0)
  else if e.kind = 4 ∨ e.kind = 5 then decide (2 ≤ e.kids.length) && decide (e.kids.length ≤ 5) && decide (e.allow.length = 0) && e.over.toList.isEmpty && e.name.toList.isEmpty
  else if e.kind = 6 then decide (e.kids.length = 2) && decide (e.allow.length = 0) && e.over.toList.isEmpty && e.name.toList.isEmpty
  else false

/-- the first node of the tree: from the last kid back -/
def treeGo (f : Int → Int) : List Int → Int → Int
  | [], at' => at' + 1
  | k :: ks, at' => if at' < 0 ∨ k ≠ at' then -1 else if f at' < 0 then -1 else treeGo f ks (f at' - 1)
def kidsAt (es : List Ex) (n : Nat) : List Int := (es[n]?.map Ex.kids).getD []
def treeAt (es : List Ex) (n : Nat) : Int := treeGo (fun x => if _h : 0 ≤ x ∧ x.toNat < n then treeAt es x.toNat else -1) (kidsAt es n).reverse ((n : Int) - 1)
def treeF (es : List Ex) (n : Nat) (x : Int) : Int := if 0 ≤ x ∧ x.toNat < n then treeAt es x.toNat else -1
theorem treeAt_eq (es : List Ex) (n : Nat) : treeAt es n = treeGo (treeF es n) (kidsAt es n).reverse ((n : Int) - 1) := by
  rw [treeAt]
  rfl

theorem treeGo_le {f : Int → Int} (hf : ∀ x, 0 ≤ x → f x ≤ x) : ∀ (ks : List Int) (a : Int), -1 ≤ a → treeGo f ks a ≤ a + 1
  | [], a, _ => by simp [treeGo]
  | k :: ks, a, ha => by
    unfold treeGo
    split
    · omega
    · rename_i h
      split
      · omega
      · rename_i h2
        have h0 : 0 ≤ a := by omega
        have := treeGo_le hf ks (f a - 1) (by omega)
        have := hf a h0
        omega
theorem treeAt_le (es : List Ex) (n : Nat) : treeAt es n ≤ n := by
  induction n using Nat.strongRecOn with
  | ind n ih =>
    rw [treeAt_eq]
    have := treeGo_le (f := treeF es n) (fun x hx => by
      unfold treeF
      split
      · rename_i h; have := ih x.toNat h.2; omega
      · omega) (kidsAt es n).reverse ((n : Int) - 1) (by omega)
    omega
theorem treeF_le (es : List Ex) (n : Nat) (x : Int) (hx : 0 ≤ x) : treeF es n x ≤ x := by
  unfold treeF
  split
  · have := treeAt_le es x.toNat; omega
  · omega

/-- what is found covers all nodes in between -/
theorem treeGo_covers {es : List Ex} {n : Nat} (ih : ∀ m, m < n → 0 ≤ treeAt es m → ∀ j : Nat, treeAt es m ≤ j → j ≤ m → 0 ≤ treeAt es j) :
    ∀ (ks : List Int) (a : Int), a < n → 0 ≤ treeGo (treeF es n) ks a → ∀ j : Nat, treeGo (treeF es n) ks a ≤ j → (j : Int) ≤ a → 0 ≤ treeAt es j
  | [], a, ha, h, j, h1, h2 => by simp [treeGo] at h1; omega
  | k :: ks, a, ha, h, j, h1, h2 => by
    unfold treeGo at h h1
    split at h
    · omega
    · rename_i c
      rw [if_neg c] at h1
      split at h
      · omega
      · rename_i c2
        rw [if_neg c2] at h1
        have h0 : 0 ≤ a := by omega
        have hF : treeF es n a = treeAt es a.toNat := by unfold treeF; rw [if_pos ⟨h0, by omega⟩]
        rw [hF] at h h1 c2
        by_cases hj : treeAt es a.toNat ≤ j
        · exact ih a.toNat (by omega) (by omega) j hj (by omega)
        · exact treeGo_covers ih ks (treeAt es a.toNat - 1) (by have := treeAt_le es a.toNat; omega) h j h1 (by omega)
theorem treeAt_covers (es : List Ex) (n : Nat) : 0 ≤ treeAt es n → ∀ j : Nat, treeAt es n ≤ j → j ≤ n → 0 ≤ treeAt es j := by
  induction n using Nat.strongRecOn with
  | ind n ih =>
    intro h j h1 h2
    by_cases e : j = n
    · subst e; exact h
    · rw [treeAt_eq] at h h1
      exact treeGo_covers ih _ _ (by omega) h j h1 (by omega)

/-- a node's kids lie ahead of it -/
def kidsIn (es : List Ex) (i : Nat) : Bool := (kidsAt es i).all fun k => decide (0 ≤ k) && decide (k ≤ (i : Int) - 1)
theorem treeGo_kids {es : List Ex} {n : Nat} : ∀ (ks : List Int) (a : Int), a < n → 0 ≤ treeGo (treeF es n) ks a → ∀ k ∈ ks, 0 ≤ k ∧ k ≤ a
  | [], _, _, _, k, hk => by cases hk
  | x :: ks, a, ha, h, k, hk => by
    unfold treeGo at h
    split at h
    · omega
    · rename_i c
      split at h
      · omega
      · rename_i c2
        have h0 : 0 ≤ a := by omega
        rcases List.mem_cons.1 hk with rfl | hk
        · omega
        · have hl := treeF_le es n a h0
          have := treeGo_kids ks (treeF es n a - 1) (by omega) h k hk
          omega
theorem kidsIn_of (es : List Ex) (i : Nat) (h : 0 ≤ treeAt es i) : kidsIn es i = true := by
  unfold kidsIn
  rw [List.all_eq_true]
  intro k hk
  rw [treeAt_eq] at h
  have := treeGo_kids _ _ (by omega) h k (by simpa using hk)
  simp; omega

/-- the program's way: where each tree begins -/
def placeGo (bs : List Int) : List Int → Int → Int
  | [], b => b
  | k :: ks, b => if b = 0 ∨ k ≠ b - 1 then -1 else placeGo bs ks (bs.getD (b - 1).toNat 0)
theorem placeGo_eq {es : List Ex} {n : Nat} {bs : List Int} (hbs : ∀ j, j < n → bs.getD j 0 = treeAt es j ∧ 0 ≤ treeAt es j) :
    ∀ (ks : List Int) (b : Int), 0 ≤ b → b ≤ n → placeGo bs ks b = treeGo (treeF es n) ks (b - 1)
  | [], b, _, _ => by simp [placeGo, treeGo]
  | k :: ks, b, h0, hn => by
    unfold placeGo treeGo
    by_cases c : b = 0 ∨ k ≠ b - 1
    · rw [if_pos c, if_pos (by omega)]
    · rw [if_neg c, if_neg (by omega)]
      have hlt : (b - 1).toNat < n := by omega
      obtain ⟨e1, e2⟩ := hbs _ hlt
      have hF : treeF es n (b - 1) = treeAt es (b - 1).toNat := by unfold treeF; rw [if_pos ⟨by omega, hlt⟩]
      rw [hF, if_neg (by omega), e1]
      exact placeGo_eq hbs ks _ e2 (by have := treeAt_le es (b - 1).toNat; omega)

/-- all trees up to node n are right -/
def goodUp (es : List Ex) (n : Nat) : Prop := ∀ j, j < n → 0 ≤ treeAt es j
def own (es : List Ex) : Nat := (es.filter fun e => decide (e.kind = 1)).length
def ownUp (es : List Ex) (k : Nat) : Nat := own (es.take k)
theorem ownUp_succ (es : List Ex) (k : Nat) (h : k < es.length) : ownUp es (k + 1) = ownUp es k + (if es[k].kind = 1 then 1 else 0) := by
  unfold ownUp own
  rw [List.take_succ_eq_append_getElem h, List.filter_append, List.length_append]
  by_cases e : es[k].kind = 1 <;> simp [e]
theorem ownUp_le (es : List Ex) (k : Nat) : ownUp es k ≤ k := by
  unfold ownUp own
  exact Nat.le_trans (List.length_filter_le ..) (by simp; omega)
def nodesUp (es : List Ex) (k : Nat) : Bool := (es.take k).all nodeB
theorem nodesUp_succ (es : List Ex) (k : Nat) (h : k < es.length) : nodesUp es (k + 1) = (nodesUp es k && nodeB es[k]) := by
  unfold nodesUp; rw [List.take_succ_eq_append_getElem h, List.all_append]; simp
theorem nodes_bad (es : List Ex) (k : Nat) (h : k < es.length) (hb : nodeB es[k] = false) : es.all nodeB = false := by
  rw [Bool.eq_false_iff]; intro h2; rw [List.all_eq_true] at h2; have := h2 es[k] (List.getElem_mem h); rw [hb] at this; cases this
def kidsUp (es : List Ex) (k : Nat) : Bool := (List.range k).all (kidsIn es)
theorem kidsUp_succ (es : List Ex) (k : Nat) : kidsUp es (k + 1) = (kidsUp es k && kidsIn es k) := by simp [kidsUp, List.range_succ]
theorem kids_bad (es : List Ex) (k : Nat) (h : k < es.length) (hb : kidsIn es k = false) : kidsUp es es.length = false := by
  rw [Bool.eq_false_iff]; intro h2; unfold kidsUp at h2; rw [List.all_eq_true] at h2; have := h2 k (by simpa using h); rw [hb] at this; cases this

def specE (es : List Ex) : Bool := decide (1 ≤ es.length) && decide (es.length ≤ 15) && es.all nodeB && kidsUp es es.length && decide (own es ≤ 1) && decide (treeAt es (es.length - 1) = 0)
def allTrees (es : List Ex) : Bool := (List.range es.length).all fun j => decide (0 ≤ treeAt es j)
def implE (es : List Ex) : Bool := decide (1 ≤ es.length) && decide (es.length ≤ 15) && es.all nodeB && decide (own es ≤ 1) && (allTrees es && decide (treeAt es (es.length - 1) = 0))

theorem spec_impl (es : List Ex) : specE es = implE es := by
  by_cases h1 : 1 ≤ es.length
  · by_cases ht : treeAt es (es.length - 1) = 0
    · have ha : allTrees es = true := by
        unfold allTrees
        rw [List.all_eq_true]
        intro j hj
        have hj' : j < es.length := by simpa using hj
        simpa using treeAt_covers es (es.length - 1) (by omega) j (by omega) (by omega)
      have hk : kidsUp es es.length = true := by
        unfold kidsUp
        rw [List.all_eq_true]
        intro j hj
        have hj' : j < es.length := by simpa using hj
        exact kidsIn_of es j (treeAt_covers es (es.length - 1) (by omega) j (by omega) (by omega))
      simp [specE, implE, ht, ha, hk, h1]
    · simp [specE, implE, ht]
  · simp [specE, implE, h1]

end Go.Proofs.Ytjmbgpdbnffkpaa
