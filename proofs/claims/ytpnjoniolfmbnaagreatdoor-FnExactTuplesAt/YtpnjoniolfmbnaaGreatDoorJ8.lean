/- Expressions in memory: slices of allowed pairs, of whole numbers, of nodes; what a later world keeps of them. -/
import Derived.Test.YtpnjoniolfmbnaaGreatDoorJ1
namespace Go.Proofs.YtpnjoniolfmbnaaGreatDoor
open Go.ChangeShapes Go.WideShapes Go.ChangeAt Go.RowKit
open Pl

/-- an allowed type with its set -/
structure Al where
  t : ByteArray
  s : ByteArray
def Al.fits (a : Al) : Prop := a.t.size ≤ maxLen ∧ a.s.size ≤ maxLen
/-- two cells hold an allowed pair -/
def At2 (w : World) (b off : Nat) (a : Al) : Prop := w.cell? ⟨b, off, none⟩ = some (.string a.t) ∧ w.cell? ⟨b, off + 1, none⟩ = some (.string a.s)
/-- what a slice of allowed pairs leads to -/
def SlA (w : World) (ad : Option Addr) (xs : List Al) : Prop := xs = [] ∨ ∃ b off, ad = some ⟨b, off, none⟩ ∧ b < w.heap.size ∧ ∀ (i : Nat) (h : i < xs.length), At2 w b (off + i * 2) xs[i]
/-- what a slice of whole numbers leads to -/
def SlI (w : World) (ad : Option Addr) (zs : List Int) : Prop := zs = [] ∨ ∃ b off, ad = some ⟨b, off, none⟩ ∧ b < w.heap.size ∧ ∀ (i : Nat) (h : i < zs.length), w.cell? ⟨b, off + i, none⟩ = some (.int .i64 zs[i])

theorem At2.same {w w' : World} {b off : Nat} {a : Al} (h : At2 w b off a) (hc : ∀ o, w'.cell? ⟨b, o, none⟩ = w.cell? ⟨b, o, none⟩) : At2 w' b off a := ⟨(hc _).trans h.1, (hc _).trans h.2⟩
theorem SlA.below {w w' : World} {ad : Option Addr} {xs : List Al} (h : SlA w ad xs) (hB : Below w.heap.size w w') : SlA w' ad xs := by
  rcases h with h | ⟨b, off, e, hb, hr⟩
  · exact .inl h
  · exact .inr ⟨b, off, e, Nat.lt_of_lt_of_le hb hB.size, fun i hi => (hr i hi).same fun o => hB.cell (p := ⟨b, o, none⟩) hb⟩
theorem SlI.below {w w' : World} {ad : Option Addr} {zs : List Int} (h : SlI w ad zs) (hB : Below w.heap.size w w') : SlI w' ad zs := by
  rcases h with h | ⟨b, off, e, hb, hr⟩
  · exact .inl h
  · exact .inr ⟨b, off, e, Nat.lt_of_lt_of_le hb hB.size, fun i hi => (hB.cell (p := ⟨b, off + i, none⟩) hb).trans (hr i hi)⟩

/-- a node -/
structure Ex where
  kind : Int
  allow : List Al
  over : ByteArray
  name : ByteArray
  kids : List Int
/-- a node in memory: where its lists lie -/
structure ER where
  e : Ex
  adA : Option Addr
  capA : Nat
  adK : Option Addr
  capK : Nat
def ER.val (r : ER) : Value := .agg #[.int .i64 r.e.kind, .slice r.adA r.e.allow.length r.capA, .string r.e.over, .string r.e.name, .slice r.adK r.e.kids.length r.capK]
def ER.ok (w : World) (r : ER) : Prop := SlA w r.adA r.e.allow ∧ SlI w r.adK r.e.kids
def Ex.fits (e : Ex) : Prop := (∀ a ∈ e.allow, a.fits) ∧ e.over.size ≤ maxLen ∧ e.name.size ≤ maxLen ∧ e.allow.length ≤ maxLen ∧ e.kids.length ≤ maxLen
theorem ER.ok.below {w w' : World} {r : ER} (h : r.ok w) (hB : Below w.heap.size w w') : r.ok w' := ⟨h.1.below hB, h.2.below hB⟩
/-- five cells hold a node -/
def At5 (w : World) (b off : Nat) (r : ER) : Prop :=
  w.cell? ⟨b, off, none⟩ = some (.int .i64 r.e.kind) ∧ w.cell? ⟨b, off + 1, none⟩ = some (.slice r.adA r.e.allow.length r.capA) ∧ w.cell? ⟨b, off + 2, none⟩ = some (.string r.e.over) ∧
  w.cell? ⟨b, off + 3, none⟩ = some (.string r.e.name) ∧ w.cell? ⟨b, off + 4, none⟩ = some (.slice r.adK r.e.kids.length r.capK)
theorem At5.same {w w' : World} {b off : Nat} {r : ER} (h : At5 w b off r) (hc : ∀ o, w'.cell? ⟨b, o, none⟩ = w.cell? ⟨b, o, none⟩) : At5 w' b off r := by
  obtain ⟨h0, h1, h2, h3, h4⟩ := h
  exact ⟨(hc _).trans h0, (hc _).trans h1, (hc _).trans h2, (hc _).trans h3, (hc _).trans h4⟩
/-- what a slice of nodes leads to -/
def SlE (w : World) (ad : Option Addr) (rs : List ER) : Prop := rs = [] ∨ ∃ b off, ad = some ⟨b, off, none⟩ ∧ b < w.heap.size ∧ (∀ (i : Nat) (h : i < rs.length), At5 w b (off + i * 5) rs[i]) ∧ ∀ r ∈ rs, r.ok w
theorem SlE.below {w w' : World} {ad : Option Addr} {rs : List ER} (h : SlE w ad rs) (hB : Below w.heap.size w w') : SlE w' ad rs := by
  rcases h with h | ⟨b, off, e, hb, hr, hk⟩
  · exact .inl h
  · exact .inr ⟨b, off, e, Nat.lt_of_lt_of_le hb hB.size, fun i hi => (hr i hi).same fun o => hB.cell (p := ⟨b, o, none⟩) hb, fun r hr => (hk r hr).below hB⟩
def exs (rs : List ER) : List Ex := rs.map ER.e
theorem exs_len (rs : List ER) : (exs rs).length = rs.length := by simp [exs]

/-- a set is empty or a name -/
def setB' (s : ByteArray) : Bool := s.toList.isEmpty || nameB s
theorem setOk_any' (s : ByteArray) (w : World) (hs : s.size ≤ maxLen) :
    Calls Tryz.prog 113 #[.string s] w fun e w' => e = .returned (.bool (setB' s)) ∧ w' = w := by
  go_enter Tryz.func113, Tryz.ntmps113
  go_wp2_with (go_at_call 112; refine (implName_any _ _ hs).mono ?_; rintro e w' ⟨rfl, rfl⟩)
  all_goals go_ret
  all_goals exact ⟨ret_bool (by simp [setB', *]), rfl⟩

end Go.Proofs.YtpnjoniolfmbnaaGreatDoor

/- What a right expression is, in plain words, in the document's way and in the program's way, and that both say the same. -/
namespace Go.Proofs.YtpnjoniolfmbnaaGreatDoor
open Pl

def alEq (x y : Al) : Bool := x.t.toList == y.t.toList && x.s.toList == y.s.toList
def alB (a : Al) : Bool := nameB a.t && setB' a.s
/-- is it among the first k? -/
def inPre (xs : List Al) (k : Nat) (a : Al) : Bool := (xs.take k).any fun x => alEq x a
theorem inPre_succ (xs : List Al) (k : Nat) (a : Al) (h : k < xs.length) : inPre xs (k + 1) a = (inPre xs k a || alEq xs[k] a) := by
  unfold inPre; rw [List.take_succ_eq_append_getElem h, List.any_append]; simp
theorem inPre_zero (xs : List Al) (a : Al) : inPre xs 0 a = false := by simp [inPre]
/-- the first k are right and unlike -/
def upA (xs : List Al) : Nat → Bool
  | 0 => true
  | k + 1 => upA xs k && (xs[k]?.map fun a => alB a && !inPre xs k a).getD true
theorem upA_succ (xs : List Al) (k : Nat) (h : k < xs.length) : upA xs (k + 1) = (upA xs k && (alB xs[k] && !inPre xs k xs[k])) := by
  simp [upA, h]
theorem upA_bad (xs : List Al) (k : Nat) (h : k < xs.length) (hb : (alB xs[k] && !inPre xs k xs[k]) = false) : ∀ n, k < n → upA xs n = false
  | 0, hn => by omega
  | n + 1, hn => by
    by_cases e : n = k
    · subst e; rw [upA_succ _ _ h, hb]; simp
    · simp [upA, upA_bad xs k h hb n (by omega)]
def allowB (xs : List Al) : Bool := decide (1 ≤ xs.length) && decide (xs.length ≤ 6) && upA xs xs.length

def nodeB (e : Ex) : Bool :=
  if e.kind = 1 then allowB e.allow && e.over.toList.isEmpty && e.name.toList.isEmpty && decide (e.kids.length = 0)
  else if e.kind = 2 then nameB e.name && decide (e.allow.length = 0) && e.over.toList.isEmpty && decide (e.kids.length = 0)
  else if e.kind = 3 then nameB e.over && nameB e.name && decide (e.allow.length = 0) && decide (e.kids.length = 0)
  else if e.kind = 4 ∨ e.kind = 5 then decide (2 ≤ e.kids.length) && decide (e.kids.length ≤ 5) && decide (e.allow.length = 0) && e.over.toList.isEmpty && e.name.toList.isEmpty
  else if e.kind = 6 then decide (e.kids.length = 2) && decide (e.allow.length = 0) && e.over.toList.isEmpty && e.name.toList.isEmpty
  else false

/-- the first node of the tree: from the last kid back -/
def treeGo (f : Int → Int) : List Int → Int → Int
  | [], at' => at' + 1
  | k :: ks, at' => if at' < 0 ∨ k ≠ at' then -1 else if f at' < 0 then -1 else treeGo f ks (f at' - 1)
def kidsAt (es : List Ex) (n : Nat) : List Int := (es[n]?.map Ex.kids).getD []
def treeAt (es : List Ex) (n : Nat) : Int := treeGo (fun x => if _h : 0 ≤ x ∧ x.toNat < n then treeAt es x.toNat else -1) (kidsAt es n).reverse ((n : Int) - 1)
def treeF (es : List Ex) (n : Nat) (x : Int) : Int := if 0 ≤ x ∧ x.toNat < n then treeAt es x.toNat else -1
theorem treeAt_eq (es : List Ex) (n : Nat) : treeAt es n = treeGo (treeF es n) (kidsAt es n).reverse ((n : Int) - 1) := by
  rw [treeAt]
  rfl

theorem treeGo_le {f : Int → Int} (hf : ∀ x, 0 ≤ x → f x ≤ x) : ∀ (ks : List Int) (a : Int), -1 ≤ a → treeGo f ks a ≤ a + 1
  | [], a, _ => by simp [treeGo]
  | k :: ks, a, ha => by
    unfold treeGo
    split
    · omega
    · rename_i h
      split
      · omega
      · rename_i h2
        have h0 : 0 ≤ a := by omega
        have := treeGo_le hf ks (f a - 1) (by omega)
        have := hf a h0
        omega
theorem treeAt_le (es : List Ex) (n : Nat) : treeAt es n ≤ n := by
  induction n using Nat.strongRecOn with
  | ind n ih =>
    rw [treeAt_eq]
    have := treeGo_le (f := treeF es n) (fun x hx => by
      unfold treeF
      split
      · rename_i h; have := ih x.toNat h.2; omega
      · omega) (kidsAt es n).reverse ((n : Int) - 1) (by omega)
    omega
theorem treeF_le (es : List Ex) (n : Nat) (x : Int) (hx : 0 ≤ x) : treeF es n x ≤ x := by
  unfold treeF
  split
  · have := treeAt_le es x.toNat; omega
  · omega

/-- what is found covers all nodes in between -/
theorem treeGo_covers {es : List Ex} {n : Nat} (ih : ∀ m, m < n → 0 ≤ treeAt es m → ∀ j : Nat, treeAt es m ≤ j → j ≤ m → 0 ≤ treeAt es j) :
    ∀ (ks : List Int) (a : Int), a < n → 0 ≤ treeGo (treeF es n) ks a → ∀ j : Nat, treeGo (treeF es n) ks a ≤ j → (j : Int) ≤ a → 0 ≤ treeAt es j
  | [], a, ha, h, j, h1, h2 => by simp [treeGo] at h1; omega
  | k :: ks, a, ha, h, j, h1, h2 => by
    unfold treeGo at h h1
    split at h
    · omega
    · rename_i c
      rw [if_neg c] at h1
      split at h
      · omega
      · rename_i c2
        rw [if_neg c2] at h1
        have h0 : 0 ≤ a := by omega
        have hF : treeF es n a = treeAt es a.toNat := by unfold treeF; rw [if_pos ⟨h0, by omega⟩]
        rw [hF] at h h1 c2
        by_cases hj : treeAt es a.toNat ≤ j
        · exact ih a.toNat (by omega) (by omega) j hj (by omega)
        · exact treeGo_covers ih ks (treeAt es a.toNat - 1) (by have := treeAt_le es a.toNat; omega) h j h1 (by omega)
theorem treeAt_covers (es : List Ex) (n : Nat) : 0 ≤ treeAt es n → ∀ j : Nat, treeAt es n ≤ j → j ≤ n → 0 ≤ treeAt es j := by
  induction n using Nat.strongRecOn with
  | ind n ih =>
    intro h j h1 h2
    by_cases e : j = n
    · subst e; exact h
    · rw [treeAt_eq] at h h1
      exact treeGo_covers ih _ _ (by omega) h j h1 (by omega)

/-- a node's kids lie ahead of it -/
def kidsIn (es : List Ex) (i : Nat) : Bool := (kidsAt es i).all fun k => decide (0 ≤ k) && decide (k ≤ (i : Int) - 1)
theorem treeGo_kids {es : List Ex} {n : Nat} : ∀ (ks : List Int) (a : Int), a < n → 0 ≤ treeGo (treeF es n) ks a → ∀ k ∈ ks, 0 ≤ k ∧ k ≤ a
  | [], _, _, _, k, hk => by cases hk
  | x :: ks, a, ha, h, k, hk => by
    unfold treeGo at h
    split at h
    · omega
    · rename_i c
      split at h
      · omega
      · rename_i c2
        have h0 : 0 ≤ a := by omega
        rcases List.mem_cons.1 hk with rfl | hk
        · omega
        · have hl := treeF_le es n a h0
          have := treeGo_kids ks (treeF es n a - 1) (by omega) h k hk
          omega
theorem kidsIn_of (es : List Ex) (i : Nat) (h : 0 ≤ treeAt es i) : kidsIn es i = true := by
  unfold kidsIn
  rw [List.all_eq_true]
  intro k hk
  rw [treeAt_eq] at h
  have := treeGo_kids _ _ (by omega) h k (by simpa using hk)
  simp; omega

/-- all trees up to node n are right -/
def goodUp (es : List Ex) (n : Nat) : Prop := ∀ j, j < n → 0 ≤ treeAt es j
def own (es : List Ex) : Nat := (es.filter fun e => decide (e.kind = 1)).length
def ownUp (es : List Ex) (k : Nat) : Nat := own (es.take k)
theorem ownUp_succ (es : List Ex) (k : Nat) (h : k < es.length) : ownUp es (k + 1) = ownUp es k + (if es[k].kind = 1 then 1 else 0) := by
  unfold ownUp own
  rw [List.take_succ_eq_append_getElem h, List.filter_append, List.length_append]
  by_cases e : es[k].kind = 1 <;> simp [e]
theorem ownUp_le (es : List Ex) (k : Nat) : ownUp es k ≤ k := by
  unfold ownUp own
  exact Nat.le_trans (List.length_filter_le ..) (by simp; omega)
def nodesUp (es : List Ex) (k : Nat) : Bool := (es.take k).all nodeB
theorem nodesUp_succ (es : List Ex) (k : Nat) (h : k < es.length) : nodesUp es (k + 1) = (nodesUp es k && nodeB es[k]) := by
  unfold nodesUp; rw [List.take_succ_eq_append_getElem h, List.all_append]; simp
theorem nodes_bad (es : List Ex) (k : Nat) (h : k < es.length) (hb : nodeB es[k] = false) : es.all nodeB = false := by
  rw [Bool.eq_false_iff]; intro h2; rw [List.all_eq_true] at h2; have := h2 es[k] (List.getElem_mem h); rw [hb] at this; cases this
def kidsUp (es : List Ex) (k : Nat) : Bool := (List.range k).all (kidsIn es)
theorem kidsUp_succ (es : List Ex) (k : Nat) : kidsUp es (k + 1) = (kidsUp es k && kidsIn es k) := by simp [kidsUp, List.range_succ]
theorem kids_bad (es : List Ex) (k : Nat) (h : k < es.length) (hb : kidsIn es k = false) : kidsUp es es.length = false := by
  rw [Bool.eq_false_iff]; intro h2; unfold kidsUp at h2; rw [List.all_eq_true] at h2; have := h2 k (by simpa using h); rw [hb] at this; cases this

def specE (es : List Ex) : Bool := decide (1 ≤ es.length) && decide (es.length ≤ 15) && es.all nodeB && kidsUp es es.length && decide (own es ≤ 1) && decide (treeAt es (es.length - 1) = 0)
def allTrees (es : List Ex) : Bool := (List.range es.length).all fun j => decide (0 ≤ treeAt es j)
def implE (es : List Ex) : Bool := decide (1 ≤ es.length) && decide (es.length ≤ 15) && es.all nodeB && decide (own es ≤ 1) && (allTrees es && decide (treeAt es (es.length - 1) = 0))

theorem spec_impl (es : List Ex) : specE es = implE es := by
  by_cases h1 : 1 ≤ es.length
  · by_cases ht : treeAt es (es.length - 1) = 0
    · have ha : allTrees es = true := by
        unfold allTrees
        rw [List.all_eq_true]
        intro j hj
        have hj' : j < es.length := by simpa using hj
        simpa using treeAt_covers es (es.length - 1) (by omega) j (by omega) (by omega)
      have hk : kidsUp es es.length = true := by
        unfold kidsUp
        rw [List.all_eq_true]
        intro j hj
        have hj' : j < es.length := by simpa using hj
        exact kidsIn_of es j (treeAt_covers es (es.length - 1) (by omega) j (by omega) (by omega))
      simp [specE, implE, ht, ha, hk, h1]
    · simp [specE, implE, ht]
  · simp [specE, implE, h1]

end Go.Proofs.YtpnjoniolfmbnaaGreatDoor
