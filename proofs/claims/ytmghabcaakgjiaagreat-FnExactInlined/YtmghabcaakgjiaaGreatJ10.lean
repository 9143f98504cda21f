/- An expression whose leaves are changed, in plain words: where each old node has come to; leaves that stay leave all as it was. -/
import Derived.Test.YtmghabcaakgjiaaGreatJ6
import Derived.Test.YtmghabcaakgjiaaGreatMoved
namespace Go.Proofs.YtmghabcaakgjiaaGreat
set_option linter.unusedVariables false
open Pl

/-- one node more: what is there, and where the whole of each old node has come to -/
def chgStep (f : Ex → List Ex) (s : List Ex × List Int) (e : Ex) : List Ex × List Int :=
  if e.kids.isEmpty then (s.1 ++ (f e).map (movX fun k => (s.1.length : Int) + k), s.2 ++ [((s.1 ++ (f e).map (movX fun k => (s.1.length : Int) + k)).length : Int) - 1])
  else (s.1 ++ [movX (fun k => s.2.getD k.toNat 0) e], s.2 ++ [(s.1.length : Int)])
def chgUp (f : Ex → List Ex) (es : List Ex) (k : Nat) : List Ex × List Int := (es.take k).foldl (chgStep f) ([], [])
def chgE (f : Ex → List Ex) (es : List Ex) : List Ex := (chgUp f es es.length).1
theorem chgUp_zero (f : Ex → List Ex) (es : List Ex) : chgUp f es 0 = ([], []) := by simp [chgUp]
theorem chgUp_succ (f : Ex → List Ex) (es : List Ex) (k : Nat) (h : k < es.length) : chgUp f es (k + 1) = chgStep f (chgUp f es k) es[k] := by
  unfold chgUp; rw [List.take_succ_eq_append_getElem h, List.foldl_append]; rfl
theorem chgUp_len (f : Ex → List Ex) (es : List Ex) : ∀ k, k ≤ es.length → (chgUp f es k).2.length = k
  | 0, _ => by rw [chgUp_zero]; rfl
  | k + 1, h => by
    rw [chgUp_succ f es k (by omega)]
    have ih := chgUp_len f es k (by omega)
    unfold chgStep
    split <;> simp [ih]
theorem chgUp_few (f : Ex → List Ex) (es : List Ex) (B : Nat) (hB : 1 ≤ B) (hf : ∀ e ∈ es, (f e).length ≤ B) : ∀ k, k ≤ es.length → (chgUp f es k).1.length ≤ k * B
  | 0, _ => by rw [chgUp_zero]; simp
  | k + 1, h => by
    rw [chgUp_succ f es k (by omega)]
    have ih := chgUp_few f es B hB hf k (by omega)
    have hm := hf es[k] (List.getElem_mem _)
    unfold chgStep
    have : (k + 1) * B = k * B + B := Nat.succ_mul k B
    split <;> simp only [List.length_append, List.length_map, List.length_singleton] <;> omega
/-- kids stand ahead of their node -/
def kidsLow (es : List Ex) : Prop := ∀ (i : Nat) (h : i < es.length), ∀ x ∈ es[i].kids, 0 ≤ x ∧ x < (i : Int)
theorem kidsLow_of {es : List Ex} (h : specE es = true) : kidsLow es := by
  intro i hi x hx
  unfold specE at h
  simp only [Bool.and_eq_true, decide_eq_true_eq] at h
  have h1 := h.1.1.2
  unfold kidsUp at h1
  rw [List.all_eq_true] at h1
  have h2 := h1 i (by simpa using hi)
  unfold kidsIn kidsAt at h2
  rw [List.getElem?_eq_getElem hi] at h2
  simp only [Option.map_some, Option.getD_some, List.all_eq_true, Bool.and_eq_true, decide_eq_true_eq] at h2
  have := h2 x hx
  omega
theorem movX_id {f : Int → Int} {e : Ex} (h : ∀ x ∈ e.kids, f x = x) : movX f e = e := by
  unfold movX
  have : e.kids.map f = e.kids := by
    conv => rhs; rw [← List.map_id e.kids]
    exact List.map_congr_left h
  rw [this]
theorem chg_same {es : List Ex} (h : kidsLow es) : ∀ k, k ≤ es.length → chgUp (fun e => [e]) es k = (es.take k, (List.range k).map fun (n : Nat) => (n : Int))
  | 0, _ => by rw [chgUp_zero]; simp
  | k + 1, hk => by
    rw [chgUp_succ _ es k (by omega), chg_same h k (by omega), List.take_succ_eq_append_getElem (by omega), List.range_succ, List.map_append]
    have hl : (es.take k).length = k := by rw [List.length_take]; omega
    unfold chgStep
    split
    · rename_i he
      have he : es[k].kids = [] := List.isEmpty_iff.1 he
      have e0 : ∀ n : Int, movX (fun x => n + x) es[k] = es[k] := fun n => movX_id (by rw [he]; intro x hx; cases hx)
      have e1 : ((k + 1 : Nat) : Int) - 1 = (k : Int) := by omega
      simp only [List.map_cons, List.map_nil, e0, List.length_append, List.length_singleton, hl, e1]
    · have : movX (fun x => ((List.range k).map fun (n : Nat) => (n : Int)).getD x.toNat 0) es[k] = es[k] := movX_id fun x hx => by
        obtain ⟨h1, h2⟩ := h k (by omega) x hx
        rw [List.getD_eq_getElem?_getD, List.getElem?_map, List.getElem?_range (by omega)]
        simp; omega
      rw [this, hl]; rfl
theorem chgE_same {es : List Ex} (h : kidsLow es) : chgE (fun e => [e]) es = es := by
  unfold chgE; rw [chg_same h _ (Nat.le_refl _), List.take_length]
/-- a schema whose leaves are changed -/
def chgR (f : ByteArray → Ex → List Ex) (tn : ByteArray) (r : Rl) : Rl := ⟨r.name, chgE (f tn) r.expr⟩
def chgT (f : ByteArray → Ex → List Ex) (t : Ty) : Ty := ⟨t.name, t.rels.map (chgR f t.name)⟩
def chgS (f : ByteArray → Ex → List Ex) (ts : List Ty) : List Ty := ts.map (chgT f)
end Go.Proofs.YtmghabcaakgjiaaGreat

/- A tree that is written anew kid by kid, with other trees in the place of some leaves, is the expression whose leaves are changed one behind another. -/
namespace Go.Proofs.YtmghabcaakgjiaaGreat
set_option linter.unusedVariables false
open Pl

/-- kids one behind another: the nodes, and where the whole of each has come to -/
def kidsStep (g : Nat → Nat → List Ex) : List Int → Nat → List Ex × List Int
  | [], _ => ([], [])
  | k :: ks, o => (g k.toNat o ++ (kidsStep g ks (o + (g k.toNat o).length)).1, (((o + (g k.toNat o).length : Nat) : Int) - 1) :: (kidsStep g ks (o + (g k.toNat o).length)).2)
/-- the tree of node n, behind o nodes -/
def putF (sub : Ex → Option (List Ex)) (es : List Ex) : Nat → Nat → Nat → List Ex
  | 0, _, _ => []
  | fuel + 1, n, o =>
    match es[n]? with
    | none => []
    | some e =>
      match sub e with
      | some bs => bs.map (movX fun k => (o : Int) + k)
      | none => (kidsStep (putF sub es fuel) e.kids o).1 ++ [{ e with kids := (kidsStep (putF sub es fuel) e.kids o).2 }]
theorem putF_sub {sub : Ex → Option (List Ex)} {es : List Ex} {fuel n o : Nat} (hn : n < es.length) {bs : List Ex} (hs : sub es[n] = some bs) : putF sub es (fuel + 1) n o = bs.map (movX fun k => (o : Int) + k) := by
  rw [putF, List.getElem?_eq_getElem hn]; simp only [hs]
theorem putF_node {sub : Ex → Option (List Ex)} {es : List Ex} {fuel n o : Nat} (hn : n < es.length) (hs : sub es[n] = none) : putF sub es (fuel + 1) n o = (kidsStep (putF sub es fuel) es[n].kids o).1 ++ [{ es[n] with kids := (kidsStep (putF sub es fuel) es[n].kids o).2 }] := by
  rw [putF, List.getElem?_eq_getElem hn]; simp only [hs]
theorem kidsStep_snoc (g : Nat → Nat → List Ex) (k : Int) : ∀ (ks : List Int) (o : Nat), kidsStep g (ks ++ [k]) o = ((kidsStep g ks o).1 ++ g k.toNat (o + (kidsStep g ks o).1.length), (kidsStep g ks o).2 ++ [((o + (kidsStep g ks o).1.length + (g k.toNat (o + (kidsStep g ks o).1.length)).length : Nat) : Int) - 1])
  | [], o => by simp [kidsStep]
  | x :: ks, o => by
    rw [List.cons_append]
    simp only [kidsStep]
    rw [kidsStep_snoc g k ks]
    simp only [List.length_append, List.append_assoc, List.cons_append, Nat.add_assoc]
theorem kidsStep_app (g : Nat → Nat → List Ex) (ys : List Int) : ∀ (xs : List Int) (o : Nat), (kidsStep g (xs ++ ys) o).1 = (kidsStep g xs o).1 ++ (kidsStep g ys (o + (kidsStep g xs o).1.length)).1
  | [], o => by simp [kidsStep]
  | x :: xs, o => by
    rw [List.cons_append]
    simp only [kidsStep]
    rw [kidsStep_app g ys xs]
    simp only [List.length_append, List.append_assoc, Nat.add_assoc]
theorem kidsStep_le (g : Nat → Nat → List Ex) (ks : List Int) (j o : Nat) : (kidsStep g (ks.take j) o).1.length ≤ (kidsStep g ks o).1.length := by
  conv => rhs; rw [← List.take_append_drop j ks, kidsStep_app]
  rw [List.length_append]; omega
theorem kidsStep_len (g : Nat → Nat → List Ex) : ∀ (ks : List Int) (o : Nat), (kidsStep g ks o).2.length = ks.length
  | [], o => rfl
  | k :: ks, o => by simp only [kidsStep, List.length_cons]; rw [kidsStep_len g ks]
/-- where each old node has come to -/
theorem place_at (f : Ex → List Ex) (es : List Ex) : ∀ k, k ≤ es.length → ∀ i, i < k → (chgUp f es k).2.getD i 0 = ((chgUp f es (i + 1)).1.length : Int) - 1
  | 0, _, i, hi => absurd hi (Nat.not_lt_zero _)
  | k + 1, hk, i, hi => by
    have hl := chgUp_len f es k (by omega)
    have hl1 := chgUp_len f es (k + 1) hk
    by_cases e : i = k
    · subst e
      rw [chgUp_succ f es i (by omega)]
      unfold chgStep
      split
      · simp only [List.getD_eq_getElem?_getD]
        rw [List.getElem?_append_right (by omega), hl]; simp
      · simp only [List.getD_eq_getElem?_getD]
        rw [List.getElem?_append_right (by omega), hl]; simp
    · have ih := place_at f es k (by omega) i (by omega)
      rw [← ih, chgUp_succ f es k (by omega)]
      unfold chgStep
      split
      · simp only [List.getD_eq_getElem?_getD]
        rw [List.getElem?_append_left (by omega)]
      · simp only [List.getD_eq_getElem?_getD]
        rw [List.getElem?_append_left (by omega)]
section
variable {sub : Ex → Option (List Ex)} {f : Ex → List Ex} {es : List Ex}
/-- what is asked of the leaves that are changed -/
structure SubOk (sub : Ex → Option (List Ex)) (f : Ex → List Ex) (es : List Ex) : Prop where
  no : ∀ e ∈ es, sub e = none → f e = [e]
  yes : ∀ e ∈ es, ∀ bs, sub e = some bs → e.kids = [] ∧ f e = bs
theorem treeGo_snoc {n : Nat} {k : Int} {rv : List Int} {a s : Int} (h : treeGo (treeF es n) (k :: rv) a = s) (hs : 0 ≤ s) (ha : a < n) : k = a ∧ 0 ≤ a ∧ treeF es n a = treeAt es a.toNat ∧ 0 ≤ treeAt es a.toNat ∧ treeGo (treeF es n) rv (treeAt es a.toNat - 1) = s := by
  unfold treeGo at h
  split at h
  · omega
  · rename_i c
    split at h
    · omega
    · rename_i c2
      have h0 : 0 ≤ a := by omega
      have hF : treeF es n a = treeAt es a.toNat := by unfold treeF; rw [if_pos ⟨h0, by omega⟩]
      rw [hF] at h c2
      exact ⟨by omega, h0, hF, by omega, h⟩
theorem kids_up {n fuel : Nat} (hn : n ≤ es.length) (ih : ∀ m, m < n → ∀ s : Nat, treeAt es m = s → (chgUp f es (m + 1)).1 = (chgUp f es s).1 ++ putF sub es fuel m (chgUp f es s).1.length) (rv : List Int) :
    ∀ (a : Int) (s : Nat), a < n → -1 ≤ a → treeGo (treeF es n) rv a = s → (chgUp f es (a + 1).toNat).1 = (chgUp f es s).1 ++ (kidsStep (putF sub es fuel) rv.reverse (chgUp f es s).1.length).1 ∧ (kidsStep (putF sub es fuel) rv.reverse (chgUp f es s).1.length).2 = rv.reverse.map fun k => (chgUp f es n).2.getD k.toNat 0 := by
  induction rv with
  | nil =>
    intro a s ha h1 h
    simp only [treeGo] at h
    have e : (a + 1).toNat = s := by omega
    rw [e]
    simp [kidsStep]
  | cons k rv ihk =>
    intro a s ha h1 h
    obtain ⟨rfl, h0, hF, hp, h2⟩ := treeGo_snoc h (by omega) ha
    obtain ⟨p, hpe⟩ : ∃ p : Nat, treeAt es k.toNat = p := ⟨(treeAt es k.toNat).toNat, by omega⟩
    have hple := treeAt_le es k.toNat
    obtain ⟨i1, i2⟩ := ihk (treeAt es k.toNat - 1) s (by omega) (by omega) h2
    have e1 : (treeAt es k.toNat - 1 + 1).toNat = p := by omega
    rw [e1] at i1
    have e2 := ih k.toNat (by omega) p hpe
    have e3 : (k + 1).toNat = k.toNat + 1 := by omega
    have e4 : (chgUp f es s).1.length + (kidsStep (putF sub es fuel) rv.reverse (chgUp f es s).1.length).1.length = (chgUp f es p).1.length := by rw [i1, List.length_append]
    rw [List.reverse_cons, kidsStep_snoc, e4, e3, e2]
    refine ⟨by rw [i1, List.append_assoc], ?_⟩
    rw [List.map_append, i2]
    have e5 := place_at f es n hn k.toNat (by omega)
    rw [e2, List.length_append] at e5
    simp only [List.map_cons, List.map_nil, e5]
theorem put_up (hso : SubOk sub f es) (hg : ∀ j, j < es.length → 0 ≤ treeAt es j) : ∀ (fuel n : Nat), n < es.length → n < fuel → ∀ s : Nat, treeAt es n = s → (chgUp f es (n + 1)).1 = (chgUp f es s).1 ++ putF sub es fuel n (chgUp f es s).1.length
  | 0, n, _, h, _, _ => absurd h (Nat.not_lt_zero _)
  | fuel + 1, n, hn, hf, s, hs => by
    have ih : ∀ m, m < n → ∀ s : Nat, treeAt es m = s → (chgUp f es (m + 1)).1 = (chgUp f es s).1 ++ putF sub es fuel m (chgUp f es s).1.length := fun m hm s hs => put_up hso hg fuel m (by omega) (by omega) s hs
    have hmem : es[n] ∈ es := List.getElem_mem hn
    have hk : kidsAt es n = es[n].kids := by unfold kidsAt; rw [List.getElem?_eq_getElem hn]; rfl
    have ht := treeAt_eq es n
    rw [hs, hk] at ht
    rw [chgUp_succ f es n hn]
    cases hsb : sub es[n] with
    | some bs =>
      obtain ⟨h1, h2⟩ := hso.yes _ hmem bs hsb
      rw [h1] at ht
      simp only [List.reverse_nil, treeGo] at ht
      have e : s = n := by omega
      subst e
      rw [putF_sub hn hsb]
      unfold chgStep
      rw [if_pos (by rw [h1]; rfl), h2]
    | none =>
      have h2 := hso.no _ hmem hsb
      rw [putF_node hn hsb]
      by_cases hz : es[n].kids = []
      · rw [hz] at ht
        simp only [List.reverse_nil, treeGo] at ht
        have e : s = n := by omega
        subst e
        unfold chgStep
        rw [if_pos (by rw [hz]; rfl), h2]
        simp only [List.map_cons, List.map_nil, hz, kidsStep, List.nil_append]
        have : ∀ (x : Ex) (g : Int → Int), x.kids = [] → movX g x = { x with kids := [] } := fun x g hx => by unfold movX; rw [hx]; rfl
        rw [this _ _ hz]
      · obtain ⟨i1, i2⟩ := kids_up (Nat.le_of_lt hn) ih es[n].kids.reverse ((n : Int) - 1) s (by omega) (by omega) ht.symm
        rw [List.reverse_reverse] at i1 i2
        have e1 : ((n : Int) - 1 + 1).toNat = n := by omega
        rw [e1] at i1
        unfold chgStep
        rw [if_neg (by simpa using hz)]
        simp only
        rw [i2, i1, List.append_assoc]
        rfl
end
theorem movX_movX (p o : Nat) (x : Ex) : movX (fun k => (o : Int) + k) (movX (fun k => (p : Int) + k) x) = movX (fun k => ((o + p : Nat) : Int) + k) x := by
  unfold movX
  simp only [List.map_map, Ex.mk.injEq, true_and]
  refine List.map_congr_left fun k _ => ?_
  simp only [Function.comp]; omega
theorem kids_shift {g : Nat → Nat → List Ex} (o : Nat) (hg : ∀ n p, g n (o + p) = (g n p).map (movX fun k => (o : Int) + k)) : ∀ (ks : List Int) (p : Nat), kidsStep g ks (o + p) = ((kidsStep g ks p).1.map (movX fun k => (o : Int) + k), (kidsStep g ks p).2.map fun k => (o : Int) + k)
  | [], p => by simp [kidsStep]
  | k :: ks, p => by
    simp only [kidsStep]
    rw [hg, List.length_map, Nat.add_assoc, kids_shift o hg ks]
    simp only [List.map_append, List.map_cons, Prod.mk.injEq, List.cons.injEq, true_and, and_true]
    omega
theorem put_shift (sub : Ex → Option (List Ex)) (es : List Ex) (o : Nat) : ∀ (fuel n p : Nat), putF sub es fuel n (o + p) = (putF sub es fuel n p).map (movX fun k => (o : Int) + k)
  | 0, n, p => by simp [putF]
  | fuel + 1, n, p => by
    by_cases hn : n < es.length
    · cases hs : sub es[n] with
      | some bs =>
        rw [putF_sub hn hs, putF_sub hn hs, List.map_map]
        exact List.map_congr_left fun x _ => (movX_movX p o x).symm
      | none =>
        rw [putF_node hn hs, putF_node hn hs, kids_shift o (put_shift sub es o fuel)]
        simp [movX]
    · have : es[n]? = none := List.getElem?_eq_none (by omega)
      simp [putF, this]
theorem specE_trees {es : List Ex} (h : specE es = true) : (∀ j, j < es.length → 0 ≤ treeAt es j) ∧ treeAt es (es.length - 1) = 0 ∧ 0 < es.length := by
  rw [spec_impl] at h
  unfold implE allTrees at h
  simp only [Bool.and_eq_true, decide_eq_true_eq, List.all_eq_true] at h
  exact ⟨fun j hj => by simpa using h.2.1 j (by simpa using hj), h.2.2, by omega⟩
/-- the whole of a right expression -/
theorem put_all {sub : Ex → Option (List Ex)} {f : Ex → List Ex} {es : List Ex} (h : specE es = true) (hso : SubOk sub f es) : putF sub es es.length (es.length - 1) 0 = chgE f es := by
  obtain ⟨h1, h2, h3⟩ := specE_trees h
  have := put_up hso h1 es.length (es.length - 1) (by omega) (by omega) 0 h2
  rw [chgUp_zero, show es.length - 1 + 1 = es.length by omega] at this
  unfold chgE
  rw [this]; rfl
/-- a right expression is copied as it is, further behind -/
theorem put_same {es : List Ex} (h : specE es = true) (o : Nat) : putF (fun _ => none) es es.length (es.length - 1) o = es.map (movX fun k => (o : Int) + k) := by
  have h1 := put_shift (fun _ => none) es o es.length (es.length - 1) 0
  rw [Nat.add_zero] at h1
  rw [h1, put_all h (f := fun e => [e]) ⟨fun _ _ _ => rfl, fun _ _ _ h => by cases h⟩, chgE_same (kidsLow_of h)]
end Go.Proofs.YtmghabcaakgjiaaGreat

/- What the program's changedExpr has while it runs: nodes, and where each old node has come to. -/
namespace Go.Proofs.YtmghabcaakgjiaaGreat
set_option maxRecDepth 100000
set_option linter.unusedVariables false
open Go.ChangeShapes Go.WideShapes Go.ChangeAt Go.RowKit Go.Maps
open Pl

theorem toHX {p : Prop} (h : p) : Hid p := h
theorem NodM.add {w0 w2 w3 : World} {base : Nat} {v v' : Value} {qs : List ER} {q : ER} (h : NodM w0 base v qs) (hb : Below w0.heap.size w0 w2) (hq : NewQ w0.heap.size w2 q) (hbase : base ≤ w0.heap.size) (hown : w3.ownsRow base 50 5 v' (qs.length + 1) (rows5 qs ++ q.row)) (hg : w2.grownBy w3 v.ownBlock) (hat : v'.ownBlock = v.ownBlock ∨ ∃ g, v'.ownBlock = some g ∧ w2.heap.size ≤ g) : NodM w3 base v' (qs ++ [q]) :=
  ExM.nod (h.ex.snocN kidE hb hown hg hat (hq.mono hbase) (fun g hg => (hq.lie g hg).1))
theorem own_slice {w : World} {base size n : Nat} {e : TypeId} {v : Value} {xs : List Value} (h : w.ownsRow base e size v n xs) : ∃ ad cap, v = .slice ad n cap := by
  rcases h.2 with ⟨rfl, h0⟩ | ⟨g, cap, cur, rfl, -⟩
  · exact ⟨none, 0, by rw [h0]⟩
  · exact ⟨_, _, rfl⟩
structure XS (w : World) (P base : Nat) (v pv : Value) (qs : List ER) (ps : List Int) : Prop where
  nod : NodM w base v qs
  pl : w.cell? ⟨P, 0, none⟩ = some pv
  fz : w.frozen? ⟨P, 0, none⟩ = false
  lt : base ≤ w.heap.size
  row : w.ownsRow base 2 1 pv ps.length (ints ps)
  ap : ∀ g, pv.ownBlock = some g → ¬ inLot inR v qs g
  hP : P < base
theorem XS.below {w w' : World} {P base : Nat} {v pv : Value} {qs : List ER} {ps : List Int} (h : XS w P base v pv qs ps) (hb : Below w.heap.size w w') : XS w' P base v pv qs ps :=
  ⟨ExM.nod (h.nod.ex.below kidE hb), kept hb (Nat.lt_of_lt_of_le h.hP h.lt) h.pl, keptF hb (Nat.lt_of_lt_of_le h.hP h.lt) h.fz, Nat.le_trans h.lt hb.size, own_heap h.row fun g hg => hb.block g (h.row.lt g hg).2, h.ap, h.hP⟩
theorem XS.add {w0 w2 w3 : World} {P base : Nat} {v v' pv : Value} {qs : List ER} {ps : List Int} {q : ER} (h : XS w0 P base v pv qs ps) (hb : Below w0.heap.size w0 w2) (hq : NewQ w0.heap.size w2 q) (hown : w3.ownsRow base 50 5 v' (qs.length + 1) (rows5 qs ++ q.row)) (hg : w2.grownBy w3 v.ownBlock) (hat : v'.ownBlock = v.ownBlock ∨ ∃ g, v'.ownBlock = some g ∧ w2.heap.size ≤ g) : XS w3 P base v' pv (qs ++ [q]) ps := by
  have h2 := h.below hb
  have hPv : v.ownBlock ≠ some P := fun e => by have := (h.nod.own.lt P e).1; have := h.hP; omega
  have hP2 : P < w2.heap.size := Nat.lt_of_lt_of_le h2.hP h2.lt
  have hPb : w3.heap[P]? = w2.heap[P]? := hg.block P hP2 (Ne.symm hPv)
  refine ⟨h.nod.add hb hq h.lt hown hg hat, (World.cell?_of_block (w := w2) (a := ⟨P, 0, none⟩) hPb).trans h2.pl, (World.frozen?_of_block (w := w2) (a := ⟨P, 0, none⟩) hPb).trans h2.fz, Nat.le_trans h2.lt hg.size, own_heap h2.row fun g hg' => hg.block g (h2.row.lt g hg').2 (fun e => h.ap g hg' (.inl e.symm)), fun g hg' hi => ?_, h.hP⟩
  have hgl := (h.row.lt g hg').2
  rcases hi with hi | ⟨p, hp, hi⟩
  · rcases hat with e | ⟨g', e, hge⟩
    · exact h.ap g hg' (.inl (by rw [← e]; exact hi))
    · rw [e] at hi; injection hi with hi; have := hb.size; omega
  · rcases List.mem_append.1 hp with hp | hp
    · exact h.ap g hg' (.inr ⟨p, hp, hi⟩)
    · rw [List.mem_singleton] at hp; subst hp
      have := (hq.lie g hi).1; omega
theorem XS.place {w w1 w2 : World} {P base : Nat} {v pv pv' : Value} {qs : List ER} {ps : List Int} {z : Int} (h : XS w P base v pv qs ps) (hb : Below w.heap.size w w1) (hown : w2.ownsRow base 2 1 pv' (ps.length + 1) (ints ps ++ [.int .i64 z])) (hg : w1.grownBy w2 pv.ownBlock) (hat : pv'.ownBlock = pv.ownBlock ∨ ∃ g, pv'.ownBlock = some g ∧ w1.heap.size ≤ g) : XS (w2.setCell ⟨P, 0, none⟩ pv') P base v pv' qs (ps ++ [z]) := by
  have h1 := h.below hb
  have hP1 : P < w1.heap.size := Nat.lt_of_lt_of_le h1.hP h1.lt
  have hPp : pv.ownBlock ≠ some P := fun e => by have := (h.row.lt P e).1; have := h.hP; omega
  have hPb : w2.heap[P]? = w1.heap[P]? := hg.block P hP1 (Ne.symm hPp)
  have hp2 : w2.cell? ⟨P, 0, none⟩ = some pv := (World.cell?_of_block (w := w1) (a := ⟨P, 0, none⟩) hPb).trans h1.pl
  have hf2 : w2.frozen? ⟨P, 0, none⟩ = false := (World.frozen?_of_block (w := w1) (a := ⟨P, 0, none⟩) hPb).trans h1.fz
  have hs : ∀ g, g ≠ P → (w2.setCell ⟨P, 0, none⟩ pv').heap[g]? = w2.heap[g]? := fun g hne => Below.heap_setCell w2 _ _ g hne
  have hlt : ∀ g, inLot inR v qs g → base ≤ g ∧ g < w.heap.size := fun g hi => LotM.lt kidE h.nod.ex hi
  refine ⟨ExM.nod (h1.nod.ex.heap (w' := w2.setCell ⟨P, 0, none⟩ pv') kidE (by simpa using hg.size) fun g hi => ?_), setS' hp2, by simpa using hf2, by simpa using Nat.le_trans h1.lt hg.size, ?_, fun g hg' hi => ?_, h.hP⟩
  · have := hlt g hi
    have := h.hP
    rw [hs g (by omega)]
    exact hg.block g (by have := hb.size; omega) (fun e => h.ap g e.symm hi)
  · have e : ints (ps ++ [z]) = ints ps ++ [.int .i64 z] := by simp [ints]
    rw [e, List.length_append, List.length_singleton]
    exact own_heap hown fun g hg' => hs g (by have := (hown.lt g hg').1; have := h.hP; omega)
  · rcases hat with e | ⟨g', e, hge⟩
    · exact h.ap g (by rw [← e]; exact hg') hi
    · rw [e] at hg'; injection hg' with hg'
      have := (hlt g hi).2
      have := hb.size
      omega
theorem place1_any (P : Nat) (pv : Value) (base : Nat) (ps : List Int) (x : Int) (w : World) (hp : w.cell? ⟨P, 0, none⟩ = some pv) (hr : w.ownsRow base 2 1 pv ps.length (ints ps)) (h0 : 0 ≤ x) (h1 : x < (ps.length : Int)) :
    Calls Tryz.prog 93 #[.int .i64 x, .pointer (some ⟨P, 0, none⟩)] w fun e w' => e = .returned (.int .i64 (ps.getD x.toNat 0)) ∧ w' = w := by
  obtain ⟨ad, cap, rfl, hs, -, -⟩ := ownsI hr rfl
  obtain ⟨n, rfl⟩ : ∃ n : Nat, x = (n : Int) := ⟨x.toNat, by omega⟩
  have hn : n < ps.length := by omega
  rcases hs with rfl | ⟨b, off, rfl, hb, hc⟩
  · simp at hn
  have c0 := hc n hn
  have HG : Hid (ps.getD ((n : Int)).toNat 0 = ps[n]) := by show _ = _; rw [Int.toNat_natCast, List.getD_eq_getElem?_getD, List.getElem?_eq_getElem hn]; rfl
  clear hr hc
  go_enter Tryz.func93, Tryz.ntmps93
  go_wp2
  go_ret
  exact ⟨by rw [HG.out]; rfl, rfl⟩
theorem place2_any (G : Nat) (n : Nat) (x : Int) (w : World) (hp : w.cell? ⟨G, 0, none⟩ = some (.int .i64 (n : Int))) (hn : n ≤ 100000) (h0 : 0 ≤ x) (h1 : x < 100000) :
    Calls Tryz.prog 94 #[.int .i64 x, .pointer (some ⟨G, 0, none⟩)] w fun e w' => e = .returned (.int .i64 ((n : Int) + x)) ∧ w' = w := by
  obtain ⟨m, rfl⟩ : ∃ m : Nat, x = (m : Int) := ⟨x.toNat, by omega⟩
  go_enter Tryz.func94, Tryz.ntmps94
  go_wp2
  go_ret
  exact ⟨by go_num, rfl⟩
theorem run_place1 (xs : Array Value) (u : World) : (callFunc 93 xs).run Tryz.prog u = .ok (.enter 93 xs) u := by kernel_rfl
theorem run_place2 (xs : Array Value) (u : World) : (callFunc 94 xs).run Tryz.prog u = .ok (.enter 94 xs) u := by kernel_rfl
end Go.Proofs.YtmghabcaakgjiaaGreat
