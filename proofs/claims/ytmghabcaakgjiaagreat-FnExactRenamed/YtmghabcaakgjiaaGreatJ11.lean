/- An expression whose leaves are changed, in plain words: where each old node has come to; leaves that stay leave all as it was. -/
import Derived.Test.YtmghabcaakgjiaaGreatJ6
import Derived.Test.YtmghabcaakgjiaaGreatJ10
import Derived.Test.YtmghabcaakgjiaaGreatRows
import Derived.Test.YtmghabcaakgjiaaGreatJ1
import Derived.Maps.OwnSet
import Derived.DeepKeys4
namespace Go.Proofs.YtmghabcaakgjiaaGreat
set_option linter.unusedVariables false
open Pl
def chgStep (f : Ex → List Ex) (s : List Ex × List Int) (e : Ex) : List Ex × List Int :=
 if e.kids.isEmpty then (s.1 ++ (f e).map (movX fun k => (s.1.length : Int) + k), s.2 ++ [((s.1 ++ (f e).map (movX fun k => (s.1.length : Int) + k)).length : Int) - 1])
 else (s.1 ++ [movX (fun k => s.2.getD k.toNat 0) e], s.2 ++ [(s.1.length : Int)])
def chgUp (f : Ex → List Ex) (es : List Ex) (k : Nat) : List Ex × List Int := (es.take k).foldl (chgStep f) ([], [])
def chgE (f : Ex → List Ex) (es : List Ex) : List Ex := (chgUp f es es.length).1
theorem chgUp_zero (f : Ex → List Ex) (es : List Ex) : chgUp f es 0 = ([], []) := by simp [chgUp]
theorem chgUp_succ (f : Ex → List Ex) (es : List Ex) (k : Nat) (h : k < es.length) : chgUp f es (k + 1) = chgStep f (chgUp f es k) es[k] := by
 unfold chgUp; rw [List.take_succ_eq_append_getElem h, List.foldl_append]; rfl
theorem chgUp_len (f : Ex → List Ex) (es : List Ex) : ∀ k, k ≤ es.length → (chgUp f es k).2.length = k
 | 0, _ => by rw [chgUp_zero]; rfl
 | k + 1, h => by
  rw [chgUp_succ f es k (by omega)]
  have ih := chgUp_len f es k (by omega)
  unfold chgStep
  split <;> simp [ih]
theorem chgUp_few (f : Ex → List Ex) (es : List Ex) (B : Nat) (hB : 1 ≤ B) (hf : ∀ e ∈ es, (f e).length ≤ B) : ∀ k, k ≤ es.length → (chgUp f es k).1.length ≤ k * B
 | 0, _ => by rw [chgUp_zero]; simp
 | k + 1, h => by
  rw [chgUp_succ f es k (by omega)]
  have ih := chgUp_few f es B hB hf k (by omega)
  have hm := hf es[k] (List.getElem_mem _)
  unfold chgStep
  have : (k + 1) * B = k * B + B := Nat.succ_mul k B
  split <;> simp only [List.length_append, List.length_map, List.length_singleton] <;> omega
def kidsLow (es : List Ex) : Prop := ∀ (i : Nat) (h : i < es.length), ∀ x ∈ es[i].kids, 0 ≤ x ∧ x < (i : Int)
theorem kidsLow_of {es : List Ex} (h : specE es = true) : kidsLow es := by
 intro i hi x hx
 unfold specE at h
 simp only [Bool.and_eq_true, decide_eq_true_eq] at h
 have h1 := h.1.1.2
 unfold kidsUp at h1
 rw [List.all_eq_true] at h1
 have h2 := h1 i (by simpa using hi)
 unfold kidsIn kidsAt at h2
 rw [List.getElem?_eq_getElem hi] at h2
 simp only [Option.map_some, Option.getD_some, List.all_eq_true, Bool.and_eq_true, decide_eq_true_eq] at h2
 have := h2 x hx
 omega
theorem movX_id {f : Int → Int} {e : Ex} (h : ∀ x ∈ e.kids, f x = x) : movX f e = e := by
 unfold movX
 have : e.kids.map f = e.kids := by
  conv => rhs; rw [← List.map_id e.kids]
  exact List.map_congr_left h
 rw [this]
def chgR (f : ByteArray → Ex → List Ex) (tn : ByteArray) (r : Rl) : Rl := ⟨r.name, chgE (f tn) r.expr⟩
def chgT (f : ByteArray → Ex → List Ex) (t : Ty) : Ty := ⟨t.name, t.rels.map (chgR f t.name)⟩
def chgS (f : ByteArray → Ex → List Ex) (ts : List Ty) : List Ty := ts.map (chgT f)
end Go.Proofs.YtmghabcaakgjiaaGreat
namespace Go.Proofs.YtmghabcaakgjiaaGreat.Ls
theorem lt_irrefl : ∀ x : List UInt8, Op.bytesLess x x = false
 | [] => rfl
 | a :: x => by simp [Op.bytesLess, lt_irrefl x]
theorem lt_trans : ∀ x y z : List UInt8, Op.bytesLess x y = true → Op.bytesLess y z = true → Op.bytesLess x z = true
 | [], _, [], h, k => by cases ‹List UInt8› <;> simp [Op.bytesLess] at h k
 | [], _, _ :: _, _, _ => rfl
 | _ :: _, [], _, h, _ => by simp [Op.bytesLess] at h
 | _ :: _, _ :: _, [], _, k => by simp [Op.bytesLess] at k
 | a :: x, b :: y, c :: z, h, k => by
  simp only [Op.bytesLess, Bool.or_eq_true, Bool.and_eq_true, decide_eq_true_eq, beq_iff_eq] at h k ⊢
  rcases h with h | ⟨h, h'⟩
  ·rcases k with k | ⟨k, k'⟩
   ·exact .inl (UInt8.lt_trans h k)
   ·exact .inl (k ▸ h)
  ·rcases k with k | ⟨k, k'⟩
   ·exact .inl (h ▸ k)
   ·exact .inr ⟨h.trans k, lt_trans x y z h' k'⟩
theorem lt_total : ∀ x y : List UInt8, x ≠ y → Op.bytesLess x y = true ∨ Op.bytesLess y x = true
 | [], [], h => absurd rfl h
 | [], _ :: _, _ => .inl rfl
 | _ :: _, [], _ => .inr rfl
 | a :: x, b :: y, h => by
  simp only [Op.bytesLess, Bool.or_eq_true, Bool.and_eq_true, decide_eq_true_eq, beq_iff_eq]
  by_cases e : a = b
  ·subst e
   rcases lt_total x y (fun e => h (by rw [e])) with k | k
   ·exact .inl (.inr ⟨rfl, k⟩)
   ·exact .inr (.inr ⟨rfl, k⟩)
  ·rcases Nat.lt_or_gt_of_ne (fun k => e (UInt8.toNat_inj.1 k)) with k | k
   ·exact .inl (.inl k)
   ·exact .inr (.inl k)
theorem lt_asymm (x y : List UInt8) (h : Op.bytesLess x y = true) : Op.bytesLess y x = false := by
 cases k : Op.bytesLess y x with
 | false => rfl
 | true => have := lt_trans x y x h k; rw [lt_irrefl] at this; cases this
end Go.Proofs.YtmghabcaakgjiaaGreat.Ls
namespace Go.Proofs.YtmghabcaakgjiaaGreat
set_option linter.unusedVariables false
open Pl
structure OneC (f : Ex → List Ex) (g : Ex → Ex) (e : Ex) : Prop where
 leaf : e.kids = [] → f e = [g e] ∧ (g e).kids = []
 node : e.kids ≠ [] → g e = e
theorem chg_one {f : Ex → List Ex} {g : Ex → Ex} {es : List Ex} (h : kidsLow es) (hf : ∀ e ∈ es, OneC f g e) : ∀ k, k ≤ es.length → chgUp f es k = ((es.take k).map g, (List.range k).map fun (n : Nat) => (n : Int))
 | 0, _ => by rw [chgUp_zero]; simp
 | k + 1, hk => by
  rw [chgUp_succ _ es k (by omega), chg_one h hf k (by omega), List.take_succ_eq_append_getElem (by omega), List.range_succ, List.map_append, List.map_append]
  have hl : (es.take k).length = k := by rw [List.length_take]; omega
  have ho := hf es[k] (List.getElem_mem _)
  unfold chgStep
  split
  ·rename_i he
   have he : es[k].kids = [] := List.isEmpty_iff.1 he
   obtain ⟨h1, h2⟩ := ho.leaf he
   have e0 : ∀ n : Int, movX (fun x => n + x) (g es[k]) = g es[k] := fun n => movX_id (by rw [h2]; intro x hx; cases hx)
   have e1 : ((k + 1 : Nat) : Int) - 1 = (k : Int) := by omega
   simp only [h1, List.map_cons, List.map_nil, e0, List.length_append, List.length_singleton, List.length_map, hl, e1]
  ·rename_i he
   have he : es[k].kids ≠ [] := fun h => he (by rw [h]; rfl)
   have : movX (fun x => ((List.range k).map fun (n : Nat) => (n : Int)).getD x.toNat 0) es[k] = es[k] := movX_id fun x hx => by
    obtain ⟨h1, h2⟩ := h k (by omega) x hx
    rw [List.getD_eq_getElem?_getD, List.getElem?_map, List.getElem?_range (by omega)]
    simp; omega
   rw [this, List.map_cons, List.map_nil, List.map_cons, List.map_nil, ho.node he, List.length_map, hl]
theorem chgE_one {f : Ex → List Ex} {g : Ex → Ex} {es : List Ex} (h : kidsLow es) (hf : ∀ e ∈ es, OneC f g e) : chgE f es = es.map g := by
 unfold chgE; rw [chg_one h hf _ (Nat.le_refl _), List.take_length]
def putR (r : Rl) : List Rl → List Rl
 | [] => [r]
 | x :: xs => if lessB x.name r.name then x :: putR r xs else r :: x :: xs
def sortR (rs : List Rl) : List Rl := rs.foldl (fun out r => putR r out) []
theorem putR_at (r : Rl) : ∀ (xs : List Rl), ∃ p, p ≤ xs.length ∧ putR r xs = xs.take p ++ r :: xs.drop p ∧ (∀ (i : Nat) (h : i < xs.length), i < p → lessB xs[i].name r.name = true) ∧ (∀ h : p < xs.length, lessB xs[p].name r.name = false)
 | [] => ⟨0, Nat.le_refl _, rfl, fun i h => by simp at h, fun h => by simp at h⟩
 | x :: xs => by
  unfold putR
  split
  ·rename_i hx
   obtain ⟨a, h1, h2, h3, h4⟩ := putR_at r xs
   refine ⟨a + 1, by simpa using h1, by rw [h2]; rfl, fun i hi hl => ?_, fun h => ?_⟩
   ·cases i with
    | zero => exact hx
    | succ i => exact h3 i (by simpa using hi) (by omega)
   ·exact h4 (by simpa using h)
  ·rename_i hx
   exact ⟨0, by omega, rfl, fun i hi hl => by omega, fun _ => by simpa using hx⟩
theorem putR_perm (r : Rl) (xs : List Rl) : (putR r xs).Perm (r :: xs) := by
 obtain ⟨a, h1, h2, _, _⟩ := putR_at r xs
 rw [h2]
 have := (List.perm_middle (a := r) (l₁ := xs.take a) (l₂ := xs.drop a))
 rwa [List.take_append_drop] at this
theorem foldR_perm : ∀ (rs acc : List Rl), (rs.foldl (fun out r => putR r out) acc).Perm (rs ++ acc)
 | [], acc => List.Perm.refl _
 | r :: rs, acc => by
  refine (foldR_perm rs (putR r acc)).trans ?_
  refine (List.Perm.append_left rs (putR_perm r acc)).trans ?_
  exact List.perm_middle
theorem sortR_perm (rs : List Rl) : (sortR rs).Perm rs := by simpa [sortR] using foldR_perm rs []
def UpR (rs : List Rl) : Prop := rs.Pairwise fun a b => lessB a.name b.name = true
theorem putR_up (r : Rl) : ∀ {xs : List Rl}, UpR xs → (∀ x ∈ xs, x.name.toList ≠ r.name.toList) → UpR (putR r xs)
 | [], _, _ => List.pairwise_cons.2 ⟨fun _ h => (List.not_mem_nil h).elim, List.Pairwise.nil⟩
 | x :: xs, hu, hn => by
  obtain ⟨h1, h2⟩ := List.pairwise_cons.1 hu
  unfold putR
  split
  ·rename_i hx
   refine List.pairwise_cons.2 ⟨fun y hy => ?_, putR_up r h2 fun y hy => hn y (List.mem_cons_of_mem _ hy)⟩
   rcases List.mem_cons.1 ((putR_perm r xs).mem_iff.1 hy) with e | e
   ·subst e; exact hx
   ·exact h1 y e
  ·rename_i hx
   have hl : lessB r.name x.name = true := (Ls.lt_total _ _ (hn x (List.mem_cons_self ..))).resolve_left hx
   refine List.pairwise_cons.2 ⟨fun y hy => ?_, hu⟩
   rcases List.mem_cons.1 hy with e | e
   ·subst e; exact hl
   ·exact Ls.lt_trans _ _ _ hl (h1 y e)
def DisR (rs : List Rl) : Prop := rs.Pairwise fun a b => a.name.toList ≠ b.name.toList
theorem foldR_up : ∀ (rs acc : List Rl), UpR acc → DisR rs → (∀ r ∈ rs, ∀ x ∈ acc, x.name.toList ≠ r.name.toList) → UpR (rs.foldl (fun out r => putR r out) acc)
 | [], acc, hu, _, _ => hu
 | r :: rs, acc, hu, hd, hx => by
  obtain ⟨h1, h2⟩ := List.pairwise_cons.1 hd
  refine foldR_up rs (putR r acc) (putR_up r hu (hx r (List.mem_cons_self ..))) h2 fun q hq x hm => ?_
  rcases List.mem_cons.1 ((putR_perm r acc).mem_iff.1 hm) with e | e
  ·subst e; exact h1 q hq
  ·exact hx q (List.mem_cons_of_mem _ hq) x e
theorem sortR_up {rs : List Rl} (h : DisR rs) : UpR (sortR rs) := foldR_up rs [] List.Pairwise.nil h fun _ _ _ hx => (List.not_mem_nil hx).elim
theorem UpR.dis {rs : List Rl} (h : UpR rs) : DisR rs := h.imp fun {a b} hl e => by
 unfold lessB at hl; rw [e, Ls.lt_irrefl] at hl; cases hl
theorem up_unique : ∀ {xs ys : List Rl}, UpR xs → UpR ys → xs.Perm ys → xs = ys
 | [], ys, _, _, hp => (List.nil_perm.1 hp).symm
 | x :: xs, ys, hx, hy, hp => by
  cases ys with
  | nil => exact (List.cons_ne_nil _ _ (List.perm_nil.1 hp)).elim
  | cons y ys =>
   obtain ⟨h1, h2⟩ := List.pairwise_cons.1 hx
   obtain ⟨k1, k2⟩ := List.pairwise_cons.1 hy
   have e : x = y := by
    rcases List.mem_cons.1 (hp.mem_iff.1 (List.mem_cons_self ..)) with e | e
    ·exact e
    ·rcases List.mem_cons.1 (hp.mem_iff.2 (List.mem_cons_self ..)) with g | g
     ·exact g.symm
     ·have a := h1 y g
      have b := Ls.lt_asymm _ _ (k1 x e)
      unfold lessB at a
      rw [a] at b; cases b
   subst e
   rw [up_unique h2 k2 (List.Perm.cons_inv hp)]
theorem sortR_is {rs qs : List Rl} (h : UpR qs) (hp : qs.Perm rs) : sortR rs = qs := by
 have hd : DisR rs := hp.pairwise_iff (fun {a b} e => Ne.symm e) |>.1 h.dis
 exact up_unique (sortR_up hd) h ((sortR_perm rs).trans hp.symm)
theorem sortR_same {rs : List Rl} (h : UpR rs) : sortR rs = rs := sortR_is h (List.Perm.refl _)
end Go.Proofs.YtmghabcaakgjiaaGreat
namespace Go.Proofs.YtmghabcaakgjiaaGreat
open Go.ChangeShapes Go.WideShapes Go.ChangeAt Go.RowKit Go.Maps
def anyR (v : Value) : Option (DataW Value × List MemPlace) := some (.held v, [])
section
variable {K : Type} (enc : K → Value) (P : Program) (k : TypeId)
def SaysAt (D : DataW Value) (kl : Lit) : Option Value → Prop
 | none => Maps.has D kl = false ∧ ∀ z, D.atKey kl z = z
 | some v => Maps.has D kl = true ∧ ∀ z, D.atKey kl z = .held v
def MapV (w : World) (b n : Nat) (M : K → Option Value) : Prop :=
 ∃ D : DataW Value, w.ownsMap P k anyR b n D ∧ ∀ x kl, keyOf P k (enc x) = some kl → SaysAt D kl (M x)
def updM [DecidableEq K] (M : K → Option Value) (x : K) (v : Option Value) : K → Option Value := fun y => if y = x then v else M y
end
section
variable {K : Type} {enc : K → Value} {P : Program} {k : TypeId} {w : World} {b n : Nat} {M : K → Option Value}
theorem updM_same [DecidableEq K] (M : K → Option Value) (x : K) (v : Option Value) : updM M x v x = v := by simp [updM]
theorem updM_other [DecidableEq K] {M : K → Option Value} {x y : K} {v : Option Value} (h : y ≠ x) : updM M x v y = M y := by simp [updM, h]
theorem mapV_made (enc : K → Value) (P : Program) (k : TypeId) (w : World) : MapV enc P k (w.alloc (.map #[] 0)) w.heap.size 0 (fun _ => none) :=
 ⟨.map [], World.ownsMap_made w P k anyR, fun _ kl _ => ⟨rfl, fun z => by simp [DataW.atKey]⟩⟩
theorem MapV.lt (h : MapV enc P k w b n M) : b < w.heap.size := by obtain ⟨D, h1, -⟩ := h; exact h1.lt
theorem MapV.mono (h : MapV enc P k w b n M) {n' : Nat} (hn : n ≤ n') : MapV enc P k w b n' M := by obtain ⟨D, h1, h2⟩ := h; exact ⟨D, h1.mono hn, h2⟩
theorem MapV.kept {w' : World} {row : Option Nat} (h : MapV enc P k w b n M) (hg : w.grownBy w' row) (hne : some b ≠ row) : MapV enc P k w' b n M := by
 obtain ⟨D, h1, h2⟩ := h; exact ⟨D, h1.kept hg hne, h2⟩
theorem MapV.below {w' : World} (h : MapV enc P k w b n M) (hB : Below w.heap.size w w') : MapV enc P k w' b n M :=
 h.kept (row := none) ⟨hB.os, hB.tape, hB.output, hB.size, fun k hk _ => hB.block k hk⟩ (by simp)
theorem MapV.setCell (h : MapV enc P k w b n M) {a : Addr} (ha : b ≠ a.block) (u : Value) : MapV enc P k (w.setCell a u) b n M := by
 obtain ⟨D, h1, h2⟩ := h; exact ⟨D, h1.setCell ha u, h2⟩
theorem MapV.look {t e : TypeId} (h : MapV enc P k w b n M) (L : Keyed P k) (ht : P.underlying t = some (.map k e)) {z : Value} (hz : (zeroValue e).run P w = .ok z w) {x : K} {kl : Lit} (hkey : keyOf P k (enc x) = some kl) :
  (Instr.lookup t (.map (some b)) (enc x) false).run P w = .ok ((M x).getD z) w := by
 obtain ⟨D, h1, h2⟩ := h
 obtain ⟨v, ps, hrun, hv⟩ := h1.lookup L ht hz (zd := .held z) (zp := []) rfl hkey
 have h3 := h2 x kl hkey
 rw [hrun]
 have : v = (M x).getD z := by
  simp only [anyR, Option.some.injEq, Prod.mk.injEq] at hv
  cases e : M x with
  | none => rw [e] at h3; rw [h3.2] at hv; injection hv.1 with h4
  | some u => rw [e] at h3; rw [h3.2] at hv; injection hv.1 with h4
 rw [this]
theorem MapV.look_ok {t e : TypeId} (h : MapV enc P k w b n M) (L : Keyed P k) (ht : P.underlying t = some (.map k e)) {z : Value} (hz : (zeroValue e).run P w = .ok z w) {x : K} {kl : Lit} (hkey : keyOf P k (enc x) = some kl) :
  (Instr.lookup t (.map (some b)) (enc x) true).run P w = .ok (.tuple #[(M x).getD z, .bool (M x).isSome]) w := by
 obtain ⟨D, h1, h2⟩ := h
 obtain ⟨v, ps, hrun, hv⟩ := h1.look_ok L ht hz (zd := .held z) (zp := []) rfl hkey
 have h3 := h2 x kl hkey
 rw [hrun]
 simp only [anyR, Option.some.injEq, Prod.mk.injEq] at hv
 cases e : M x with
 | none => rw [e] at h3; rw [h3.2] at hv; injection hv.1 with h4; rw [h4, h3.1]; rfl
 | some u => rw [e] at h3; rw [h3.2] at hv; injection hv.1 with h4; rw [h4, h3.1]; rfl
theorem MapV.store [DecidableEq K] {t e : TypeId} (h : MapV enc P k w b n M) (L : Keyed P k) (hinj : ∀ x y, enc x = enc y → x = y) (ht : P.underlying t = some (.map k e)) (hn : n < maxLen) {x : K} {kl : Lit} (hkey : keyOf P k (enc x) = some kl) (v : Value) :
  ∃ w', (Instr.mapUpdate t (.map (some b)) (enc x) v).run P w = .ok () w' ∧ MapV enc P k w' b (n + 1) (updM M x (some v)) ∧ w.grownBy w' (some b) := by
 obtain ⟨D, h1, h2⟩ := h
 obtain ⟨w', hrun, h3, h4⟩ := h1.update L ht hn hkey (val := v) (d := .held v) (ps := []) rfl
 refine ⟨w', hrun, ⟨D.put kl (.held v), h3, fun y ky hy => ?_⟩, h4⟩
 by_cases e : y = x
 ·subst e
  obtain rfl : ky = kl := by rw [hkey] at hy; injection hy with hy; exact hy.symm
  rw [updM_same]
  exact ⟨has_put_same h1.isMap (L.key hkey) _, fun z => atKey_put_same h1.isMap (L.key hkey) _ z⟩
 ·have hne : ky ≠ kl := fun e2 => e (hinj _ _ (L.inj (by rw [e2] at hy; exact hy) hkey))
  rw [updM_other e]
  have h5 := h2 y ky hy
  cases e3 : M y with
  | none => rw [e3] at h5; exact ⟨by rw [has_put_other hne]; exact h5.1, fun z => by rw [atKey_put_other hne]; exact h5.2 z⟩
  | some u => rw [e3] at h5; exact ⟨by rw [has_put_other hne]; exact h5.1, fun z => by rw [atKey_put_other hne]; exact h5.2 z⟩
end
section
variable {K : Type} {enc : K → Value} {P : Program} (w : World) {ops : Array Oper} {rest : List Oper} {o : Oper} {a : Act} {Q : Exit → Act → World → Prop}
theorem wpList_lookV (hg : o.guard = none) (m x : Operand) (t : TypeId) (hop : o.op = Op.lookup t m x false) (k e : TypeId) (L : Keyed P k) (ht : P.underlying t = some (.map k e)) {z : Value} (hz : (zeroValue e).run P w = .ok z w) (b n : Nat) (M : K → Option Value)
  (hm : a.eval m = .map (some b)) (hV : MapV enc P k w b n M) (y : K) (kl : Lit) (hx : a.eval x = enc y) (hkey : keyOf P k (enc y) = some kl)
  (hK : wpList P ops Q rest (a.put o.dst ((M y).getD z)) w) : wpList P ops Q (o :: rest) a w := by
 refine wpList_plain hg fun K' hK' => ?_
 have hrun := hV.look L ht hz hkey
 unfold Oper.wp
 simp [execOp, hop, hm, hx, hrun, Result.andThen]
 exact hK' _ _ hK
theorem wpList_lookV_ok (hg : o.guard = none) (m x : Operand) (t : TypeId) (hop : o.op = Op.lookup t m x true) (k e : TypeId) (L : Keyed P k) (ht : P.underlying t = some (.map k e)) {z : Value} (hz : (zeroValue e).run P w = .ok z w) (b n : Nat) (M : K → Option Value)
  (hm : a.eval m = .map (some b)) (hV : MapV enc P k w b n M) (y : K) (kl : Lit) (hx : a.eval x = enc y) (hkey : keyOf P k (enc y) = some kl)
  (hK : wpList P ops Q rest (a.put o.dst (.tuple #[(M y).getD z, .bool (M y).isSome])) w) : wpList P ops Q (o :: rest) a w := by
 refine wpList_plain hg fun K' hK' => ?_
 have hrun := hV.look_ok L ht hz hkey
 unfold Oper.wp
 simp [execOp, hop, hm, hx, hrun, Result.andThen]
 exact hK' _ _ hK
theorem wpList_storeV [DecidableEq K] (hg : o.guard = none) (m x v : Operand) (t : TypeId) (hop : o.op = Op.mapUpdate t m x v) (k e : TypeId) (L : Keyed P k) (hinj : ∀ x y, enc x = enc y → x = y) (ht : P.underlying t = some (.map k e)) (b n : Nat) (M : K → Option Value)
  (hm : a.eval m = .map (some b)) (hV : MapV enc P k w b n M) (hn : n < maxLen) (y : K) (kl : Lit) (hx : a.eval x = enc y) (hkey : keyOf P k (enc y) = some kl) (u : Value) (hv : a.eval v = u)
  (hK : ∀ w', MapV enc P k w' b (n + 1) (updM M y (some u)) → w.grownBy w' (some b) → wpList P ops Q rest (a.put o.dst undef) w') : wpList P ops Q (o :: rest) a w := by
 refine wpList_plain hg fun K' hK' => ?_
 obtain ⟨w', hrun, r1, r2⟩ := hV.store L hinj ht hn hkey u
 unfold Oper.wp
 simp [execOp, hop, hm, hx, hv, hrun, Result.andThen]
 exact hK' _ _ (hK w' r1 r2)
end
end Go.Proofs.YtmghabcaakgjiaaGreat
namespace Go.Proofs.YtmghabcaakgjiaaGreat
open Go.ChangeShapes Go.WideShapes Go.ChangeAt Go.RowKit Go.Maps
def encK (k : ByteArray × ByteArray) : Value := .agg #[.string k.1, .string k.2]
theorem encK_inj (x y : ByteArray × ByteArray) (h : encK x = encK y) : x = y := by
 unfold encK at h
 injection h with h
 have h1 := congrArg Array.toList h
 simp at h1
 exact Prod.ext h1.1 h1.2
theorem laidOutM : laidOutB Tryz.prog = true := by kernel_rfl
theorem relRow : (73 : TypeId) < Tryz.prog.types.size := of_decide_eq_true (by kernel_rfl)
theorem relWide : (match Tryz.prog.underlying 73 with | some (.array _ _) | some (.struct _) => true | _ => false) = true := by rw [Tryz.underlying73]
set_option maxRecDepth 100000 in
theorem relLaw0 : WideMaps.KeyLaw Tryz.prog 73 := deep_law_laid laidOutM (m := 2) (by omega) relRow (by kernel_rfl) relWide
theorem relLaw : Keyed Tryz.prog 73 := Keyed.of_law relLaw0
theorem relKeyT : Tryz.prog.keyType 73 = true := by kernel_rfl
theorem relCells : Tryz.prog.cellsOf 73 = 2 := by kernel_rfl
theorem strCells : Tryz.prog.cellsOf 9 = 1 := by kernel_rfl
theorem typesSize : ∃ n, Tryz.prog.types.size = n + 1 := Nat.exists_eq_succ_of_ne_zero (Nat.ne_of_gt (Nat.lt_of_le_of_lt (Nat.zero_le _) relRow))
theorem relKeyOf (k : ByteArray × ByteArray) (h1 : k.1.size ≤ maxLen) (h2 : k.2.size ≤ maxLen) : ∃ kl, keyOf Tryz.prog 73 (encK k) = some kl := by
 obtain ⟨n, hn⟩ := typesSize
 refine ⟨.string (keyBytes [.string k.1.data.toList, .string k.2.data.toList]), ?_⟩
 unfold keyOf
 rw [Tryz.underlying73]
 simp only [relKeyT, encK, Value.formed, Tryz.underlying73, relCells, hn, Value.cells]
 simp [Program.keyLits, Tryz.underlying73, Tryz.underlying9, relCells, strCells, h1, h2]
end Go.Proofs.YtmghabcaakgjiaaGreat
