/- The text of an expression, in plain words; how long it can be. -/
import Derived.Test.YtkpefjefodkddaaGreatJ2
import Derived.Lib.Join
import Derived.Test.YtkpefjefodkddaaGreatRows
import Derived.Below
import Derived.WalkKit
import Derived.WalkLawsBesides
import Derived.ProofKit
import Derived.Laws.IdiomStrings
namespace Go.Proofs.YtkpefjefodkddaaGreat
open Pl
theorem ext_data' {a b : ByteArray} (h : a.data.toList = b.data.toList) : a = b := by
 cases a; cases b; congr; exact Array.toList_inj.1 h
def joinB (sep : ByteArray) (xs : List ByteArray) : ByteArray := ⟨(Lib.join (xs.map (·.data.toList)) sep.data.toList).toArray⟩
theorem joinB_nil (sep : ByteArray) : joinB sep [] = ⟨#[]⟩ := rfl
theorem inter_snoc {α : Type} (s : List α) : ∀ (l : List (List α)) (x : List α), s.intercalate (l ++ [x]) = if l = [] then x else s.intercalate l ++ (s ++ x)
 | [], x => by simp [List.intercalate]
 | [a], x => by simp [List.intercalate]
 | a :: b :: l, x => by
  have ih := inter_snoc s (b :: l) x
  simp only [List.cons_append, List.intercalate, List.intersperse, reduceCtorEq, if_false] at ih ⊢
  simp only [List.flatten_cons] at ih ⊢
  rw [ih]
  simp
theorem joinB_snoc (sep : ByteArray) (xs : List ByteArray) (x : ByteArray) : joinB sep (xs ++ [x]) = if xs = [] then x else joinB sep xs ++ sep ++ x := by
 apply ext_data'
 unfold joinB Lib.join
 rw [List.map_append, List.map_cons, List.map_nil, inter_snoc]
 by_cases h : xs = []
 ·simp [h]
 ·simp [h, ByteArray.data_append]
theorem joinB_size (sep : ByteArray) (b : Nat) : ∀ (n : Nat) (xs : List ByteArray), xs.length = n → (∀ x ∈ xs, x.size ≤ b) → (joinB sep xs).size ≤ n * (b + sep.size)
 | 0, xs, hn, _ => by
  have : xs = [] := List.eq_nil_of_length_eq_zero hn
  subst this
  simp [joinB_nil]
  rfl
 | n + 1, xs, hn, hx => by
  obtain ⟨ys, y, rfl⟩ : ∃ ys y, xs = ys ++ [y] := by
   have hne : xs ≠ [] := by intro e; simp [e] at hn
   exact ⟨xs.dropLast, xs.getLast hne, (List.dropLast_concat_getLast hne).symm⟩
  have hl : ys.length = n := by simp at hn; exact hn
  have ih := joinB_size sep b n ys hl (fun x h => hx x (by simp [h]))
  have hy := hx y (by simp)
  rw [joinB_snoc, Nat.succ_mul]
  by_cases h : ys = []
  ·rw [if_pos h]; omega
  ·rw [if_neg h, ByteArray.size_append, ByteArray.size_append]; omega
def alText (a : Al) : ByteArray := if a.s.toList.isEmpty then a.t else a.t ++ ⟨#[35]⟩ ++ a.s
def thisText (xs : List Al) : ByteArray := ⟨#[116, 104, 105, 115, 40]⟩ ++ joinB ⟨#[44]⟩ (xs.map alText) ++ ⟨#[41]⟩
def signB (k : Int) : ByteArray := if k = 4 then ⟨#[32, 124, 32]⟩ else if k = 5 then ⟨#[32, 38, 32]⟩ else ⟨#[32, 45, 32]⟩
theorem signB_size (k : Int) : (signB k).size = 3 := by
 unfold signB
 split
 ·rfl
 ·split <;> rfl
def nodeT (f : Int → ByteArray) (e : Ex) : ByteArray :=
 if e.kind = 1 then thisText e.allow else if e.kind = 2 then e.name else if e.kind = 3 then e.over ++ ⟨#[45, 62]⟩ ++ e.name else joinB (signB e.kind) (e.kids.map f)
def inT (e : Ex) (inside : Bool) (t : ByteArray) : ByteArray := if inside && !(decide (e.kind = 1) || decide (e.kind = 2) || decide (e.kind = 3)) then ⟨#[40]⟩ ++ t ++ ⟨#[41]⟩ else t
def exAt (es : List Ex) (n : Nat) : Ex := es[n]?.getD ⟨0, [], ⟨#[]⟩, ⟨#[]⟩, []⟩
def txt (es : List Ex) (n : Nat) : ByteArray := inT (exAt es n) true (nodeT (fun x => if _h : x.toNat < n then txt es x.toNat else ⟨#[]⟩) (exAt es n))
def txtF (es : List Ex) (n : Nat) (x : Int) : ByteArray := if x.toNat < n then txt es x.toNat else ⟨#[]⟩
def txtAt (es : List Ex) (n : Nat) (inside : Bool) : ByteArray := inT (exAt es n) inside (nodeT (txtF es n) (exAt es n))
theorem txt_eq (es : List Ex) (n : Nat) : txt es n = txtAt es n true := by
 rw [txt]; rfl
def limT : Nat → Nat
 | 0 => 200
 | n + 1 => limT n * 6
theorem limT_le (n : Nat) : 200 ≤ limT n := by
 induction n with
 | zero => exact Nat.le_refl _
 | succ n ih => simp only [limT]; omega
theorem limT_mono {m n : Nat} (h : m ≤ n) : limT m ≤ limT n := by
 induction h with
 | refl => exact Nat.le_refl _
 | step _ ih => simp only [limT]; omega
theorem limT_14 : limT 14 ≤ 20000000000000 := by decide
theorem nameB_small {s : ByteArray} (h : nameB s = true) : s.size ≤ 12 := by
 simp only [nameB, signsB, lenB, Bool.and_eq_true, decide_eq_true_eq] at h
 exact h.1.1.2
theorem setB_small {s : ByteArray} (h : setB' s = true) : s.size ≤ 12 := by
 unfold setB' at h
 rw [Bool.or_eq_true] at h
 rcases h with h | h
 ·have h2 : s.data.toList = [] := by rw [Go.ByteArray.toList_eq] at h; simpa using h
  have h3 : s.data.toList.length = 0 := by rw [h2]; rfl
  have : s.size = s.data.toList.length := rfl
  omega
 ·exact nameB_small h
theorem upA_all {xs : List Al} : ∀ {k : Nat}, upA xs k = true → ∀ (i : Nat) (h : i < xs.length), i < k → alB xs[i] = true
 | 0, _, i, _, hi => by omega
 | k + 1, hk, i, h, hi => by
  unfold upA at hk
  rw [Bool.and_eq_true] at hk
  by_cases e : i = k
  ·subst e
   have := hk.2
   simp only [List.getElem?_eq_getElem h, Option.map_some, Option.getD_some, Bool.and_eq_true] at this
   exact this.1
  ·exact upA_all hk.1 i h (by omega)
theorem alText_size {a : Al} (h : alB a = true) : (alText a).size ≤ 25 := by
 unfold alB at h
 rw [Bool.and_eq_true] at h
 have h1 := nameB_small h.1
 have h2 := setB_small h.2
 have e1 : (⟨#[35]⟩ : ByteArray).size = 1 := rfl
 unfold alText
 split
 ·omega
 ·simp only [ByteArray.size_append]; omega
theorem thisText_size {xs : List Al} (h : allowB xs = true) : (thisText xs).size ≤ 190 := by
 unfold allowB at h
 simp only [Bool.and_eq_true, decide_eq_true_eq] at h
 have hj := joinB_size ⟨#[44]⟩ 25 _ (xs.map alText) rfl (fun x hx => by
  obtain ⟨a, ha, rfl⟩ := List.mem_map.1 hx
  obtain ⟨i, hi, rfl⟩ := List.getElem_of_mem ha
  exact alText_size (upA_all h.2 i hi hi))
 have e1 : (⟨#[116, 104, 105, 115, 40]⟩ : ByteArray).size = 5 := rfl
 have e2 : (⟨#[41]⟩ : ByteArray).size = 1 := rfl
 have e3 : (⟨#[44]⟩ : ByteArray).size = 1 := rfl
 have e4 : (xs.map alText).length ≤ 6 := by simp; exact h.1.2
 unfold thisText
 simp only [ByteArray.size_append]
 rw [e3] at hj
 have : (xs.map alText).length * (25 + 1) ≤ 6 * 26 := Nat.mul_le_mul_right _ e4
 omega
def okE (es : List Ex) : Prop := es.length ≤ 15 ∧ (∀ (i : Nat) (h : i < es.length), nodeB es[i] = true) ∧ ∀ i, i < es.length → kidsIn es i = true
theorem okE_of {es : List Ex} (h : specE es = true) : okE es := by
 unfold specE at h
 simp only [Bool.and_eq_true, decide_eq_true_eq] at h
 refine ⟨h.1.1.1.1.2, fun i hi => ?_, fun i hi => ?_⟩
 ·have := h.1.1.1.2
  rw [List.all_eq_true] at this
  exact this _ (List.getElem_mem hi)
 ·have := h.1.1.2
  unfold kidsUp at this
  rw [List.all_eq_true] at this
  exact this i (by simpa using hi)
theorem nodeB_kids {e : Ex} (h : nodeB e = true) : e.kids.length ≤ 5 ∧ (e.kind = 1 ∨ e.kind = 2 ∨ e.kind = 3 ∨ e.kind = 4 ∨ e.kind = 5 ∨ e.kind = 6) := by
 unfold nodeB at h
 split at h
 ·rename_i k; simp at h; exact ⟨by simp [h.2], .inl k⟩
 split at h
 ·rename_i k; simp at h; exact ⟨by simp [h.2], .inr (.inl k)⟩
 split at h
 ·rename_i k; simp at h; exact ⟨by simp [h.2], .inr (.inr (.inl k))⟩
 split at h
 ·rename_i k; simp at h; exact ⟨by omega, by omega⟩
 split at h
 ·rename_i k; simp at h; exact ⟨by omega, by omega⟩
 ·cases h
theorem nodeT_size {es : List Ex} (hes : okE es) {n : Nat} (hn : n < es.length) (b : Nat) (hb : 200 ≤ b) (f : Int → ByteArray) (hf : ∀ k ∈ es[n].kids, (f k).size ≤ b) : (nodeT f es[n]).size ≤ b * 5 + 20 := by
 have hnode := hes.2.1 n hn
 obtain ⟨hk, hkind⟩ := nodeB_kids hnode
 unfold nodeT
 unfold nodeB at hnode
 split
 ·rename_i k
  rw [if_pos k] at hnode
  simp only [Bool.and_eq_true] at hnode
  have := thisText_size hnode.1.1.1
  omega
 ·rename_i k1
  rw [if_neg k1] at hnode
  split
  ·rename_i k2
   rw [if_pos k2] at hnode
   simp only [Bool.and_eq_true] at hnode
   have := nameB_small hnode.1.1.1
   omega
  ·rename_i k2
   rw [if_neg k2] at hnode
   split
   ·rename_i k3
    rw [if_pos k3] at hnode
    simp only [Bool.and_eq_true] at hnode
    have h1 := nameB_small hnode.1.1.1
    have h2 := nameB_small hnode.1.1.2
    have e1 : (⟨#[45, 62]⟩ : ByteArray).size = 2 := rfl
    simp only [ByteArray.size_append]
    omega
   ·have hj := joinB_size (signB es[n].kind) b _ (es[n].kids.map f) rfl (fun x hx => by obtain ⟨k, hk, rfl⟩ := List.mem_map.1 hx; exact hf k hk)
    rw [signB_size] at hj
    have : (es[n].kids.map f).length * (b + 3) ≤ 5 * (b + 3) := Nat.mul_le_mul_right _ (by simp; exact hk)
    omega
theorem inT_size (e : Ex) (i : Bool) (t : ByteArray) : (inT e i t).size ≤ t.size + 2 := by
 have e1 : (⟨#[40]⟩ : ByteArray).size = 1 := rfl
 have e2 : (⟨#[41]⟩ : ByteArray).size = 1 := rfl
 unfold inT
 split
 ·simp only [ByteArray.size_append]; omega
 ·omega
theorem exAt_eq {es : List Ex} {n : Nat} (h : n < es.length) : exAt es n = es[n] := by simp [exAt, h]
theorem kids_lt {es : List Ex} (hes : okE es) {n : Nat} (hn : n < es.length) : ∀ k ∈ es[n].kids, 0 ≤ k ∧ k.toNat < n := by
 intro k hk
 have := hes.2.2 n hn
 unfold kidsIn at this
 rw [List.all_eq_true] at this
 have h1 := this k (by simp [kidsAt, hn, hk])
 simp at h1
 omega
theorem txtAt_size {es : List Ex} (hes : okE es) (n : Nat) : n < es.length → ∀ i, (txtAt es n i).size ≤ limT n := by
 induction n using Nat.strongRecOn with
 | ind n ih =>
  intro hn i
  unfold txtAt
  rw [exAt_eq hn]
  have h1 := inT_size es[n] i (nodeT (txtF es n) es[n])
  cases n with
  | zero =>
   have h2 := nodeT_size hes hn 200 (Nat.le_refl _) (txtF es 0) (fun k hk => by have := kids_lt hes hn k hk; omega)
   have hno : es[0].kids = [] := by
    cases hk : es[0].kids with
    | nil => rfl
    | cons k ks => have := kids_lt hes hn k (by rw [hk]; simp); omega
   have hnode := hes.2.1 0 hn
   have h3 : (nodeT (txtF es 0) es[0]).size ≤ 195 := by
    unfold nodeT
    unfold nodeB at hnode
    split
    ·rename_i k; rw [if_pos k] at hnode; simp only [Bool.and_eq_true] at hnode; have := thisText_size hnode.1.1.1; omega
    ·rename_i k1
     rw [if_neg k1] at hnode
     split
     ·rename_i k2; rw [if_pos k2] at hnode; simp only [Bool.and_eq_true] at hnode; have := nameB_small hnode.1.1.1; omega
     ·rename_i k2
      rw [if_neg k2] at hnode
      split
      ·rename_i k3
       rw [if_pos k3] at hnode
       simp only [Bool.and_eq_true] at hnode
       have h1 := nameB_small hnode.1.1.1
       have h2 := nameB_small hnode.1.1.2
       have e1 : (⟨#[45, 62]⟩ : ByteArray).size = 2 := rfl
       simp only [ByteArray.size_append]
       omega
      ·rw [hno]
       have : (joinB (signB es[0].kind) (List.map (txtF es 0) [])).size = 0 := rfl
       omega
   simp only [limT]
   omega
  | succ m =>
   have h2 := nodeT_size hes hn (limT m) (limT_le m) (txtF es (m + 1)) (fun k hk => by
    have hlt := kids_lt hes hn k hk
    unfold txtF
    rw [if_pos hlt.2, txt_eq]
    exact Nat.le_trans (ih k.toNat hlt.2 (by omega) true) (limT_mono (by omega)))
   have := limT_le m
   simp only [limT]
   omega
end Go.Proofs.YtkpefjefodkddaaGreat
namespace Go.Proofs.YtkpefjefodkddaaGreat
open Pl
structure RS where
 p : Nat
 bad : Bool
 out : List Ex
def tThis : ByteArray := ⟨#[116, 104, 105, 115, 40]⟩
def tHash : ByteArray := ⟨#[35]⟩
def tClose : ByteArray := ⟨#[41]⟩
def tComma : ByteArray := ⟨#[44]⟩
def tOpen : ByteArray := ⟨#[40]⟩
def tArrow : ByteArray := ⟨#[45, 62]⟩
def tSign (k : Int) : ByteArray := if k = 4 then ⟨#[32, 124, 32]⟩ else if k = 5 then ⟨#[32, 38, 32]⟩ else ⟨#[32, 45, 32]⟩
def litAt (s w : ByteArray) (p : Nat) : Bool := decide (p + w.size ≤ s.size) && (s.extract p (p + w.size)).toList == w.toList
def isP (s w : ByteArray) (st : RS) : Bool := !st.bad && litAt s w st.p
def onP (w : ByteArray) (st : RS) : RS := ⟨st.p + w.size, st.bad, st.out⟩
def wordN (s : ByteArray) (p : Nat) : Nat := ((s.data.toList.drop p).takeWhile letB).length
def wordP (s : ByteArray) (p : Nat) : ByteArray := s.extract p (p + wordN s p)
def addP (x : Ex) (st : RS) : RS := ⟨st.p, st.bad || decide (15 < st.out.length + 1), st.out ++ [x]⟩
def endP (st : RS) : RS := ⟨st.p, true, st.out⟩
def setP (s : ByteArray) (st : RS) : ByteArray := if isP s tHash st then wordP s (st.p + 1) else ⟨#[]⟩
def behindSet (s : ByteArray) (st : RS) : RS := if isP s tHash st then ⟨st.p + 1 + wordN s (st.p + 1), st.bad, st.out⟩ else st
def pairAt (s : ByteArray) (st : RS) : RS := ⟨st.p + wordN s st.p, st.bad, st.out⟩
def pairsP (s : ByteArray) : Nat → List Al → RS → Option (List Al) × RS
 | 0, _, st => (none, st)
 | n + 1, xs, st =>
  if st.bad then (none, st)
  else if isP s tClose (behindSet s (pairAt s st)) then (some (xs ++ [⟨wordP s st.p, setP s (pairAt s st)⟩]), onP tClose (behindSet s (pairAt s st)))
  else if isP s tComma (behindSet s (pairAt s st)) then pairsP s n (xs ++ [⟨wordP s st.p, setP s (pairAt s st)⟩]) (onP tComma (behindSet s (pairAt s st)))
  else pairsP s n (xs ++ [⟨wordP s st.p, setP s (pairAt s st)⟩]) (endP (behindSet s (pairAt s st)))
def nameP (s : ByteArray) (st : RS) : Ex :=
 if isP s tArrow (pairAt s st) then ⟨3, [], wordP s st.p, wordP s (st.p + wordN s st.p + 2), []⟩ else ⟨2, [], ⟨#[]⟩, wordP s st.p, []⟩
def behindName (s : ByteArray) (st : RS) : RS :=
 if isP s tArrow (pairAt s st) then ⟨st.p + wordN s st.p + 2 + wordN s (st.p + wordN s st.p + 2), st.bad, st.out⟩ else pairAt s st
def judged (x : Ex) (st : RS) : RS := if nodeB x then st else endP st
def signAt (s : ByteArray) (p : Nat) : Int := if litAt s (tSign 4) p then 4 else if litAt s (tSign 5) p then 5 else if litAt s (tSign 6) p then 6 else 0
def kidsP (s : ByteArray) (it : RS → Int × RS) (k : Int) : Nat → List Int → RS → List Int × RS
 | 0, zs, st => (zs, st)
 | n + 1, zs, st => if isP s (tSign k) st then kidsP s it k n (zs ++ [(it (onP (tSign k) st)).1]) (it (onP (tSign k) st)).2 else (zs, st)
def rdP (s : ByteArray) : Nat → Bool → RS → Int × RS
 | 0, _, st => (0, st)
 | n + 1, false, st =>
  if isP s tThis st then
   match pairsP s (s.size + 1) [] (onP tThis st) with
   | (some xs, st') => ((st'.out.length : Int), addP ⟨1, xs, ⟨#[]⟩, ⟨#[]⟩, []⟩ st')
   | (none, st') => (0, st')
  else if isP s tOpen st then
   let x := rdP s n true (onP tOpen st)
   if isP s tClose x.2 then (x.1, onP tClose x.2) else (x.1, endP x.2)
  else ((st.out.length : Int), addP (nameP s st) (judged (nameP s st) (behindName s st)))
 | n + 1, true, st =>
  let x := rdP s n false st
  if signAt s x.2.p = 0 ∨ x.2.bad = true then x
  else
   let y := kidsP s (rdP s n false) (signAt s x.2.p) (s.size + 1) [x.1] x.2
   ((y.2.out.length : Int), addP ⟨signAt s x.2.p, [], ⟨#[]⟩, ⟨#[]⟩, y.1⟩ y.2)
theorem wordN_le (s : ByteArray) (p : Nat) (hp : p ≤ s.size) : p + wordN s p ≤ s.size := by
 unfold wordN
 have h1 : ((s.data.toList.drop p).takeWhile letB).length ≤ (s.data.toList.drop p).length := (List.takeWhile_prefix (p := letB) (l := s.data.toList.drop p)).length_le
 have h2 : (s.data.toList.drop p).length = s.size - p := by rw [List.length_drop]; simp
 omega
theorem wordP_size (s : ByteArray) (p : Nat) (hp : p ≤ s.size) : (wordP s p).size = wordN s p := by
 unfold wordP
 rw [ByteArray.size_extract]
 have := wordN_le s p hp
 omega
theorem litAt_le {s w : ByteArray} {p : Nat} (h : litAt s w p = true) : p + w.size ≤ s.size := by
 unfold litAt at h
 simp only [Bool.and_eq_true, decide_eq_true_eq] at h
 exact h.1
theorem isP_le {s w : ByteArray} {st : RS} (h : isP s w st = true) : st.p + w.size ≤ s.size := by
 unfold isP at h
 simp only [Bool.and_eq_true] at h
 exact litAt_le h.2
end Go.Proofs.YtkpefjefodkddaaGreat
namespace Go.Proofs.YtkpefjefodkddaaGreat
open Go.ChangeShapes Go.WideShapes Go.ChangeAt Go.RowKit
theorem mO {w : World} {g i j : Nat} {v : Value} (h : i ≠ j) : (w.setCell ⟨g, i, none⟩ v).cell? ⟨g, j, none⟩ = w.cell? ⟨g, j, none⟩ := by
 apply World.cell?_setCell_other
 intro e
 exact h (congrArg Addr.off e)
theorem mS {w : World} {a : Addr} {v u : Value} (h : w.cell? a = some u) : (w.setCell a v).cell? a = some v := by
 apply World.cell?_setCell_same; exact h
theorem mK {W w1 : World} {n o : Nat} {v : Value} (hb : Below W.heap.size W w1) (hn : n < W.heap.size) (h : W.cell? ⟨n, o, none⟩ = some v) : w1.cell? ⟨n, o, none⟩ = some v := by
 rw [hb.cell (p := ⟨n, o, none⟩) hn]; exact h
theorem mF {W w1 : World} {n o : Nat} (hb : Below W.heap.size W w1) (hn : n < W.heap.size) (h : W.frozen? ⟨n, o, none⟩ = false) : w1.frozen? ⟨n, o, none⟩ = false := by
 rw [hb.frozen (p := ⟨n, o, none⟩) hn]; exact h
def Free (w : World) (g : Nat) : Prop := ∀ j, w.frozen? ⟨g, j, none⟩ = false
structure Chg (S : Nat → Prop) (w w' : World) : Prop where
 base : Below 0 w w'
 block : ∀ k, k < w.heap.size → ¬ S k → w'.heap[k]? = w.heap[k]?
 free : ∀ g, g < w.heap.size → Free w g → Free w' g
theorem Chg.refl (S : Nat → Prop) (w : World) : Chg S w w := ⟨Below.refl _ _, fun _ _ _ => rfl, fun _ _ h => h⟩
theorem Chg.size {S : Nat → Prop} {w w' : World} (h : Chg S w w') : w.heap.size ≤ w'.heap.size := h.base.size
theorem Chg.trans {S : Nat → Prop} {a b c : World} (h : Chg S a b) (k : Chg S b c) : Chg S a c :=
 ⟨h.base.trans k.base, fun i hi hs => (k.block i (Nat.lt_of_lt_of_le hi h.size) hs).trans (h.block i hi hs), fun g hg hf => k.free g (Nat.lt_of_lt_of_le hg h.size) (h.free g hg hf)⟩
theorem Chg.mono {S T : Nat → Prop} {a b : World} (h : Chg S a b) (hs : ∀ g, S g → T g) : Chg T a b :=
 ⟨h.base, fun i hi hn => h.block i hi fun e => hn (hs i e), h.free⟩
theorem Chg.of {S : Nat → Prop} {w w' : World} (h : Below w.heap.size w w') : Chg S w w' :=
 ⟨h.mono (Nat.zero_le _), fun k hk _ => h.block k hk, fun g hg hf j => by rw [h.frozen (p := ⟨g, j, none⟩) hg]; exact hf j⟩
theorem Chg.set {S : Nat → Prop} {w : World} {g j : Nat} (v : Value) (hs : S g) : Chg S w (w.setCell ⟨g, j, none⟩ v) :=
 ⟨(Below.refl 0 w).setCell (Nat.zero_le _) v, fun k _ hk => Below.heap_setCell _ _ _ _ (fun e => hk (by rw [e]; exact hs)), fun g' _ hf j' => by simpa using hf j'⟩
theorem Chg.below {S : Nat → Prop} {w w' : World} {m : Nat} (h : Chg S w w') (hm : ∀ g, S g → m ≤ g) (hw : m ≤ w.heap.size) : Below m w w' :=
 ⟨h.base.os, h.base.tape, h.base.output, h.base.size, fun k hk => h.block k (Nat.lt_of_lt_of_le hk hw) fun e => by have := hm k e; omega⟩
theorem Chg.cell {S : Nat → Prop} {w w' : World} (h : Chg S w w') {g o : Nat} (hg : g < w.heap.size) (hs : ¬ S g) : w'.cell? ⟨g, o, none⟩ = w.cell? ⟨g, o, none⟩ := by
 have := h.block g hg hs
 unfold World.cell?
 simp only [this]
end Go.Proofs.YtkpefjefodkddaaGreat
