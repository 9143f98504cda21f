/- Disks as plain lists of files and of ops: which are right, and what an op makes. Nothing of the program is read here. -/
import Derived.Test.YtbfimfmfdllejaaDkMem
namespace Go.Proofs.Ytbfimfmfdllejaa
open Go.RowKit

def nmB (s : ByteArray) : Bool := decide (1 ≤ s.size) && decide (s.size ≤ 100)
def lessS (a b : ByteArray) : Bool := Op.bytesLess a.toList b.toList
def eqS (a b : ByteArray) : Bool := a.toList == b.toList
def noF : Fl := ⟨⟨#[]⟩, ⟨#[]⟩⟩
def nameAt (fs : List Fl) (k : Nat) : ByteArray := (fs.getD k noF).n
theorem nameAt_get (fs : List Fl) (k : Nat) (h : k < fs.length) : nameAt fs k = fs[k].n := by
  rw [nameAt, List.getD_eq_getElem?_getD, List.getElem?_eq_getElem h]; rfl
/-- at that place: a name, above the one ahead of it -/
def okAt (fs : List Fl) (k : Nat) : Bool := nmB (nameAt fs k) && (decide (k = 0) || lessS (nameAt fs (k - 1)) (nameAt fs k))
def upF (fs : List Fl) (k : Nat) : Bool := (List.range k).all (okAt fs)
def sumUp (fs : List Fl) (k : Nat) : Nat := ((fs.take k).map fun f => f.d.size).sum
def filesB (fs : List Fl) : Bool := decide (fs.length ≤ 60) && upF fs fs.length && decide (sumUp fs fs.length ≤ 200000)
theorem upF_zero (fs : List Fl) : upF fs 0 = true := rfl
theorem upF_succ (fs : List Fl) (k : Nat) : upF fs (k + 1) = (upF fs k && okAt fs k) := by simp [upF, List.range_succ]
theorem upF_bad {fs : List Fl} {k : Nat} (h : k < fs.length) (hb : okAt fs k = false) : filesB fs = false := by
  have : upF fs fs.length = false := by
    rw [Bool.eq_false_iff]
    intro hu
    rw [upF, List.all_eq_true] at hu
    rw [hu k (by simpa using h)] at hb; cases hb
  simp [filesB, this]
theorem sumUp_zero (fs : List Fl) : sumUp fs 0 = 0 := rfl
theorem sumUp_succ (fs : List Fl) (k : Nat) (h : k < fs.length) : sumUp fs (k + 1) = sumUp fs k + fs[k].d.size := by
  rw [sumUp, sumUp, List.take_succ_eq_append_getElem h, List.map_append, List.sum_append]
  show _ + (fs[k].d.size + 0) = _
  rfl
theorem sumUp_le {fs : List Fl} {B : Nat} (hs : ∀ f ∈ fs, f.d.size ≤ B) : ∀ (k : Nat), k ≤ fs.length → sumUp fs k ≤ k * B
  | 0, _ => by simp [sumUp]
  | k + 1, h => by
    have := sumUp_le hs k (by omega)
    have h2 := hs _ (List.getElem_mem (show k < fs.length by omega))
    rw [sumUp_succ fs k (by omega), Nat.succ_mul]; omega

/-- an op of its form -/
def formB (o : Dop) : Bool := (decide (1 ≤ o.k) && decide (o.k ≤ 3)) && nmB o.n && (if o.k = 2 then nmB o.t && o.d.toList.isEmpty else o.t.toList.isEmpty && (decide (o.k = 1) || o.d.toList.isEmpty))
/-- the place of a name; below 0: there is none -/
def atUp (fs : List Fl) (x : ByteArray) (k : Nat) : Prop := ∀ (j : Nat) (h : j < fs.length), j < k → eqS fs[j].n x = false
def atF : List Fl → ByteArray → Option Nat
  | [], _ => none
  | f :: l, x => if eqS f.n x then some 0 else (atF l x).map (· + 1)
theorem atF_some : ∀ {fs : List Fl} {x : ByteArray} {k : Nat} (h : k < fs.length), atUp fs x k → eqS fs[k].n x = true → atF fs x = some k
  | f :: l, x, 0, h, _, e => by simp at e; simp [atF, e]
  | f :: l, x, k + 1, h, hu, e => by
    have h0 : eqS f.n x = false := hu 0 (by simp) (by omega)
    have := atF_some (fs := l) (x := x) (k := k) (by simpa using h) (fun j hj hk => hu (j + 1) (by simpa using hj) (by omega)) (by simpa using e)
    simp [atF, h0, this]
theorem atF_none : ∀ {fs : List Fl} {x : ByteArray}, atUp fs x fs.length → atF fs x = none
  | [], _, _ => rfl
  | f :: l, x, hu => by
    have h0 : eqS f.n x = false := hu 0 (by simp) (by simp)
    have := atF_none (fs := l) (x := x) (fun j hj hk => hu (j + 1) (by simpa using hj) (by simp; omega))
    simp [atF, h0, this]
theorem atF_lt : ∀ {fs : List Fl} {x : ByteArray} {k : Nat}, atF fs x = some k → ∃ h : k < fs.length, eqS fs[k].n x = true
  | [], _, _, h => by cases h
  | f :: l, x, k, h => by
    unfold atF at h
    split at h
    · rename_i he
      cases h
      exact ⟨by simp, by simpa using he⟩
    · cases hl : atF l x with
      | none => rw [hl] at h; cases h
      | some m =>
        rw [hl] at h
        cases h
        obtain ⟨h1, h2⟩ := atF_lt hl
        exact ⟨by simpa using h1, by simpa using h2⟩
def atI (fs : List Fl) (x : ByteArray) : Int := match atF fs x with | none => -1 | some k => (k : Int)

/-- one file gone through: what is told so far, and whether the new one is among it -/
def putG (x dt : ByteArray) (p : List Fl × Bool) (f : Fl) : List Fl × Bool :=
  ((if !p.2 && !lessS f.n x then p.1 ++ [⟨x, dt⟩] else p.1) ++ (if eqS f.n x then [] else [f]), p.2 || !lessS f.n x)
def putUp (fs : List Fl) (x dt : ByteArray) (k : Nat) : List Fl × Bool := (fs.take k).foldl (putG x dt) ([], false)
def putF (fs : List Fl) (x dt : ByteArray) : List Fl := if (putUp fs x dt fs.length).2 then (putUp fs x dt fs.length).1 else (putUp fs x dt fs.length).1 ++ [⟨x, dt⟩]
theorem putUp_succ (fs : List Fl) (x dt : ByteArray) (k : Nat) (h : k < fs.length) : putUp fs x dt (k + 1) = putG x dt (putUp fs x dt k) fs[k] := by
  rw [putUp, List.take_succ_eq_append_getElem h, List.foldl_append]; rfl
theorem putG_len (x dt : ByteArray) (p : List Fl × Bool) (f : Fl) : (putG x dt p f).1.length ≤ p.1.length + (if p.2 then 1 else 2) := by
  unfold putG
  cases p.2 <;> cases lessS f.n x <;> cases eqS f.n x <;> simp
theorem putG_done {x dt : ByteArray} {p : List Fl × Bool} {f : Fl} (h : p.2 = true) : (putG x dt p f).2 = true := by simp [putG, h]
def cutUp (fs : List Fl) (x : ByteArray) (k : Nat) : List Fl := (fs.take k).filter fun f => !eqS f.n x
def cutF' (fs : List Fl) (x : ByteArray) : List Fl := cutUp fs x fs.length
theorem cutUp_succ (fs : List Fl) (x : ByteArray) (k : Nat) (h : k < fs.length) : cutUp fs x (k + 1) = if eqS fs[k].n x then cutUp fs x k else cutUp fs x k ++ [fs[k]] := by
  rw [cutUp, List.take_succ_eq_append_getElem h, List.filter_append, cutUp]
  cases he : eqS fs[k].n x <;> simp [he]
/-- what an op makes of files, and whether it finds its file -/
def doF (fs : List Fl) (o : Dop) : List Fl × Bool :=
  if o.k = 1 then (putF fs o.n (match atF fs o.n with | none => o.d | some j => (fs.getD j noF).d ++ o.d), true)
  else match atF fs o.n with
    | none => (fs, false)
    | some j => if o.k = 2 then (putF (cutF' fs o.n) o.t (fs.getD j noF).d, true) else (cutF' fs o.n, true)
/-- the files behind the first k ops; nothing where one of them is not right -/
def runUp (fs : List Fl) (os : List Dop) (k : Nat) : Option (List Fl) := (os.take k).foldl (fun p o => p.bind fun fs => if (doF fs o).2 && formB o && filesB (doF fs o).1 then some (doF fs o).1 else none) (some fs)
theorem runUp_succ (fs : List Fl) (os : List Dop) (k : Nat) (h : k < os.length) : runUp fs os (k + 1) = (runUp fs os k).bind fun fs => if (doF fs os[k]).2 && formB os[k] && filesB (doF fs os[k]).1 then some (doF fs os[k]).1 else none := by
  rw [runUp, List.take_succ_eq_append_getElem h, List.foldl_append]; rfl
theorem runUp_none {fs : List Fl} {os : List Dop} {k : Nat} (h : runUp fs os k = none) : ∀ m, k ≤ m → m ≤ os.length → runUp fs os m = none
  | m, hk, hm => by
    rcases Nat.lt_or_ge k m with h2 | h2
    · match m, h2, hm with
      | m + 1, h2, hm => rw [runUp_succ fs os m (by omega), runUp_none h m (by omega) (by omega)]; rfl
    · obtain rfl : k = m := by omega
      exact h
def sameB (a b : List Fl) : Bool := decide (a.length = b.length) && (List.range a.length).all fun i => eqS (nameAt a i) (nameAt b i) && eqS (a.getD i noF).d (b.getD i noF).d
def diskB (live safe : List Fl) (os : List Dop) : Bool := filesB live && filesB safe && decide (os.length ≤ 200) && (match runUp safe os os.length with | none => false | some fs => sameB fs live)
end Go.Proofs.Ytbfimfmfdllejaa
