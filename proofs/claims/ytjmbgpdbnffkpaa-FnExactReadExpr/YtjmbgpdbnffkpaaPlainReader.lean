/- The document's reader of expressions, as a plain function: a place, whether it has given up, the nodes so far. -/
import Derived.Test.YtjmbgpdbnffkpaaPlainText
namespace Go.Proofs.Ytjmbgpdbnffkpaa
open Pl

/-- how far the reader has come -/
structure RS where
  p : Nat
  bad : Bool
  out : List Ex

def tThis : ByteArray := ⟨#[116, 104, 105, 115, 40]⟩
def tHash : ByteArray := ⟨#[35]⟩
def tClose : ByteArray := ⟨#[41]⟩
def tComma : ByteArray := ⟨#[44]⟩
def tOpen : ByteArray := ⟨#[40]⟩
def tArrow : ByteArray := ⟨#[45, 62]⟩
def tSign (k : Int) : ByteArray := if k = 4 then ⟨#[32, 124, 32]⟩ else if k = 5 then ⟨#[32, 38, 32]⟩ else ⟨#[32, 45, 32]⟩

/-- w stands at the place p -/
def litAt (s w : ByteArray) (p : Nat) : Bool := decide (p + w.size ≤ s.size) && (s.extract p (p + w.size)).toList == w.toList
def isP (s w : ByteArray) (st : RS) : Bool := !st.bad && litAt s w st.p
def onP (w : ByteArray) (st : RS) : RS := ⟨st.p + w.size, st.bad, st.out⟩
def wordN (s : ByteArray) (p : Nat) : Nat := ((s.data.toList.drop p).takeWhile letB).length
def wordP (s : ByteArray) (p : Nat) : ByteArray := s.extract p (p + wordN s p)
def addP (x : Ex) (st : RS) : RS := ⟨st.p, st.bad || decide (15 < st.out.length + 1), st.out ++ [x]⟩
def endP (st : RS) : RS := ⟨st.p, true, st.out⟩

/-- a pair's set, where there is one -/
def setP (s : ByteArray) (st : RS) : ByteArray := if isP s tHash st then wordP s (st.p + 1) else ⟨#[]⟩
def behindSet (s : ByteArray) (st : RS) : RS := if isP s tHash st then ⟨st.p + 1 + wordN s (st.p + 1), st.bad, st.out⟩ else st
def pairAt (s : ByteArray) (st : RS) : RS := ⟨st.p + wordN s st.p, st.bad, st.out⟩
/-- the pairs behind 'this(' -/
def pairsP (s : ByteArray) : Nat → List Al → RS → Option (List Al) × RS
  | 0, _, st => (none, st)
  | n + 1, xs, st =>
    if st.bad then (none, st)
    else if isP s tClose (behindSet s (pairAt s st)) then (some (xs ++ [⟨wordP s st.p, setP s (pairAt s st)⟩]), onP tClose (behindSet s (pairAt s st)))
    else if isP s tComma (behindSet s (pairAt s st)) then pairsP s n (xs ++ [⟨wordP s st.p, setP s (pairAt s st)⟩]) (onP tComma (behindSet s (pairAt s st)))
    else pairsP s n (xs ++ [⟨wordP s st.p, setP s (pairAt s st)⟩]) (endP (behindSet s (pairAt s st)))
/-- a name, or a name over another one -/
def nameP (s : ByteArray) (st : RS) : Ex :=
  if isP s tArrow (pairAt s st) then ⟨3, [], wordP s st.p, wordP s (st.p + wordN s st.p + 2), []⟩ else ⟨2, [], ⟨#[]⟩, wordP s st.p, []⟩
def behindName (s : ByteArray) (st : RS) : RS :=
  if isP s tArrow (pairAt s st) then ⟨st.p + wordN s st.p + 2 + wordN s (st.p + wordN s st.p + 2), st.bad, st.out⟩ else pairAt s st
def judged (x : Ex) (st : RS) : RS := if nodeB x then st else endP st
/-- the sign that stands at a place -/
def signAt (s : ByteArray) (p : Nat) : Int := if litAt s (tSign 4) p then 4 else if litAt s (tSign 5) p then 5 else if litAt s (tSign 6) p then 6 else 0
/-- kids, each behind the sign -/
def kidsP (s : ByteArray) (it : RS → Int × RS) (k : Int) : Nat → List Int → RS → List Int × RS
  | 0, zs, st => (zs, st)
  | n + 1, zs, st => if isP s (tSign k) st then kidsP s it k n (zs ++ [(it (onP (tSign k) st)).1]) (it (onP (tSign k) st)).2 else (zs, st)
/-- an item (false), a row (true) -/
def rdP (s : ByteArray) : Nat → Bool → RS → Int × RS
  | 0, _, st => (0, st)
  | n + 1, false, st =>
    if isP s tThis st then
      match pairsP s (s.size + 1) [] (onP tThis st) with
      | (some xs, st') => ((st'.out.length : Int), addP ⟨1, xs, ⟨#[]⟩, ⟨#[]⟩, []⟩ st')
      | (none, st') => (0, st')
    else if isP s tOpen st then
      let x := rdP s n true (onP tOpen st)
      if isP s tClose x.2 then (x.1, onP tClose x.2) else (x.1, endP x.2)
    else ((st.out.length : Int), addP (nameP s st) (judged (nameP s st) (behindName s st)))
  | n + 1, true, st =>
    let x := rdP s n false st
    if signAt s x.2.p = 0 ∨ x.2.bad = true then x
    else
      let y := kidsP s (rdP s n false) (signAt s x.2.p) (s.size + 1) [x.1] x.2
      ((y.2.out.length : Int), addP ⟨signAt s x.2.p, [], ⟨#[]⟩, ⟨#[]⟩, y.1⟩ y.2)

theorem wordN_le (s : ByteArray) (p : Nat) (hp : p ≤ s.size) : p + wordN s p ≤ s.size := by
  unfold wordN
  have h1 : ((s.data.toList.drop p).takeWhile letB).length ≤ (s.data.toList.drop p).length := (List.takeWhile_prefix (p := letB) (l := s.data.toList.drop p)).length_le
  have h2 : (s.data.toList.drop p).length = s.size - p := by rw [List.length_drop]; simp
  omega
theorem wordP_size (s : ByteArray) (p : Nat) (hp : p ≤ s.size) : (wordP s p).size = wordN s p := by
  unfold wordP
  rw [ByteArray.size_extract]
  have := wordN_le s p hp
  omega
theorem litAt_le {s w : ByteArray} {p : Nat} (h : litAt s w p = true) : p + w.size ≤ s.size := by
  unfold litAt at h
  simp only [Bool.and_eq_true, decide_eq_true_eq] at h
  exact h.1
theorem isP_le {s w : ByteArray} {st : RS} (h : isP s w st = true) : st.p + w.size ≤ s.size := by
  unfold isP at h
  simp only [Bool.and_eq_true] at h
  exact litAt_le h.2
end Go.Proofs.Ytjmbgpdbnffkpaa
