/- Contract of the document's function on what a relation leans on. -/
import Derived.Test.YtpmgkkbkficgpaaSpecSchema6
import Derived.Test.YtpmgkkbkficgpaaRegionApp
import Derived.Deep.RegionHeld3
import Derived.Deep.AppendLies
namespace Go.Proofs.Ytpmgkkbkficgpaa
open Go.ChangeShapes Go.WideShapes Go.ChangeAt Go.RowKit
open Pl

/-- what a relation leans on, and whether that is taken away -/
structure Dp where
  typ : ByteArray
  rel : ByteArray
  neg : Bool
def Dp.cells (d : Dp) : List Value := [.string d.typ, .string d.rel, .bool d.neg]
def flatD : List Dp → List Value
  | [] => []
  | d :: ds => d.cells ++ flatD ds
theorem flatD_append (xs ys : List Dp) : flatD (xs ++ ys) = flatD xs ++ flatD ys := by
  induction xs with
  | nil => rfl
  | cons d ds ih => simp [flatD, ih]
theorem flatD_snoc (xs : List Dp) (d : Dp) : flatD (xs ++ [d]) = flatD xs ++ d.cells := by rw [flatD_append]; simp [flatD]
def depsA (neg : Bool) : List Al → List Dp
  | [] => []
  | a :: xs => if a.s.toList.isEmpty then depsA neg xs else ⟨a.t, a.s, neg⟩ :: depsA neg xs
def depsN (ts : List Ty) (typ : ByteArray) (neg : Bool) (e : Ex) : List Dp :=
  if e.kind = 2 then [⟨typ, e.name, neg⟩] else if e.kind = 3 then (goalsP ts typ e.over e.name).map fun g => ⟨g, e.name, neg⟩ else []
def depsAt (ts : List Ty) (typ : ByteArray) (es : List Ex) (k : Nat) : List Dp :=
  match es[k]? with
  | none => []
  | some e => depsA ((negP es).getD k false) e.allow ++ depsN ts typ ((negP es).getD k false) e
def depsUp (ts : List Ty) (typ : ByteArray) (es : List Ex) : Nat → List Dp
  | 0 => []
  | k + 1 => depsUp ts typ es k ++ depsAt ts typ es k
def depsP (ts : List Ty) (typ : ByteArray) (es : List Ex) : List Dp := depsUp ts typ es es.length
theorem depsA_append (neg : Bool) (xs ys : List Al) : depsA neg (xs ++ ys) = depsA neg xs ++ depsA neg ys := by
  induction xs with
  | nil => rfl
  | cons a xs ih => simp only [List.cons_append, depsA, ih]; split <;> simp
theorem depsA_no (neg : Bool) (xs : List Al) (k : Nat) (h : k < xs.length) (he : xs[k].s.toList.isEmpty = true) : depsA neg (xs.take (k + 1)) = depsA neg (xs.take k) := by
  rw [List.take_succ_eq_append_getElem h, depsA_append]; simp [depsA] at he ⊢; simp [he]
theorem depsA_yes (neg : Bool) (xs : List Al) (k : Nat) (h : k < xs.length) (he : xs[k].s.toList.isEmpty = false) : depsA neg (xs.take (k + 1)) = depsA neg (xs.take k) ++ [⟨xs[k].t, xs[k].s, neg⟩] := by
  rw [List.take_succ_eq_append_getElem h, depsA_append]; simp [depsA, he]
theorem depsA_len (neg : Bool) (xs : List Al) : (depsA neg xs).length ≤ xs.length := by
  induction xs with
  | nil => simp [depsA]
  | cons a xs ih => simp only [depsA]; split <;> simp <;> omega

theorem info_dep : (Try.prog.info? 120).map (fun i => (i.zero, i.size, i.bytes)) = some (some (.agg #[.string ⟨#[]⟩, .string ⟨#[]⟩, .bool false]), 3, 40) := by kernel_rfl
end Go.Proofs.Ytpmgkkbkficgpaa
