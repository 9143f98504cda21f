/- Contract of the program's set of tuples. -/
import Derived.Test.YthicofnjehpalaaTupKey
import Derived.Test.YthicofnjehpalaaMark0
namespace Go.Proofs.Ythicofnjehpalaa
open Go.ChangeShapes Go.WideShapes Go.ChangeAt Go.RowKit Go.Maps
open Pl
variable [DecidableEq Tp]

/-- the set of these tuples, as a map's function -/
def setFrom (M : Tp → Option Value) : List Tp → Tp → Option Value
  | [] => M
  | t :: ts => setFrom (updM M t (some (.agg #[]))) ts
theorem setFrom_append (M : Tp → Option Value) (xs ys : List Tp) : setFrom M (xs ++ ys) = setFrom (setFrom M xs) ys := by
  induction xs generalizing M with
  | nil => rfl
  | cons x xs ih => exact ih _
theorem setFrom_succ (M : Tp → Option Value) (ts : List Tp) (k : Nat) (h : k < ts.length) : setFrom M (ts.take (k + 1)) = updM (setFrom M (ts.take k)) ts[k] (some (.agg #[])) := by
  rw [List.take_succ_eq_append_getElem h, setFrom_append]; rfl
theorem setFrom_is (ts : List Tp) : ∀ (M : Tp → Option Value) (t : Tp), (setFrom M ts t).isSome = true ↔ t ∈ ts ∨ (M t).isSome = true := by
  induction ts with
  | nil => intro M t; simp [setFrom]
  | cons x xs ih =>
    intro M t
    simp only [setFrom]
    rw [ih]
    unfold updM
    by_cases e : t = x
    · simp [e]
    · simp [e]

end Go.Proofs.Ythicofnjehpalaa
