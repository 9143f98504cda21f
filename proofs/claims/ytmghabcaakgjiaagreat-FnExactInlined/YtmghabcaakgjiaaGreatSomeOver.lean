/- Contract of the program's someOver: each RwOver of a schema is asked. -/
import Derived.Test.YtmghabcaakgjiaaGreatWithout
namespace Go.Proofs.YtmghabcaakgjiaaGreat
set_option maxRecDepth 100000
set_option linter.unusedVariables false
open Go.ChangeShapes Go.WideShapes Go.ChangeAt Go.RowKit Go.Maps
open Pl

theorem any_drop {α : Type} (f : α → Bool) (xs : List α) (k : Nat) (h : k < xs.length) : (xs.drop k).any f = (f xs[k] || (xs.drop (k + 1)).any f) := by
  rw [List.drop_eq_getElem_cons h]; rfl

end Go.Proofs.YtmghabcaakgjiaaGreat
