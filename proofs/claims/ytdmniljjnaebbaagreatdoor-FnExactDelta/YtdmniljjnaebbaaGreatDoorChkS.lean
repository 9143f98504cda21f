/- Contract of the document's Check. -/
import Derived.Test.YtdmniljjnaebbaaGreatDoorFactsQ
namespace Go.Proofs.YtdmniljjnaebbaaGreatDoor
set_option maxRecDepth 100000
set_option linter.unusedVariables false
set_option linter.unusedSectionVars false
open Go.ChangeShapes Go.WideShapes Go.ChangeAt Go.RowKit Go.Maps
open Pl
section
variable [DecidableEq Fc]
end
end Go.Proofs.YtdmniljjnaebbaaGreatDoor
