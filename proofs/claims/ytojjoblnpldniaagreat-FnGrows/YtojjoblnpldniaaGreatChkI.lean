/- Both sides' look whether a fact is there. -/
import Derived.Test.YtojjoblnpldniaaGreatJ32
import Derived.Test.YtojjoblnpldniaaGreatChkS
namespace Go.Proofs.YtojjoblnpldniaaGreat
set_option maxRecDepth 100000
set_option linter.unusedVariables false
set_option linter.unusedSectionVars false
open ChangeShapes WideShapes ChangeAt RowKit Maps
open Pl
section
variable  [DecidableEq Fc]
end
end Go.Proofs.YtojjoblnpldniaaGreat
