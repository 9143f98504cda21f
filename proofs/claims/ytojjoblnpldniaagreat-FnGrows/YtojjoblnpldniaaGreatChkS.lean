/- Contract of the document's Check. -/
import Derived.Test.YtojjoblnpldniaaGreatFactsQ
namespace Go.Proofs.YtojjoblnpldniaaGreat
set_option maxRecDepth 100000
set_option linter.unusedVariables false
set_option linter.unusedSectionVars false
open ChangeShapes WideShapes ChangeAt RowKit Maps
open Pl
section
variable  [DecidableEq Fc]
end
end Go.Proofs.YtojjoblnpldniaaGreat
