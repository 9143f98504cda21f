/- Contracts of the law's helpers that weigh a schema. -/
import Derived.Test.YthicofnjehpalaaGreatJ3
namespace Go.Proofs.YthicofnjehpalaaGreat
open Go.ChangeShapes Go.WideShapes Go.ChangeAt Go.RowKit
open Pl

end Go.Proofs.YthicofnjehpalaaGreat
