/- Contracts of the law's helpers that mark tuples, and that look whether the marks are held. -/
import Derived.Test.YtkpefjefodkddaaGreatJ20
import Derived.Test.YtkpefjefodkddaaGreatJ3
import Derived.Deep.RegionHeld3
import Derived.Deep.DrawnRows
namespace Go.Proofs.YtkpefjefodkddaaGreat
open Go.ChangeShapes Go.WideShapes Go.ChangeAt Go.RowKit
open Pl
end Go.Proofs.YtkpefjefodkddaaGreat
