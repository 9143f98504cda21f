/- The contract of the program's function that looks at a list of tuples. -/
import Derived.Test.YtpnjoniolfmbnaaGreatDoorTuplesOk
namespace Go.Proofs.YtpnjoniolfmbnaaGreatDoor
open Go.ChangeShapes Go.WideShapes Go.ChangeAt Go.RowKit
open Pl
attribute [local go_sem ↓] Go.wp_at_zero Go.wp_at_succ

end Go.Proofs.YtpnjoniolfmbnaaGreatDoor
