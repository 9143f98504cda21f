/- Contracts of the law's helpers that weigh an expression: what is left is no more than there was, and no list is longer than that. -/
import Derived.Test.YtajkkeikihhejaaGreatExprs
namespace Go.Proofs.YtajkkeikihhejaaGreat
open Go.ChangeShapes Go.WideShapes Go.ChangeAt Go.RowKit
open Pl
def Ex.light (e:Ex):Prop:=e.allow.length<=1048576/\e.kids.length<=1048576
end Go.Proofs.YtajkkeikihhejaaGreat
