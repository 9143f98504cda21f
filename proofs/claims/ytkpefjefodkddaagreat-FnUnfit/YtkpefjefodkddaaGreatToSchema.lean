/- Contracts of the law's helpers that copy a schema: new memory that holds the same. -/
import Derived.Test.YtkpefjefodkddaaGreatJ5
namespace Go.Proofs.YtkpefjefodkddaaGreat
open Go.ChangeShapes Go.WideShapes Go.ChangeAt Go.RowKit
open Pl
def RR.row (r : RR) : List Value := [.string r.name, .slice r.ad r.rows.length r.cap]
def TR.row (r : TR) : List Value := [.string r.name, .slice r.ad r.rows.length r.cap]
end Go.Proofs.YtkpefjefodkddaaGreat
