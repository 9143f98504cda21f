/- Contracts of the law's helpers that copy a schema: each list lies in a block of its own. -/
import Derived.Test.YtogjfppkbkgaeaaGreatToSchema
import Derived.Test.YtogjfppkbkgaeaaGreatMark5
namespace Go.Proofs.YtogjfppkbkgaeaaGreat
open Go.ChangeShapes Go.WideShapes Go.ChangeAt Go.RowKit
open Pl
def OwnE (b:Nat) (w:World) (qs:List ER):Prop:=SepE b qs∧∀ q ∈ qs,∀ g,inR q g→b < g∧g < w.heap.size∧Free w g
theorem OwnE.nil (b:Nat) (w:World):OwnE b w []:=by
 refine ⟨⟨?_,?_,?_,?_,?_⟩,?_⟩
 ·intro r hr; cases hr
 ·intro r hr; cases hr
 ·intro r hr; cases hr
 ·intro r hr; cases hr
 ·intro x y hx; exact absurd hx (Nat.not_lt_zero _)
 ·intro r hr; cases hr
def OwnR (b:Nat) (w:World) (qs:List RR):Prop:=SepR b qs∧∀ q ∈ qs,∀ g,blkR q g→b < g∧g < w.heap.size∧Free w g
theorem OwnR.nil (b:Nat) (w:World):OwnR b w []:=by
 refine ⟨⟨?_,?_,?_⟩,?_⟩
 ·intro r hr; cases hr
 ·intro r hr; cases hr
 ·intro x y hx; exact absurd hx (Nat.not_lt_zero _)
 ·intro r hr; cases hr
def OwnT (b:Nat) (w:World) (qs:List TR):Prop:=SepT b qs∧∀ q ∈ qs,∀ g,blkT q g→b < g∧g < w.heap.size∧Free w g
theorem OwnT.nil (b:Nat) (w:World):OwnT b w []:=by
 refine ⟨⟨?_,?_,?_⟩,?_⟩
 ·intro r hr; cases hr
 ·intro r hr; cases hr
 ·intro x y hx; exact absurd hx (Nat.not_lt_zero _)
 ·intro r hr; cases hr
end Go.Proofs.YtogjfppkbkgaeaaGreat
