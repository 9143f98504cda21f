/- Contracts of the law's helpers that copy a schema: each list lies in a block of its own. -/
import Derived.Test.YtdmniljjnaebbaaGreatDoorJ36
import Derived.Test.YtdmniljjnaebbaaGreatDoorJ37
namespace Go.Proofs.YtdmniljjnaebbaaGreatDoor
open Go.ChangeShapes Go.WideShapes Go.ChangeAt Go.RowKit
open Pl
def NW (b:Nat) (w:World) (qs:List ER):Prop:=SepE b qs∧∀ q ∈ qs,∀ g,NT q g→b < g∧g < w.heap.size∧BR w g
theorem NW.nil (b:Nat) (w:World):NW b w []:=by
 refine ⟨⟨?_,?_,?_,?_,?_⟩,?_⟩
 ·intro r hr; cases hr
 ·intro r hr; cases hr
 ·intro r hr; cases hr
 ·intro r hr; cases hr
 ·intro x y hx; exact absurd hx (Nat.not_lt_zero _)
 ·intro r hr; cases hr
def NY (b:Nat) (w:World) (qs:List RR):Prop:=SepR b qs∧∀ q ∈ qs,∀ g,KX q g→b < g∧g < w.heap.size∧BR w g
theorem NY.nil (b:Nat) (w:World):NY b w []:=by
 refine ⟨⟨?_,?_,?_⟩,?_⟩
 ·intro r hr; cases hr
 ·intro r hr; cases hr
 ·intro x y hx; exact absurd hx (Nat.not_lt_zero _)
 ·intro r hr; cases hr
def NZ (b:Nat) (w:World) (qs:List TR):Prop:=SepT b qs∧∀ q ∈ qs,∀ g,Ml q g→b < g∧g < w.heap.size∧BR w g
theorem NZ.nil (b:Nat) (w:World):NZ b w []:=by
 refine ⟨⟨?_,?_,?_⟩,?_⟩
 ·intro r hr; cases hr
 ·intro r hr; cases hr
 ·intro x y hx; exact absurd hx (Nat.not_lt_zero _)
 ·intro r hr; cases hr
end Go.Proofs.YtdmniljjnaebbaaGreatDoor
