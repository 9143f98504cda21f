/- Contracts of the law's helpers that copy a schema: each list lies in a block of its own. -/
import Derived.Test.YtdaoiceeidoehaaGreatJ33
import Derived.Test.YtdaoiceeidoehaaGreatMark5
namespace Go.Proofs.YtdaoiceeidoehaaGreat
open Go.ChangeShapes Go.WideShapes Go.ChangeAt Go.RowKit
open Pl
def Mj (b:Nat) (w:World) (qs:List ER):Prop:=SepE b qs∧∀ q ∈ qs,∀ g,Mg q g→b < g∧g < w.heap.size∧C8 w g
theorem Mj.nil (b:Nat) (w:World):Mj b w []:=by
 refine ⟨⟨?_,?_,?_,?_,?_⟩,?_⟩
 ·intro r hr; cases hr
 ·intro r hr; cases hr
 ·intro r hr; cases hr
 ·intro r hr; cases hr
 ·intro x y hx; exact absurd hx (Nat.not_lt_zero _)
 ·intro r hr; cases hr
def Mk (b:Nat) (w:World) (qs:List RR):Prop:=SepR b qs∧∀ q ∈ qs,∀ g,JB q g→b < g∧g < w.heap.size∧C8 w g
theorem Mk.nil (b:Nat) (w:World):Mk b w []:=by
 refine ⟨⟨?_,?_,?_⟩,?_⟩
 ·intro r hr; cases hr
 ·intro r hr; cases hr
 ·intro x y hx; exact absurd hx (Nat.not_lt_zero _)
 ·intro r hr; cases hr
def Ml (b:Nat) (w:World) (qs:List TR):Prop:=SepT b qs∧∀ q ∈ qs,∀ g,KE q g→b < g∧g < w.heap.size∧C8 w g
theorem Ml.nil (b:Nat) (w:World):Ml b w []:=by
 refine ⟨⟨?_,?_,?_⟩,?_⟩
 ·intro r hr; cases hr
 ·intro r hr; cases hr
 ·intro x y hx; exact absurd hx (Nat.not_lt_zero _)
 ·intro r hr; cases hr
end Go.Proofs.YtdaoiceeidoehaaGreat
