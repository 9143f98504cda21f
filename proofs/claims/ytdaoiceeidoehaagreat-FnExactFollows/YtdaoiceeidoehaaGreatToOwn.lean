/- Contracts of the law's helpers that copy a schema: each list lies in a block of its own. -/
import Derived.Test.YtdaoiceeidoehaaGreatJ32
import Derived.Test.YtdaoiceeidoehaaGreatMark5
namespace Go.Proofs.YtdaoiceeidoehaaGreat
open Go.ChangeShapes Go.WideShapes Go.ChangeAt Go.RowKit
open Pl
def Mf (b:Nat) (w:World) (qs:List ER):Prop:=SepE b qs∧∀ q ∈ qs,∀ g,Mc q g→b < g∧g < w.heap.size∧CZ w g
theorem Mf.nil (b:Nat) (w:World):Mf b w []:=by
 refine ⟨⟨?_,?_,?_,?_,?_⟩,?_⟩
 ·intro r hr; cases hr
 ·intro r hr; cases hr
 ·intro r hr; cases hr
 ·intro r hr; cases hr
 ·intro x y hx; exact absurd hx (Nat.not_lt_zero _)
 ·intro r hr; cases hr
def Mg (b:Nat) (w:World) (qs:List RR):Prop:=SepR b qs∧∀ q ∈ qs,∀ g,Jz q g→b < g∧g < w.heap.size∧CZ w g
theorem Mg.nil (b:Nat) (w:World):Mg b w []:=by
 refine ⟨⟨?_,?_,?_⟩,?_⟩
 ·intro r hr; cases hr
 ·intro r hr; cases hr
 ·intro x y hx; exact absurd hx (Nat.not_lt_zero _)
 ·intro r hr; cases hr
def Mh (b:Nat) (w:World) (qs:List TR):Prop:=SepT b qs∧∀ q ∈ qs,∀ g,KC q g→b < g∧g < w.heap.size∧CZ w g
theorem Mh.nil (b:Nat) (w:World):Mh b w []:=by
 refine ⟨⟨?_,?_,?_⟩,?_⟩
 ·intro r hr; cases hr
 ·intro r hr; cases hr
 ·intro x y hx; exact absurd hx (Nat.not_lt_zero _)
 ·intro r hr; cases hr
end Go.Proofs.YtdaoiceeidoehaaGreat
