/- Contracts of the law's helpers that mark relations and types: they change the blocks of these alone. -/
import Derived.Test.YtogjfppkbkgaeaaGreatJ30
import Derived.Test.YtogjfppkbkgaeaaGreatJ3
namespace Go.Proofs.YtogjfppkbkgaeaaGreat
open Go.ChangeShapes Go.WideShapes Go.ChangeAt Go.RowKit
open Pl
def FreeP (w:World) (P:Nat→Prop):Prop:=∀ g,P g→g < w.heap.size∧Free w g
theorem FreeP.mono {P Q:Nat→Prop} {w:World} (h:FreeP w P) (hq:∀ g,Q g→P g):FreeP w Q:=fun g hg=>h g (hq g hg)
def blkR (r:RR) (g:Nat):Prop:=(r.rows ≠ []∧r.ad=some ⟨g,0,none⟩) ∨ ∃ q ∈ r.rows,inR q g
def GoodR (r:RR):Prop:=r.rows ≠ []→∃ b,r.ad=some ⟨b,0,none⟩∧SepE b r.rows
structure SepR (b:Nat) (rs:List RR):Prop where
 good:∀ r ∈ rs,GoodR r
 head:∀ r ∈ rs,¬ blkR r b
 two:∀ (x y:Nat) (hx:x < rs.length) (hy:y < rs.length),x ≠ y→∀ g,blkR rs[x] g→¬ blkR rs[y] g
def blkT (r:TR) (g:Nat):Prop:=(r.rows ≠ []∧r.ad=some ⟨g,0,none⟩) ∨ ∃ q ∈ r.rows,blkR q g
def GoodT (r:TR):Prop:=r.rows ≠ []→∃ b,r.ad=some ⟨b,0,none⟩∧SepR b r.rows
structure SepT (b:Nat) (rs:List TR):Prop where
 good:∀ r ∈ rs,GoodT r
 head:∀ r ∈ rs,¬ blkT r b
 two:∀ (x y:Nat) (hx:x < rs.length) (hy:y < rs.length),x ≠ y→∀ g,blkT rs[x] g→¬ blkT rs[y] g
end Go.Proofs.YtogjfppkbkgaeaaGreat
