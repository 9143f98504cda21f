/- Contracts of the law's helpers that mark relations and types: they change the blocks of these alone. -/
import Derived.Test.YtdaoiceeidoehaaGreatJ34
namespace Go.Proofs.YtdaoiceeidoehaaGreat
open Go.ChangeShapes Go.WideShapes Go.ChangeAt Go.RowKit
open Pl
def JA (w:World) (P:Nat→Prop):Prop:=∀ g,P g→g < w.heap.size∧C8 w g
theorem JA.mono {P Q:Nat→Prop} {w:World} (h:JA w P) (hq:∀ g,Q g→P g):JA w Q:=fun g hg=>h g (hq g hg)
def JB (r:RR) (g:Nat):Prop:=(r.rows ≠ []∧r.ad=some ⟨g,0,none⟩) ∨ ∃ q ∈ r.rows,Mg q g
def Mh (r:RR):Prop:=r.rows ≠ []→∃ b,r.ad=some ⟨b,0,none⟩∧SepE b r.rows
structure SepR (b:Nat) (rs:List RR):Prop where
 good:∀ r ∈ rs,Mh r
 head:∀ r ∈ rs,¬ JB r b
 two:∀ (x y:Nat) (hx:x < rs.length) (hy:y < rs.length),x ≠ y→∀ g,JB rs[x] g→¬ JB rs[y] g
def KE (r:TR) (g:Nat):Prop:=(r.rows ≠ []∧r.ad=some ⟨g,0,none⟩) ∨ ∃ q ∈ r.rows,JB q g
def Mi (r:TR):Prop:=r.rows ≠ []→∃ b,r.ad=some ⟨b,0,none⟩∧SepR b r.rows
structure SepT (b:Nat) (rs:List TR):Prop where
 good:∀ r ∈ rs,Mi r
 head:∀ r ∈ rs,¬ KE r b
 two:∀ (x y:Nat) (hx:x < rs.length) (hy:y < rs.length),x ≠ y→∀ g,KE rs[x] g→¬ KE rs[y] g
end Go.Proofs.YtdaoiceeidoehaaGreat
