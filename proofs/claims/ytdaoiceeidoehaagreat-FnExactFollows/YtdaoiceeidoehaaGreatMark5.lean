/- Contracts of the law's helpers that mark relations and types: they change the blocks of these alone. -/
import Derived.Test.YtdaoiceeidoehaaGreatJ33
namespace Go.Proofs.YtdaoiceeidoehaaGreat
open Go.ChangeShapes Go.WideShapes Go.ChangeAt Go.RowKit
open Pl
def Jy (w:World) (P:Nat→Prop):Prop:=∀ g,P g→g < w.heap.size∧CZ w g
theorem Jy.mono {P Q:Nat→Prop} {w:World} (h:Jy w P) (hq:∀ g,Q g→P g):Jy w Q:=fun g hg=>h g (hq g hg)
def Jz (r:RR) (g:Nat):Prop:=(r.rows ≠ []∧r.ad=some ⟨g,0,none⟩) ∨ ∃ q ∈ r.rows,Mc q g
def Md (r:RR):Prop:=r.rows ≠ []→∃ b,r.ad=some ⟨b,0,none⟩∧SepE b r.rows
structure SepR (b:Nat) (rs:List RR):Prop where
 good:∀ r ∈ rs,Md r
 head:∀ r ∈ rs,¬ Jz r b
 two:∀ (x y:Nat) (hx:x < rs.length) (hy:y < rs.length),x ≠ y→∀ g,Jz rs[x] g→¬ Jz rs[y] g
def KC (r:TR) (g:Nat):Prop:=(r.rows ≠ []∧r.ad=some ⟨g,0,none⟩) ∨ ∃ q ∈ r.rows,Jz q g
def Me (r:TR):Prop:=r.rows ≠ []→∃ b,r.ad=some ⟨b,0,none⟩∧SepR b r.rows
structure SepT (b:Nat) (rs:List TR):Prop where
 good:∀ r ∈ rs,Me r
 head:∀ r ∈ rs,¬ KC r b
 two:∀ (x y:Nat) (hx:x < rs.length) (hy:y < rs.length),x ≠ y→∀ g,KC rs[x] g→¬ KC rs[y] g
end Go.Proofs.YtdaoiceeidoehaaGreat
