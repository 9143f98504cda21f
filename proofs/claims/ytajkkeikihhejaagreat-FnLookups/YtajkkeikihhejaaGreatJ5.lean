/- Contracts of the law's helpers that mark expressions, and that look whether the marks are held. -/
import Derived.Test.YtajkkeikihhejaaGreatSq
import Derived.Test.YtajkkeikihhejaaGreatJ4
namespace Go.Proofs.YtajkkeikihhejaaGreat
open Go.ChangeShapes Go.WideShapes Go.ChangeAt Go.RowKit
open Pl
def bA (r:ER) (g:Nat):Prop:=r.e.allow ≠ []∧r.adA=some ⟨g,0,none⟩
def bK (r:ER) (g:Nat):Prop:=r.e.kids ≠ []∧r.adK=some ⟨g,0,none⟩
def pI (r:ER) (g:Nat):Prop:=bA r g ∨ bK r g
structure SepE (b:Nat) (rs:List ER):Prop where
 zeroA:∀ r ∈ rs,r.e.allow ≠ []→∃ g,r.adA=some ⟨g,0,none⟩
 zeroK:∀ r ∈ rs,r.e.kids ≠ []→∃ g,r.adK=some ⟨g,0,none⟩
 head:∀ r ∈ rs,¬ pI r b
 one:∀ r ∈ rs,∀ g,bA r g→¬ bK r g
 two:∀ (x y:Nat) (hx:x < rs.length) (hy:y < rs.length),x ≠ y→∀ g,pI rs[x] g→¬ pI rs[y] g
def Mk (w:ae) (P:Nat→Prop):Prop:=∀ g,P g→g < w.heap.size∧jN w g
theorem Mk.mono {P Q:Nat→Prop} {w:ae} (h:Mk w P) (hq:∀ g,Q g→P g):Mk w Q:=fun g hg=>h g (hq g hg)
def JV (r:RR) (g:Nat):Prop:=(r.rows ≠ []∧r.ad=some ⟨g,0,none⟩) ∨ ∃ q ∈ r.rows,pI q g
def Qp (r:RR):Prop:=r.rows ≠ []→∃ b,r.ad=some ⟨b,0,none⟩∧SepE b r.rows
structure SepR (b:Nat) (rs:List RR):Prop where
 good:∀ r ∈ rs,Qp r
 head:∀ r ∈ rs,¬ JV r b
 two:∀ (x y:Nat) (hx:x < rs.length) (hy:y < rs.length),x ≠ y→∀ g,JV rs[x] g→¬ JV rs[y] g
def Ml (r:TR) (g:Nat):Prop:=(r.rows ≠ []∧r.ad=some ⟨g,0,none⟩) ∨ ∃ q ∈ r.rows,JV q g
def Qq (r:TR):Prop:=r.rows ≠ []→∃ b,r.ad=some ⟨b,0,none⟩∧SepR b r.rows
structure SepT (b:Nat) (rs:List TR):Prop where
 good:∀ r ∈ rs,Qq r
 head:∀ r ∈ rs,¬ Ml r b
 two:∀ (x y:Nat) (hx:x < rs.length) (hy:y < rs.length),x ≠ y→∀ g,Ml rs[x] g→¬ Ml rs[y] g
end Go.Proofs.YtajkkeikihhejaaGreat
