/- Contracts of the law's helpers that weigh a schema. -/
import Derived.Test.YtajkkeikihhejaaGreatSq
import Derived.Test.YtajkkeikihhejaaGreatJ2
import Derived.Test.YtajkkeikihhejaaGreatJ3
import Derived.Deep.DrawnRows
namespace Go.Proofs.YtajkkeikihhejaaGreat
open Go.ChangeShapes Go.WideShapes Go.ChangeAt Go.RowKit
open Pl
def RR.row (r:RR):List Value:=[.string r.name,.slice r.ad r.rows.length r.cap]
def TR.row (r:TR):List Value:=[.string r.name,.slice r.ad r.rows.length r.cap]
theorem jN.chg {S:Nat→Prop} {w w':af} {ad:Option Addr} {xs:List Al} (h:jN w ad xs) (hc:Chg S w w') (hn:∀ g o,xs ≠ []→ad=some ⟨g,o,none⟩→¬ S g):jN w' ad xs:=by
 rcases h with h | ⟨b,off,e,hb,hr⟩
 ·exact .inl h
 by_cases hx:xs=[]
 ·exact .inl hx
 exact .inr ⟨b,off,e,TP hb hc.size,fun i hi=>(hr i hi).same fun o=>hc.cell hb (hn b off hx e)⟩
theorem pX.chg {S:Nat→Prop} {w w':af} {ad:Option Addr} {zs:List Int} (h:pX w ad zs) (hc:Chg S w w') (hn:∀ g o,zs ≠ []→ad=some ⟨g,o,none⟩→¬ S g):pX w' ad zs:=by
 rcases h with h | ⟨b,off,e,hb,hr⟩
 ·exact .inl h
 by_cases hx:zs=[]
 ·exact .inl hx
 exact .inr ⟨b,off,e,TP hb hc.size,fun i hi=>by rw [hc.cell hb (hn b off hx e)]; exact hr i hi⟩
def bA (r:ER) (g:Nat):Prop:=r.e.allow ≠ []∧r.adA=some ⟨g,0,none⟩
def bK (r:ER) (g:Nat):Prop:=r.e.kids ≠ []∧r.adK=some ⟨g,0,none⟩
def oJ (r:ER) (g:Nat):Prop:=bA r g ∨ bK r g
structure SepE (b:Nat) (rs:List ER):Prop where
 zeroA:∀ r ∈ rs,r.e.allow ≠ []→∃ g,r.adA=some ⟨g,0,none⟩
 zeroK:∀ r ∈ rs,r.e.kids ≠ []→∃ g,r.adK=some ⟨g,0,none⟩
 head:∀ r ∈ rs,¬ oJ r b
 one:∀ r ∈ rs,∀ g,bA r g→¬ bK r g
 two:∀ (x y:Nat) (hx:x < rs.length) (hy:y < rs.length),x ≠ y→∀ g,oJ rs[x] g→¬ oJ rs[y] g
def Nn (w:World) (b:Nat) (rs:List ER):Prop:=(b < w.heap.size∧gY w b)∧∀ r ∈ rs,∀ g,oJ r g→g < w.heap.size∧gY w g
theorem Nn.chg {S:Nat→Prop} {w w':af} {b:Nat} {rs:List ER} (h:Nn w b rs) (hc:Chg S w w'):Nn w' b rs :=
 ⟨⟨TP h.1.1 hc.size,hc.free b h.1.1 h.1.2⟩,fun r hr g hg=>⟨TP (h.2 r hr g hg).1 hc.size,hc.free g (h.2 r hr g hg).1 (h.2 r hr g hg).2⟩⟩
theorem ER.ok.chg {S:Nat→Prop} {w w':af} {r:ER} (h:r.ok w) (hc:Chg S w w') (hA:∀ g o,r.e.allow ≠ []→r.adA=some ⟨g,o,none⟩→¬ S g) (hK:∀ g o,r.e.kids ≠ []→r.adK=some ⟨g,o,none⟩→¬ S g):r.ok w' :=
 ⟨h.1.chg hc hA,h.2.chg hc hK⟩
def Ci (w:World) (P:Nat→Prop):Prop:=∀ g,P g→g < w.heap.size∧gY w g
theorem Ci.chg {S P:Nat→Prop} {w w':af} (h:Ci w P) (hc:Chg S w w'):Ci w' P:=fun g hg=>⟨TP (h g hg).1 hc.size,hc.free g (h g hg).1 (h g hg).2⟩
theorem Ci.mono {P Q:Nat→Prop} {w:af} (h:Ci w P) (hq:∀ g,Q g→P g):Ci w Q:=fun g hg=>h g (hq g hg)
def H6 (r:RR) (g:Nat):Prop:=(r.rows ≠ []∧r.ad=some ⟨g,0,none⟩) ∨ ∃ q ∈ r.rows,oJ q g
def Np (r:RR):Prop:=r.rows ≠ []→∃ b,r.ad=some ⟨b,0,none⟩∧SepE b r.rows
structure SepR (b:Nat) (rs:List RR):Prop where
 good:∀ r ∈ rs,Np r
 head:∀ r ∈ rs,¬ H6 r b
 two:∀ (x y:Nat) (hx:x < rs.length) (hy:y < rs.length),x ≠ y→∀ g,H6 rs[x] g→¬ H6 rs[y] g
theorem RR.ok.chg {S:Nat→Prop} {w w':af} {r:RR} (h:r.ok w) (hc:Chg S w w') (hg:Np r) (hn:∀ g,H6 r g→¬ S g):r.ok w':=by
 by_cases hz:r.rows=[]
 ·exact .inl hz
 obtain ⟨b,e,hsep⟩:=hg hz;rcases h with h | ⟨b',off,e',hb,hr,hk⟩
 ·exact .inl h
 rw [e] at e'; injection e' with e'; injection e' with e1 e2;subst e1; subst e2;refine .inr ⟨b,0,e,TP hb hc.size,fun i hi=>(hr i hi).same fun o=>hc.cell hb (hn b (.inl ⟨hz,e⟩)),fun q hq=>?_⟩;refine (hk q hq).chg hc (fun g o hne e2=>?_) (fun g o hne e2=>?_)
 ·obtain ⟨g0,e0⟩:=hsep.zeroA q hq hne;rw [e0] at e2; injection e2 with e2; injection e2 with e3 e4;subst e3;exact hn g0 (.inr ⟨q,hq,.inl ⟨hne,e0⟩⟩)
 obtain ⟨g0,e0⟩:=hsep.zeroK q hq hne;rw [e0] at e2; injection e2 with e2; injection e2 with e3 e4;subst e3;exact hn g0 (.inr ⟨q,hq,.inr ⟨hne,e0⟩⟩)
def KR (r:TR) (g:Nat):Prop:=(r.rows ≠ []∧r.ad=some ⟨g,0,none⟩) ∨ ∃ q ∈ r.rows,H6 q g
def Nq (r:TR):Prop:=r.rows ≠ []→∃ b,r.ad=some ⟨b,0,none⟩∧SepR b r.rows
structure SepT (b:Nat) (rs:List TR):Prop where
 good:∀ r ∈ rs,Nq r
 head:∀ r ∈ rs,¬ KR r b
 two:∀ (x y:Nat) (hx:x < rs.length) (hy:y < rs.length),x ≠ y→∀ g,KR rs[x] g→¬ KR rs[y] g
theorem TR.ok.chg {S:Nat→Prop} {w w':af} {r:TR} (h:r.ok w) (hc:Chg S w w') (hg:Nq r) (hn:∀ g,KR r g→¬ S g):r.ok w':=by
 by_cases hz:r.rows=[]
 ·exact .inl hz
 obtain ⟨b,e,hsep⟩:=hg hz;rcases h with h | ⟨b',off,e',hb,hr,hk⟩
 ·exact .inl h
 rw [e] at e'; injection e' with e'; injection e' with e1 e2;subst e1; subst e2;refine .inr ⟨b,0,e,TP hb hc.size,fun i hi=>(hr i hi).same fun o=>hc.cell hb (hn b (.inl ⟨hz,e⟩)),fun q hq=>?_⟩;exact (hk q hq).chg hc (hsep.good q hq) fun g hg=>hn g (.inr ⟨q,hq,hg⟩)
end Go.Proofs.YtajkkeikihhejaaGreat
