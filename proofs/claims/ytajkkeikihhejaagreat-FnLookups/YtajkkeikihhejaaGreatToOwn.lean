/- Contracts of the law's helpers that copy a schema: each list lies in a block of its own. -/
import Derived.Test.YtajkkeikihhejaaGreatSq
import Derived.Test.YtajkkeikihhejaaGreatJ5
namespace Go.Proofs.YtajkkeikihhejaaGreat
open Go.ChangeShapes Go.WideShapes Go.ChangeAt Go.RowKit
open Pl
def ED (b:Nat) (w:ae) (qs:List ER):Prop:=SepE b qs∧∀ q ∈ qs,∀ g,pI q g→b < g∧g < w.heap.size∧jN w g
theorem ED.nil (b:Nat) (w:ae):ED b w []:=by
 refine ⟨⟨?_,?_,?_,?_,?_⟩,?_⟩
 ·intro r hr; cases hr
 ·intro r hr; cases hr
 ·intro r hr; cases hr
 ·intro r hr; cases hr
 ·intro x y hx; exact absurd hx (Tn _)
 intro r hr; cases hr
theorem Jl {q:ER} {gA gK g:Nat} (hA:q.adA=some ⟨gA,0,none⟩) (hK:q.adK=some ⟨gK,0,none⟩) (h:pI q g):g=gA ∨ g=gK:=by
 rcases h with ⟨-,e⟩ | ⟨-,e⟩
 ·rw [hA] at e; injection e with e; injection e with e1 e2; exact .inl e1.symm
 rw [hK] at e; injection e with e; injection e with e1 e2; exact .inr e1.symm
theorem ED.snoc {S:Nat→Prop} {b:Nat} {wr wn:ae} {qs:List ER} (h:ED b wr qs) (hc:Chg S wr wn) (hb:b < wr.heap.size) {q:ER} {gA gK:Nat} (hA:q.adA=some ⟨gA,0,none⟩) (hK:q.adK=some ⟨gK,0,none⟩) (h1:wr.heap.size≤gA) (h2:gA < gK) (h3:gK < wn.heap.size) (fA:jN wn gA) (fK:jN wn gK):ED b wn (qs ++ [q]):=by
 have hq:∀ g,pI q g→wr.heap.size≤g:=fun g hg=>by rcases Jl hA hK hg with rfl | rfl <;> omega
 refine ⟨⟨?_,?_,?_,?_,?_⟩,?_⟩
 ·intro r hr; rw [SI,SG] at hr;rcases hr with hr | rfl
  ·exact h.1.zeroA r hr
  exact fun _=>⟨gA,hA⟩
 ·intro r hr; rw [SI,SG] at hr;rcases hr with hr | rfl
  ·exact h.1.zeroK r hr
  exact fun _=>⟨gK,hK⟩
 ·intro r hr; rw [SI,SG] at hr;rcases hr with hr | rfl
  ·exact h.1.head r hr
  intro hg; have:=hq b hg; omega
 ·intro r hr; rw [SI,SG] at hr;rcases hr with hr | rfl
  ·exact h.1.one r hr
  rintro g ⟨-,e1⟩ ⟨-,e2⟩;rw [hA] at e1; rw [hK] at e2;injection e1 with e1; injection e1 with e1 _; injection e2 with e2; injection e2 with e2 _;omega
 ·intro x y hx hy hne g hgx Vf;rw [SE,List.length_singleton] at hx hy;by_cases ex:x < qs.length
  ·rw [Ta ex] at hgx;by_cases ey:y < qs.length
   ·rw [Ta ey] at Vf;exact h.1.two x y ex ey hne g hgx Vf
   rw [Tf (by omega)] at Vf;have e1:=hq g (by simpa using Vf);have e2:=(h.2 _ (Sw ex) g hgx).2.1;omega
  rw [Tf (by omega)] at hgx;have e1:=hq g (by simpa using hgx);have ey:y < qs.length:=by omega
  rw [Ta ey] at Vf;have e2:=(h.2 _ (Sw ey) g Vf).2.1;omega
 intro r hr g hg; rw [SI,SG] at hr;rcases hr with hr | rfl
 ·obtain ⟨a1,a2,a3⟩:=h.2 r hr g hg;exact ⟨a1,Sv a2 hc.size,hc.free g a2 a3⟩
 rcases Jl hA hK hg with rfl | rfl
 ·exact ⟨by omega,by omega,fA⟩
 exact ⟨by omega,by omega,fK⟩
def RJ (m:Nat) (w:ae) (r:RR):Prop:=Qp r∧∀ g,JV r g→m≤g∧g < w.heap.size∧jN w g
def Mm (b:Nat) (w:ae) (qs:List RR):Prop:=SepR b qs∧∀ q ∈ qs,∀ g,JV q g→b < g∧g < w.heap.size∧jN w g
theorem Mm.nil (b:Nat) (w:ae):Mm b w []:=by
 refine ⟨⟨?_,?_,?_⟩,?_⟩
 ·intro r hr; cases hr
 ·intro r hr; cases hr
 ·intro x y hx; exact absurd hx (Tn _)
 intro r hr; cases hr
theorem Mm.snoc {S:Nat→Prop} {b:Nat} {wr wn:ae} {qs:List RR} (h:Mm b wr qs) (hc:Chg S wr wn) (hb:b < wr.heap.size) {q:RR} (hq:RJ wr.heap.size wn q):Mm b wn (qs ++ [q]):=by
 refine ⟨⟨?_,?_,?_⟩,?_⟩
 ·intro r hr; rw [SI,SG] at hr;rcases hr with hr | rfl
  ·exact h.1.good r hr
  exact hq.1
 ·intro r hr; rw [SI,SG] at hr;rcases hr with hr | rfl
  ·exact h.1.head r hr
  intro hg; have:=(hq.2 b hg).1; omega
 ·intro x y hx hy hne g hgx Vf;rw [SE,List.length_singleton] at hx hy;by_cases ex:x < qs.length
  ·rw [Ta ex] at hgx;by_cases ey:y < qs.length
   ·rw [Ta ey] at Vf;exact h.1.two x y ex ey hne g hgx Vf
   rw [Tf (by omega)] at Vf;have e1:=(hq.2 g (by simpa using Vf)).1;have e2:=(h.2 _ (Sw ex) g hgx).2.1;omega
  rw [Tf (by omega)] at hgx;have e1:=(hq.2 g (by simpa using hgx)).1;have ey:y < qs.length:=by omega
  rw [Ta ey] at Vf;have e2:=(h.2 _ (Sw ey) g Vf).2.1;omega
 intro r hr g hg; rw [SI,SG] at hr;rcases hr with hr | rfl
 ·obtain ⟨a1,a2,a3⟩:=h.2 r hr g hg;exact ⟨a1,Sv a2 hc.size,hc.free g a2 a3⟩
 obtain ⟨a1,a2,a3⟩:=hq.2 g hg;exact ⟨by omega,a2,a3⟩
def RL (m:Nat) (w:ae) (r:TR):Prop:=Qq r∧∀ g,Ml r g→m≤g∧g < w.heap.size∧jN w g
def Mo (b:Nat) (w:ae) (qs:List TR):Prop:=SepT b qs∧∀ q ∈ qs,∀ g,Ml q g→b < g∧g < w.heap.size∧jN w g
theorem Mo.nil (b:Nat) (w:ae):Mo b w []:=by
 refine ⟨⟨?_,?_,?_⟩,?_⟩
 ·intro r hr; cases hr
 ·intro r hr; cases hr
 ·intro x y hx; exact absurd hx (Tn _)
 intro r hr; cases hr
theorem Mo.snoc {S:Nat→Prop} {b:Nat} {wr wn:ae} {qs:List TR} (h:Mo b wr qs) (hc:Chg S wr wn) (hb:b < wr.heap.size) {q:TR} (hq:RL wr.heap.size wn q):Mo b wn (qs ++ [q]):=by
 refine ⟨⟨?_,?_,?_⟩,?_⟩
 ·intro r hr; rw [SI,SG] at hr;rcases hr with hr | rfl
  ·exact h.1.good r hr
  exact hq.1
 ·intro r hr; rw [SI,SG] at hr;rcases hr with hr | rfl
  ·exact h.1.head r hr
  intro hg; have:=(hq.2 b hg).1; omega
 ·intro x y hx hy hne g hgx Vf;rw [SE,List.length_singleton] at hx hy;by_cases ex:x < qs.length
  ·rw [Ta ex] at hgx;by_cases ey:y < qs.length
   ·rw [Ta ey] at Vf;exact h.1.two x y ex ey hne g hgx Vf
   rw [Tf (by omega)] at Vf;have e1:=(hq.2 g (by simpa using Vf)).1;have e2:=(h.2 _ (Sw ex) g hgx).2.1;omega
  rw [Tf (by omega)] at hgx;have e1:=(hq.2 g (by simpa using hgx)).1;have ey:y < qs.length:=by omega
  rw [Ta ey] at Vf;have e2:=(h.2 _ (Sw ey) g Vf).2.1;omega
 intro r hr g hg; rw [SI,SG] at hr;rcases hr with hr | rfl
 ·obtain ⟨a1,a2,a3⟩:=h.2 r hr g hg;exact ⟨a1,Sv a2 hc.size,hc.free g a2 a3⟩
 obtain ⟨a1,a2,a3⟩:=hq.2 g hg;exact ⟨by omega,a2,a3⟩
end Go.Proofs.YtajkkeikihhejaaGreat
