/- Contracts of the law's helpers that copy a schema: each list lies in a block of its own. -/
import Derived.Test.YtajkkeikihhejaaGreatSq
import Derived.Test.YtajkkeikihhejaaGreatJ5
namespace Go.Proofs.YtajkkeikihhejaaGreat
open Go.ChangeShapes Go.WideShapes Go.ChangeAt Go.RowKit
open Pl
def p9 (b:Nat) (w:World) (qs:List ER):Prop:=SepE b qs∧∀ q ∈ qs,∀ g,oJ q g→b < g∧g < w.heap.size∧gY w g
theorem p9.nil (b:Nat) (w:af):p9 b w []:=by
 refine ⟨⟨?_,?_,?_,?_,?_⟩,?_⟩
 ·intro r hr; cases hr
 ·intro r hr; cases hr
 ·intro r hr; cases hr
 ·intro r hr; cases hr
 ·intro x y hx; exact absurd hx (Uw _)
 intro r hr; cases hr
theorem J7 {q:ER} {gA gK g:Nat} (hA:q.adA=some ⟨gA,0,none⟩) (hK:q.adK=some ⟨gK,0,none⟩) (h:oJ q g):g=gA ∨ g=gK:=by
 rcases h with ⟨-,e⟩ | ⟨-,e⟩
 ·rw [hA] at e; injection e with e; injection e with e1 e2; exact .inl e1.symm
 rw [hK] at e; injection e with e; injection e with e1 e2; exact .inr e1.symm
theorem p9.snoc {S:Nat→Prop} {b:Nat} {wr wn:af} {qs:List ER} (h:p9 b wr qs) (hc:Chg S wr wn) (hb:b < wr.heap.size) {q:ER} {gA gK:Nat} (hA:q.adA=some ⟨gA,0,none⟩) (hK:q.adK=some ⟨gK,0,none⟩) (h1:wr.heap.size≤gA) (h2:gA < gK) (h3:gK < wn.heap.size) (fA:gY wn gA) (fK:gY wn gK):p9 b wn (qs ++ [q]):=by
 have hq:∀ g,oJ q g→wr.heap.size≤g:=fun g hg=>by rcases J7 hA hK hg with rfl | rfl <;> omega
 refine ⟨⟨?_,?_,?_,?_,?_⟩,?_⟩
 ·intro r hr; rw [Uc,Ua] at hr;rcases hr with hr | rfl
  ·exact h.1.zeroA r hr
  exact fun _=>⟨gA,hA⟩
 ·intro r hr; rw [Uc,Ua] at hr;rcases hr with hr | rfl
  ·exact h.1.zeroK r hr
  exact fun _=>⟨gK,hK⟩
 ·intro r hr; rw [Uc,Ua] at hr;rcases hr with hr | rfl
  ·exact h.1.head r hr
  intro hg; have:=hq b hg; omega
 ·intro r hr; rw [Uc,Ua] at hr;rcases hr with hr | rfl
  ·exact h.1.one r hr
  rintro g ⟨-,e1⟩ ⟨-,e2⟩;rw [hA] at e1; rw [hK] at e2;injection e1 with e1; injection e1 with e1 _; injection e2 with e2; injection e2 with e2 _;omega
 ·intro x y hx hy hne g hgx VY;rw [T9,List.length_singleton] at hx hy;by_cases ex:x < qs.length
  ·rw [Uk ex] at hgx;by_cases ey:y < qs.length
   ·rw [Uk ey] at VY;exact h.1.two x y ex ey hne g hgx VY
   rw [Ur (by omega)] at VY;have e1:=hq g (by simpa using VY);have e2:=(h.2 _ (TQ ex) g hgx).2.1;omega
  rw [Ur (by omega)] at hgx;have e1:=hq g (by simpa using hgx);have ey:y < qs.length:=by omega
  rw [Uk ey] at VY;have e2:=(h.2 _ (TQ ey) g VY).2.1;omega
 intro r hr g hg; rw [Uc,Ua] at hr;rcases hr with hr | rfl
 ·obtain ⟨a1,a2,a3⟩:=h.2 r hr g hg;exact ⟨a1,TP a2 hc.size,hc.free g a2 a3⟩
 rcases J7 hA hK hg with rfl | rfl
 ·exact ⟨by omega,by omega,fA⟩
 exact ⟨by omega,by omega,fK⟩
theorem p9.chg {S:Nat→Prop} {b:Nat} {w w':af} {qs:List ER} (h:p9 b w qs) (hc:Chg S w w'):p9 b w' qs:=⟨h.1,fun q hq g hg=>⟨(h.2 q hq g hg).1,TP (h.2 q hq g hg).2.1 hc.size,hc.free g (h.2 q hq g hg).2.1 (h.2 q hq g hg).2.2⟩⟩
def J8 (m:Nat) (w:World) (r:RR):Prop:=Ni r∧∀ g,H6 r g→m≤g∧g < w.heap.size∧gY w g
theorem J8.chg {S:Nat→Prop} {m:Nat} {w w':af} {r:RR} (h:J8 m w r) (hc:Chg S w w'):J8 m w' r:=⟨h.1,fun g hg=>⟨(h.2 g hg).1,TP (h.2 g hg).2.1 hc.size,hc.free g (h.2 g hg).2.1 (h.2 g hg).2.2⟩⟩
def Fv (b:Nat) (w:World) (qs:List RR):Prop:=SepR b qs∧∀ q ∈ qs,∀ g,H6 q g→b < g∧g < w.heap.size∧gY w g
theorem Fv.nil (b:Nat) (w:af):Fv b w []:=by
 refine ⟨⟨?_,?_,?_⟩,?_⟩
 ·intro r hr; cases hr
 ·intro r hr; cases hr
 ·intro x y hx; exact absurd hx (Uw _)
 intro r hr; cases hr
theorem Fv.chg {S:Nat→Prop} {b:Nat} {w w':af} {qs:List RR} (h:Fv b w qs) (hc:Chg S w w'):Fv b w' qs:=⟨h.1,fun q hq g hg=>⟨(h.2 q hq g hg).1,TP (h.2 q hq g hg).2.1 hc.size,hc.free g (h.2 q hq g hg).2.1 (h.2 q hq g hg).2.2⟩⟩
theorem Fv.snoc {S:Nat→Prop} {b:Nat} {wr wn:af} {qs:List RR} (h:Fv b wr qs) (hc:Chg S wr wn) (hb:b < wr.heap.size) {q:RR} (hq:J8 wr.heap.size wn q):Fv b wn (qs ++ [q]):=by
 refine ⟨⟨?_,?_,?_⟩,?_⟩
 ·intro r hr; rw [Uc,Ua] at hr;rcases hr with hr | rfl
  ·exact h.1.good r hr
  exact hq.1
 ·intro r hr; rw [Uc,Ua] at hr;rcases hr with hr | rfl
  ·exact h.1.head r hr
  intro hg; have:=(hq.2 b hg).1; omega
 ·intro x y hx hy hne g hgx VY;rw [T9,List.length_singleton] at hx hy;by_cases ex:x < qs.length
  ·rw [Uk ex] at hgx;by_cases ey:y < qs.length
   ·rw [Uk ey] at VY;exact h.1.two x y ex ey hne g hgx VY
   rw [Ur (by omega)] at VY;have e1:=(hq.2 g (by simpa using VY)).1;have e2:=(h.2 _ (TQ ex) g hgx).2.1;omega
  rw [Ur (by omega)] at hgx;have e1:=(hq.2 g (by simpa using hgx)).1;have ey:y < qs.length:=by omega
  rw [Uk ey] at VY;have e2:=(h.2 _ (TQ ey) g VY).2.1;omega
 intro r hr g hg; rw [Uc,Ua] at hr;rcases hr with hr | rfl
 ·obtain ⟨a1,a2,a3⟩:=h.2 r hr g hg;exact ⟨a1,TP a2 hc.size,hc.free g a2 a3⟩
 obtain ⟨a1,a2,a3⟩:=hq.2 g hg;exact ⟨by omega,a2,a3⟩
def J9 (m:Nat) (w:World) (r:TR):Prop:=Nj r∧∀ g,KT r g→m≤g∧g < w.heap.size∧gY w g
theorem J9.chg {S:Nat→Prop} {m:Nat} {w w':af} {r:TR} (h:J9 m w r) (hc:Chg S w w'):J9 m w' r:=⟨h.1,fun g hg=>⟨(h.2 g hg).1,TP (h.2 g hg).2.1 hc.size,hc.free g (h.2 g hg).2.1 (h.2 g hg).2.2⟩⟩
def Fw (b:Nat) (w:World) (qs:List TR):Prop:=SepT b qs∧∀ q ∈ qs,∀ g,KT q g→b < g∧g < w.heap.size∧gY w g
theorem Fw.nil (b:Nat) (w:af):Fw b w []:=by
 refine ⟨⟨?_,?_,?_⟩,?_⟩
 ·intro r hr; cases hr
 ·intro r hr; cases hr
 ·intro x y hx; exact absurd hx (Uw _)
 intro r hr; cases hr
theorem Fw.chg {S:Nat→Prop} {b:Nat} {w w':af} {qs:List TR} (h:Fw b w qs) (hc:Chg S w w'):Fw b w' qs:=⟨h.1,fun q hq g hg=>⟨(h.2 q hq g hg).1,TP (h.2 q hq g hg).2.1 hc.size,hc.free g (h.2 q hq g hg).2.1 (h.2 q hq g hg).2.2⟩⟩
theorem Fw.snoc {S:Nat→Prop} {b:Nat} {wr wn:af} {qs:List TR} (h:Fw b wr qs) (hc:Chg S wr wn) (hb:b < wr.heap.size) {q:TR} (hq:J9 wr.heap.size wn q):Fw b wn (qs ++ [q]):=by
 refine ⟨⟨?_,?_,?_⟩,?_⟩
 ·intro r hr; rw [Uc,Ua] at hr;rcases hr with hr | rfl
  ·exact h.1.good r hr
  exact hq.1
 ·intro r hr; rw [Uc,Ua] at hr;rcases hr with hr | rfl
  ·exact h.1.head r hr
  intro hg; have:=(hq.2 b hg).1; omega
 ·intro x y hx hy hne g hgx VY;rw [T9,List.length_singleton] at hx hy;by_cases ex:x < qs.length
  ·rw [Uk ex] at hgx;by_cases ey:y < qs.length
   ·rw [Uk ey] at VY;exact h.1.two x y ex ey hne g hgx VY
   rw [Ur (by omega)] at VY;have e1:=(hq.2 g (by simpa using VY)).1;have e2:=(h.2 _ (TQ ex) g hgx).2.1;omega
  rw [Ur (by omega)] at hgx;have e1:=(hq.2 g (by simpa using hgx)).1;have ey:y < qs.length:=by omega
  rw [Uk ey] at VY;have e2:=(h.2 _ (TQ ey) g VY).2.1;omega
 intro r hr g hg; rw [Uc,Ua] at hr;rcases hr with hr | rfl
 ·obtain ⟨a1,a2,a3⟩:=h.2 r hr g hg;exact ⟨a1,TP a2 hc.size,hc.free g a2 a3⟩
 obtain ⟨a1,a2,a3⟩:=hq.2 g hg;exact ⟨by omega,a2,a3⟩
end Go.Proofs.YtajkkeikihhejaaGreat
