/- Contracts of the law's helpers that copy a schema: each list lies in a block of its own. -/
import Derived.Test.YtojjoblnpldniaaGreatSq
import Derived.Test.YtojjoblnpldniaaGreatJ8
open Go.Proofs.Tryz
set_option maxHeartbeats 80000000
namespace Go.Proofs.YtojjoblnpldniaaGreat
open ChangeShapes WideShapes ChangeAt RowKit
open Pl
def Gv(b:Nat)(w:World)(qs:Q08):Prop:=SepE b qs/\∀q∈qs,∀g,qc q g->b<g/\g<w.heap.size/\jb w g
theorem Gv.nil(b:Nat)(w:ae):Gv b w []:=by
 refine⟨⟨?_,?_,?_,?_,?_⟩,?_⟩
 ·intro r hr;cases hr
 ·intro r hr;cases hr
 ·intro r hr;cases hr
 ·intro r hr;cases hr
 ·intro x y hx;exact absurd hx (Wx _)
 intro r hr;cases hr
theorem Ll{q:ER}{gA gK g:Nat}(hA:q.adA=some ⟨gA,0,none⟩)(hK:q.adK=some ⟨gK,0,none⟩)(h:qc q g):g=gA\/g=gK:=by
 rcases h with⟨-,e⟩|⟨-,e⟩
 ·rw[hA]at e;injection e with e;injection e with e1 e2;exact .inl e1.symm
 rw[hK]at e;injection e with e;injection e with e1 e2;exact .inr e1.symm
theorem Gv.snoc{S:Nat->Prop}{b:Nat}{wr wn:ae}{qs:Q08}(h:Gv b wr qs)(hc:Chg S wr wn)(hb:b<wr.heap.size){q:ER}{gA gK:Nat}(hA:q.adA=some ⟨gA,0,none⟩)(hK:q.adK=some ⟨gK,0,none⟩)(h1:wr.heap.size<=gA)(h2:gA<gK)(h3:gK<wn.heap.size)(fA:jb wn gA)(fK:jb wn gK):Gv b wn (qs++[q]):=by
 have hq:∀g,qc q g->wr.heap.size<=g:=fun g hg=>by rcases Ll hA hK hg with rfl|rfl<;>omega
 refine⟨⟨?_,?_,?_,?_,?_⟩,?_⟩
 ·intro r hr;rw[VE,VD]at hr;rcases hr with hr|rfl
  ·exact h.1.zeroA r hr
  exact fun _=>⟨gA,hA⟩
 ·intro r hr;rw[VE,VD]at hr;rcases hr with hr|rfl
  ·exact h.1.zeroK r hr
  exact fun _=>⟨gK,hK⟩
 ·intro r hr;rw[VE,VD]at hr;rcases hr with hr|rfl
  ·exact h.1.head r hr
  intro hg;have:=hq b hg;omega
 ·intro r hr;rw[VE,VD]at hr;rcases hr with hr|rfl
  ·exact h.1.one r hr
  rintro g ⟨-,e1⟩ ⟨-,e2⟩;rw[hA]at e1;rw[hK]at e2;injection e1 with e1;injection e1 with e1 _;injection e2 with e2;injection e2 with e2 _;omega
 ·intro x y hx hy hne g hgx Yf;rw[Vx,VW]at hx hy;by_cases ex:x<qs.length
  ·rw[VO ex]at hgx;by_cases ey:y<qs.length
   ·rw[VO ey]at Yf;exact h.1.two x y ex ey hne g hgx Yf
   rw[V5 (by omega)]at Yf;have e1:=hq g (by simpa using Yf);have e2:=(h.2 _ (Vp ex) g hgx).2.1;omega
  rw[V5 (by omega)]at hgx;have e1:=hq g (by simpa using hgx);have ey:y<qs.length:=by omega
  rw[VO ey]at Yf;have e2:=(h.2 _ (Vp ey) g Yf).2.1;omega
 intro r hr g hg;rw[VE,VD]at hr;rcases hr with hr|rfl
 ·obtain⟨a1,a2,a3⟩:=h.2 r hr g hg;exact⟨a1,Vq a2 hc.size,hc.free g a2 a3⟩
 rcases Ll hA hK hg with rfl|rfl
 ·exact⟨by omega,by omega,fA⟩
 exact⟨by omega,by omega,fK⟩
def UR(m:Nat)(w:World)(r:RR):Prop:=Tq r/\∀g,Mv r g->m<=g/\g<w.heap.size/\jb w g
def Ps(b:Nat)(w:World)(qs:Q07):Prop:=SepR b qs/\∀q∈qs,∀g,Mv q g->b<g/\g<w.heap.size/\jb w g
theorem Ps.nil(b:Nat)(w:ae):Ps b w []:=by
 refine⟨⟨?_,?_,?_⟩,?_⟩
 ·intro r hr;cases hr
 ·intro r hr;cases hr
 ·intro x y hx;exact absurd hx (Wx _)
 intro r hr;cases hr
theorem Ps.snoc{S:Nat->Prop}{b:Nat}{wr wn:ae}{qs:Q07}(h:Ps b wr qs)(hc:Chg S wr wn)(hb:b<wr.heap.size){q:RR}(hq:UR wr.heap.size wn q):Ps b wn (qs++[q]):=by
 refine⟨⟨?_,?_,?_⟩,?_⟩
 ·intro r hr;rw[VE,VD]at hr;rcases hr with hr|rfl
  ·exact h.1.good r hr
  exact hq.1
 ·intro r hr;rw[VE,VD]at hr;rcases hr with hr|rfl
  ·exact h.1.head r hr
  intro hg;have:=(hq.2 b hg).1;omega
 ·intro x y hx hy hne g hgx Yf;rw[Vx,VW]at hx hy;by_cases ex:x<qs.length
  ·rw[VO ex]at hgx;by_cases ey:y<qs.length
   ·rw[VO ey]at Yf;exact h.1.two x y ex ey hne g hgx Yf
   rw[V5 (by omega)]at Yf;have e1:=(hq.2 g (by simpa using Yf)).1;have e2:=(h.2 _ (Vp ex) g hgx).2.1;omega
  rw[V5 (by omega)]at hgx;have e1:=(hq.2 g (by simpa using hgx)).1;have ey:y<qs.length:=by omega
  rw[VO ey]at Yf;have e2:=(h.2 _ (Vp ey) g Yf).2.1;omega
 intro r hr g hg;rw[VE,VD]at hr;rcases hr with hr|rfl
 ·obtain⟨a1,a2,a3⟩:=h.2 r hr g hg;exact⟨a1,Vq a2 hc.size,hc.free g a2 a3⟩
 obtain⟨a1,a2,a3⟩:=hq.2 g hg;exact⟨by omega,a2,a3⟩
def UT(m:Nat)(w:World)(r:TR):Prop:=Tt r/\∀g,Po r g->m<=g/\g<w.heap.size/\jb w g
def Pt(b:Nat)(w:World)(qs:Q06):Prop:=SepT b qs/\∀q∈qs,∀g,Po q g->b<g/\g<w.heap.size/\jb w g
theorem Pt.nil(b:Nat)(w:ae):Pt b w []:=by
 refine⟨⟨?_,?_,?_⟩,?_⟩
 ·intro r hr;cases hr
 ·intro r hr;cases hr
 ·intro x y hx;exact absurd hx (Wx _)
 intro r hr;cases hr
theorem Pt.snoc{S:Nat->Prop}{b:Nat}{wr wn:ae}{qs:Q06}(h:Pt b wr qs)(hc:Chg S wr wn)(hb:b<wr.heap.size){q:TR}(hq:UT wr.heap.size wn q):Pt b wn (qs++[q]):=by
 refine⟨⟨?_,?_,?_⟩,?_⟩
 ·intro r hr;rw[VE,VD]at hr;rcases hr with hr|rfl
  ·exact h.1.good r hr
  exact hq.1
 ·intro r hr;rw[VE,VD]at hr;rcases hr with hr|rfl
  ·exact h.1.head r hr
  intro hg;have:=(hq.2 b hg).1;omega
 ·intro x y hx hy hne g hgx Yf;rw[Vx,VW]at hx hy;by_cases ex:x<qs.length
  ·rw[VO ex]at hgx;by_cases ey:y<qs.length
   ·rw[VO ey]at Yf;exact h.1.two x y ex ey hne g hgx Yf
   rw[V5 (by omega)]at Yf;have e1:=(hq.2 g (by simpa using Yf)).1;have e2:=(h.2 _ (Vp ex) g hgx).2.1;omega
  rw[V5 (by omega)]at hgx;have e1:=(hq.2 g (by simpa using hgx)).1;have ey:y<qs.length:=by omega
  rw[VO ey]at Yf;have e2:=(h.2 _ (Vp ey) g Yf).2.1;omega
 intro r hr g hg;rw[VE,VD]at hr;rcases hr with hr|rfl
 ·obtain⟨a1,a2,a3⟩:=h.2 r hr g hg;exact⟨a1,Vq a2 hc.size,hc.free g a2 a3⟩
 obtain⟨a1,a2,a3⟩:=hq.2 g hg;exact⟨by omega,a2,a3⟩
open Maps
theorem Gv.add{S:Nat->Prop}{b:Nat}{wr wn:ae}{qs:Q08}(h:Gv b wr qs)(hc:Chg S wr wn)(hb:b<wr.heap.size){q:ER}(zA:q.e.allow≠[]->∃g,q.adA=some ⟨g,0,none⟩)(zK:q.e.kids≠[]->∃g,q.adK=some ⟨g,0,none⟩)(hone:∀g,bA q g->¬bK q g)(hq:∀g,qc q g->wr.heap.size<=g/\g<wn.heap.size/\jb wn g):Gv b wn (qs++[q]):=by
 refine⟨⟨?_,?_,?_,?_,?_⟩,?_⟩
 ·intro r hr;rw[VE,VD]at hr;rcases hr with hr|rfl
  ·exact h.1.zeroA r hr
  exact zA
 ·intro r hr;rw[VE,VD]at hr;rcases hr with hr|rfl
  ·exact h.1.zeroK r hr
  exact zK
 ·intro r hr;rw[VE,VD]at hr;rcases hr with hr|rfl
  ·exact h.1.head r hr
  intro hg;have:=(hq b hg).1;omega
 ·intro r hr;rw[VE,VD]at hr;rcases hr with hr|rfl
  ·exact h.1.one r hr
  exact hone
 ·intro x y hx hy hne g hgx Yf;rw[Vx,VW]at hx hy;by_cases ex:x<qs.length
  ·rw[VO ex]at hgx;by_cases ey:y<qs.length
   ·rw[VO ey]at Yf;exact h.1.two x y ex ey hne g hgx Yf
   rw[V5 (by omega)]at Yf;have e1:=(hq g (by simpa using Yf)).1;have e2:=(h.2 _ (Vp ex) g hgx).2.1;omega
  rw[V5 (by omega)]at hgx;have e1:=(hq g (by simpa using hgx)).1;have ey:y<qs.length:=by omega
  rw[VO ey]at Yf;have e2:=(h.2 _ (Vp ey) g Yf).2.1;omega
 intro r hr g hg;rw[VE,VD]at hr;rcases hr with hr|rfl
 ·obtain⟨a1,a2,a3⟩:=h.2 r hr g hg;exact⟨a1,Vq a2 hc.size,hc.free g a2 a3⟩
 obtain⟨a1,a2,a3⟩:=hq g hg;exact⟨by omega,a2,a3⟩
theorem UU{w:ae}{base n:Nat}{v:Value}{xs:Q0a}(h:w.ownsRow base 216 2 v n (pairs xs))(hn:n=xs.length):∃ad cap,v=.slice ad xs.length cap/\lu w ad xs/\(xs≠[]->∃g,ad=some ⟨g,0,none⟩)/\∀g,xs≠[]->ad=some ⟨g,0,none⟩->base<=g/\g<w.heap.size/\jb w g:=by
 subst hn;have h2:=h;rcases h.2 with⟨rfl,h0⟩|⟨g,cap,cur,rfl,hbg,hg,hnc,-⟩
 ·have hx:xs=[]:=VM.1 h0;subst hx;exact⟨none,0,rfl,.inl rfl,fun h=>absurd rfl h,fun _ h=>absurd rfl h⟩
 have hlt:=h2.lt g rfl;refine⟨some ⟨g,0,none⟩,cap,rfl,.inr ⟨g,0,rfl,hlt.2,fun i hi=>?_⟩,fun _=>⟨g,rfl⟩,fun g' _ e=>?_⟩
 ·have hl:=rJ xs;obtain⟨p0,p1⟩:=uP xs i hi;refine⟨?_,?_⟩
  ·rw[h2.cellAt (0+i*2) (by omega),VQ];exact p0
  rw[h2.cellAt (0+i*2+1) (by omega),VQ];exact p1
 injection e with e;injection e with e1 e2;subst e1;exact⟨hlt.1,hlt.2,fun y=>h2.frozenAt y⟩
theorem UV{w:ae}{base n:Nat}{v:Value}{zs:List Int}(h:w.ownsRow base 2 1 v n (ints zs))(hn:n=zs.length):∃ad cap,v=.slice ad zs.length cap/\wL w ad zs/\(zs≠[]->∃g,ad=some ⟨g,0,none⟩)/\∀g,zs≠[]->ad=some ⟨g,0,none⟩->base<=g/\g<w.heap.size/\jb w g:=by
 subst hn;have h2:=h;rcases h.2 with⟨rfl,h0⟩|⟨g,cap,cur,rfl,hbg,hg,hnc,-⟩
 ·have hx:zs=[]:=VM.1 h0;subst hx;exact⟨none,0,rfl,.inl rfl,fun h=>absurd rfl h,fun _ h=>absurd rfl h⟩
 have hlt:=h2.lt g rfl;refine⟨some ⟨g,0,none⟩,cap,rfl,.inr ⟨g,0,rfl,hlt.2,fun i hi=>?_⟩,fun _=>⟨g,rfl⟩,fun g' _ e=>?_⟩
 ·rw[h2.cellAt (0+i) (by omega),VQ];simp[ints,hi]
 injection e with e;injection e with e1 e2;subst e1;exact⟨hlt.1,hlt.2,fun y=>h2.frozenAt y⟩
theorem lu.grown{w w':ae}{row:Option Nat}{ad:Q02}{xs:Q0a}(h:lu w ad xs)(hg:w.grownBy w' row)(hn:∀g o,xs≠[]->ad=some ⟨g,o,none⟩->some g≠row):lu w' ad xs:=by
 rcases h with h|⟨b,off,e,hb,hr⟩
 ·exact .inl h
 by_cases hx:xs=[]
 ·exact .inl hx
 exact .inr ⟨b,off,e,Vq hb hg.size,fun i hi=>⟨hg.cell (hr i hi).1 (hn b off hx e),hg.cell (hr i hi).2 (hn b off hx e)⟩⟩
theorem wL.grown{w w':ae}{row:Option Nat}{ad:Q02}{zs:List Int}(h:wL w ad zs)(hg:w.grownBy w' row)(hn:∀g o,zs≠[]->ad=some ⟨g,o,none⟩->some g≠row):wL w' ad zs:=by
 rcases h with h|⟨b,off,e,hb,hr⟩
 ·exact .inl h
 by_cases hx:zs=[]
 ·exact .inl hx
 exact .inr ⟨b,off,e,Vq hb hg.size,fun i hi=>hg.cell (hr i hi) (hn b off hx e)⟩
structure Beside(w:World)(v:Value)(q:ER):Prop where
 ok:q.ok w
 zA:q.e.allow≠[]->∃g,q.adA=some ⟨g,0,none⟩
 zK:q.e.kids≠[]->∃g,q.adK=some ⟨g,0,none⟩
 lt:∀g,qc q g->g<w.heap.size/\v.ownBlock≠some g
theorem Beside.below{w w':ae}{v:Value}{q:ER}(h:Beside w v q)(hb:ag w w'):Beside w' v q :=
 ⟨h.ok.below hb,h.zA,h.zK,fun g hg=>⟨Vq (h.lt g hg).1 hb.size,(h.lt g hg).2⟩⟩
theorem Beside.grown{w w':ae}{v v':Value}{q:ER}(h:Beside w v q)(hg:w.grownBy w' v.ownBlock)(hv:v'.ownBlock=v.ownBlock\/v'.ownBlock=some w.heap.size):Beside w' v' q:=by
 refine⟨⟨h.ok.1.grown hg fun g o hne e=>?_,h.ok.2.grown hg fun g o hne e=>?_⟩,h.zA,h.zK,fun g hi=>⟨Vq (h.lt g hi).1 hg.size,?_⟩⟩
 ·obtain⟨g0,e0⟩:=h.zA hne;rw[e0]at e;injection e with e;injection e with e1 e2;subst e1;exact fun e=>(h.lt g0 (.inl ⟨hne,e0⟩)).2 e.symm
 ·obtain⟨g0,e0⟩:=h.zK hne;rw[e0]at e;injection e with e;injection e with e1 e2;subst e1;exact fun e=>(h.lt g0 (.inr ⟨hne,e0⟩)).2 e.symm
 rcases hv with e|e
 ·rw[e];exact(h.lt g hi).2
 rw[e];intro e2;injection e2 with e2;have:=(h.lt g hi).1;omega
theorem Tv{w:ae}{base n:Nat}{v:Value}{qs:Q08}(h:w.ownsRow base 43 5 v n (jQ qs))(hn:n=qs.length)(hok:∀q∈qs,q.ok w):∃ad cap,v=.slice ad qs.length cap/\jw w ad qs:=by
 subst hn;have h2:=h;rcases h.2 with⟨rfl,h0⟩|⟨g,cap,cur,rfl,hbg,hg,hnc,-⟩
 ·exact⟨none,0,by rw[h0],.inl (VM.1 h0)⟩
 have hlt:=h2.lt g rfl;refine⟨some ⟨g,0,none⟩,cap,rfl,.inr ⟨g,0,rfl,hlt.2,fun i hi=>?_,hok⟩⟩;have hl:=wS qs;have key:∀j,j<5->w.cell? ⟨g,0+i*5+j,none⟩=(qs[i]).row[j]?:=fun j hj=>by
  rw[h2.cellAt (0+i*5+j) (by omega),<-zx qs i hi j hj,VQ]
 exact⟨key 0 (by omega),key 1 (by omega),key 2 (by omega),key 3 (by omega),key 4 (by omega)⟩
theorem Mw(w:ae)(q:ER):∀j u,q.row[j]?=some u->(w.alloc (.cells #[.int .i64 q.e.kind,.slice q.adA q.e.allow.length q.capA,.string q.e.over,.string q.e.name,.slice q.adK q.e.kids.length q.capK] 43)).cell? ((⟨w.heap.size,0,none⟩:Addr).add j)=some u:=by
 intro j u hu;rw[show(⟨w.heap.size,0,none⟩:Addr).add j=⟨w.heap.size,0+j,none⟩ by simp[Addr.add];omega,VQ];have:=World.cell?_alloc_mark w #[.int .i64 q.e.kind,.slice q.adA q.e.allow.length q.capA,.string q.e.over,.string q.e.name,.slice q.adK q.e.kids.length q.capK] 43 (0,0) j;rw[this];simpa[ER.row] using hu
theorem Pv(q:ER):∀u∈q.row,u.oneCell'=true:=by
 intro u hu;simp[ER.row]at hu;rcases hu with rfl|rfl|rfl|rfl|rfl<;>rfl
set_option maxRecDepth 100000
theorem lu.heap{w w':ae}{ad:Q02}{xs:Q0a}(h:lu w ad xs)(hs:w.heap.size<=w'.heap.size)(hz:xs≠[]->∃g,ad=some ⟨g,0,none⟩)(hn:∀g,xs≠[]->ad=some ⟨g,0,none⟩->w'.heap[g]?=w.heap[g]?):lu w' ad xs:=by
 rcases h with h|⟨b,off,e,hb,hr⟩
 ·exact .inl h
 by_cases hx:xs=[]
 ·exact .inl hx
 obtain⟨g,eg⟩:=hz hx;have e2:=e;rw[eg]at e;injection e with e;injection e with e1 e3;subst e1;have hh:=hn g hx eg;exact .inr ⟨g,off,e2,Vq hb hs,fun i hi=>⟨(VR (w:=w) (a:=⟨g,_,none⟩) hh).trans (hr i hi).1,(VR (w:=w) (a:=⟨g,_,none⟩) hh).trans (hr i hi).2⟩⟩
theorem wL.heap{w w':ae}{ad:Q02}{xs:List Int}(h:wL w ad xs)(hs:w.heap.size<=w'.heap.size)(hz:xs≠[]->∃g,ad=some ⟨g,0,none⟩)(hn:∀g,xs≠[]->ad=some ⟨g,0,none⟩->w'.heap[g]?=w.heap[g]?):wL w' ad xs:=by
 rcases h with h|⟨b,off,e,hb,hr⟩
 ·exact .inl h
 by_cases hx:xs=[]
 ·exact .inl hx
 obtain⟨g,eg⟩:=hz hx;have e2:=e;rw[eg]at e;injection e with e;injection e with e1 e3;subst e1;have hh:=hn g hx eg;exact .inr ⟨g,off,e2,Vq hb hs,fun i hi=>(VR (w:=w) (a:=⟨g,_,none⟩) hh).trans (hr i hi)⟩
theorem rP{w w':ae}{q:ER}(h:q.ok w)(hs:w.heap.size<=w'.heap.size)(zA:q.e.allow≠[]->∃g,q.adA=some ⟨g,0,none⟩)(zK:q.e.kids≠[]->∃g,q.adK=some ⟨g,0,none⟩)(hn:∀g,qc q g->w'.heap[g]?=w.heap[g]?):q.ok w' :=
 ⟨h.1.heap hs zA fun g h1 h2=>hn g (.inl ⟨h1,h2⟩),h.2.heap hs zK fun g h1 h2=>hn g (.inr ⟨h1,h2⟩)⟩
theorem cO{w w':ae}{g:Nat}(h:jb w g)(hh:w'.heap[g]?=w.heap[g]?):jb w' g:=fun j=>(World.frozen?_of_block (w:=w) (a:=⟨g,j,none⟩) hh).trans (h j)
theorem jH{w w':ae}{base:Nat}{e:TypeId}{size:Nat}{v:Value}{n:Nat}{xs:Q03}(h:w.ownsRow base e size v n xs)(hh:∀g,v.ownBlock=some g->w'.heap[g]?=w.heap[g]?):w'.ownsRow base e size v n xs:=by
 refine⟨h.1,?_⟩;rcases h.2 with hl|⟨g,cap,cur,rfl,h1,h2,h3⟩
 ·exact .inl hl
 exact .inr ⟨g,cap,cur,rfl,h1,(hh g rfl).trans h2,h3⟩
structure NewQ(X:Nat)(w:World)(q:ER):Prop where
 zA:q.e.allow≠[]->∃g,q.adA=some ⟨g,0,none⟩
 zK:q.e.kids≠[]->∃g,q.adK=some ⟨g,0,none⟩
 ok:q.ok w
 lie:∀g,qc q g->X<=g/\g<w.heap.size/\jb w g
 one:∀g,bA q g->¬bK q g
 cA:q.e.allow.length<=q.capA
theorem Jn(qs:Q08)(q:ER):jQ (qs++[q])=jQ qs++q.row:=by simp[jQ]
structure Onl(R:Nat)(v:Value)(w w':World):Prop where
 os:w'.os=w.os
 tape:w'.tape=w.tape
 output:w'.output=w.output
 size:w.heap.size<=w'.heap.size
 block:∀k,k<w.heap.size->k≠R->v.ownBlock≠some k->w'.heap[k]?=w.heap[k]?
def ER.cells(q:ER):Array Value:=#[.int .i64 q.e.kind,.slice q.adA q.e.allow.length q.capA,.string q.e.over,.string q.e.name,.slice q.adK q.e.kids.length q.capK]
theorem Ac{w:ae}{a:Addr}{v:Value}(h:w.cell? a=some v)(o:Obj):(w.alloc o).cell? a=some v:=by
 have hlt:=World.block_lt_of_cell? w a h;rw[((Vs w.heap.size w).alloc (Vr _) o).cell hlt];exact h
def yF(w:World)(g:Nat)(q:ER):Prop:=w.cell? ⟨g,0,none⟩=some (.int .i64 q.e.kind)/\w.cell? ⟨g,1,none⟩=some (.slice q.adA q.e.allow.length q.capA)/\w.cell? ⟨g,2,none⟩=some (.string q.e.over)/\w.cell? ⟨g,3,none⟩=some (.string q.e.name)/\w.cell? ⟨g,4,none⟩=some (.slice q.adK q.e.kids.length q.capK)/\g<w.heap.size
theorem yF.grown{w w':ae}{g:Nat}{q:ER}{row:Option Nat}(h:yF w g q)(hg:w.grownBy w' row)(hne:some g≠row):yF w' g q :=
 ⟨hg.cell h.1 hne,hg.cell h.2.1 hne,hg.cell h.2.2.1 hne,hg.cell h.2.2.2.1 hne,hg.cell h.2.2.2.2.1 hne,Vq h.2.2.2.2.2 hg.size⟩
theorem Onl.grown{R:Nat}{v:Value}{w w' w'':ae}{row:Option Nat}(h:Onl R v w w')(hg:w'.grownBy w'' row)(hr:∀k,k<w.heap.size->k≠R->v.ownBlock≠some k->some k≠row):Onl R v w w'' :=
 ⟨hg.os.trans h.os,hg.tape.trans h.tape,hg.output.trans h.output,Vz h.size hg.size,fun k hk h1 h2=>(hg.block k (Vq hk h.size) (hr k hk h1 h2)).trans (h.block k hk h1 h2)⟩
theorem fH{W:ae}{base:Nat}{e:TypeId}{size:Nat}{v:Value}{k:Nat}{xs:Q03}(h:W.ownsRow base e size v (k+1) xs):∃g cap,v=.slice (some ⟨g,0,none⟩) (k+1) cap:=by
 rcases h.2 with⟨_,h0⟩|⟨g,cap,_,rfl,_⟩
 ·omega
 exact⟨g,cap,rfl⟩
theorem Onl.at_own{R:Nat}{v:Value}{w w':ae}(h:Onl R v w w')(o:Nat)(u:Value):Onl R v w (w'.setCell ⟨R,o,none⟩ u) :=
 ⟨h.os,h.tape,h.output,by simpa using h.size,fun k hk h1 h2=>(Below.heap_setCell w' _ _ k h1).trans (h.block k hk h1 h2)⟩
theorem RdC.put{w:ae}{R:Nat}{s:ByteArray}{p:Nat}{bad:Bool}{v:Value}(h:RdC w R s p bad v)(u:Value):RdC (w.setCell ⟨R,3,none⟩ u) R s p bad u :=
 ⟨by simpa using h.lt,by rw[mO (by omega)];exact h.c0,by rw[mO (by omega)];exact h.c1,by rw[mO (by omega)];exact h.c2,mS h.c3,fun j=>by simpa using h.fr j⟩
theorem RdC.hurt{w:ae}{R:Nat}{s:ByteArray}{p:Nat}{bad:Bool}{v:Value}(h:RdC w R s p bad v):RdC (w.setCell ⟨R,2,none⟩ (.bool true)) R s p true v :=
 ⟨by simpa using h.lt,by rw[mO (by omega)];exact h.c0,by rw[mO (by omega)];exact h.c1,mS h.c2,by rw[mO (by omega)];exact h.c3,fun j=>by simpa using h.fr j⟩
structure GA(R:Nat)(s:ByteArray)(p:Nat)(bad:Bool)(v:Value)(base n:Nat)(xs:Q03)(q:ER)(w:World)(listed:Array Bool)(w':World):Prop where
 rd:RdC w' R s p bad v
 box:yF w' w.heap.size q
 onl:Onl R v w w'
 own:listed.getD 7 false=false->w'.ownsRow base 43 5 v n xs
 small:listed.getD 6 false=false->w'.heap.size=w.heap.size+1
theorem Jo{listed:Array Bool}{i L:Nat}(h:listed.getD i true=false)(hs:listed.size=L)(hi:i<L):listed.getD i false=false:=by
 rw[<-ku (by omega)];exact h
theorem GA.step{R:Nat}{s:ByteArray}{p:Nat}{bad:Bool}{v:Value}{base n:Nat}{xs:Q03}{q:ER}{w w':ae}{listed:Array Bool}(h:GA R s p bad v base n xs q w listed w'){i:Nat}(hls:listed.size=11)(h6:i≠6)(h7:i≠7):GA R s p bad v base n xs q w (listed.setIfInBounds i true) w' :=
 ⟨h.rd,h.box,h.onl,fun k=>h.own (by
  by_cases hi:i<11
  ·rw[aO _ _ _ (by omega),if_neg (Ne.symm h7)]at k;exact k
  ·rw[show listed.setIfInBounds i true=listed by rw[Array.setIfInBounds_eq_of_size_le (by omega)]]at k;exact k),fun k=>h.small (by
  by_cases hi:i<11
  ·rw[aO _ _ _ (by omega),if_neg (Ne.symm h6)]at k;exact k
  rw[show listed.setIfInBounds i true=listed by rw[Array.setIfInBounds_eq_of_size_le (by omega)]]at k;exact k)⟩
theorem GA.made{R:Nat}{s:ByteArray}{p:Nat}{bad:Bool}{v:Value}{base n:Nat}{xs:Q03}{q:ER}{w w':ae}{listed:Array Bool}(h:GA R s p bad v base n xs q w listed w'){i:Nat}(hls:listed.size=11){o:Obj}(hi:i=6:=by rfl):GA R s p bad v base n xs q w (listed.setIfInBounds i true) (w'.alloc o):=by
 subst hi;have hg:=World.grownBy_alloc w' o none;refine⟨h.rd.grown hg (by simp),h.box.grown hg (by simp),h.onl.grown hg (by simp),fun k=>(h.own ?_).alloc _,fun k=>?_⟩
 ·rw[aO _ _ _ (by omega),if_neg (by omega)]at k;exact k
 rw[aO _ _ _ (by omega),if_pos rfl]at k;cases k
def VA(l:Q03)(base n:Nat)(v:Value)(q:ER)(xs:Q03)(w:World)(k:Nat)(u:Value)(w':World):Prop :=
 (k≠6/\k≠7->u=l.getD k undef) /\
 (k=6->u=.slice (some ⟨w.heap.size+1,0,none⟩) 1 1/\(∀j x,q.row[j]?=some x->w'.cell? ((⟨w.heap.size+1,0,none⟩:Addr).add j)=some x)/\w.heap.size+1<w'.heap.size) /\
 (k=7->∃g cap,u=.slice (some ⟨g,0,none⟩) (n+1) cap/\w'.ownsRow base 43 5 (.slice (some ⟨g,0,none⟩) (n+1) cap) (n+1) (xs++q.row)/\(v.ownBlock=some g\/w.heap.size<=g))
theorem VA.at{l:Q03}{base n:Nat}{v:Value}{q:ER}{xs:Q03}{w:ae}{k:Nat}{u:Value}{w':ae}(h:k≠6/\k≠7)(hu:u=l.getD k undef):VA l base n v q xs w k u w':=⟨fun _=>hu,fun e=>absurd e h.1,fun e=>absurd e h.2⟩
theorem VA.alloc{l:Q03}{base n:Nat}{v:Value}{q:ER}{xs:Q03}{w w':ae}{i:Nat}{o:Obj}:∀k u,k≠i->VA l base n v q xs w k u w'->VA l base n v q xs w k u (w'.alloc o):=fun k u _ h =>
 ⟨h.1,fun e=>⟨(h.2.1 e).1,fun j x hj=>Ac ((h.2.1 e).2.1 j x hj) o,Vq (h.2.1 e).2.2 (by simp)⟩,fun e=>by obtain⟨g,cap,e1,e2,e3⟩:=h.2.2 e;exact⟨g,cap,e1,e2.alloc _,e3⟩⟩
theorem GA.appended{R:Nat}{s:ByteArray}{p:Nat}{bad:Bool}{v:Value}{base n:Nat}{xs:Q03}{q:ER}{w w' w'':ae}{listed:Array Bool}(h:GA R s p bad v base n xs q w listed w')(hls:listed.size=11)(hg:w'.grownBy w'' v.ownBlock)(hR:v.ownBlock≠some R)(hX:v.ownBlock≠some w.heap.size)(hb6:w.heap.size+1<w'.heap.size):GA R s p bad v base n xs q w (listed.setIfInBounds 7 true) w'':=by
 refine⟨h.rd.grown hg (Ne.symm hR),h.box.grown hg (Ne.symm hX),h.onl.grown hg (fun k _ _ h2=>Ne.symm h2),fun k=>?_,fun k=>?_⟩
 ·rw[aO _ _ _ (by omega),if_pos rfl]at k;cases k
 rw[aO _ _ _ (by omega),if_neg (by omega)]at k;have:=h.small k;omega
theorem VA.app{l:Q03}{base n:Nat}{v:Value}{q:ER}{xs:Q03}{w w' w'':ae}(hg:w'.grownBy w'' v.ownBlock)(hX:v.ownBlock≠some (w.heap.size+1)):∀k u,k≠7->VA l base n v q xs w k u w'->VA l base n v q xs w k u w'':=fun k u hk h =>
 ⟨h.1,fun e=>⟨(h.2.1 e).1,fun j x hj=>hg.cell ((h.2.1 e).2.1 j x hj) (by rw[show((⟨w.heap.size+1,0,none⟩:Addr).add j).block=w.heap.size+1 by unfold Addr.add;split<;>rfl];exact Ne.symm hX),Vq (h.2.1 e).2.2 hg.size⟩,fun e=>absurd e hk⟩
theorem RJ(R:Nat)(s:bQ)(p:Nat)(bad:Bool)(v:Value)(base n:Nat)(xs:Q03)(q:ER)(w:ae)(h:RdC w R s p bad v)(hown:w.ownsRow base 43 5 v n xs)(hR:R<base)(hB:base<=w.heap.size)(hn:n<=100000):
  Calls prog 326 #[.pointer (some ⟨R,0,none⟩),q.val] w fun e w'=>∃(g cap:Nat),e=.returned (.int .i64 (n:Int))/\RdC w' R s p (bad || decide (15<n+1)) (.slice (some ⟨g,0,none⟩) (n+1) cap)/\w'.ownsRow base 43 5 (.slice (some ⟨g,0,none⟩) (n+1) cap) (n+1) (xs++q.row)/\Onl R v w w'/\(v.ownBlock=some g\/w.heap.size<=g):=by
 obtain⟨iT,hiT,zT0,zT1,zT2⟩:=info_parts (P:=prog) (e:=43) (z:=.agg #[.int .i64 0,.slice none 0 0,.string ⟨#[]⟩,.string ⟨#[]⟩,.slice none 0 0]) (size:=5) (bytes:=88) (by kernel_rfl);have HIT:=ai (And.intro hiT (And.intro zT0 (And.intro zT1 zT2)));have H:=ai h;have HO:=ai hown;have hlt:=h.lt;clear h hown hiT zT0 zT1 zT2;have hne:v.ownBlock≠some R:=fun e=>by have:=(HO.out.lt R e).1;omega
 have HNE:=ai hne;have HNX:Hid (v.ownBlock≠some w.heap.size):=fun e=>by have:=(HO.out.lt _ e).2;omega
 have HNX1:Hid (v.ownBlock≠some (w.heap.size+1)):=fun e=>by have:=(HO.out.lt _ e).2;omega
 clear hne;unfold ER.val;obtain⟨W0,hW0⟩:∃W0,W0=w.alloc (.cells #[.int .i64 q.e.kind,.slice q.adA q.e.allow.length q.capA,.string q.e.over,.string q.e.name,.slice q.adK q.e.kids.length q.capK] 43):=⟨_,rfl⟩;have HG0:Hid (GA R s p bad v base n xs q w (Array.replicate 11 false) W0.drew):=by
  have hg:=World.grownBy_alloc w (.cells #[.int .i64 q.e.kind,.slice q.adA q.e.allow.length q.capA,.string q.e.over,.string q.e.name,.slice q.adK q.e.kids.length q.capK] 43) none;show GA _ _ _ _ _ _ _ _ _ _ _ _;rw[hW0];refine⟨(H.out.grown hg (by simp)).drewN 1,⟨?_,?_,?_,?_,?_,?_⟩,⟨rfl,rfl,rfl,by simp[World.drew],fun k hk _ _=>hg.block k hk (by simp)⟩,fun _=>(HO.out.alloc _).drew,fun _=>by simp[World.drew]⟩<;>simp
 go_enter func326,ntmps326;go_wp2_with fail;rw[<-hW0];clear hW0;refine lW 10 _ _ (VA (Value.pointer (some ⟨R,0,none⟩)::.pointer (some ⟨R,0,none⟩)::.pointer (some ⟨R,0,none⟩)::.pointer (some ⟨R,3,none⟩)::v::.agg #[.int .i64 q.e.kind,.slice q.adA q.e.allow.length q.capA,.string q.e.over,.string q.e.name,.slice q.adK q.e.kids.length q.capK]::.slice (some ⟨w.heap.size+1,0,none⟩) 1 1::undef::.pointer (some ⟨R,0,none⟩)::.pointer (some ⟨R,3,none⟩)::[]) base n v q xs w) (GA R s p bad v base n xs q w) (by kernel_rfl) rfl (by decide +kernel) (by decide +kernel) (F5 [(5,[0,1,2,3,4,5,6,7,8,9])]) HG0.out ?stepA ?finA<;>dsimp only[Em];case stepA =>
  rintro i hi o ho listed f w' hls X9 hG hpre;have HG:=ai hG;have HM:Hid (∀e∈o.after,Region.binds .any e=true->_):=hpre;clear hG hpre;have hc:=KW (i:=i) (by omega);clear hi
  repeat' rcases hc with rfl|hc
  ·cases ho;have HS:=ai (HG.out.step (i:=0) hls (by decide) (by decide));refine aa rfl fun K HK=>?_;clear HM;dsimp only;go_simp;exact HK.out _ _ ⟨Value.pointer (some ⟨R,0,none⟩),by simp[upd],HS.out,VA.at (by decide) rfl,fun k u _ hu=>hu⟩
  ·cases ho;have HS:=ai (HG.out.step (i:=1) hls (by decide) (by decide));refine aa rfl fun K HK=>?_;clear HM;dsimp only;go_simp;exact HK.out _ _ ⟨Value.pointer (some ⟨R,0,none⟩),by simp[upd],HS.out,VA.at (by decide) rfl,fun k u _ hu=>hu⟩
  ·cases ho;have e1:f 1=Value.pointer (some ⟨R,0,none⟩):=(HM.out ⟨1,.data⟩ (by simp) rfl).1 (by decide);have HS:=ai (HG.out.step (i:=2) hls (by decide) (by decide));refine aa rfl fun K HK=>?_;clear HM;simp only[e1];go_simp;exact HK.out _ _ ⟨Value.pointer (some ⟨R,0,none⟩),by simp[upd,e1],HS.out,VA.at (by decide) rfl,fun k u _ hu=>hu⟩
  ·cases ho;have e2:f 2=Value.pointer (some ⟨R,0,none⟩):=(HM.out ⟨2,.data⟩ (by simp) rfl).1 (by decide);have HS:=ai (HG.out.step (i:=3) hls (by decide) (by decide));refine aa rfl fun K HK=>?_;clear HM;simp only[e2];go_simp;exact HK.out _ _ ⟨Value.pointer (some ⟨R,3,none⟩),by simp[upd,e2],HS.out,VA.at (by decide) rfl,fun k u _ hu=>hu⟩
  ·cases ho;have e3:f 3=Value.pointer (some ⟨R,3,none⟩):=(HM.out ⟨3,.data⟩ (by simp) rfl).1 (by decide);have c3:=HG.out.rd.c3;have HS:=ai (HG.out.step (i:=4) hls (by decide) (by decide));refine aa rfl fun K HK=>?_;clear HM;simp only[e3];go_simp;exact HK.out _ _ ⟨v,by simp[upd,e3],HS.out,VA.at (by decide) rfl,fun k u _ hu=>hu⟩
  ·cases ho;obtain⟨x0,x1,x2,x3,x4,xl⟩:=HG.out.box;have HS:=ai (HG.out.step (i:=5) hls (by decide) (by decide));refine aa rfl fun K HK=>?_;clear HM;dsimp only;go_simp;exact HK.out _ _ ⟨Value.agg #[.int .i64 q.e.kind,.slice q.adA q.e.allow.length q.capA,.string q.e.over,.string q.e.name,.slice q.adK q.e.kids.length q.capK],by simp[upd],HS.out,VA.at (by decide) rfl,fun k u _ hu=>hu⟩
  ·cases ho;have e5:f 5=Value.agg #[.int .i64 q.e.kind,.slice q.adA q.e.allow.length q.capA,.string q.e.over,.string q.e.name,.slice q.adK q.e.kids.length q.capK]:=(HM.out ⟨5,.data⟩ (by simp) rfl).1 (by decide);have hz:=HG.out.small (Jo X9 hls (by omega));have HS:Hid (∀o,GA R s p bad v base n xs q w (listed.setIfInBounds 6 true) (w'.alloc o)):=fun o=>HG.out.made (i:=6) hls;refine aa rfl fun K HK=>?_;clear HM;simp only[e5];go_simp;exact HK.out _ _ ⟨.slice (some ⟨w'.heap.size,0,none⟩) 1 1,by simp[upd,e5],HS.out _,⟨fun h=>absurd rfl h.1,fun _=>⟨by rw[hz],fun j u hj=>by have:=Mw w' q j u hj;rw[hz]at this;exact this,by simp;omega⟩,fun h=>absurd h (by decide)⟩,VA.alloc⟩
  ·cases ho;have e4:f 4=v:=(HM.out ⟨4,.data⟩ (by simp) rfl).1 (by decide);obtain⟨e6,hnews,hb6⟩:=(HM.out ⟨6,.data⟩ (by simp) rfl).2.1 rfl;replace e6:f 6=Value.slice (some ⟨w.heap.size+1,0,none⟩) 1 1:=e6;have hown:=HG.out.own (Jo X9 hls (by omega));clear HM;refine kN _ rfl rfl _ _ 37 rfl base 43 iT (.agg #[.int .i64 0,.slice none 0 0,.string ⟨#[]⟩,.string ⟨#[]⟩,.slice none 0 0]) 5 88 underlying37 HIT.out.1 HIT.out.2.1 HIT.out.2.2.1 HIT.out.2.2.2 rfl (by decide) v n xs e4 hown ⟨w.heap.size+1,0,none⟩ 1 1 q.row e6 rfl hnews (Pv q) (by unfold maxLen;omega) (by omega) (by have:=HG.out.onl.size;omega) ?_;intro v7 w7 Zo hgr7 hat7;obtain⟨g7,c7,rfl⟩:=fH Zo;refine⟨.slice (some ⟨g7,0,none⟩) (n+1) c7,by simp[upd,e4,e6,Act.put],HG.out.appended hls hgr7 HNE.out HNX.out hb6,⟨fun h=>absurd rfl h.2,fun h=>absurd h (by decide),fun _=>⟨g7,c7,rfl,Zo,?_⟩⟩,VA.app hgr7 HNX1.out⟩;rcases hat7 with e|e
   ·exact .inl e.symm
   simp[Value.ownBlock]at e;exact .inr (by have:=HG.out.onl.size;omega)
  ·cases ho;have e0:f 0=Value.pointer (some ⟨R,0,none⟩):=(HM.out ⟨0,.data⟩ (by simp) rfl).1 (by decide);have HS:=ai (HG.out.step (i:=8) hls (by decide) (by decide));refine aa rfl fun K HK=>?_;clear HM;simp only[e0];go_simp;exact HK.out _ _ ⟨Value.pointer (some ⟨R,0,none⟩),by simp[upd,e0],HS.out,VA.at (by decide) rfl,fun k u _ hu=>hu⟩
  cases ho;have e8:f 8=Value.pointer (some ⟨R,0,none⟩):=(HM.out ⟨8,.data⟩ (by simp) rfl).1 (by decide);have HS:=ai (HG.out.step (i:=9) hls (by decide) (by decide));refine aa rfl fun K HK=>?_;clear HM;simp only[e8];go_simp;exact HK.out _ _ ⟨Value.pointer (some ⟨R,3,none⟩),by simp[upd,e8],HS.out,VA.at (by decide) rfl,fun k u _ hu=>hu⟩
 case finA =>
  rintro o ho listed f w' hG hall;cases ho;obtain⟨g,cap,e7,Zo,hat⟩:=(hall 7 (by omega)).2.2 rfl;have e9:f 9=Value.pointer (some ⟨R,3,none⟩):=(hall 9 (by omega)).1 (by decide);have HR:=ai hG.rd;have HN:=ai hG.onl;have HW:=ai Zo;have HA:=ai hat;have c3:=hG.rd.c3;have f3:=hG.rd.fr 3;have hl3:=hG.rd.lt;clear hall hG Zo hat;refine wpOp_step rfl (fun K hK=>?_);have HK:Hid (∀a w,_->K a w):=hK;clear hK;simp only[e7,e9];go_simp;refine HK.out _ _ ?_;clear HK;obtain⟨W8,YC⟩:∃W8,W8=w'.setCell ⟨R,3,none⟩ (.slice (some ⟨g,0,none⟩) (n+1) cap):=⟨_,rfl⟩;have HR8:Hid (RdC W8 R s p bad (.slice (some ⟨g,0,none⟩) (n+1) cap)):=by rw[YC];exact HR.out.put _
  have HN8:Hid (Onl R v w W8):=by rw[YC];exact HN.out.at_own _ _
  have HW8:Hid (W8.ownsRow base 43 5 (.slice (some ⟨g,0,none⟩) (n+1) cap) (n+1) (xs++q.row)):=by rw[YC];exact ownsRow_setCell_below HW.out hR _
  rw[<-YC];clear YC HR HN HW c3 f3 hl3 e7 e9;have c2:=HR8.out.c2;have c3:=HR8.out.c3;have f2:=HR8.out.fr 2;have hl8:=HR8.out.lt;have hwr:IntKind.i64.wrap (((n:Int)+1)-1)=(n:Int):=by simp[IntKind.wrap,IntKind.bits,IntKind.signed];omega
  by_cases hbig:15<n+1
  ·have hd:decide ((15:Int)<(n:Int)+1)=true:=by simp;omega
   have HB:=ai hbig;clear hbig;go_wp2;exact bodyPost_ret (v:=.int .i64 (n:Int)) (by simp[results,Tryz.results326,go_sem]) rfl ⟨g,cap,rfl,by rw[show decide (15<n+1)=true from decide_eq_true HB.out,Bool.or_true];exact HR8.out.hurt,ownsRow_setCell_below HW8.out hR _,HN8.out.at_own _ _,HA.out⟩
  have hd:decide ((15:Int)<(n:Int)+1)=false:=by simp;omega
  have HB:=ai hbig;clear hbig;go_wp2;exact bodyPost_ret (v:=.int .i64 (n:Int)) (by simp[results,Tryz.results326,go_sem]) rfl ⟨g,cap,rfl,by rw[show decide (15<n+1)=false from decide_eq_false HB.out,Bool.or_false];exact HR8.out,HW8.out,HN8.out,HA.out⟩
structure Went(R:Nat)(v:Value)(w:World)(v':Value)(w':World):Prop where
 onl:Onl R v w w'
 own:v'.ownBlock=v.ownBlock \/ ∃g,v'.ownBlock=some g/\w.heap.size<=g
theorem Onl.refl(R:Nat)(v:Value)(w:ae):Onl R v w w:=⟨rfl,rfl,rfl,Vr _,fun _ _ _ _=>rfl⟩
theorem Went.refl(R:Nat)(v:Value)(w:ae):Went R v w v w:=⟨Onl.refl R v w,.inl rfl⟩
theorem Went.apart{R:Nat}{v v':Value}{w w':ae}(h:Went R v w v' w'){k:Nat}(hk:k<w.heap.size)(hv:v.ownBlock≠some k):v'.ownBlock≠some k:=by
 rcases h.own with e|⟨g,e,hg⟩
 ·rw[e];exact hv
 rw[e];intro h2;injection h2 with h2;omega
theorem Went.trans{R:Nat}{v v1 v2:Value}{w w1 w2:ae}(h:Went R v w v1 w1)(h2:Went R v1 w1 v2 w2):Went R v w v2 w2:=by
 refine⟨⟨h2.onl.os.trans h.onl.os,h2.onl.tape.trans h.onl.tape,h2.onl.output.trans h.onl.output,Vz h.onl.size h2.onl.size,fun k hk h3 h4=>(h2.onl.block k (Vq hk h.onl.size) h3 (h.apart hk h4)).trans (h.onl.block k hk h3 h4)⟩,?_⟩;rcases h2.own with e|⟨g,e,hg⟩
 ·rw[e];exact h.own
 exact .inr ⟨g,e,Vz h.onl.size hg⟩
abbrev nX:Value:=.slice none 0 0
theorem Onl.any{R:Nat}{w w':ae}(h:Onl R nX w w')(v:Value):Went R v w v w':=⟨⟨h.os,h.tape,h.output,h.size,fun k hk h1 _=>h.block k hk h1 (by simp[Value.ownBlock])⟩,.inl rfl⟩
theorem Onl.of_grown{R:Nat}{w w':ae}(h:w.grownBy w' (some R)):Onl R nX w w':=⟨h.os,h.tape,h.output,h.size,fun k hk h1 _=>h.block k hk (fun e=>h1 (by injection e))⟩
theorem Onl.trans0{R:Nat}{w w1 w2:ae}(h:Onl R nX w w1)(h2:Onl R nX w1 w2):Onl R nX w w2:=((h.any nX).trans (h2.any nX)).onl
theorem Onl.of_below{R:Nat}{w w':ae}(h:ag w w'):Onl R nX w w':=⟨h.os,h.tape,h.output,h.size,fun k hk _ _=>h.block k hk⟩
def Ck(w:World)(base:Nat)(q:ER):Prop:=(q.e.kids=[]/\q.adK=none/\q.capK=0)\/(q.e.kids≠[]/\w.ownsRow base 2 1 (.slice q.adK q.e.kids.length q.capK) q.e.kids.length (ints q.e.kids))
structure RdF(w:World)(R:Nat)(s:ByteArray)(st:RS)(base:Nat)(v:Value)(qs:Q08):Prop where
 rd:RdC w R s st.p st.bad v
 own:w.ownsRow base 43 5 v qs.length (jQ qs)
 out:aj qs=st.out
 zA:∀q∈qs,q.e.allow≠[]->∃g,q.adA=some ⟨g,0,none⟩
 zK:∀q∈qs,q.e.kids≠[]->∃g,q.adK=some ⟨g,0,none⟩
 ok:∀q∈qs,q.ok w
 lie:∀q∈qs,∀g,qc q g->base<=g/\g<w.heap.size/\jb w g/\v.ownBlock≠some g
 one:∀q∈qs,∀g,bA q g->¬bK q g
 two:∀(x y:Nat) (hx:x<qs.length) (hy:y<qs.length),x≠y->∀g,qc qs[x] g->¬qc qs[y] g
 cA:∀q∈qs,q.e.allow.length<=q.capA
 cK:∀q∈qs,Ck w base q
theorem Ck.heap{w w':ae}{base:Nat}{q:ER}(h:Ck w base q)(hz:q.e.kids≠[]->∃g,q.adK=some ⟨g,0,none⟩)(hh:∀g,qc q g->w'.heap[g]?=w.heap[g]?):Ck w' base q:=by
 rcases h with h|⟨hne,h⟩
 ·exact .inl h
 obtain⟨g,eg⟩:=hz hne;refine .inr ⟨hne,jH h fun g' hg'=>?_⟩;rw[eg]at hg';have:g=g':=by simpa[Value.ownBlock] using hg'
 subst this;exact hh g (.inr ⟨hne,eg⟩)
theorem Ck.mono{w:ae}{base base':Nat}{q:ER}(h:Ck w base q)(hb:base'<=base):Ck w base' q:=by
 rcases h with h|⟨hne,h⟩
 ·exact .inl h
 refine .inr ⟨hne,h.1,?_⟩;rcases h.2 with hl|⟨g,cap,cur,e,h1,h2⟩
 ·exact .inl hl
 exact .inr ⟨g,cap,cur,e,Vz hb h1,h2⟩
theorem RdF.over{w w':ae}{R:Nat}{s:ByteArray}{st:RS}{base:Nat}{v:Value}{qs:Q08}(h:RdF w R s st base v qs)(hR:R<base)(ho:Onl R nX w w'){p:Nat}{bad:Bool}(hr:RdC w' R s p bad v):RdF w' R s ⟨p,bad,st.out⟩ base v qs where
 rd:=hr
 own:=jH h.own fun g hg=>ho.block g (h.own.lt g hg).2 (by have:=(h.own.lt g hg).1;omega) (by simp[Value.ownBlock])
 out:=h.out
 zA:=h.zA
 zK:=h.zK
 ok q hq:=rP (h.ok q hq) ho.size (h.zA q hq) (h.zK q hq) fun g hg=>ho.block g (h.lie q hq g hg).2.1 (by have:=(h.lie q hq g hg).1;omega) (by simp[Value.ownBlock])
 lie q hq g hg:=by
  obtain⟨h1,h2,h3,h4⟩:=h.lie q hq g hg;exact⟨h1,Vq h2 ho.size,cO h3 (ho.block g h2 (by omega) (by simp[Value.ownBlock])),h4⟩
 one:=h.one
 two:=h.two
 cA:=h.cA
 cK q hq:=(h.cK q hq).heap (h.zK q hq) fun g hg=>ho.block g (h.lie q hq g hg).2.1 (by have:=(h.lie q hq g hg).1;omega) (by simp[Value.ownBlock])
theorem Mx(R:Nat)(s:bQ)(st:RS)(base:Nat)(v:Value)(qs:Q08)(q:ER)(w:ae)(h:RdF w R s st base v qs)(hR:R<base)(hB:base<=w.heap.size)(hn:qs.length<=100000)
  (hq:NewQ base w q) (Xv:Ck w base q) (ha:∀g,qc q g->v.ownBlock≠some g/\∀q'∈qs,¬qc q' g) :
  Calls prog 326 #[.pointer (some ⟨R,0,none⟩),q.val] w fun e w'=>∃v',e=.returned (.int .i64 (st.out.length:Int))/\RdF w' R s (sK q.e st) base v' (qs++[q])/\Went R v w v' w':=by
 have hlen:qs.length=st.out.length:=by rw[<-h.out];simp[aj]
 refine(RJ R s st.p st.bad v base qs.length (jQ qs) q w h.rd h.own hR hB hn).mono ?_;rintro e w' ⟨g,cap,rfl,hrd,hown,honl,hat⟩;have hW:Went R v w (.slice (some ⟨g,0,none⟩) (qs.length+1) cap) w':=⟨honl,by
  rcases hat with e|e
  ·exact .inl (by rw[e];rfl)
  exact .inr ⟨g,rfl,e⟩⟩
 have keep:∀k,k<w.heap.size->base<=k->v.ownBlock≠some k->w'.heap[k]?=w.heap[k]?:=fun k h1 h2 h3=>honl.block k h1 (by omega) h3;refine⟨.slice (some ⟨g,0,none⟩) (qs.length+1) cap,by rw[hlen],?_,hW⟩;refine⟨by unfold sK;rw[<-hlen];exact hrd,?_,?_,?_,?_,?_,?_,?_,?_,?_,?_⟩
 ·rw[Vx,VW,Jn];exact hown
 ·simp[aj,sK,<-h.out]
 ·intro q' hq';rcases VE.1 hq' with h1|h1
  ·exact h.zA q' h1
  rw[VD]at h1;subst h1;exact hq.zA
 ·intro q' hq';rcases VE.1 hq' with h1|h1
  ·exact h.zK q' h1
  rw[VD]at h1;subst h1;exact hq.zK
 ·intro q' hq';rcases VE.1 hq' with h1|h1
  ·exact rP (h.ok q' h1) honl.size (h.zA q' h1) (h.zK q' h1) fun k hk=>keep k (h.lie q' h1 k hk).2.1 (h.lie q' h1 k hk).1 (h.lie q' h1 k hk).2.2.2
  rw[VD]at h1;subst h1;exact rP hq.ok honl.size hq.zA hq.zK fun k hk=>keep k (hq.lie k hk).2.1 (hq.lie k hk).1 (ha k hk).1
 ·intro q' hq' k hk;rcases VE.1 hq' with h1|h1
  ·obtain⟨a1,a2,a3,a4⟩:=h.lie q' h1 k hk;exact⟨a1,Vq a2 honl.size,cO a3 (keep k a2 a1 a4),hW.apart a2 a4⟩
  rw[VD]at h1;subst h1;obtain⟨a1,a2,a3⟩:=hq.lie k hk;exact⟨a1,Vq a2 honl.size,cO a3 (keep k a2 a1 (ha k hk).1),hW.apart a2 (ha k hk).1⟩
 ·intro q' hq';rcases VE.1 hq' with h1|h1
  ·exact h.one q' h1
  rw[VD]at h1;subst h1;exact hq.one
 ·intro x y hx hy hxy k hkx hky;rw[Vx,VW]at hx hy;by_cases ex:x<qs.length
  ·rw[VO ex]at hkx;by_cases ey:y<qs.length
   ·rw[VO ey]at hky;exact h.two x y ex ey hxy k hkx hky
   have:y=qs.length:=by omega
   subst this;rw[V5 (Vr _)]at hky;simp at hky;exact(ha k hky).2 _ (Vp ex) hkx
  have:x=qs.length:=by omega
  subst this;rw[V5 (Vr _)]at hkx;simp at hkx;have ey:y<qs.length:=by omega
  rw[VO ey]at hky;exact(ha k hkx).2 _ (Vp ey) hky
 ·intro q' hq';rcases VE.1 hq' with h1|h1
  ·exact h.cA q' h1
  rw[VD]at h1;subst h1;exact hq.cA
 intro q' hq';rcases VE.1 hq' with h1|h1
 ·exact(h.cK q' h1).heap (h.zK q' h1) fun k hk=>keep k (h.lie q' h1 k hk).2.1 (h.lie q' h1 k hk).1 (h.lie q' h1 k hk).2.2.2
 rw[VD]at h1;subst h1;exact Xv.heap hq.zK fun k hk=>keep k (hq.lie k hk).2.1 (hq.lie k hk).1 (ha k hk).1
def vv(R:Nat)(s:ByteArray)(base:Nat)(v:Value)(qs:Q08)(w:World)(x:Int×RS)(e:Ending)(w':World):Prop :=
 ∃v' ns,e=.returned (.int .i64 x.1)/\RdF w' R s x.2 base v' (qs++ns)/\Went R v w v' w'/\∀q∈ns,∀g,qc q g->w.heap.size<=g
def uj(s:ByteArray)(x:Int×RS):Int×RS:=if lH s fB x.2 then (x.1,kD fB x.2) else (x.1,ve x.2)
theorem Jp{s:ByteArray}{x:Int×RS}(h:mY s fB x.2.p x.2.bad=true):uj s x=(x.1,kD fB x.2):=if_pos h
theorem MB{s:ByteArray}{x:Int×RS}(h:mY s fB x.2.p x.2.bad=false):uj s x=(x.1,ve x.2):=if_neg (fun e=>by rw[lH,<-mY,h]at e;cases e)
theorem RdF.is_no{w w':ae}{R:Nat}{s t:ByteArray}{st:RS}{base:Nat}{v:Value}{qs:Q08}(h:RdF w R s st base v qs)(hR:R<base)(hb:mY s t st.p st.bad=false)(hr:RdC w' R s (RI s t st.p st.bad) st.bad v)(hg:w.grownBy w' (some R)):RdF w' R s st base v qs:=by
 rw[Ab hb]at hr;exact h.over hR (Onl.of_grown hg) hr
theorem RdF.is_yes{w w':ae}{R:Nat}{s t:ByteArray}{st:RS}{base:Nat}{v:Value}{qs:Q08}(h:RdF w R s st base v qs)(hR:R<base)(hb:mY s t st.p st.bad=true)(hr:RdC w' R s (RI s t st.p st.bad) st.bad v)(hg:w.grownBy w' (some R)):RdF w' R s (kD t st) base v qs:=by
 rw[vg hb]at hr;exact h.over hR (Onl.of_grown hg) hr
theorem Ad{s t:ByteArray}{p:Nat}{bad:Bool}(h:mY s t p bad=true):p+t.size<=s.size:=by
 unfold mY at h;simp only[Vt]at h;exact Gt h.2
theorem Pw(R:Nat)(s:bQ)(st:RS)(base:Nat)(v:Value)(qs:Q08)(w:ae)(h:RdF w R s st base v qs)(hR:R<base)(hs:s.size<=1000)(hp:st.p<=s.size)
  (h0:mY s fP st.p st.bad=false) (h1:mY s jG st.p st.bad=true) (x:Int×RS) (hx:x.2.p<=s.size)
  (hrow:∀w1,RdF w1 R s (kD jG st) base v qs->w.heap.size<=w1.heap.size->Calls prog 297 #[.pointer (some ⟨R,0,none⟩)] w1 (vv R s base v qs w1 x)) :
  Calls prog 324 #[.pointer (some ⟨R,0,none⟩)] w (vv R s base v qs w (uj s x)):=by
 have H:=ai h;have XB:=ai hrow;have HX:=ai hx;have HP:=ai hp;clear h hrow hx hp;go_enter func324,ntmps324;go_wp2_with fail;refine(l8 R s fP st.p st.bad v w H.out.rd hs HP.out (by decide)).mono ?_;rintro e w1 ⟨rfl,hr1,hg1⟩;have XU:=ai (H.out.is_no hR h0 hr1 hg1);have Xb:=ai (Onl.of_grown hg1);rw[h0];clear hr1 hg1 h0;go_wp2_with fail;refine(l8 R s jG st.p st.bad v w1 XU.out.rd hs HP.out (by decide)).mono ?_;rintro e w2 ⟨rfl,hr2,hg2⟩;have Yb:=ai (XU.out.is_yes hR h1 hr2 hg2);have WL:=ai (Xb.out.trans0 (Onl.of_grown hg2));rw[h1];clear hr2 hg2 h1;go_wp2_with fail;refine(XB.out w2 Yb.out WL.out.size).mono ?_;rintro e w3 ⟨v3,ns,rfl,ZV,hW3,hns⟩;have HF3:=ai ZV;have HW3:=ai ((WL.out.any v).trans hW3);have HNS:Hid (∀q∈ns,∀g,qc q g->w.heap.size<=g):=fun q hq g hg=>Vz WL.out.size (hns q hq g hg);clear ZV hW3 hns XU Xb Yb WL XB;go_wp2_with fail;refine(l8 R s fB x.2.p x.2.bad v3 w3 HF3.out.rd hs HX.out (by decide)).mono ?_;rintro e w4 ⟨rfl,hr4,hg4⟩;cases hc:mY s fB x.2.p x.2.bad;case true=>
  have YA:=ai (HF3.out.is_yes hR hc hr4 hg4);have HW4:=ai (HW3.out.trans ((Onl.of_grown hg4).any v3));have EQ:=ai (Jp (x:=x) hc);clear hr4 hg4 hc;go_wp2;exact bodyPost_ret (v:=.int .i64 x.1) (by simp[results,Tryz.results324,go_sem]) rfl (by rw[EQ.out];exact⟨v3,ns,rfl,YA.out,HW4.out,HNS.out⟩)
 have YA:=ai (HF3.out.is_no hR hc hr4 hg4);have HW4:=ai (HW3.out.trans ((Onl.of_grown hg4).any v3));have c2:=YA.out.rd.c2;have f2:=YA.out.rd.fr 2;have hl:=YA.out.rd.lt;have EQ:=ai (MB (x:=x) hc);clear hr4 hg4 hc;go_wp2;exact bodyPost_ret (v:=.int .i64 x.1) (by simp[results,Tryz.results324,go_sem]) rfl (by rw[EQ.out];exact⟨v3,ns,rfl,YA.out.over hR ((Onl.refl R nX w4).at_own _ _) YA.out.rd.hurt,HW4.out.trans (((Onl.refl R nX w4).at_own _ _).any v3),HNS.out⟩)
end Go.Proofs.YtojjoblnpldniaaGreat
