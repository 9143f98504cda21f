/- Contracts of the law's helpers that weigh a schema. -/
import Derived.Test.YtajkkeikihhejaaGreatSq
import Derived.Test.YtajkkeikihhejaaGreatJ2
import Derived.Test.YtajkkeikihhejaaGreatJ4
import Derived.Test.YtajkkeikihhejaaGreatShelf
open Go.Proofs.Tryz
set_option maxHeartbeats 80000000
namespace Go.Proofs.YtajkkeikihhejaaGreat
open ChangeShapes WideShapes ChangeAt RowKit
open Pl
def RR.row(r:RR):List Value:=[.string r.name,.slice r.ad r.rows.length r.cap]
def TR.row(r:TR):List Value:=[.string r.name,.slice r.ad r.rows.length r.cap]
def OB(w:World)(P:Nat->Prop):Prop:=∀g,P g->g<w.heap.size/\jZ w g
theorem OB.mono{P Q:Nat->Prop}{w:af}(h:OB w P)(hq:∀g,Q g->P g):OB w Q:=fun g hg=>h g (hq g hg)
def L6(r:RR)(g:Nat):Prop:=(r.rows≠[]/\r.ad=some ⟨g,0,none⟩) \/ ∃q∈r.rows,qw q g
def SV(r:RR):Prop:=r.rows≠[]->∃b,r.ad=some ⟨b,0,none⟩/\SepE b r.rows
structure SepR(b:Nat)(rs:Q07):Prop where
 good:∀r∈rs,SV r
 head:∀r∈rs,¬L6 r b
 two:∀(x y:Nat) (hx:x<rs.length) (hy:y<rs.length),x≠y->∀g,L6 rs[x] g->¬L6 rs[y] g
def OC(r:TR)(g:Nat):Prop:=(r.rows≠[]/\r.ad=some ⟨g,0,none⟩) \/ ∃q∈r.rows,L6 q g
def SX(r:TR):Prop:=r.rows≠[]->∃b,r.ad=some ⟨b,0,none⟩/\SepR b r.rows
structure SepT(b:Nat)(rs:Q06):Prop where
 good:∀r∈rs,SX r
 head:∀r∈rs,¬OC r b
 two:∀(x y:Nat) (hx:x<rs.length) (hy:y<rs.length),x≠y->∀g,OC rs[x] g->¬OC rs[y] g
def Gu(b:Nat)(w:World)(qs:Q08):Prop:=SepE b qs/\∀q∈qs,∀g,qw q g->b<g/\g<w.heap.size/\jZ w g
theorem Gu.nil(b:Nat)(w:af):Gu b w []:=by
 refine⟨⟨?_,?_,?_,?_,?_⟩,?_⟩
 ·intro r hr;cases hr
 ·intro r hr;cases hr
 ·intro r hr;cases hr
 ·intro r hr;cases hr
 ·intro x y hx;exact absurd hx (V5 _)
 intro r hr;cases hr
theorem K6{q:ER}{gA gK g:Nat}(hA:q.adA=some ⟨gA,0,none⟩)(hK:q.adK=some ⟨gK,0,none⟩)(h:qw q g):g=gA\/g=gK:=by
 rcases h with⟨-,e⟩|⟨-,e⟩
 ·rw[hA]at e;injection e with e;injection e with e1 e2;exact .inl e1.symm
 rw[hK]at e;injection e with e;injection e with e1 e2;exact .inr e1.symm
theorem Gu.snoc{S:Nat->Prop}{b:Nat}{wr wn:af}{qs:Q08}(h:Gu b wr qs)(hc:Chg S wr wn)(hb:b<wr.heap.size){q:ER}{gA gK:Nat}(hA:q.adA=some ⟨gA,0,none⟩)(hK:q.adK=some ⟨gK,0,none⟩)(h1:wr.heap.size<=gA)(h2:gA<gK)(h3:gK<wn.heap.size)(fA:jZ wn gA)(fK:jZ wn gK):Gu b wn (qs++[q]):=by
 have hq:∀g,qw q g->wr.heap.size<=g:=fun g hg=>by rcases K6 hA hK hg with rfl|rfl<;>omega
 refine⟨⟨?_,?_,?_,?_,?_⟩,?_⟩
 ·intro r hr;rw[Vn,Vl]at hr;rcases hr with hr|rfl
  ·exact h.1.zeroA r hr
  exact fun _=>⟨gA,hA⟩
 ·intro r hr;rw[Vn,Vl]at hr;rcases hr with hr|rfl
  ·exact h.1.zeroK r hr
  exact fun _=>⟨gK,hK⟩
 ·intro r hr;rw[Vn,Vl]at hr;rcases hr with hr|rfl
  ·exact h.1.head r hr
  intro hg;have:=hq b hg;omega
 ·intro r hr;rw[Vn,Vl]at hr;rcases hr with hr|rfl
  ·exact h.1.one r hr
  rintro g ⟨-,e1⟩ ⟨-,e2⟩;rw[hA]at e1;rw[hK]at e2;injection e1 with e1;injection e1 with e1 _;injection e2 with e2;injection e2 with e2 _;omega
 ·intro x y hx hy hne g hgx Yf;rw[Vh,VL]at hx hy;by_cases ex:x<qs.length
  ·rw[Vw ex]at hgx;by_cases ey:y<qs.length
   ·rw[Vw ey]at Yf;exact h.1.two x y ex ey hne g hgx Yf
   rw[VM (by omega)]at Yf;have e1:=hq g (by simpa using Yf);have e2:=(h.2 _ (U8 ex) g hgx).2.1;omega
  rw[VM (by omega)]at hgx;have e1:=hq g (by simpa using hgx);have ey:y<qs.length:=by omega
  rw[Vw ey]at Yf;have e2:=(h.2 _ (U8 ey) g Yf).2.1;omega
 intro r hr g hg;rw[Vn,Vl]at hr;rcases hr with hr|rfl
 ·obtain⟨a1,a2,a3⟩:=h.2 r hr g hg;exact⟨a1,U9 a2 hc.size,hc.free g a2 a3⟩
 rcases K6 hA hK hg with rfl|rfl
 ·exact⟨by omega,by omega,fA⟩
 exact⟨by omega,by omega,fK⟩
def UC(m:Nat)(w:World)(r:RR):Prop:=SV r/\∀g,L6 r g->m<=g/\g<w.heap.size/\jZ w g
def OD(b:Nat)(w:World)(qs:Q07):Prop:=SepR b qs/\∀q∈qs,∀g,L6 q g->b<g/\g<w.heap.size/\jZ w g
theorem OD.nil(b:Nat)(w:af):OD b w []:=by
 refine⟨⟨?_,?_,?_⟩,?_⟩
 ·intro r hr;cases hr
 ·intro r hr;cases hr
 ·intro x y hx;exact absurd hx (V5 _)
 intro r hr;cases hr
theorem OD.snoc{S:Nat->Prop}{b:Nat}{wr wn:af}{qs:Q07}(h:OD b wr qs)(hc:Chg S wr wn)(hb:b<wr.heap.size){q:RR}(hq:UC wr.heap.size wn q):OD b wn (qs++[q]):=by
 refine⟨⟨?_,?_,?_⟩,?_⟩
 ·intro r hr;rw[Vn,Vl]at hr;rcases hr with hr|rfl
  ·exact h.1.good r hr
  exact hq.1
 ·intro r hr;rw[Vn,Vl]at hr;rcases hr with hr|rfl
  ·exact h.1.head r hr
  intro hg;have:=(hq.2 b hg).1;omega
 ·intro x y hx hy hne g hgx Yf;rw[Vh,VL]at hx hy;by_cases ex:x<qs.length
  ·rw[Vw ex]at hgx;by_cases ey:y<qs.length
   ·rw[Vw ey]at Yf;exact h.1.two x y ex ey hne g hgx Yf
   rw[VM (by omega)]at Yf;have e1:=(hq.2 g (by simpa using Yf)).1;have e2:=(h.2 _ (U8 ex) g hgx).2.1;omega
  rw[VM (by omega)]at hgx;have e1:=(hq.2 g (by simpa using hgx)).1;have ey:y<qs.length:=by omega
  rw[Vw ey]at Yf;have e2:=(h.2 _ (U8 ey) g Yf).2.1;omega
 intro r hr g hg;rw[Vn,Vl]at hr;rcases hr with hr|rfl
 ·obtain⟨a1,a2,a3⟩:=h.2 r hr g hg;exact⟨a1,U9 a2 hc.size,hc.free g a2 a3⟩
 obtain⟨a1,a2,a3⟩:=hq.2 g hg;exact⟨by omega,a2,a3⟩
def UD(m:Nat)(w:World)(r:TR):Prop:=SX r/\∀g,OC r g->m<=g/\g<w.heap.size/\jZ w g
def OE(b:Nat)(w:World)(qs:Q06):Prop:=SepT b qs/\∀q∈qs,∀g,OC q g->b<g/\g<w.heap.size/\jZ w g
theorem OE.nil(b:Nat)(w:af):OE b w []:=by
 refine⟨⟨?_,?_,?_⟩,?_⟩
 ·intro r hr;cases hr
 ·intro r hr;cases hr
 ·intro x y hx;exact absurd hx (V5 _)
 intro r hr;cases hr
theorem OE.snoc{S:Nat->Prop}{b:Nat}{wr wn:af}{qs:Q06}(h:OE b wr qs)(hc:Chg S wr wn)(hb:b<wr.heap.size){q:TR}(hq:UD wr.heap.size wn q):OE b wn (qs++[q]):=by
 refine⟨⟨?_,?_,?_⟩,?_⟩
 ·intro r hr;rw[Vn,Vl]at hr;rcases hr with hr|rfl
  ·exact h.1.good r hr
  exact hq.1
 ·intro r hr;rw[Vn,Vl]at hr;rcases hr with hr|rfl
  ·exact h.1.head r hr
  intro hg;have:=(hq.2 b hg).1;omega
 ·intro x y hx hy hne g hgx Yf;rw[Vh,VL]at hx hy;by_cases ex:x<qs.length
  ·rw[Vw ex]at hgx;by_cases ey:y<qs.length
   ·rw[Vw ey]at Yf;exact h.1.two x y ex ey hne g hgx Yf
   rw[VM (by omega)]at Yf;have e1:=(hq.2 g (by simpa using Yf)).1;have e2:=(h.2 _ (U8 ex) g hgx).2.1;omega
  rw[VM (by omega)]at hgx;have e1:=(hq.2 g (by simpa using hgx)).1;have ey:y<qs.length:=by omega
  rw[Vw ey]at Yf;have e2:=(h.2 _ (U8 ey) g Yf).2.1;omega
 intro r hr g hg;rw[Vn,Vl]at hr;rcases hr with hr|rfl
 ·obtain⟨a1,a2,a3⟩:=h.2 r hr g hg;exact⟨a1,U9 a2 hc.size,hc.free g a2 a3⟩
 obtain⟨a1,a2,a3⟩:=hq.2 g hg;exact⟨by omega,a2,a3⟩
open Maps
theorem Gu.add{S:Nat->Prop}{b:Nat}{wr wn:af}{qs:Q08}(h:Gu b wr qs)(hc:Chg S wr wn)(hb:b<wr.heap.size){q:ER}(zA:q.e.allow≠[]->∃g,q.adA=some ⟨g,0,none⟩)(zK:q.e.kids≠[]->∃g,q.adK=some ⟨g,0,none⟩)(hone:∀g,bA q g->¬bK q g)(hq:∀g,qw q g->wr.heap.size<=g/\g<wn.heap.size/\jZ wn g):Gu b wn (qs++[q]):=by
 refine⟨⟨?_,?_,?_,?_,?_⟩,?_⟩
 ·intro r hr;rw[Vn,Vl]at hr;rcases hr with hr|rfl
  ·exact h.1.zeroA r hr
  exact zA
 ·intro r hr;rw[Vn,Vl]at hr;rcases hr with hr|rfl
  ·exact h.1.zeroK r hr
  exact zK
 ·intro r hr;rw[Vn,Vl]at hr;rcases hr with hr|rfl
  ·exact h.1.head r hr
  intro hg;have:=(hq b hg).1;omega
 ·intro r hr;rw[Vn,Vl]at hr;rcases hr with hr|rfl
  ·exact h.1.one r hr
  exact hone
 ·intro x y hx hy hne g hgx Yf;rw[Vh,VL]at hx hy;by_cases ex:x<qs.length
  ·rw[Vw ex]at hgx;by_cases ey:y<qs.length
   ·rw[Vw ey]at Yf;exact h.1.two x y ex ey hne g hgx Yf
   rw[VM (by omega)]at Yf;have e1:=(hq g (by simpa using Yf)).1;have e2:=(h.2 _ (U8 ex) g hgx).2.1;omega
  rw[VM (by omega)]at hgx;have e1:=(hq g (by simpa using hgx)).1;have ey:y<qs.length:=by omega
  rw[Vw ey]at Yf;have e2:=(h.2 _ (U8 ey) g Yf).2.1;omega
 intro r hr g hg;rw[Vn,Vl]at hr;rcases hr with hr|rfl
 ·obtain⟨a1,a2,a3⟩:=h.2 r hr g hg;exact⟨a1,U9 a2 hc.size,hc.free g a2 a3⟩
 obtain⟨a1,a2,a3⟩:=hq g hg;exact⟨by omega,a2,a3⟩
theorem UE{w:af}{base n:Nat}{v:Value}{xs:Q0a}(h:w.ownsRow base 43 2 v n (pairs xs))(hn:n=xs.length):∃ad cap,v=.slice ad xs.length cap/\lK w ad xs/\(xs≠[]->∃g,ad=some ⟨g,0,none⟩)/\∀g,xs≠[]->ad=some ⟨g,0,none⟩->base<=g/\g<w.heap.size/\jZ w g:=by
 subst hn;have h2:=h;rcases h.2 with⟨rfl,h0⟩|⟨g,cap,cur,rfl,hbg,hg,hnc,-⟩
 ·have hx:xs=[]:=Vr.1 h0;subst hx;exact⟨none,0,rfl,.inl rfl,fun h=>absurd rfl h,fun _ h=>absurd rfl h⟩
 have hlt:=h2.lt g rfl;refine⟨some ⟨g,0,none⟩,cap,rfl,.inr ⟨g,0,rfl,hlt.2,fun i hi=>?_⟩,fun _=>⟨g,rfl⟩,fun g' _ e=>?_⟩
 ·have hl:=rP xs;obtain⟨p0,p1⟩:=uV xs i hi;refine⟨?_,?_⟩
  ·rw[h2.cellAt (0+i*2) (by omega),VC];exact p0
  rw[h2.cellAt (0+i*2+1) (by omega),VC];exact p1
 injection e with e;injection e with e1 e2;subst e1;exact⟨hlt.1,hlt.2,fun y=>h2.frozenAt y⟩
theorem UF{w:af}{base n:Nat}{v:Value}{zs:List Int}(h:w.ownsRow base 2 1 v n (ints zs))(hn:n=zs.length):∃ad cap,v=.slice ad zs.length cap/\sZ w ad zs/\(zs≠[]->∃g,ad=some ⟨g,0,none⟩)/\∀g,zs≠[]->ad=some ⟨g,0,none⟩->base<=g/\g<w.heap.size/\jZ w g:=by
 subst hn;have h2:=h;rcases h.2 with⟨rfl,h0⟩|⟨g,cap,cur,rfl,hbg,hg,hnc,-⟩
 ·have hx:zs=[]:=Vr.1 h0;subst hx;exact⟨none,0,rfl,.inl rfl,fun h=>absurd rfl h,fun _ h=>absurd rfl h⟩
 have hlt:=h2.lt g rfl;refine⟨some ⟨g,0,none⟩,cap,rfl,.inr ⟨g,0,rfl,hlt.2,fun i hi=>?_⟩,fun _=>⟨g,rfl⟩,fun g' _ e=>?_⟩
 ·rw[h2.cellAt (0+i) (by omega),VC];simp[ints,hi]
 injection e with e;injection e with e1 e2;subst e1;exact⟨hlt.1,hlt.2,fun y=>h2.frozenAt y⟩
theorem lK.grown{w w':af}{row:Option Nat}{ad:Q02}{xs:Q0a}(h:lK w ad xs)(hg:w.grownBy w' row)(hn:∀g o,xs≠[]->ad=some ⟨g,o,none⟩->some g≠row):lK w' ad xs:=by
 rcases h with h|⟨b,off,e,hb,hr⟩
 ·exact .inl h
 by_cases hx:xs=[]
 ·exact .inl hx
 exact .inr ⟨b,off,e,U9 hb hg.size,fun i hi=>⟨hg.cell (hr i hi).1 (hn b off hx e),hg.cell (hr i hi).2 (hn b off hx e)⟩⟩
theorem sZ.grown{w w':af}{row:Option Nat}{ad:Q02}{zs:List Int}(h:sZ w ad zs)(hg:w.grownBy w' row)(hn:∀g o,zs≠[]->ad=some ⟨g,o,none⟩->some g≠row):sZ w' ad zs:=by
 rcases h with h|⟨b,off,e,hb,hr⟩
 ·exact .inl h
 by_cases hx:zs=[]
 ·exact .inl hx
 exact .inr ⟨b,off,e,U9 hb hg.size,fun i hi=>hg.cell (hr i hi) (hn b off hx e)⟩
structure Beside(w:World)(v:Value)(q:ER):Prop where
 ok:q.ok w
 zA:q.e.allow≠[]->∃g,q.adA=some ⟨g,0,none⟩
 zK:q.e.kids≠[]->∃g,q.adK=some ⟨g,0,none⟩
 lt:∀g,qw q g->g<w.heap.size/\v.ownBlock≠some g
theorem Beside.below{w w':af}{v:Value}{q:ER}(h:Beside w v q)(hb:ae w w'):Beside w' v q :=
 ⟨h.ok.below hb,h.zA,h.zK,fun g hg=>⟨U9 (h.lt g hg).1 hb.size,(h.lt g hg).2⟩⟩
theorem Beside.grown{w w':af}{v v':Value}{q:ER}(h:Beside w v q)(hg:w.grownBy w' v.ownBlock)(hv:v'.ownBlock=v.ownBlock\/v'.ownBlock=some w.heap.size):Beside w' v' q:=by
 refine⟨⟨h.ok.1.grown hg fun g o hne e=>?_,h.ok.2.grown hg fun g o hne e=>?_⟩,h.zA,h.zK,fun g hi=>⟨U9 (h.lt g hi).1 hg.size,?_⟩⟩
 ·obtain⟨g0,e0⟩:=h.zA hne;rw[e0]at e;injection e with e;injection e with e1 e2;subst e1;exact fun e=>(h.lt g0 (.inl ⟨hne,e0⟩)).2 e.symm
 ·obtain⟨g0,e0⟩:=h.zK hne;rw[e0]at e;injection e with e;injection e with e1 e2;subst e1;exact fun e=>(h.lt g0 (.inr ⟨hne,e0⟩)).2 e.symm
 rcases hv with e|e
 ·rw[e];exact(h.lt g hi).2
 rw[e];intro e2;injection e2 with e2;have:=(h.lt g hi).1;omega
theorem SY{w:af}{base n:Nat}{v:Value}{qs:Q08}(h:w.ownsRow base 39 5 v n (jW qs))(hn:n=qs.length)(hok:∀q∈qs,q.ok w):∃ad cap,v=.slice ad qs.length cap/\ik w ad qs:=by
 subst hn;have h2:=h;rcases h.2 with⟨rfl,h0⟩|⟨g,cap,cur,rfl,hbg,hg,hnc,-⟩
 ·exact⟨none,0,by rw[h0],.inl (Vr.1 h0)⟩
 have hlt:=h2.lt g rfl;refine⟨some ⟨g,0,none⟩,cap,rfl,.inr ⟨g,0,rfl,hlt.2,fun i hi=>?_,hok⟩⟩;have hl:=xq qs;have key:∀j,j<5->w.cell? ⟨g,0+i*5+j,none⟩=(qs[i]).row[j]?:=fun j hj=>by
  rw[h2.cellAt (0+i*5+j) (by omega),<-zH qs i hi j hj,VC]
 exact⟨key 0 (by omega),key 1 (by omega),key 2 (by omega),key 3 (by omega),key 4 (by omega)⟩
theorem L8(w:af)(q:ER):∀j u,q.row[j]?=some u->(w.alloc (.cells #[.int .i64 q.e.kind,.slice q.adA q.e.allow.length q.capA,.string q.e.over,.string q.e.name,.slice q.adK q.e.kids.length q.capK] 39)).cell? ((⟨w.heap.size,0,none⟩:Addr).add j)=some u:=by
 intro j u hu;rw[show(⟨w.heap.size,0,none⟩:Addr).add j=⟨w.heap.size,0+j,none⟩ by simp[Addr.add];omega,VC];have:=World.cell?_alloc_mark w #[.int .i64 q.e.kind,.slice q.adA q.e.allow.length q.capA,.string q.e.over,.string q.e.name,.slice q.adK q.e.kids.length q.capK] 39 (0,0) j;rw[this];simpa[ER.row] using hu
theorem OG(q:ER):∀u∈q.row,u.oneCell'=true:=by
 intro u hu;simp[ER.row]at hu;rcases hu with rfl|rfl|rfl|rfl|rfl<;>rfl
set_option maxRecDepth 100000
theorem lK.heap{w w':af}{ad:Q02}{xs:Q0a}(h:lK w ad xs)(hs:w.heap.size<=w'.heap.size)(hz:xs≠[]->∃g,ad=some ⟨g,0,none⟩)(hn:∀g,xs≠[]->ad=some ⟨g,0,none⟩->w'.heap[g]?=w.heap[g]?):lK w' ad xs:=by
 rcases h with h|⟨b,off,e,hb,hr⟩
 ·exact .inl h
 by_cases hx:xs=[]
 ·exact .inl hx
 obtain⟨g,eg⟩:=hz hx;have e2:=e;rw[eg]at e;injection e with e;injection e with e1 e3;subst e1;have hh:=hn g hx eg;exact .inr ⟨g,off,e2,U9 hb hs,fun i hi=>⟨(Vx (w:=w) (a:=⟨g,_,none⟩) hh).trans (hr i hi).1,(Vx (w:=w) (a:=⟨g,_,none⟩) hh).trans (hr i hi).2⟩⟩
theorem sZ.heap{w w':af}{ad:Q02}{xs:List Int}(h:sZ w ad xs)(hs:w.heap.size<=w'.heap.size)(hz:xs≠[]->∃g,ad=some ⟨g,0,none⟩)(hn:∀g,xs≠[]->ad=some ⟨g,0,none⟩->w'.heap[g]?=w.heap[g]?):sZ w' ad xs:=by
 rcases h with h|⟨b,off,e,hb,hr⟩
 ·exact .inl h
 by_cases hx:xs=[]
 ·exact .inl hx
 obtain⟨g,eg⟩:=hz hx;have e2:=e;rw[eg]at e;injection e with e;injection e with e1 e3;subst e1;have hh:=hn g hx eg;exact .inr ⟨g,off,e2,U9 hb hs,fun i hi=>(Vx (w:=w) (a:=⟨g,_,none⟩) hh).trans (hr i hi)⟩
theorem rT{w w':af}{q:ER}(h:q.ok w)(hs:w.heap.size<=w'.heap.size)(zA:q.e.allow≠[]->∃g,q.adA=some ⟨g,0,none⟩)(zK:q.e.kids≠[]->∃g,q.adK=some ⟨g,0,none⟩)(hn:∀g,qw q g->w'.heap[g]?=w.heap[g]?):q.ok w' :=
 ⟨h.1.heap hs zA fun g h1 h2=>hn g (.inl ⟨h1,h2⟩),h.2.heap hs zK fun g h1 h2=>hn g (.inr ⟨h1,h2⟩)⟩
theorem dx{w w':af}{g:Nat}(h:jZ w g)(hh:w'.heap[g]?=w.heap[g]?):jZ w' g:=fun j=>(World.frozen?_of_block (w:=w) (a:=⟨g,j,none⟩) hh).trans (h j)
theorem jM{w w':af}{base:Nat}{e:TypeId}{size:Nat}{v:Value}{n:Nat}{xs:Q03}(h:w.ownsRow base e size v n xs)(hh:∀g,v.ownBlock=some g->w'.heap[g]?=w.heap[g]?):w'.ownsRow base e size v n xs:=by
 refine⟨h.1,?_⟩;rcases h.2 with hl|⟨g,cap,cur,rfl,h1,h2,h3⟩
 ·exact .inl hl
 exact .inr ⟨g,cap,cur,rfl,h1,(hh g rfl).trans h2,h3⟩
structure NewQ(X:Nat)(w:World)(q:ER):Prop where
 zA:q.e.allow≠[]->∃g,q.adA=some ⟨g,0,none⟩
 zK:q.e.kids≠[]->∃g,q.adK=some ⟨g,0,none⟩
 ok:q.ok w
 lie:∀g,qw q g->X<=g/\g<w.heap.size/\jZ w g
 one:∀g,bA q g->¬bK q g
 cA:q.e.allow.length<=q.capA
theorem Jc(qs:Q08)(q:ER):jW (qs++[q])=jW qs++q.row:=by simp[jW]
end Go.Proofs.YtajkkeikihhejaaGreat
namespace Go.Proofs.YtajkkeikihhejaaGreat
open ChangeShapes WideShapes ChangeAt RowKit
open Pl
attribute [local go_sem ↓] Go.wp_at_zero Go.wp_at_succ
theorem S9{w W w':af}{n:Nat}{x0 x1 x2 x3 x4 x5:Value}(h:W.cell? ⟨n,0,none⟩=some x0/\W.cell? ⟨n,1,none⟩=some x1/\W.cell? ⟨n,2,none⟩=some x2/\W.cell? ⟨n,3,none⟩=some x3/\W.cell? ⟨n,4,none⟩=some x4/\W.cell? ⟨n,5,none⟩=some x5/\n<W.heap.size/\Below n w W)(hb:ae W w'):w'.cell? ⟨n,0,none⟩=some x0/\w'.cell? ⟨n,1,none⟩=some x1/\w'.cell? ⟨n,2,none⟩=some x2/\w'.cell? ⟨n,3,none⟩=some x3/\w'.cell? ⟨n,4,none⟩=some x4/\w'.cell? ⟨n,5,none⟩=some x5/\n<w'.heap.size/\Below n w w':=by
 obtain⟨h0,h1,h2,h3,h4,h5,hn,hB⟩:=h;have hc:∀o,w'.cell? ⟨n,o,none⟩=W.cell? ⟨n,o,none⟩:=fun o=>hb.cell (p:=⟨n,o,none⟩) hn;refine⟨by rw[hc];exact h0,by rw[hc];exact h1,by rw[hc];exact h2,by rw[hc];exact h3,by rw[hc];exact h4,by rw[hc];exact h5,U9 hn hb.size,hB.trans (hb.mono (Nat.le_of_lt hn))⟩
theorem yY(a b r c d s:bW)(w:af)(ha:a.size<=maxLen)(hb:b.size<=maxLen)(hr:r.size<=maxLen)(hc:c.size<=maxLen)(hd:d.size<=maxLen)(hs:s.size<=maxLen):
  Calls prog 195 #[.agg #[.string a,.string b,.string r,.string c,.string d,.string s]] w fun e w'=>e=.returned (.string (bi a b r c d s))/\ae w w':=by
 by_cases hn:cO a b r c d s=true
 ·obtain⟨h1,h2,h3,h4⟩:=ku hn;have hx:=iN a b;have hy:=iN c d;have Zb:=(ol h2).2;have hs12:=ES h4;clear h1 h2 h3 h4;go_enter func195,ntmps195;go_wp2_with fail;refine(d9 _ _ _ _ _ _ _ ha hb hr hc hd hs).mono ?_;rintro e w1 ⟨rfl,hb1⟩;obtain⟨hc1,hf1⟩:=jY hb1;have hz1:w.heap.size<w1.heap.size:=by have:=hb1.size;simp at this;omega
  have k:∀o v,(w.alloc (.cells #[.string a,.string b,.string r,.string c,.string d,.string s] 46)).cell? ⟨w.heap.size,o,none⟩=some v->w1.cell? ⟨w.heap.size,o,none⟩=some v:=fun o v h=>by rw[hc1 _ _ (by simp)];exact h
  have k0:=k 0 (.string a) (by simp);have k1:=k 1 (.string b) (by simp);have k2:=k 2 (.string r) (by simp);have k3:=k 3 (.string c) (by simp);have k4:=k 4 (.string d) (by simp);have k5:=k 5 (.string s) (by simp);have HB1:ae w w1:=((Vb _ _).alloc (Va _) _).trans (hb1.mono (by simp));clear k hb1 hc1 hf1;have q1:(9223372036854775807<(aF a b).size+1)=False:=by simp;omega
  have q2:(9223372036854775807<(aF a b).size+1+r.size)=False:=by simp;omega
  have q3:(9223372036854775807<(aF a b).size+1+r.size+1)=False:=by simp;omega
  have q4:(9223372036854775807<(aF a b).size+1+r.size+1+(aF c d).size)=False:=by simp;omega
  go_wp2_with fail
  go_region_held3 (fun w'=>w'.cell? ⟨w.heap.size,0,none⟩=some (.string a)/\w'.cell? ⟨w.heap.size,1,none⟩=some (.string b)/\w'.cell? ⟨w.heap.size,2,none⟩=some (.string r)/\w'.cell? ⟨w.heap.size,3,none⟩=some (.string c)/\w'.cell? ⟨w.heap.size,4,none⟩=some (.string d)/\w'.cell? ⟨w.heap.size,5,none⟩=some (.string s)/\w.heap.size<w'.heap.size/\ae w w')
   (first|exact S9 (by assumption) hbx|exact⟨k0,k1,k2,k3,k4,k5,hz1,HB1.drew⟩)
   (first|(go_at_call 225;refine(yV _ _ _ (by assumption) (by assumption)).mono ?_;rintro e w' ⟨rfl,hbx⟩))
  rename_i hH;obtain⟨g0,g1,g2,g3,g4,g5,gz,gB⟩:=hH;clear k0 k1 k2 k3 k4 k5 hbx q1 q2 q3 q4 HB1;by_cases he:s.toList.isEmpty=true
  ·have HT:Hid (bi a b r c d s=_):=nC hn he;go_wp2;go_ret;exact⟨gJ HT.out.symm,gB⟩
  have he':s.toList.isEmpty=false:=by simpa using he
  have HT:Hid (bi a b r c d s=_):=nD hn he';clear he;go_wp2;go_ret;exact⟨gJ HT.out.symm,gB⟩
 have hn':cO a b r c d s=false:=by simpa using hn
 have HT:Hid (bi a b r c d s=⟨#[]⟩):=uj hn';clear hn;go_enter func195,ntmps195;go_wp2_with fail;refine(d9 _ _ _ _ _ _ _ ha hb hr hc hd hs).mono ?_;rintro e w1 ⟨rfl,hb1⟩;go_wp2;go_ret;exact⟨gJ HT.out.symm,((Vb _ _).alloc (Va _) _).trans (hb1.mono (by simp))⟩
theorem yZ(a b r c d s:bW)(w:af)(ha:a.size<=maxLen)(hb:b.size<=maxLen)(hr:r.size<=maxLen)(hc:c.size<=maxLen)(hd:d.size<=maxLen)(hs:s.size<=maxLen):
  Calls prog 160 #[.agg #[.string a,.string b,.string r,.string c,.string d,.string s]] w fun e w'=>e=.returned (.string (bi a b r c d s))/\ae w w':=by
 by_cases hn:cO a b r c d s=true
 ·obtain⟨h1,h2,h3,h4⟩:=ku hn;have hx:=iN a b;have hy:=iN c d;have Zb:=(ol h2).2;have hs12:=ES h4;clear h1 h2 h3 h4;go_enter func160,ntmps160;go_wp2_with fail;refine(fF _ _ _ _ _ _ _ ha hb hr hc hd hs).mono ?_;rintro e w1 ⟨rfl,hb1⟩;obtain⟨hc1,hf1⟩:=jY hb1;have hz1:w.heap.size<w1.heap.size:=by have:=hb1.size;simp at this;omega
  have k:∀o v,(w.alloc (.cells #[.string a,.string b,.string r,.string c,.string d,.string s] 46)).cell? ⟨w.heap.size,o,none⟩=some v->w1.cell? ⟨w.heap.size,o,none⟩=some v:=fun o v h=>by rw[hc1 _ _ (by simp)];exact h
  have k0:=k 0 (.string a) (by simp);have k1:=k 1 (.string b) (by simp);have k2:=k 2 (.string r) (by simp);have k3:=k 3 (.string c) (by simp);have k4:=k 4 (.string d) (by simp);have k5:=k 5 (.string s) (by simp);have HB1:ae w w1:=((Vb _ _).alloc (Va _) _).trans (hb1.mono (by simp));clear k hb1 hc1 hf1;have q1:(9223372036854775807<(aF a b).size+1)=False:=by simp;omega
  have q2:(9223372036854775807<(aF a b).size+1+r.size)=False:=by simp;omega
  have q3:(9223372036854775807<(aF a b).size+1+r.size+1)=False:=by simp;omega
  have q4:(9223372036854775807<(aF a b).size+1+r.size+1+(aF c d).size)=False:=by simp;omega
  go_wp2_with fail
  go_region_held3 (fun w'=>w'.cell? ⟨w.heap.size,0,none⟩=some (.string a)/\w'.cell? ⟨w.heap.size,1,none⟩=some (.string b)/\w'.cell? ⟨w.heap.size,2,none⟩=some (.string r)/\w'.cell? ⟨w.heap.size,3,none⟩=some (.string c)/\w'.cell? ⟨w.heap.size,4,none⟩=some (.string d)/\w'.cell? ⟨w.heap.size,5,none⟩=some (.string s)/\w.heap.size<w'.heap.size/\ae w w')
   (first|exact S9 (by assumption) hbx|exact⟨k0,k1,k2,k3,k4,k5,hz1,HB1.drew⟩)
   (first|(go_at_call 207;refine(yX _ _ _ (by assumption) (by assumption)).mono ?_;rintro e w' ⟨rfl,hbx⟩))
  rename_i hH;obtain⟨g0,g1,g2,g3,g4,g5,gz,gB⟩:=hH;clear k0 k1 k2 k3 k4 k5 hbx q1 q2 q3 q4 HB1;by_cases he:s.toList.isEmpty=true
  ·have HT:Hid (bi a b r c d s=_):=nC hn he;go_wp2;go_ret;exact⟨gJ HT.out.symm,gB⟩
  have he':s.toList.isEmpty=false:=by simpa using he
  have HT:Hid (bi a b r c d s=_):=nD hn he';clear he;go_wp2;go_ret;exact⟨gJ (HT.out.trans (by simp only[VW])).symm,gB⟩
 have hn':cO a b r c d s=false:=by simpa using hn
 have HT:Hid (bi a b r c d s=⟨#[]⟩):=uj hn';clear hn;go_enter func160,ntmps160;go_wp2_with fail;refine(fF _ _ _ _ _ _ _ ha hb hr hc hd hs).mono ?_;rintro e w1 ⟨rfl,hb1⟩;go_wp2;go_ret;exact⟨gJ HT.out.symm,((Vb _ _).alloc (Va _) _).trans (hb1.mono (by simp))⟩
end Go.Proofs.YtajkkeikihhejaaGreat
namespace Go.Proofs.YtajkkeikihhejaaGreat
open ChangeShapes WideShapes ChangeAt RowKit
open Pl
attribute [local go_sem ↓] Go.wp_at_zero Go.wp_at_succ
theorem Jd{w W w':af}{n m k:Nat}{x0 x1 x2 x3 x4 x5 y0 y1 y2 y3 y4 y5:Value}(hk:k<=n)(h:W.cell? ⟨n,0,none⟩=some x0/\W.cell? ⟨n,1,none⟩=some x1/\W.cell? ⟨n,2,none⟩=some x2/\W.cell? ⟨n,3,none⟩=some x3/\W.cell? ⟨n,4,none⟩=some x4/\W.cell? ⟨n,5,none⟩=some x5/\W.cell? ⟨m,0,none⟩=some y0/\W.cell? ⟨m,1,none⟩=some y1/\W.cell? ⟨m,2,none⟩=some y2/\W.cell? ⟨m,3,none⟩=some y3/\W.cell? ⟨m,4,none⟩=some y4/\W.cell? ⟨m,5,none⟩=some y5/\n<W.heap.size/\m<W.heap.size/\Below k w W)(hb:ae W w'):w'.cell? ⟨n,0,none⟩=some x0/\w'.cell? ⟨n,1,none⟩=some x1/\w'.cell? ⟨n,2,none⟩=some x2/\w'.cell? ⟨n,3,none⟩=some x3/\w'.cell? ⟨n,4,none⟩=some x4/\w'.cell? ⟨n,5,none⟩=some x5/\w'.cell? ⟨m,0,none⟩=some y0/\w'.cell? ⟨m,1,none⟩=some y1/\w'.cell? ⟨m,2,none⟩=some y2/\w'.cell? ⟨m,3,none⟩=some y3/\w'.cell? ⟨m,4,none⟩=some y4/\w'.cell? ⟨m,5,none⟩=some y5/\n<w'.heap.size/\m<w'.heap.size/\Below k w w':=by
 obtain⟨h0,h1,h2,h3,h4,h5,h6,h7,h8,h9,h10,h11,hn,hm,hB⟩:=h;have hc:∀o,w'.cell? ⟨n,o,none⟩=W.cell? ⟨n,o,none⟩:=fun o=>hb.cell (p:=⟨n,o,none⟩) hn;have hd:∀o,w'.cell? ⟨m,o,none⟩=W.cell? ⟨m,o,none⟩:=fun o=>hb.cell (p:=⟨m,o,none⟩) hm;exact⟨by rw[hc];exact h0,by rw[hc];exact h1,by rw[hc];exact h2,by rw[hc];exact h3,by rw[hc];exact h4,by rw[hc];exact h5,by rw[hd];exact h6,by rw[hd];exact h7,by rw[hd];exact h8,by rw[hd];exact h9,by rw[hd];exact h10,by rw[hd];exact h11,U9 hn hb.size,U9 hm hb.size,hB.trans (hb.mono (by omega))⟩
theorem Ak(w:af)(o1 o2:Obj):ae w ((w.alloc o1).alloc o2) :=
 ((Vb _ _).alloc (Va _) _).alloc (by simp) _
def Je(a b r c d s a' b' r' c' d' s':ByteArray):Int:=Lib.compareBytes (bi a b r c d s).data.toList (bi a' b' r' c' d' s').data.toList
theorem vG(x y:List UInt8):decide (Lib.compareBytes x y<0)=Op.bytesLess x y:=by
 induction x generalizing y with
 | nil=>cases y<;>simp[Lib.compareBytes,Op.bytesLess]
 | cons a x ih =>
  cases y with
  | nil=>simp[Lib.compareBytes,Op.bytesLess]
  | cons b y =>
   unfold Lib.compareBytes Op.bytesLess;by_cases h:a<b
   ·simp[h]
   by_cases h2:b<a
   ·have hne:(a==b)=false:=by simp;intro e;subst e;exact h h2
    simp[h,h2,hne]
   have he:a=b:=by
    have h1:=UInt8.not_lt.mp h;have h3:=UInt8.not_lt.mp h2;exact UInt8.le_antisymm h3 h1
   subst he;simp[ih]
theorem Ta(a b r c d s a' b' r' c' d' s':bW)(w W:af)(hW:W=((w.alloc (.cells #[.string a,.string b,.string r,.string c,.string d,.string s] 46)).alloc (.cells #[.string a',.string b',.string r',.string c',.string d',.string s'] 46))):W.drew.cell? ⟨w.heap.size,0,none⟩=some (.string a)/\W.drew.cell? ⟨w.heap.size,1,none⟩=some (.string b)/\W.drew.cell? ⟨w.heap.size,2,none⟩=some (.string r)/\W.drew.cell? ⟨w.heap.size,3,none⟩=some (.string c)/\W.drew.cell? ⟨w.heap.size,4,none⟩=some (.string d)/\W.drew.cell? ⟨w.heap.size,5,none⟩=some (.string s)/\W.drew.cell? ⟨w.heap.size+1,0,none⟩=some (.string a')/\W.drew.cell? ⟨w.heap.size+1,1,none⟩=some (.string b')/\W.drew.cell? ⟨w.heap.size+1,2,none⟩=some (.string r')/\W.drew.cell? ⟨w.heap.size+1,3,none⟩=some (.string c')/\W.drew.cell? ⟨w.heap.size+1,4,none⟩=some (.string d')/\W.drew.cell? ⟨w.heap.size+1,5,none⟩=some (.string s')/\w.heap.size<W.drew.heap.size/\w.heap.size+1<W.drew.heap.size/\ae w (W.drew):=by
 subst hW;refine⟨?_,?_,?_,?_,?_,?_,?_,?_,?_,?_,?_,?_,?_,?_,?_⟩
 all_goals first|exact(Ak _ _ _).drew|(simp;done)|(simp;omega)
theorem vH(a b r c d s a' b' r' c' d' s':bW)(w:af)(ha:a.size<=maxLen)(hb:b.size<=maxLen)(hr:r.size<=maxLen)(hc:c.size<=maxLen)(hd:d.size<=maxLen)(hs:s.size<=maxLen)(ga:a'.size<=maxLen)(gb:b'.size<=maxLen)(gr:r'.size<=maxLen)(gc:c'.size<=maxLen)(gd:d'.size<=maxLen)(gs:s'.size<=maxLen):
  Calls prog 106 #[.agg #[.string a,.string b,.string r,.string c,.string d,.string s],.agg #[.string a',.string b',.string r',.string c',.string d',.string s']] w fun e w'=>e=.returned (.int .i64 (Je a b r c d s a' b' r' c' d' s'))/\ae w w':=by
 have H0:=Ta a b r c d s a' b' r' c' d' s' w _ rfl;go_enter func106,ntmps106;go_wp2_with fail
 go_region_held3 (fun w'=>w'.cell? ⟨w.heap.size,0,none⟩=some (.string a)/\w'.cell? ⟨w.heap.size,1,none⟩=some (.string b)/\w'.cell? ⟨w.heap.size,2,none⟩=some (.string r)/\w'.cell? ⟨w.heap.size,3,none⟩=some (.string c)/\w'.cell? ⟨w.heap.size,4,none⟩=some (.string d)/\w'.cell? ⟨w.heap.size,5,none⟩=some (.string s)/\w'.cell? ⟨w.heap.size+1,0,none⟩=some (.string a')/\w'.cell? ⟨w.heap.size+1,1,none⟩=some (.string b')/\w'.cell? ⟨w.heap.size+1,2,none⟩=some (.string r')/\w'.cell? ⟨w.heap.size+1,3,none⟩=some (.string c')/\w'.cell? ⟨w.heap.size+1,4,none⟩=some (.string d')/\w'.cell? ⟨w.heap.size+1,5,none⟩=some (.string s')/\w.heap.size<w'.heap.size/\w.heap.size+1<w'.heap.size/\ae w w')
  (first|assumption|exact Jd (Va _) (by assumption) hbx|exact H0)
  (first|(go_at_call 160;refine(yZ _ _ _ _ _ _ _ (by assumption) (by assumption) (by assumption) (by assumption) (by assumption) (by assumption)).mono ?_;rintro e w' ⟨rfl,hbx⟩)|(go_at_call 159;refine(Tryz.strings_Compare _ _ _).mono ?_;rintro e w' ⟨rfl,rfl⟩))
 rename_i hH;obtain⟨-,-,-,-,-,-,-,-,-,-,-,-,-,-,gB⟩:=hH;go_wp2;go_ret;exact⟨rfl,gB⟩
def gM(a b r c d s a' b' r' c' d' s':ByteArray):Bool:=cO a b r c d s&&cO a' b' r' c' d' s'&&Op.bytesLess (bi a b r c d s).toList (bi a' b' r' c' d' s').toList
theorem Am{a b r c d s a' b' r' c' d' s':ByteArray}(h:cO a b r c d s=false):gM a b r c d s a' b' r' c' d' s'=false:=by simp[gM,h]
theorem Ao{a b r c d s a' b' r' c' d' s':ByteArray}(h:cO a' b' r' c' d' s'=false):gM a b r c d s a' b' r' c' d' s'=false:=by simp[gM,h]
theorem ul{a b r c d s a' b' r' c' d' s':ByteArray}(h:cO a b r c d s=true)(h2:cO a' b' r' c' d' s'=true):gM a b r c d s a' b' r' c' d' s'=Op.bytesLess (bi a b r c d s).toList (bi a' b' r' c' d' s').toList:=by simp[gM,h,h2]
theorem Jf{a b r c d s a' b' r' c' d' s':ByteArray}(h:cO a b r c d s=true)(h2:cO a' b' r' c' d' s'=true):gM a b r c d s a' b' r' c' d' s'=decide (Je a b r c d s a' b' r' c' d' s'<0):=by
 rw[ul h h2,Je,vG,Go.ByteArray.toList_eq,Go.ByteArray.toList_eq]
theorem nQ(a b r c d s a' b' r' c' d' s':bW)(w:af)(ha:a.size<=maxLen)(hb:b.size<=maxLen)(hr:r.size<=maxLen)(hc:c.size<=maxLen)(hd:d.size<=maxLen)(hs:s.size<=maxLen)(ga:a'.size<=maxLen)(gb:b'.size<=maxLen)(gr:r'.size<=maxLen)(gc:c'.size<=maxLen)(gd:d'.size<=maxLen)(gs:s'.size<=maxLen):
  Calls prog 137 #[.agg #[.string a,.string b,.string r,.string c,.string d,.string s],.agg #[.string a',.string b',.string r',.string c',.string d',.string s']] w fun e w'=>e=.returned (.bool (gM a b r c d s a' b' r' c' d' s'))/\ae w w':=by
 have H0:=Ta a b r c d s a' b' r' c' d' s' w _ rfl;by_cases h1:cO a b r c d s=true
 ·by_cases h2:cO a' b' r' c' d' s'=true
  ·have HT:Hid (gM a b r c d s a' b' r' c' d' s'=_):=ul h1 h2;go_enter func137,ntmps137;go_wp2_with fail
   go_region_held3 (fun w'=>w'.cell? ⟨w.heap.size,0,none⟩=some (.string a)/\w'.cell? ⟨w.heap.size,1,none⟩=some (.string b)/\w'.cell? ⟨w.heap.size,2,none⟩=some (.string r)/\w'.cell? ⟨w.heap.size,3,none⟩=some (.string c)/\w'.cell? ⟨w.heap.size,4,none⟩=some (.string d)/\w'.cell? ⟨w.heap.size,5,none⟩=some (.string s)/\w'.cell? ⟨w.heap.size+1,0,none⟩=some (.string a')/\w'.cell? ⟨w.heap.size+1,1,none⟩=some (.string b')/\w'.cell? ⟨w.heap.size+1,2,none⟩=some (.string r')/\w'.cell? ⟨w.heap.size+1,3,none⟩=some (.string c')/\w'.cell? ⟨w.heap.size+1,4,none⟩=some (.string d')/\w'.cell? ⟨w.heap.size+1,5,none⟩=some (.string s')/\w.heap.size<w'.heap.size/\w.heap.size+1<w'.heap.size/\ae w w')
    (first|assumption|exact Jd (Va _) (by assumption) hbx|exact H0)
    (first|(go_at_call_of 127 (Value.agg #[.string a,.string b,.string r,.string c,.string d,.string s]);refine(d9 a b r c d s _ ha hb hr hc hd hs).mono ?_;rintro e w' ⟨he,hbx⟩;rw[h1]at he;subst he)|(go_at_call_of 127 (Value.agg #[.string a',.string b',.string r',.string c',.string d',.string s']);refine(d9 a' b' r' c' d' s' _ ga gb gr gc gd gs).mono ?_;rintro e w' ⟨he,hbx⟩;rw[h2]at he;subst he)|(go_at_call 195;refine(yY _ _ _ _ _ _ _ (by assumption) (by assumption) (by assumption) (by assumption) (by assumption) (by assumption)).mono ?_;rintro e w' ⟨rfl,hbx⟩))
   rename_i hH;obtain⟨-,-,-,-,-,-,-,-,-,-,-,-,-,-,gB⟩:=hH;clear H0;go_wp2;go_ret;exact⟨ah HT.out.symm,gB⟩
  have h2':cO a' b' r' c' d' s'=false:=by simpa using h2
  have HT:Hid (gM a b r c d s a' b' r' c' d' s'=false):=Ao h2';clear h2;obtain⟨u0,u1,u2,u3,u4,u5,u6,u7,u8,u9,u10,u11,un,um,uB⟩:=H0;go_enter func137,ntmps137;go_wp2_with fail
  go_region_with (first|(go_at_call_of 127 (Value.agg #[.string a,.string b,.string r,.string c,.string d,.string s]);refine(d9 a b r c d s _ ha hb hr hc hd hs).mono ?_;rintro e w1 ⟨he,hbx⟩;rw[h1]at he;subst he;obtain⟨k0,k1,k2,k3,k4,k5,k6,k7,k8,k9,k10,k11,kn,km,kB⟩:=Jd (Va _) ⟨u0,u1,u2,u3,u4,u5,u6,u7,u8,u9,u10,u11,un,um,uB⟩ hbx)|(go_at_call_of 127 (Value.agg #[.string a',.string b',.string r',.string c',.string d',.string s']);refine(d9 a' b' r' c' d' s' _ ga gb gr gc gd gs).mono ?_;rintro e w2 ⟨he,hby⟩;rw[h2']at he;subst he))
  all_goals clear u0 u1 u2 u3 u4 u5 u6 u7 u8 u9 u10 u11
  all_goals go_wp2
  all_goals go_ret
  all_goals exact⟨ah HT.out.symm,kB.trans (hby.mono (by omega))⟩
 have h1':cO a b r c d s=false:=by simpa using h1
 have HT:Hid (gM a b r c d s a' b' r' c' d' s'=false):=Am h1';clear h1;obtain⟨u0,u1,u2,u3,u4,u5,u6,u7,u8,u9,u10,u11,un,um,uB⟩:=H0;go_enter func137,ntmps137;go_wp2_with fail
 go_region_with (go_at_call_of 127 (Value.agg #[.string a,.string b,.string r,.string c,.string d,.string s]);refine(d9 a b r c d s _ ha hb hr hc hd hs).mono ?_;rintro e w1 ⟨he,hbx⟩;rw[h1']at he;subst he)
 all_goals clear u0 u1 u2 u3 u4 u5 u6 u7 u8 u9 u10 u11
 all_goals go_wp2
 all_goals go_ret
 all_goals exact⟨ah HT.out.symm,uB.trans (hbx.mono (by omega))⟩
theorem Ct(a b r c d s a' b' r' c' d' s':bW)(w:af)(ha:a.size<=maxLen)(hb:b.size<=maxLen)(hr:r.size<=maxLen)(hc:c.size<=maxLen)(hd:d.size<=maxLen)(hs:s.size<=maxLen)(ga:a'.size<=maxLen)(gb:b'.size<=maxLen)(gr:r'.size<=maxLen)(gc:c'.size<=maxLen)(gd:d'.size<=maxLen)(gs:s'.size<=maxLen):
  Calls prog 141 #[.agg #[.string a,.string b,.string r,.string c,.string d,.string s],.agg #[.string a',.string b',.string r',.string c',.string d',.string s']] w fun e w'=>e=.returned (.bool (gM a b r c d s a' b' r' c' d' s'))/\ae w w':=by
 by_cases h1:cO a b r c d s=true
 ·by_cases h2:cO a' b' r' c' d' s'=true
  ·have HT:Hid (gM a b r c d s a' b' r' c' d' s'=decide (Je a b r c d s a' b' r' c' d' s'<0)):=Jf h1 h2;go_enter func141,ntmps141;go_wp2_with fail;refine(fF _ _ _ _ _ _ _ ha hb hr hc hd hs).mono ?_;rintro e w1 ⟨rfl,hb1⟩;obtain⟨hc1,hf1⟩:=jY hb1;have hz1:w.heap.size+1<w1.heap.size:=by have:=hb1.size;simp at this;omega
   have hy1:w.heap.size<w1.heap.size:=by omega
   have HB1:ae w w1:=(Ak _ _ _).trans (hb1.mono (by simp;omega));go_wp2_with fail;refine(fF _ _ _ _ _ _ _ ga gb gr gc gd gs).mono ?_;rintro e w2 ⟨rfl,hb2⟩;obtain⟨hc2,hf2⟩:=jY hb2;have hz2:w.heap.size+1<w2.heap.size:=by have:=hb2.size;omega
   have hy2:w.heap.size<w2.heap.size:=by omega
   go_wp2_with fail;refine(vH _ _ _ _ _ _ _ _ _ _ _ _ _ ha hb hr hc hd hs ga gb gr gc gd gs).mono ?_;rintro e w3 ⟨rfl,hb3⟩;go_wp2;go_ret;exact⟨ah HT.out.symm,HB1.trans ((hb2.mono (by omega)).trans (hb3.mono (by omega)))⟩
  have h2':cO a' b' r' c' d' s'=false:=by simpa using h2
  have HT:Hid (gM a b r c d s a' b' r' c' d' s'=false):=Ao h2';clear h2;go_enter func141,ntmps141;go_wp2_with fail;refine(fF _ _ _ _ _ _ _ ha hb hr hc hd hs).mono ?_;rintro e w1 ⟨rfl,hb1⟩;obtain⟨hc1,hf1⟩:=jY hb1;have hz1:w.heap.size+1<w1.heap.size:=by have:=hb1.size;simp at this;omega
  have hy1:w.heap.size<w1.heap.size:=by omega
  have HB1:ae w w1:=(Ak _ _ _).trans (hb1.mono (by simp;omega));go_wp2_with fail;refine(fF _ _ _ _ _ _ _ ga gb gr gc gd gs).mono ?_;rintro e w2 ⟨rfl,hb2⟩;go_wp2;go_ret;exact⟨ah HT.out.symm,HB1.trans (hb2.mono (by omega))⟩
 have h1':cO a b r c d s=false:=by simpa using h1
 have HT:Hid (gM a b r c d s a' b' r' c' d' s'=false):=Am h1';clear h1;go_enter func141,ntmps141;go_wp2_with fail;refine(fF _ _ _ _ _ _ _ ha hb hr hc hd hs).mono ?_;rintro e w1 ⟨rfl,hb1⟩;obtain⟨hc1,hf1⟩:=jY hb1;have hz1:w.heap.size+1<w1.heap.size:=by have:=hb1.size;simp at this;omega
 have hy1:w.heap.size<w1.heap.size:=by omega
 have HB1:ae w w1:=(Ak _ _ _).trans (hb1.mono (by simp;omega));go_wp2;go_ret;exact⟨ah HT.out.symm,HB1⟩
end Go.Proofs.YtajkkeikihhejaaGreat
