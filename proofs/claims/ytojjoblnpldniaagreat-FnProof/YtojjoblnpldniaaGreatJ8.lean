/- Contracts of the law's helpers that weigh a schema. -/
import Derived.Test.YtojjoblnpldniaaGreatSq
import Derived.Test.YtojjoblnpldniaaGreatJ7
import Derived.Test.YtojjoblnpldniaaGreatJ6
open Go.Proofs.Tryz
set_option maxHeartbeats 80000000
set_option linter.defProp false
namespace Go.Proofs.YtojjoblnpldniaaGreat
open ChangeShapes WideShapes ChangeAt RowKit
open Pl
def RR.row(r:RR):List Value:=[.string r.name,.slice r.ad r.rows.length r.cap]
def TR.row(r:TR):List Value:=[.string r.name,.slice r.ad r.rows.length r.cap]
def bA(r:ER)(g:Nat):Prop:=r.e.allow≠[]/\r.adA=some ⟨g,0,none⟩
def bK(r:ER)(g:Nat):Prop:=r.e.kids≠[]/\r.adK=some ⟨g,0,none⟩
def si(r:ER)(g:Nat):Prop:=bA r g\/bK r g
structure SepE(b:Nat)(rs:Q08):Prop where
 zeroA:∀r∈rs,r.e.allow≠[]->∃g,r.adA=some ⟨g,0,none⟩
 zeroK:∀r∈rs,r.e.kids≠[]->∃g,r.adK=some ⟨g,0,none⟩
 head:∀r∈rs,¬si r b
 one:∀r∈rs,∀g,bA r g->¬bK r g
 two:∀(x y:Nat) (hx:x<rs.length) (hy:y<rs.length),x≠y->∀g,si rs[x] g->¬si rs[y] g
def Re(w:World)(P:Nat->Prop):Prop:=∀g,P g->g<w.heap.size/\nu w g
def Re.mono{P Q:Nat->Prop}{w:ag}(h:Re w P)(hq:∀g,Q g->P g):Re w Q:=fun g hg=>h g<|hq g hg
def Rf(r:RR)(g:Nat):Prop:=(r.rows≠[]/\r.ad=some ⟨g,0,none⟩) \/ ∃q∈r.rows,si q g
def WY(r:RR):Prop:=r.rows≠[]->∃b,r.ad=some ⟨b,0,none⟩/\SepE b r.rows
structure SepR(b:Nat)(rs:Q07):Prop where
 good:∀r∈rs,WY r
 head:∀r∈rs,¬Rf r b
 two:∀(x y:Nat) (hx:x<rs.length) (hy:y<rs.length),x≠y->∀g,Rf rs[x] g->¬Rf rs[y] g
def Uj(r:TR)(g:Nat):Prop:=(r.rows≠[]/\r.ad=some ⟨g,0,none⟩) \/ ∃q∈r.rows,Rf q g
def WZ(r:TR):Prop:=r.rows≠[]->∃b,r.ad=some ⟨b,0,none⟩/\SepR b r.rows
structure SepT(b:Nat)(rs:Q06):Prop where
 good:∀r∈rs,WZ r
 head:∀r∈rs,¬Uj r b
 two:∀(x y:Nat) (hx:x<rs.length) (hy:y<rs.length),x≠y->∀g,Uj rs[x] g->¬Uj rs[y] g
def Rh(b:Nat)(w:World)(qs:Q08):Prop:=SepE b qs/\∀q∈qs,∀g,si q g->b<g/\g<w.heap.size/\nu w g
def Rh.nil(b:Nat)(w:ag):Rh b w []:=by
 refine⟨⟨?_,?_,?_,?_,?_⟩,?_⟩
 ·intro r hr;cases hr
 ·intro r hr;cases hr
 ·intro r hr;cases hr
 ·intro r hr;cases hr
 ·intro x y hx;exact absurd hx<|YG _
 intro r hr;cases hr
def Xa(b:Nat)(w:World)(qs:Q07):Prop:=SepR b qs/\∀q∈qs,∀g,Rf q g->b<g/\g<w.heap.size/\nu w g
def Xa.nil(b:Nat)(w:ag):Xa b w []:=by
 refine⟨⟨?_,?_,?_⟩,?_⟩
 ·intro r hr;cases hr
 ·intro r hr;cases hr
 ·intro x y hx;exact absurd hx<|YG _
 intro r hr;cases hr
def Xb(b:Nat)(w:World)(qs:Q06):Prop:=SepT b qs/\∀q∈qs,∀g,Uj q g->b<g/\g<w.heap.size/\nu w g
def Xb.nil(b:Nat)(w:ag):Xb b w []:=by
 refine⟨⟨?_,?_,?_⟩,?_⟩
 ·intro r hr;cases hr
 ·intro r hr;cases hr
 ·intro x y hx;exact absurd hx<|YG _
 intro r hr;cases hr
open Maps
def Rh.add{S:Nat->Prop}{b:Nat}{wr wn:ag}{qs:Q08}(h:Rh b wr qs)(hc:Chg S wr wn)(hb:cW b wr){q:ER}(zA:q.e.allow≠[]->∃g,q.adA=some (am g))(zK:q.e.kids≠[]->∃g,q.adK=some (am g))(hone:∀g,bA q g->¬bK q g)(hq:∀g,si q g->wr.heap.size<=g/\g<wn.heap.size/\nu wn g):Rh b wn (qs++[q]):=by
 refine⟨⟨?_,?_,?_,?_,?_⟩,?_⟩
 ·intro r hr;rw[XV,XX]at hr;rcases hr with hr|rfl
  ·exact h.1.zeroA r hr
  exact zA
 ·intro r hr;rw[XV,XX]at hr;rcases hr with hr|rfl
  ·exact h.1.zeroK r hr
  exact zK
 ·intro r hr;rw[XV,XX]at hr;rcases hr with hr|rfl
  ·exact h.1.head r hr
  intro hg;have:=(hq b hg).1;omega
 ·intro r hr;rw[XV,XX]at hr;rcases hr with hr|rfl
  ·exact h.1.one r hr
  exact hone
 ·intro x y hx hy hne g hgx hgy;rw[XT,Yr]at hx hy;by_cases ex:x<qs.length
  ·rw[Yo ex]at hgx;by_cases ey:y<qs.length
   ·rw[Yo ey]at hgy;exact h.1.two x y ex ey hne g hgx hgy
   rw[YC cq]at hgy;have e1:=(hq g<|by simpa using hgy).1;have e2:=(h.2 _ (XI ex) g hgx).2.1;omega
  rw[YC cq]at hgx;have e1:=(hq g<|by simpa using hgx).1;have ey:y<qs.length:=cq
  rw[Yo ey]at hgy;have e2:=(h.2 _ (XI ey) g hgy).2.1;omega
 intro r hr g hg;rw[XV,XX]at hr;rcases hr with hr|rfl
 ·obtain⟨a1,a2,a3⟩:=h.2 r hr g hg;exact⟨a1,XJ a2 hc.size,hc.free g a2 a3⟩
 obtain⟨a1,a2,a3⟩:=hq g hg;exact⟨cq,a2,a3⟩
def Xc{w:ag}{base n:Nat}{v:Value}{xs:Q0a}(h:w.ownsRow base 216 2 v n<|pairs xs)(hn:n=xs.length):∃ad cap,v=.slice ad xs.length cap/\mJ w ad xs/\(xs≠[]->∃g,ad=some (am g))/\∀g,xs≠[]->ad=some (am g)->base<=g/\g<w.heap.size/\nu w g:=by
 subst hn;have h2:=h;rcases h.2 with⟨rfl,h0⟩|⟨g,cap,cur,rfl,hbg,hg,hnc,-⟩
 ·have hx:xs=[]:=X0.1 h0;subst hx;exact⟨none,0,rfl,.inl rfl,fun h=>absurd rfl h,fun _ h=>absurd rfl h⟩
 have hlt:=h2.lt g rfl;refine⟨some<|am g,cap,rfl,.inr ⟨g,0,rfl,hlt.2,fun i hi=>?_⟩,fun _=>⟨g,rfl⟩,fun g' _ e=>?_⟩
 ·have hl:=yh xs;obtain⟨p0,p1⟩:=A7 xs i hi;refine⟨?_,?_⟩
  ·rw[h2.cellAt (0+i*2) cq,Yg];exact p0
  rw[h2.cellAt (0+i*2+1) cq,Yg];exact p1
 injection e with e;injection e with e1 e2;subst e1;exact⟨hlt.1,hlt.2,fun y=>h2.frozenAt y⟩
def Xd{w:ag}{base n:Nat}{v:Value}{zs:List Int}(h:w.ownsRow base 2 1 v n<|ints zs)(hn:n=zs.length):∃ad cap,v=.slice ad zs.length cap/\uW w ad zs/\(zs≠[]->∃g,ad=some (am g))/\∀g,zs≠[]->ad=some (am g)->base<=g/\g<w.heap.size/\nu w g:=by
 subst hn;have h2:=h;rcases h.2 with⟨rfl,h0⟩|⟨g,cap,cur,rfl,hbg,hg,hnc,-⟩
 ·have hx:zs=[]:=X0.1 h0;subst hx;exact⟨none,0,rfl,.inl rfl,fun h=>absurd rfl h,fun _ h=>absurd rfl h⟩
 have hlt:=h2.lt g rfl;refine⟨some<|am g,cap,rfl,.inr ⟨g,0,rfl,hlt.2,fun i hi=>?_⟩,fun _=>⟨g,rfl⟩,fun g' _ e=>?_⟩
 ·rw[h2.cellAt (0+i) cq,Yg];simp[ints,hi]
 injection e with e;injection e with e1 e2;subst e1;exact⟨hlt.1,hlt.2,fun y=>h2.frozenAt y⟩
def mJ.grown{w w':ag}{row:Option Nat}{ad:Q02}{xs:Q0a}(h:mJ w ad xs)(hg:w.grownBy w' row)(hn:∀g o,xs≠[]->ad=some (ap g o)->some g≠row):mJ w' ad xs:=by
 rcases h with h|⟨b,off,e,hb,hr⟩
 ·exact .inl h
 by_cases hx:xs=[]
 ·exact .inl hx
 exact .inr ⟨b,off,e,XJ hb hg.size,fun i hi=>⟨hg.cell (hr i hi).1<|hn b off hx e,hg.cell (hr i hi).2<|hn b off hx e⟩⟩
def uW.grown{w w':ag}{row:Option Nat}{ad:Q02}{zs:List Int}(h:uW w ad zs)(hg:w.grownBy w' row)(hn:∀g o,zs≠[]->ad=some (ap g o)->some g≠row):uW w' ad zs:=by
 rcases h with h|⟨b,off,e,hb,hr⟩
 ·exact .inl h
 by_cases hx:zs=[]
 ·exact .inl hx
 exact .inr ⟨b,off,e,XJ hb hg.size,fun i hi=>hg.cell (hr i hi)<|hn b off hx e⟩
structure Beside(w:World)(v:Value)(q:ER):Prop where
 ok:q.ok w
 zA:q.e.allow≠[]->∃g,q.adA=some ⟨g,0,none⟩
 zK:q.e.kids≠[]->∃g,q.adK=some ⟨g,0,none⟩
 lt:∀g,si q g->g<w.heap.size/\v.ownBlock≠some g
def Beside.below{w w':ag}{v:Value}{q:ER}(h:Beside w v q)(hb:ae w w'):Beside w' v q :=
 ⟨h.ok.below hb,h.zA,h.zK,fun g hg=>⟨XJ (h.lt g hg).1 hb.size,(h.lt g hg).2⟩⟩
def Beside.grown{w w':ag}{v v':Value}{q:ER}(h:Beside w v q)(hg:w.grownBy w' v.ownBlock)(hv:v'.ownBlock=v.ownBlock\/v'.ownBlock=some w.heap.size):Beside w' v' q:=by
 refine⟨⟨h.ok.1.grown hg fun g o hne e=>?_,h.ok.2.grown hg fun g o hne e=>?_⟩,h.zA,h.zK,fun g hi=>⟨XJ (h.lt g hi).1 hg.size,?_⟩⟩
 ·obtain⟨g0,e0⟩:=h.zA hne;rw[e0]at e;injection e with e;injection e with e1 e2;subst e1;exact fun e=>(h.lt g0<|.inl ⟨hne,e0⟩).2 e.symm
 ·obtain⟨g0,e0⟩:=h.zK hne;rw[e0]at e;injection e with e;injection e with e1 e2;subst e1;exact fun e=>(h.lt g0<|.inr ⟨hne,e0⟩).2 e.symm
 rcases hv with e|e
 ·rw[e];exact(h.lt g hi).2
 rw[e];intro e2;injection e2 with e2;have:=(h.lt g hi).1;omega
def Vq{w:ag}{base n:Nat}{v:Value}{qs:Q08}(h:w.ownsRow base 43 5 v n<|kH qs)(hn:n=qs.length)(hok:∀q∈qs,q.ok w):∃ad cap,v=.slice ad qs.length cap/\iE w ad qs:=by
 subst hn;have h2:=h;rcases h.2 with⟨rfl,h0⟩|⟨g,cap,cur,rfl,hbg,hg,hnc,-⟩
 ·exact⟨none,0,by rw[h0],.inl<|X0.1 h0⟩
 have hlt:=h2.lt g rfl;refine⟨some<|am g,cap,rfl,.inr ⟨g,0,rfl,hlt.2,fun i hi=>?_,hok⟩⟩;have hl:=yj qs;have key:∀j,j<5->w.cell? (ap g<|0+i*5+j)=(qs[i]).row[j]?:=fun j hj=>by
  rw[h2.cellAt (0+i*5+j) cq,<-A8 qs i hi j hj,Yg]
 exact⟨key 0 cq,key 1 cq,key 2 cq,key 3 cq,key 4 cq⟩
def Oz(w:ag)(q:ER):∀j u,q.row[j]?=some u->(w.alloc<|.cells (cU q) 43).cell? ((⟨w.heap.size,0,none⟩:Addr).add j)=some u:=by
 intro j u hu;rw[show(⟨w.heap.size,0,none⟩:Addr).add j=⟨w.heap.size,0+j,none⟩ by simp[Addr.add];omega,Yg];have:=World.cell?_alloc_mark w (cU q) 43 (0,0) j;rw[this];simpa[ER.row] using hu
def Ri(q:ER):∀u∈q.row,u.oneCell'=true:=by
 intro u hu;simp[ER.row]at hu;rcases hu with rfl|rfl|rfl|rfl|rfl<;>rfl
set_option maxRecDepth 100000
def mJ.heap{w w':ag}{ad:Q02}{xs:Q0a}(h:mJ w ad xs)(hs:cY w w')(hz:xs≠[]->∃g,ad=some (am g))(hn:∀g,xs≠[]->ad=some (am g)->w'.heap[g]?=w.heap[g]?):mJ w' ad xs:=by
 rcases h with h|⟨b,off,e,hb,hr⟩
 ·exact .inl h
 by_cases hx:xs=[]
 ·exact .inl hx
 obtain⟨g,eg⟩:=hz hx;have e2:=e;rw[eg]at e;injection e with e;injection e with e1 e3;subst e1;have hh:=hn g hx eg;exact .inr ⟨g,off,e2,XJ hb hs,fun i hi=>⟨(Yf (w:=w) (a:=⟨g,_,none⟩) hh).trans (hr i hi).1,(Yf (w:=w) (a:=⟨g,_,none⟩) hh).trans (hr i hi).2⟩⟩
def uW.heap{w w':ag}{ad:Q02}{xs:List Int}(h:uW w ad xs)(hs:cY w w')(hz:xs≠[]->∃g,ad=some (am g))(hn:∀g,xs≠[]->ad=some (am g)->w'.heap[g]?=w.heap[g]?):uW w' ad xs:=by
 rcases h with h|⟨b,off,e,hb,hr⟩
 ·exact .inl h
 by_cases hx:xs=[]
 ·exact .inl hx
 obtain⟨g,eg⟩:=hz hx;have e2:=e;rw[eg]at e;injection e with e;injection e with e1 e3;subst e1;have hh:=hn g hx eg;exact .inr ⟨g,off,e2,XJ hb hs,fun i hi=>(Yf (w:=w) (a:=⟨g,_,none⟩) hh).trans<|hr i hi⟩
def tX{w w':ag}{q:ER}(h:q.ok w)(hs:cY w w')(zA:q.e.allow≠[]->∃g,q.adA=some (am g))(zK:q.e.kids≠[]->∃g,q.adK=some (am g))(hn:∀g,si q g->w'.heap[g]?=w.heap[g]?):q.ok w' :=
 ⟨h.1.heap hs zA fun g h1 h2=>hn g<|.inl ⟨h1,h2⟩,h.2.heap hs zK fun g h1 h2=>hn g<|.inr ⟨h1,h2⟩⟩
def dD{w w':ag}{g:Nat}(h:nu w g)(hh:w'.heap[g]?=w.heap[g]?):nu w' g:=fun j=>(World.frozen?_of_block (w:=w) (a:=⟨g,j,none⟩) hh).trans<|h j
def ku{w w':ag}{base:Nat}{e:TypeId}{size:Nat}{v:Value}{n:Nat}{xs:Q03}(h:w.ownsRow base e size v n xs)(hh:∀g,v.ownBlock=some g->w'.heap[g]?=w.heap[g]?):w'.ownsRow base e size v n xs:=by
 refine⟨h.1,?_⟩;rcases h.2 with hl|⟨g,cap,cur,rfl,h1,h2,h3⟩
 ·exact .inl hl
 exact .inr ⟨g,cap,cur,rfl,h1,(hh g rfl).trans h2,h3⟩
structure NewQ(X:Nat)(w:World)(q:ER):Prop where
 zA:q.e.allow≠[]->∃g,q.adA=some ⟨g,0,none⟩
 zK:q.e.kids≠[]->∃g,q.adK=some ⟨g,0,none⟩
 ok:q.ok w
 lie:∀g,si q g->X<=g/\g<w.heap.size/\nu w g
 one:∀g,bA q g->¬bK q g
 cA:q.e.allow.length<=q.capA
def Lm(qs:Q08)(q:ER):kH (qs++[q])=kH qs++q.row:=by simp[kH]
structure Onl(R:Nat)(v:Value)(w w':World):Prop where
 os:w'.os=w.os
 tape:w'.tape=w.tape
 output:w'.output=w.output
 size:w.heap.size<=w'.heap.size
 block:∀k,k<w.heap.size->k≠R->v.ownBlock≠some k->w'.heap[k]?=w.heap[k]?
def ER.cells(q:ER):Array Value:=#[.int .i64 q.e.kind,.slice q.adA q.e.allow.length q.capA,.string q.e.over,.string q.e.name,.slice q.adK q.e.kids.length q.capK]
def Cq{w:ag}{a:Addr}{v:Value}(h:w.cell? a=some v)(o:Obj):(w.alloc o).cell? a=some v:=by
 have hlt:=World.block_lt_of_cell? w a h;rw[((XL w.heap.size w).alloc (XK _) o).cell hlt];exact h
def Ah(w:World)(g:Nat)(q:ER):Prop:=w.cell? ⟨g,0,none⟩=some (.int .i64 q.e.kind)/\w.cell? ⟨g,1,none⟩=some (.slice q.adA q.e.allow.length q.capA)/\w.cell? ⟨g,2,none⟩=some (.string q.e.over)/\w.cell? ⟨g,3,none⟩=some (.string q.e.name)/\w.cell? ⟨g,4,none⟩=some (.slice q.adK q.e.kids.length q.capK)/\g<w.heap.size
def Ah.grown{w w':ag}{g:Nat}{q:ER}{row:Option Nat}(h:Ah w g q)(hg:w.grownBy w' row)(hne:some g≠row):Ah w' g q :=
 ⟨hg.cell h.1 hne,hg.cell h.2.1 hne,hg.cell h.2.2.1 hne,hg.cell h.2.2.2.1 hne,hg.cell h.2.2.2.2.1 hne,XJ h.2.2.2.2.2 hg.size⟩
def Onl.grown{R:Nat}{v:Value}{w w' w'':ag}{row:Option Nat}(h:Onl R v w w')(hg:w'.grownBy w'' row)(hr:∀k,k<w.heap.size->k≠R->v.ownBlock≠some k->some k≠row):Onl R v w w'' :=
 ⟨hg.os.trans h.os,hg.tape.trans h.tape,hg.output.trans h.output,XR h.size hg.size,fun k hk h1 h2=>(hg.block k (XJ hk h.size)<|hr k hk h1 h2).trans<|h.block k hk h1 h2⟩
def gG{W:ag}{base:Nat}{e:TypeId}{size:Nat}{v:Value}{k:Nat}{xs:Q03}(h:W.ownsRow base e size v (k+1) xs):∃g cap,v=.slice (some<|am g) (k+1) cap:=by
 rcases h.2 with⟨_,h0⟩|⟨g,cap,_,rfl,_⟩
 ·omega
 exact⟨g,cap,rfl⟩
def Onl.at_own{R:Nat}{v:Value}{w w':ag}(h:Onl R v w w')(o:Nat)(u:Value):Onl R v w (w'.setCell (ap R o) u) :=
 ⟨h.os,h.tape,h.output,by simpa using h.size,fun k hk h1 h2=>(Below.heap_setCell w' _ _ k h1).trans<|h.block k hk h1 h2⟩
def RdC.put{w:ag}{R:Nat}{s:ByteArray}{p:Nat}{bad:Bool}{v:Value}(h:RdC w R s p bad v)(u:Value):RdC (w.setCell (ap R 3) u) R s p bad u :=
 ⟨by simpa using h.lt,by rw[mO cq];exact h.c0,by rw[mO cq];exact h.c1,by rw[mO cq];exact h.c2,mS h.c3,fun j=>by simpa using h.fr j⟩
def RdC.hurt{w:ag}{R:Nat}{s:ByteArray}{p:Nat}{bad:Bool}{v:Value}(h:RdC w R s p bad v):RdC (w.setCell (ap R 2)<|.bool true) R s p true v :=
 ⟨by simpa using h.lt,by rw[mO cq];exact h.c0,by rw[mO cq];exact h.c1,mS h.c2,by rw[mO cq];exact h.c3,fun j=>by simpa using h.fr j⟩
structure GA(R:Nat)(s:ByteArray)(p:Nat)(bad:Bool)(v:Value)(base n:Nat)(xs:Q03)(q:ER)(w:World)(listed:Array Bool)(w':World):Prop where
 rd:RdC w' R s p bad v
 box:Ah w' w.heap.size q
 onl:Onl R v w w'
 own:listed.getD 7 false=false->w'.ownsRow base 43 5 v n xs
 small:listed.getD 6 false=false->w'.heap.size=w.heap.size+1
def Lp{listed:Array Bool}{i L:Nat}(h:listed.getD i true=false)(hs:listed.size=L)(hi:i<L):listed.getD i false=false:=by
 rw[<-kK cq];exact h
def GA.step{R:Nat}{s:ByteArray}{p:Nat}{bad:Bool}{v:Value}{base n:Nat}{xs:Q03}{q:ER}{w w':ag}{listed:Array Bool}(h:GA R s p bad v base n xs q w listed w'){i:Nat}(hls:listed.size=11)(h6:i≠6)(h7:i≠7):GA R s p bad v base n xs q w (listed.setIfInBounds i true) w' :=
 ⟨h.rd,h.box,h.onl,fun k=>h.own (by
  by_cases hi:i<11
  ·rw[aV _ _ _ cq,if_neg<|Ne.symm h7]at k;exact k
  ·rw[show listed.setIfInBounds i true=listed by rw[Array.setIfInBounds_eq_of_size_le cq]]at k;exact k),fun k=>h.small (by
  by_cases hi:i<11
  ·rw[aV _ _ _ cq,if_neg<|Ne.symm h6]at k;exact k
  rw[show listed.setIfInBounds i true=listed by rw[Array.setIfInBounds_eq_of_size_le cq]]at k;exact k)⟩
def GA.made{R:Nat}{s:ByteArray}{p:Nat}{bad:Bool}{v:Value}{base n:Nat}{xs:Q03}{q:ER}{w w':ag}{listed:Array Bool}(h:GA R s p bad v base n xs q w listed w'){i:Nat}(hls:listed.size=11){o:Obj}(hi:i=6:=by rfl):GA R s p bad v base n xs q w (listed.setIfInBounds i true) (w'.alloc o):=by
 subst hi;have hg:=World.grownBy_alloc w' o none;refine⟨h.rd.grown hg ct,h.box.grown hg ct,h.onl.grown hg ct,fun k=>(h.own ?_).alloc _,fun k=>?_⟩
 ·rw[aV _ _ _ cq,if_neg cq]at k;exact k
 rw[aV _ _ _ cq,if_pos rfl]at k;cases k
def VA(l:Q03)(base n:Nat)(v:Value)(q:ER)(xs:Q03)(w:World)(k:Nat)(u:Value)(w':World):Prop :=
 (k≠6/\k≠7->u=l.getD k undef) /\
 (k=6->u=.slice (some ⟨w.heap.size+1,0,none⟩) 1 1/\(∀j x,q.row[j]?=some x->w'.cell? ((⟨w.heap.size+1,0,none⟩:Addr).add j)=some x)/\w.heap.size+1<w'.heap.size) /\
 (k=7->∃g cap,u=.slice (some ⟨g,0,none⟩) (n+1) cap/\w'.ownsRow base 43 5 (.slice (some ⟨g,0,none⟩) (n+1) cap) (n+1) (xs++q.row)/\(v.ownBlock=some g\/w.heap.size<=g))
def VA.at{l:Q03}{base n:Nat}{v:Value}{q:ER}{xs:Q03}{w:ag}{k:Nat}{u:Value}{w':ag}(h:k≠6/\k≠7)(hu:u=l.getD k undef):VA l base n v q xs w k u w':=⟨fun _=>hu,fun e=>absurd e h.1,fun e=>absurd e h.2⟩
def VA.alloc{l:Q03}{base n:Nat}{v:Value}{q:ER}{xs:Q03}{w w':ag}{i:Nat}{o:Obj}:∀k u,k≠i->VA l base n v q xs w k u w'->VA l base n v q xs w k u (w'.alloc o):=fun k u _ h =>
 ⟨h.1,fun e=>⟨(h.2.1 e).1,fun j x hj=>Cq ((h.2.1 e).2.1 j x hj) o,XJ (h.2.1 e).2.2 ct⟩,fun e=>by obtain⟨g,cap,e1,e2,e3⟩:=h.2.2 e;exact⟨g,cap,e1,e2.alloc _,e3⟩⟩
def GA.appended{R:Nat}{s:ByteArray}{p:Nat}{bad:Bool}{v:Value}{base n:Nat}{xs:Q03}{q:ER}{w w' w'':ag}{listed:Array Bool}(h:GA R s p bad v base n xs q w listed w')(hls:listed.size=11)(hg:w'.grownBy w'' v.ownBlock)(hR:v.ownBlock≠some R)(hX:v.ownBlock≠some w.heap.size)(hb6:w.heap.size+1<w'.heap.size):GA R s p bad v base n xs q w (listed.setIfInBounds 7 true) w'':=by
 refine⟨h.rd.grown hg<|Ne.symm hR,h.box.grown hg<|Ne.symm hX,h.onl.grown hg fun k _ _ h2=>Ne.symm h2,fun k=>?_,fun k=>?_⟩
 ·rw[aV _ _ _ cq,if_pos rfl]at k;cases k
 rw[aV _ _ _ cq,if_neg cq]at k;have:=h.small k;omega
def VA.app{l:Q03}{base n:Nat}{v:Value}{q:ER}{xs:Q03}{w w' w'':ag}(hg:w'.grownBy w'' v.ownBlock)(hX:v.ownBlock≠some (w.heap.size+1)):∀k u,k≠7->VA l base n v q xs w k u w'->VA l base n v q xs w k u w'':=fun k u hk h =>
 ⟨h.1,fun e=>⟨(h.2.1 e).1,fun j x hj=>hg.cell ((h.2.1 e).2.1 j x hj) (by rw[show((⟨w.heap.size+1,0,none⟩:Addr).add j).block=w.heap.size+1 by unfold Addr.add;split<;>rfl];exact Ne.symm hX),XJ (h.2.1 e).2.2 hg.size⟩,fun e=>absurd e hk⟩
def Uk(R:Nat)(s:dw)(p:Nat)(bad:Bool)(v:Value)(base n:Nat)(xs:Q03)(q:ER)(w:ag)(h:RdC w R s p bad v)(hown:w.ownsRow base 43 5 v n xs)(hR:R<base)(hB:cV base w)(hn:n<=100000):
  Calls prog 326 #[.pointer (some<|am R),q.val] w fun e w'=>∃(g cap:Nat),e=.returned (.int .i64 (n:Int))/\RdC w' R s p (bad || decide (15<n+1)) (.slice (some<|am g) (n+1) cap)/\w'.ownsRow base 43 5 (.slice (some<|am g) (n+1) cap) (n+1) (xs++q.row)/\Onl R v w w'/\(v.ownBlock=some g\/w.heap.size<=g):=by
 obtain⟨iT,hiT,zT0,zT1,zT2⟩:=info_parts (P:=prog) (e:=43) (z:=.agg #[.int .i64 0,.slice none 0 0,.string ⟨#[]⟩,.string ⟨#[]⟩,.slice none 0 0]) (size:=5) (bytes:=88) cw;have HIT:=ak<|And.intro hiT<|And.intro zT0<|And.intro zT1 zT2;have H:=ak h;have HO:=ak hown;have hlt:=h.lt;clear h hown hiT zT0 zT1 zT2;have hne:v.ownBlock≠some R:=fun e=>by have:=(HO.lt R e).1;omega
 have HNE:=ak hne;have HNX:O (v.ownBlock≠some w.heap.size):=fun e=>by have:=(HO.lt _ e).2;omega
 have HNX1:O (v.ownBlock≠some (w.heap.size+1)):=fun e=>by have:=(HO.lt _ e).2;omega
 clear hne;unfold ER.val;obtain⟨W0,hW0⟩:=eQx<|w.alloc<|.cells (cU q) 43;have HG0:O (GA R s p bad v base n xs q w (Array.replicate 11 false) W0.drew):=by
  have hg:=World.grownBy_alloc w (.cells (cU q) 43) none;show GA _ _ _ _ _ _ _ _ _ _ _ _;rw[hW0];refine⟨(H.grown hg ct).drewN 1,⟨?_,?_,?_,?_,?_,?_⟩,⟨rfl,rfl,rfl,by simp[World.drew],fun k hk _ _=>hg.block k hk ct⟩,fun _=>(HO.alloc _).drew,fun _=>by simp[World.drew]⟩<;>simp
 go_enter func326,ntmps326;go_wp2_with fail;rw[<-hW0];clear hW0;refine mX 10 _ _ (VA (Value.pointer (some<|am R)::.pointer (some<|am R)::.pointer (some<|am R)::.pointer (some<|ap R 3)::v::.agg (cU q)::.slice (some<|am<|w.heap.size+1) 1 1::undef::.pointer (some<|am R)::.pointer (some<|ap R 3)::[]) base n v q xs w) (GA R s p bad v base n xs q w) cw rfl (by decide +kernel) (by decide +kernel) (H7 [(5,[0,1,2,3,4,5,6,7,8,9])]) HG0 ?stepA ?finA<;>dsimp only[Et];case stepA =>
  rintro i hi o ho listed f w' hls hli hG hpre;have HG:=ak hG;have HM:O (∀e∈o.after,Region.binds .any e=true->_):=hpre;clear hG hpre;have hc:=H8 (i:=i) cq;clear hi
  repeat' rcases hc with rfl|hc
  ·cases ho;have HS:=ak<|HG.step (i:=0) hls cv cv;refine af rfl fun K HK=>?_;clear HM;dsimp only;go_simp;exact HK _ _ ⟨Value.pointer<|some ⟨R,0,none⟩,by simp[upd],HS,VA.at cv rfl,fun k u _ hu=>hu⟩
  ·cases ho;have HS:=ak<|HG.step (i:=1) hls cv cv;refine af rfl fun K HK=>?_;clear HM;dsimp only;go_simp;exact HK _ _ ⟨Value.pointer<|some ⟨R,0,none⟩,by simp[upd],HS,VA.at cv rfl,fun k u _ hu=>hu⟩
  ·cases ho;have e1:f 1=Value.pointer (some<|am R):=(HM ⟨1,.data⟩ ct rfl).1 cv;have HS:=ak<|HG.step (i:=2) hls cv cv;refine af rfl fun K HK=>?_;clear HM;simp only[e1];go_simp;exact HK _ _ ⟨Value.pointer<|some ⟨R,0,none⟩,by simp[upd,e1],HS,VA.at cv rfl,fun k u _ hu=>hu⟩
  ·cases ho;have e2:f 2=Value.pointer (some<|am R):=(HM ⟨2,.data⟩ ct rfl).1 cv;have HS:=ak<|HG.step (i:=3) hls cv cv;refine af rfl fun K HK=>?_;clear HM;simp only[e2];go_simp;exact HK _ _ ⟨Value.pointer<|some ⟨R,3,none⟩,by simp[upd,e2],HS,VA.at cv rfl,fun k u _ hu=>hu⟩
  ·cases ho;have e3:f 3=Value.pointer (some<|ap R 3):=(HM ⟨3,.data⟩ ct rfl).1 cv;have c3:=HG.rd.c3;have HS:=ak<|HG.step (i:=4) hls cv cv;refine af rfl fun K HK=>?_;clear HM;simp only[e3];go_simp;exact HK _ _ ⟨v,by simp[upd,e3],HS,VA.at cv rfl,fun k u _ hu=>hu⟩
  ·cases ho;obtain⟨x0,x1,x2,x3,x4,xl⟩:=HG.box;have HS:=ak<|HG.step (i:=5) hls cv cv;refine af rfl fun K HK=>?_;clear HM;dsimp only;go_simp;exact HK _ _ ⟨Value.agg<|cU q,by simp[upd],HS,VA.at cv rfl,fun k u _ hu=>hu⟩
  ·cases ho;have e5:f 5=Value.agg (cU q):=(HM ⟨5,.data⟩ ct rfl).1 cv;have hz:=HG.small<|Lp hli hls cq;have HS:O (∀o,GA R s p bad v base n xs q w (listed.setIfInBounds 6 true)<|w'.alloc o):=fun o=>HG.made (i:=6) hls;refine af rfl fun K HK=>?_;clear HM;simp only[e5];go_simp;exact HK _ _ ⟨.slice (some ⟨w'.heap.size,0,none⟩) 1 1,by simp[upd,e5],HS _,⟨fun h=>absurd rfl h.1,fun _=>⟨by rw[hz],fun j u hj=>by have:=Oz w' q j u hj;rw[hz]at this;exact this,by simp;omega⟩,fun h=>absurd h cv⟩,VA.alloc⟩
  ·cases ho;have e4:f 4=v:=(HM ⟨4,.data⟩ ct rfl).1 cv;obtain⟨e6,hnews,hb6⟩:=(HM ⟨6,.data⟩ ct rfl).2.1 rfl;replace e6:f 6=Value.slice (some<|am<|w.heap.size+1) 1 1:=e6;have hown:=HG.own<|Lp hli hls cq;clear HM;refine lZ _ rfl rfl _ _ 37 rfl base 43 iT (.agg #[.int .i64 0,.slice none 0 0,.string ⟨#[]⟩,.string ⟨#[]⟩,.slice none 0 0]) 5 88 underlying37 HIT.1 HIT.2.1 HIT.2.2.1 HIT.2.2.2 rfl cv v n xs e4 hown ⟨w.heap.size+1,0,none⟩ 1 1 q.row e6 rfl hnews (Ri q) cy cq (by have:=HG.onl.size;omega) ?_;intro v7 w7 hown7 hgr7 hat7;obtain⟨g7,c7,rfl⟩:=gG hown7;refine⟨.slice (some ⟨g7,0,none⟩) (n+1) c7,by simp[upd,e4,e6,Act.put],HG.appended hls hgr7 HNE HNX hb6,⟨fun h=>absurd rfl h.2,fun h=>absurd h cv,fun _=>⟨g7,c7,rfl,hown7,?_⟩⟩,VA.app hgr7 HNX1⟩;rcases hat7 with e|e
   ·exact .inl e.symm
   simp[Value.ownBlock]at e;exact .inr (by have:=HG.onl.size;omega)
  ·cases ho;have e0:f 0=Value.pointer (some<|am R):=(HM ⟨0,.data⟩ ct rfl).1 cv;have HS:=ak<|HG.step (i:=8) hls cv cv;refine af rfl fun K HK=>?_;clear HM;simp only[e0];go_simp;exact HK _ _ ⟨Value.pointer<|some ⟨R,0,none⟩,by simp[upd,e0],HS,VA.at cv rfl,fun k u _ hu=>hu⟩
  cases ho;have e8:f 8=Value.pointer (some<|am R):=(HM ⟨8,.data⟩ ct rfl).1 cv;have HS:=ak<|HG.step (i:=9) hls cv cv;refine af rfl fun K HK=>?_;clear HM;simp only[e8];go_simp;exact HK _ _ ⟨Value.pointer<|some ⟨R,3,none⟩,by simp[upd,e8],HS,VA.at cv rfl,fun k u _ hu=>hu⟩
 case finA =>
  rintro o ho listed f w' hG hall;cases ho;obtain⟨g,cap,e7,hown7,hat⟩:=(hall 7 cq).2.2 rfl;have e9:f 9=Value.pointer (some<|ap R 3):=(hall 9 cq).1 cv;have HR:=ak hG.rd;have HN:=ak hG.onl;have HW:=ak hown7;have HA:=ak hat;have c3:=hG.rd.c3;have f3:=hG.rd.fr 3;have hl3:=hG.rd.lt;clear hall hG hown7 hat;refine wpOp_step rfl (fun K hK=>?_);have HK:O (∀a w,_->K a w):=hK;clear hK;simp only[e7,e9];go_simp;refine HK _ _ ?_;clear HK;obtain⟨W8,hW8⟩:=eQx<|w'.setCell (ap R 3)<|.slice (some<|am g) (n+1) cap;have HR8:O (RdC W8 R s p bad<|.slice (some<|am g) (n+1) cap):=by rw[hW8];exact HR.put _
  have HN8:O (Onl R v w W8):=by rw[hW8];exact HN.at_own _ _
  have HW8:O (W8.ownsRow base 43 5 (.slice (some<|am g) (n+1) cap) (n+1)<|xs++q.row):=by rw[hW8];exact ownsRow_setCell_below HW hR _
  rw[<-hW8];clear hW8 HR HN HW c3 f3 hl3 e7 e9;have c2:=HR8.c2;have c3:=HR8.c3;have f2:=HR8.fr 2;have hl8:=HR8.lt;have hwr:IntKind.i64.wrap (((n:Int)+1)-1)=(n:Int):=by simp[IntKind.wrap,IntKind.bits,IntKind.signed];omega
  by_cases hbig:15<n+1
  ·have hd:decide ((15:Int)<(n:Int)+1)=true:=by simp;omega
   have HB:=ak hbig;clear hbig;go_wp2;exact bodyPost_ret (v:=.int .i64 (n:Int)) (by simp[results,Tryz.results326,go_sem]) rfl ⟨g,cap,rfl,by rw[show decide (15<n+1)=true from decide_eq_true HB,Bool.or_true];exact HR8.hurt,ownsRow_setCell_below HW8 hR _,HN8.at_own _ _,HA⟩
  have hd:decide ((15:Int)<(n:Int)+1)=false:=by simp;omega
  have HB:=ak hbig;clear hbig;go_wp2;exact bodyPost_ret (v:=.int .i64 (n:Int)) (by simp[results,Tryz.results326,go_sem]) rfl ⟨g,cap,rfl,by rw[show decide (15<n+1)=false from decide_eq_false HB,Bool.or_false];exact HR8,HW8,HN8,HA⟩
structure Went(R:Nat)(v:Value)(w:World)(v':Value)(w':World):Prop where
 onl:Onl R v w w'
 own:v'.ownBlock=v.ownBlock \/ ∃g,v'.ownBlock=some g/\w.heap.size<=g
def Onl.refl(R:Nat)(v:Value)(w:ag):Onl R v w w:=⟨rfl,rfl,rfl,XK _,fun _ _ _ _=>rfl⟩
def Went.refl(R:Nat)(v:Value)(w:ag):Went R v w v w:=⟨Onl.refl R v w,.inl rfl⟩
def Went.apart{R:Nat}{v v':Value}{w w':ag}(h:Went R v w v' w'){k:Nat}(hk:cW k w)(hv:v.ownBlock≠some k):v'.ownBlock≠some k:=by
 rcases h.own with e|⟨g,e,hg⟩
 ·rw[e];exact hv
 rw[e];intro h2;injection h2 with h2;omega
def Went.trans{R:Nat}{v v1 v2:Value}{w w1 w2:ag}(h:Went R v w v1 w1)(h2:Went R v1 w1 v2 w2):Went R v w v2 w2:=by
 refine⟨⟨h2.onl.os.trans h.onl.os,h2.onl.tape.trans h.onl.tape,h2.onl.output.trans h.onl.output,XR h.onl.size h2.onl.size,fun k hk h3 h4=>(h2.onl.block k (XJ hk h.onl.size) h3<|h.apart hk h4).trans<|h.onl.block k hk h3 h4⟩,?_⟩;rcases h2.own with e|⟨g,e,hg⟩
 ·rw[e];exact h.own
 exact .inr ⟨g,e,XR h.onl.size hg⟩
abbrev pK:Value:=.slice none 0 0
def Onl.any{R:Nat}{w w':ag}(h:Onl R pK w w')(v:Value):Went R v w v w':=⟨⟨h.os,h.tape,h.output,h.size,fun k hk h1 _=>h.block k hk h1<|by simp[Value.ownBlock]⟩,.inl rfl⟩
def Onl.of_grown{R:Nat}{w w':ag}(h:w.grownBy w'<|some R):Onl R pK w w':=⟨h.os,h.tape,h.output,h.size,fun k hk h1 _=>h.block k hk fun e=>h1<|by injection e⟩
def Onl.trans0{R:Nat}{w w1 w2:ag}(h:Onl R pK w w1)(h2:Onl R pK w1 w2):Onl R pK w w2:=((h.any pK).trans<|h2.any pK).onl
def Onl.of_below{R:Nat}{w w':ag}(h:ae w w'):Onl R pK w w':=⟨h.os,h.tape,h.output,h.size,fun k hk _ _=>h.block k hk⟩
def D7(w:World)(base:Nat)(q:ER):Prop:=(q.e.kids=[]/\q.adK=none/\q.capK=0)\/(q.e.kids≠[]/\w.ownsRow base 2 1 (.slice q.adK q.e.kids.length q.capK) q.e.kids.length (ints q.e.kids))
structure RdF(w:World)(R:Nat)(s:ByteArray)(st:RS)(base:Nat)(v:Value)(qs:Q08):Prop where
 rd:RdC w R s st.p st.bad v
 own:w.ownsRow base 43 5 v qs.length (kH qs)
 out:au qs=st.out
 zA:∀q∈qs,q.e.allow≠[]->∃g,q.adA=some ⟨g,0,none⟩
 zK:∀q∈qs,q.e.kids≠[]->∃g,q.adK=some ⟨g,0,none⟩
 ok:∀q∈qs,q.ok w
 lie:∀q∈qs,∀g,si q g->base<=g/\g<w.heap.size/\nu w g/\v.ownBlock≠some g
 one:∀q∈qs,∀g,bA q g->¬bK q g
 two:∀(x y:Nat) (hx:x<qs.length) (hy:y<qs.length),x≠y->∀g,si qs[x] g->¬si qs[y] g
 cA:∀q∈qs,q.e.allow.length<=q.capA
 cK:∀q∈qs,D7 w base q
def D7.heap{w w':ag}{base:Nat}{q:ER}(h:D7 w base q)(hz:q.e.kids≠[]->∃g,q.adK=some (am g))(hh:∀g,si q g->w'.heap[g]?=w.heap[g]?):D7 w' base q:=by
 rcases h with h|⟨hne,h⟩
 ·exact .inl h
 obtain⟨g,eg⟩:=hz hne;refine .inr ⟨hne,ku h fun g' hg'=>?_⟩;rw[eg]at hg';have:g=g':=by simpa[Value.ownBlock] using hg'
 subst this;exact hh g<|.inr ⟨hne,eg⟩
def D7.mono{w:ag}{base base':Nat}{q:ER}(h:D7 w base q)(hb:base'<=base):D7 w base' q:=by
 rcases h with h|⟨hne,h⟩
 ·exact .inl h
 refine .inr ⟨hne,h.1,?_⟩;rcases h.2 with hl|⟨g,cap,cur,e,h1,h2⟩
 ·exact .inl hl
 exact .inr ⟨g,cap,cur,e,XR hb h1,h2⟩
theorem RdF.over{w w':ag}{R:Nat}{s:ByteArray}{st:RS}{base:Nat}{v:Value}{qs:Q08}(h:RdF w R s st base v qs)(hR:R<base)(ho:Onl R pK w w'){p:Nat}{bad:Bool}(hr:RdC w' R s p bad v):RdF w' R s ⟨p,bad,st.out⟩ base v qs where
 rd:=hr
 own:=ku h.own fun g hg=>ho.block g (h.own.lt g hg).2 (by have:=(h.own.lt g hg).1;omega) (by simp[Value.ownBlock])
 out:=h.out
 zA:=h.zA
 zK:=h.zK
 ok q hq:=tX (h.ok q hq) ho.size (h.zA q hq) (h.zK q hq) fun g hg=>ho.block g (h.lie q hq g hg).2.1 (by have:=(h.lie q hq g hg).1;omega) (by simp[Value.ownBlock])
 lie q hq g hg:=by
  obtain⟨h1,h2,h3,h4⟩:=h.lie q hq g hg;exact⟨h1,XJ h2 ho.size,dD h3<|ho.block g h2 cq<|by simp[Value.ownBlock],h4⟩
 one:=h.one
 two:=h.two
 cA:=h.cA
 cK q hq:=(h.cK q hq).heap (h.zK q hq) fun g hg=>ho.block g (h.lie q hq g hg).2.1 (by have:=(h.lie q hq g hg).1;omega) (by simp[Value.ownBlock])
theorem OA(R:Nat)(s:dw)(st:RS)(base:Nat)(v:Value)(qs:Q08)(q:ER)(w:ag)(h:RdF w R s st base v qs)(hR:R<base)(hB:base<=w.heap.size)(hn:qs.length<=100000)
  (hq:NewQ base w q) (ZL:D7 w base q) (ha:∀g,si q g->v.ownBlock≠some g/\∀q'∈qs,¬si q' g) :
  Calls prog 326 #[.pointer (some ⟨R,0,none⟩),q.val] w fun e w'=>∃v',e=.returned (.int .i64 (st.out.length:Int))/\RdF w' R s (uz q.e st) base v' (qs++[q])/\Went R v w v' w':=by
 have hlen:qs.length=st.out.length:=by rw[<-h.out];simp[au]
 refine(Uk R s st.p st.bad v base qs.length (kH qs) q w h.rd h.own hR hB hn).mono ?_;rintro e w' ⟨g,cap,rfl,hrd,hown,honl,hat⟩;have hW:Went R v w (.slice (some ⟨g,0,none⟩) (qs.length+1) cap) w':=⟨honl,by
  rcases hat with e|e
  ·exact .inl (by rw[e];rfl)
  exact .inr ⟨g,rfl,e⟩⟩
 have keep:∀k,k<w.heap.size->base<=k->v.ownBlock≠some k->w'.heap[k]?=w.heap[k]?:=fun k h1 h2 h3=>honl.block k h1 cq h3;refine⟨.slice (some ⟨g,0,none⟩) (qs.length+1) cap,by rw[hlen],?_,hW⟩;refine⟨by unfold uz;rw[<-hlen];exact hrd,?_,?_,?_,?_,?_,?_,?_,?_,?_,?_⟩
 ·rw[XT,Yr,Lm];exact hown
 ·simp[au,uz,<-h.out]
 ·intro q' hq';rcases XV.1 hq' with h1|h1
  ·exact h.zA q' h1
  rw[XX]at h1;subst h1;exact hq.zA
 ·intro q' hq';rcases XV.1 hq' with h1|h1
  ·exact h.zK q' h1
  rw[XX]at h1;subst h1;exact hq.zK
 ·intro q' hq';rcases XV.1 hq' with h1|h1
  ·exact tX (h.ok q' h1) honl.size (h.zA q' h1) (h.zK q' h1) fun k hk=>keep k (h.lie q' h1 k hk).2.1 (h.lie q' h1 k hk).1 (h.lie q' h1 k hk).2.2.2
  rw[XX]at h1;subst h1;exact tX hq.ok honl.size hq.zA hq.zK fun k hk=>keep k (hq.lie k hk).2.1 (hq.lie k hk).1 (ha k hk).1
 ·intro q' hq' k hk;rcases XV.1 hq' with h1|h1
  ·obtain⟨a1,a2,a3,a4⟩:=h.lie q' h1 k hk;exact⟨a1,XJ a2 honl.size,dD a3<|keep k a2 a1 a4,hW.apart a2 a4⟩
  rw[XX]at h1;subst h1;obtain⟨a1,a2,a3⟩:=hq.lie k hk;exact⟨a1,XJ a2 honl.size,dD a3<|keep k a2 a1 (ha k hk).1,hW.apart a2 (ha k hk).1⟩
 ·intro q' hq';rcases XV.1 hq' with h1|h1
  ·exact h.one q' h1
  rw[XX]at h1;subst h1;exact hq.one
 ·intro x y hx hy hxy k hkx hky;rw[XT,Yr]at hx hy;by_cases ex:x<qs.length
  ·rw[Yo ex]at hkx;by_cases ey:y<qs.length
   ·rw[Yo ey]at hky;exact h.two x y ex ey hxy k hkx hky
   have:y=qs.length:=cq;subst this;rw[YC (XK _)]at hky;simp at hky;exact(ha k hky).2 _ (XI ex) hkx
  have:x=qs.length:=cq;subst this;rw[YC (XK _)]at hkx;simp at hkx;have ey:y<qs.length:=cq;rw[Yo ey]at hky;exact(ha k hkx).2 _ (XI ey) hky
 ·intro q' hq';rcases XV.1 hq' with h1|h1
  ·exact h.cA q' h1
  rw[XX]at h1;subst h1;exact hq.cA
 intro q' hq';rcases XV.1 hq' with h1|h1
 ·exact(h.cK q' h1).heap (h.zK q' h1) fun k hk=>keep k (h.lie q' h1 k hk).2.1 (h.lie q' h1 k hk).1 (h.lie q' h1 k hk).2.2.2
 rw[XX]at h1;subst h1;exact ZL.heap hq.zK fun k hk=>keep k (hq.lie k hk).2.1 (hq.lie k hk).1 (ha k hk).1
def xk(R:Nat)(s:ByteArray)(base:Nat)(v:Value)(qs:Q08)(w:World)(x:Int×RS)(e:Ending)(w':World):Prop :=
 ∃v' ns,e=.returned (.int .i64 x.1)/\RdF w' R s x.2 base v' (qs++ns)/\Went R v w v' w'/\∀q∈ns,∀g,si q g->w.heap.size<=g
def vP(s:ByteArray)(x:Int×RS):Int×RS:=if mH s fQ x.2 then (x.1,lH fQ x.2) else (x.1,wP x.2)
def Lr{s:ByteArray}{x:Int×RS}(h:ow s fQ x.2.p x.2.bad=true):vP s x=(x.1,lH fQ x.2):=if_pos h
def OB{s:ByteArray}{x:Int×RS}(h:ow s fQ x.2.p x.2.bad=false):vP s x=(x.1,wP x.2):=if_neg (fun e=>by rw[mH,<-ow,h]at e;cases e)
def RdF.is_no{w w':ag}{R:Nat}{s t:ByteArray}{st:RS}{base:Nat}{v:Value}{qs:Q08}(h:RdF w R s st base v qs)(hR:R<base)(hb:ow s t st.p st.bad=false)(hr:RdC w' R s (T9 s t st.p st.bad) st.bad v)(hg:w.grownBy w'<|some R):RdF w' R s st base v qs:=by
 rw[BL hb]at hr;exact h.over hR (Onl.of_grown hg) hr
def RdF.is_yes{w w':ag}{R:Nat}{s t:ByteArray}{st:RS}{base:Nat}{v:Value}{qs:Q08}(h:RdF w R s st base v qs)(hR:R<base)(hb:ow s t st.p st.bad=true)(hr:RdC w' R s (T9 s t st.p st.bad) st.bad v)(hg:w.grownBy w'<|some R):RdF w' R s (lH t st) base v qs:=by
 rw[wQ hb]at hr;exact h.over hR (Onl.of_grown hg) hr
def Cr{s t:ByteArray}{p:Nat}{bad:Bool}(h:ow s t p bad=true):p+t.size<=s.size:=by
 unfold ow at h;simp only[XN]at h;exact IC h.2
def Rj(R:Nat)(s:dw)(st:RS)(base:Nat)(v:Value)(qs:Q08)(w:ag)(h:RdF w R s st base v qs)(hR:R<base)(hs:s.size<=1000)(hp:st.p<=s.size)
  (h0:ow s gQ st.p st.bad=false) (h1:ow s ko st.p st.bad=true) (x:Int×RS) (hx:x.2.p<=s.size)
  (hrow:∀w1,RdF w1 R s (lH ko st) base v qs->w.heap.size<=w1.heap.size->Calls prog 297 #[.pointer (some<|am R)] w1 (xk R s base v qs w1 x)) :
  Calls prog 324 #[.pointer (some<|am R)] w (xk R s base v qs w<|vP s x):=by
 have H:=ak h;have Z0:=ak hrow;have HX:=ak hx;have HP:=ak hp;clear h hrow hx hp;go_enter func324,ntmps324;go_wp2_with fail;refine(nD R s gQ st.p st.bad v w H.rd hs HP cv).mono ?_;rintro e w1 ⟨rfl,hr1,hg1⟩;have Z8:=ak<|H.is_no hR h0 hr1 hg1;have Zj:=ak<|Onl.of_grown hg1;rw[h0];clear hr1 hg1 h0;go_wp2_with fail;refine(nD R s ko st.p st.bad v w1 Z8.rd hs HP cv).mono ?_;rintro e w2 ⟨rfl,hr2,hg2⟩;have HF2:=ak<|Z8.is_yes hR h1 hr2 hg2;have YZ:=ak<|Zj.trans0<|Onl.of_grown hg2;rw[h1];clear hr2 hg2 h1;go_wp2_with fail;refine(Z0 w2 HF2 YZ.size).mono ?_;rintro e w3 ⟨v3,ns,rfl,hF3,hW3,hns⟩;have HF3:=ak hF3;have HW3:=ak<|(YZ.any v).trans hW3;have HNS:O (∀q∈ns,∀g,si q g->w.heap.size<=g):=fun q hq g hg=>XR YZ.size<|hns q hq g hg;clear hF3 hW3 hns Z8 Zj HF2 YZ Z0;go_wp2_with fail;refine(nD R s fQ x.2.p x.2.bad v3 w3 HF3.rd hs HX cv).mono ?_;rintro e w4 ⟨rfl,hr4,hg4⟩;cases hc:ow s fQ x.2.p x.2.bad;case true=>
  have HF4:=ak<|HF3.is_yes hR hc hr4 hg4;have HW4:=ak<|HW3.trans<|(Onl.of_grown hg4).any v3;have EQ:=ak<|Lr (x:=x) hc;clear hr4 hg4 hc;go_wp2;exact bodyPost_ret (v:=.int .i64 x.1) (by simp[results,Tryz.results324,go_sem]) rfl (by rw[EQ];exact⟨v3,ns,rfl,HF4,HW4,HNS⟩)
 have HF4:=ak<|HF3.is_no hR hc hr4 hg4;have HW4:=ak<|HW3.trans<|(Onl.of_grown hg4).any v3;have c2:=HF4.rd.c2;have f2:=HF4.rd.fr 2;have hl:=HF4.rd.lt;have EQ:=ak<|OB (x:=x) hc;clear hr4 hg4 hc;go_wp2;exact bodyPost_ret (v:=.int .i64 x.1) (by simp[results,Tryz.results324,go_sem]) rfl (by rw[EQ];exact⟨v3,ns,rfl,HF4.over hR ((Onl.refl R pK w4).at_own _ _) HF4.rd.hurt,HW4.trans<|((Onl.refl R pK w4).at_own _ _).any v3,HNS⟩)
set_option linter.unusedVariables false
structure KpO(b l:Nat)(W W':World):Prop where
 size:W.heap.size<=W'.heap.size
 cells:∀(g:Nat) (cs:Array Value) (T:TypeId) (m:Nat×Nat),W.heap[g]?=some (.cells cs T m)->T≠52->T≠44->W'.heap[g]?=some (.cells cs T m)
 other:∀(g:Nat) (o:Obj),W.heap[g]?=some o->o.isCells=false->g≠l->g≠b->W'.heap[g]?=some o
structure KpI(W W':World):Prop where
 size:W.heap.size<=W'.heap.size
 cells:∀(g:Nat) (cs:Array Value) (T:TypeId) (m:Nat×Nat),W.heap[g]?=some (.cells cs T m)->T=27\/T=39->W'.heap[g]?=some (.cells cs T m)
def KpO.trans{b l:Nat}{X Y Z:ag}(h:KpO b l X Y)(k:KpO b l Y Z):KpO b l X Z :=
 ⟨XR h.size k.size,fun g cs T m hg h1 h2=>k.cells g cs T m (h.cells g cs T m hg h1 h2) h1 h2,fun g o hg hc h1 h2=>k.other g o (h.other g o hg hc h1 h2) hc h1 h2⟩
def KpI.trans{X Y Z:ag}(h:KpI X Y)(k:KpI Y Z):KpI X Z :=
 ⟨XR h.size k.size,fun g cs T m hg h1=>k.cells g cs T m (h.cells g cs T m hg h1) h1⟩
def mP{W:ag}{l g:Nat}{o':Obj}(h:g≠l):(W.putObj l o').heap[g]?=W.heap[g]?:=World.putObj_heap_other h
def KpO.put{b l:Nat}{W:ag}{o o':Obj}(h:W.heap[l]?=some o)(hc:o.isCells=false):KpO b l W (W.putObj l o') where
 size:=ct;cells g cs T m hg _ _:=by
  have:g≠l:=fun e=>by subst e;rw[h]at hg;injection hg with hg;subst hg;cases hc
  rw[mP this];exact hg
 other g x hg _ h1 _:=by rw[mP h1];exact hg
def KpI.put{l:Nat}{W:ag}{o o':Obj}(h:W.heap[l]?=some o)(hc:o.isCells=false):KpI W (W.putObj l o') where
 size:=ct;cells g cs T m hg _:=by
  have:g≠l:=fun e=>by subst e;rw[h]at hg;injection hg with hg;subst hg;cases hc
  rw[mP this];exact hg
def KpO.below{b l:Nat}{W W':ag}(h:ae W W'):KpO b l W W' :=
 ⟨h.size,fun g cs T m hg _ _=>(h.block g (XO.1 hg).1).trans hg,fun g o hg _ _ _=>(h.block g (XO.1 hg).1).trans hg⟩
def KpI.below{W W':ag}(h:ae W W'):KpI W W' :=
 ⟨h.size,fun g cs T m hg _=>(h.block g (XO.1 hg).1).trans hg⟩
def KpO.toI{b l:Nat}{W W':ag}(h:KpO b l W W'):KpI W W' :=
 ⟨h.size,fun g cs T m hg hT=>h.cells g cs T m hg (by rcases hT with e|e<;>(rw[e];decide)) (by rcases hT with e|e<;>(rw[e];decide))⟩
def Cs{W W':ag}(h:ae W W'):W.grownBy W' none:=⟨h.os,h.tape,h.output,h.size,fun k hk _=>h.block k hk⟩
def oC{β:Type}{B:Nat}{I:β->World->Prop}(h:OwnFrom B I){s:β}{W W':ag}(hs:I s W)(hb:ae W W'):I s W':=h s W W' none hs (Cs hb) (fun r e=>by cases e)
def av(fs:Q04):List Value:=fs.flatMap Fc.row
def fe:∀fs:List Fc,(av fs).length=fs.length*5
 | []=>rfl
 | f::fs=>by have:=fe fs;simp only[av,Ym,XT,Yh,Fc.row,YO]at this ⊢;omega
def kX(fs:Q04)(f:Fc):av (fs++[f])=av fs++f.row:=by simp[av]
def lQ:∀(fs:Q04) (i:Nat) (h:i<fs.length) (c:Nat),c<5->(av fs)[i*5+c]?=fs[i].row[c]?
 | [],i,h,_,_=>by simp at h
 | f::fs,0,_,c,hc=>by
  simp only[av,Ym,Nat.zero_mul,Yg,List.getElem_cons_zero];rw[YK (by simp[Fc.row];omega)]
 | f::fs,i+1,h,c,hc=>by
  have ih:=lQ fs i (by simpa using h) c hc;simp only[av,Ym,List.getElem_cons_succ]at ih ⊢;rw[YA (by simp[Fc.row];omega)];have:(i+1)*5+c-f.row.length=i*5+c:=by simp[Fc.row];omega
  rw[this];exact ih
def gV{w:ag}{base:Nat}{v:Value}{fs:Q04}(h:w.ownsRow base 52 5 v fs.length<|av fs):∃ad cap,v=.slice ad fs.length cap/\jX w ad fs:=by
 rcases h.2 with⟨rfl,h0⟩|⟨g,cap,cur,rfl,hbg,hg,hnc,-⟩
 ·exact⟨none,0,by rw[h0],.inl<|X0.1 h0⟩
 refine⟨_,cap,rfl,.inr ⟨g,0,rfl,(h.lt g rfl).2,fun i hi=>?_⟩⟩;have hl:=fe fs;have hc:∀c,c<5->w.cell? (ap g<|0+i*5+c)=fs[i].row[c]?:=fun c hc=>by
  rw[h.cellAt (0+i*5+c) cq,Yg];exact lQ fs i hi c hc
 exact⟨hc 0 cq,hc 1 cq,hc 2 cq,hc 3 cq,hc 4 cq⟩
def mI:∃i,prog.info? 52=some i/\i.zero=some (.agg ar)/\i.size=5/\i.bytes=80 :=
 info_parts (P:=prog) (e:=52) (z:=.agg ar) (size:=5) (bytes:=80) cw
def xm(w:ag)(f:Fc):∀j u,f.row[j]?=some u->(w.alloc<|.cells (cf f) 52).cell? ((⟨w.heap.size,0,none⟩:Addr).add j)=some u:=fun j u hu=>by
 match j,hu with
 | 0,hu=>simp[Fc.row]at hu;subst hu;simp[Addr.add]
 | 1,hu=>simp[Fc.row]at hu;subst hu;simp[Addr.add]
 | 2,hu=>simp[Fc.row]at hu;subst hu;simp[Addr.add]
 | 3,hu=>simp[Fc.row]at hu;subst hu;simp[Addr.add]
 | 4,hu=>simp[Fc.row]at hu;subst hu;simp[Addr.add]
structure OutI(w W wr:World)(v:Value)(out:Q04):Prop where
 row:wr.ownsRow w.heap.size 52 5 v out.length (av out)
 keep:∀g o x,W.cell? ⟨g,o,none⟩=some x->wr.cell? ⟨g,o,none⟩=some x
 size:W.heap.size<=wr.heap.size
 bel:ae w wr
 free:∀g,v.ownBlock=some g->∀o,W.cell? ⟨g,o,none⟩=none
def ax{w:ag}{g o:Nat}{x:Value}(h:w.cell? ⟨g,o,none⟩=some x):g<w.heap.size:=by
 unfold World.cell? at h;cases ho:w.heap[g]? with
 | none=>simp[ho]at h
 | some o=>exact(XO.1 ho).1
def Ul{w:ag}{g o:Nat}(h:w.heap.size<=g):w.cell? (ap g o)=none:=by
 cases e:w.cell? (ap g o) with
 | none=>rfl
 | some x=>have:=ax e;omega
def OutI.below{w W wr w':ag}{v:Value}{out:Q04}(h:OutI w W wr v out)(hb:ae wr w'):OutI w W w' v out where
 row:=aP h.row hb
 keep g o x hx:=(hb.cell (p:=⟨g,o,none⟩)<|ax<|h.keep g o x hx).trans<|h.keep g o x hx
 size:=XR h.size hb.size
 bel:=h.bel.trans<|hb.mono h.bel.size
 free:=h.free
def OutI.app{w W wr w':ag}{v v':Value}{out:Q04}{f:Fc}(h:OutI w W wr v out)(hown:bj w w' 52 5 v' (out.length+1)<|av out++f.row)(hgr:wr.grownBy w' v.ownBlock)(hat:v'.ownBlock=v.ownBlock\/v'.ownBlock=some wr.heap.size):OutI w W w' v' (out++[f]) where
 row:=by rw[kX,XT];exact hown
 keep g o x hx:=by
  have h1:=h.keep g o x hx;refine(Yf (w:=wr) (a:=⟨g,o,none⟩)<|hgr.block g (ax h1) fun e=>?_).trans h1;rw[h.free g e.symm o]at hx;cases hx
 size:=XR h.size hgr.size
 bel:=h.bel.grown hgr h.bel.size fun g hg=>(h.row.lt g hg).1
 free g hg o:=by
  rcases hat with e|e
  ·rw[e]at hg;exact h.free g hg o
  rw[hg]at e;injection e with e;rw[e];exact Ul h.size
def mJ.keepC{w w':ag}{ad:Q02}{xs:Q0a}(h:mJ w ad xs)(hs:cY w w')(hk:∀g o x,w.cell? (ap g o)=some x->w'.cell? (ap g o)=some x):mJ w' ad xs:=by
 rcases h with h|⟨b,off,e,hb,hr⟩
 ·exact .inl h
 exact .inr ⟨b,off,e,XJ hb hs,fun i hi=>⟨hk _ _ _ (hr i hi).1,hk _ _ _ (hr i hi).2⟩⟩
def KI.keepC{w w':ag}{ad:Q02}{xs:List St}(h:KI w ad xs)(hs:cY w w')(hk:∀g o x,w.cell? (ap g o)=some x->w'.cell? (ap g o)=some x):KI w' ad xs:=by
 rcases h with h|⟨b,off,e,hb,hr⟩
 ·exact .inl h
 exact .inr ⟨b,off,e,XJ hb hs,fun i hi=>⟨hk _ _ _ (hr i hi).1,hk _ _ _ (hr i hi).2.1,hk _ _ _ (hr i hi).2.2⟩⟩
def KI.at0{w:ag}{ad:Q02}{xs:List St}(h:KI w ad xs){k:Nat}(hk:k<xs.length):∃b off,ad=some (ap b off)/\WG w b (off+k*3) xs[k]/\b<w.heap.size:=by
 rcases h with h|⟨b',off',e,hb,hr⟩
 ·rw[h]at hk;simp at hk
 exact⟨b',off',e,hr k hk,hb⟩
def VV:Value->Nat
 | .slice _ n _=>n
 | _=>0
def XB:Value->Nat
 | .bool true=>1
 | _=>0
def gH(u:Bool)(ts:Q05):List Al:=if u then dA ts else fA ts
def jm(u:Bool)(xs:Q0a)(t:Tp):Nat->List Al
 | 0=>xs
 | 1=>if u then xs else fM xs ⟨t.a,t.b⟩
 | _=>if u then dQ xs t else je xs t
def Jf(u:Bool){ts:Q05}{k:Nat}(h:k<ts.length):gH u (ts.take<|k+1)=jm u (gH u<|ts.take k) ts[k] 2:=by
 rw[XM h];cases u
 ·exact Ck _ _
 exact zG _ _
def Lt(u:Bool)(ts:Q05):(gH u ts).length<=2*ts.length:=by
 cases u
 ·have key:∀(ts:Q05) (xs:Q0a),(ts.foldl je xs).length<=xs.length+2*ts.length:=by
   intro ts
   induction ts with
   | nil=>intro xs;simp
   | cons t ts ih=>intro xs;have h1:=ih<|je xs t;have h2:=rY xs t;simp only[List.foldl_cons,Yh];omega
  have:=key ts [];simpa[gH,fA] using this
 have key:∀(ts:Q05) (xs:Q0a),(ts.foldl dQ xs).length<=xs.length+ts.length:=by
  intro ts
  induction ts with
  | nil=>intro xs;simp
  | cons t ts ih=>intro xs;have h1:=ih<|dQ xs t;have h2:=rZ xs t;simp only[List.foldl_cons,Yh];omega
 have:=key ts [];simp[gH,dA]at this ⊢;omega
def Rk(u:Bool)(xs:Q0a)(t:Tp)(q:Nat):(jm u xs t q).length<=xs.length+2:=by
 match q with
 | 0=>simp[jm]
 | 1=>have:=pF xs ⟨t.a,t.b⟩;cases u<;>simp[jm];omega
 | q+2=>have h1:=rZ xs t;have h2:=rY xs t;cases u<;>simp[jm]<;>omega
def Lu{xs:Q0a}{o:Al}{k:Nat}(h:k<xs.length):pE (xs.take<|k+1) o=(pE (xs.take k) o || zH xs[k].t xs[k].s o.t o.s):=by
 unfold pE;rw[XM h,List.any_append];simp[kN,zH]
def Vr(w:ag)(o:Al):∀j u,[Value.string o.t,.string o.s][j]?=some u->(w.alloc<|.cells #[.string o.t,.string o.s] 27).cell? ((⟨w.heap.size,0,none⟩:Addr).add j)=some u:=fun j u hu=>by
 match j,hu with
 | 0,hu=>simp at hu;subst hu;simp[Addr.add]
 | 1,hu=>simp at hu;subst hu;simp[Addr.add]
def mJ.at0{w:ag}{ad:Q02}{xs:Q0a}(h:mJ w ad xs){k:Nat}(hk:k<xs.length):∃b off,ad=some (ap b off)/\Vy w b (off+k*2) xs[k]/\b<w.heap.size:=by
 rcases h with h|⟨b',off',e,hb,hr⟩
 ·rw[h]at hk;simp at hk
 exact⟨b',off',e,hr k hk,hb⟩
def uK(ad:Q02)(cap:Nat)(ts:Q05)(u:Bool)(w:ag)(hlt:ts.length<=40)(hst:Sl w ad ts):
  Calls prog 143 #[.slice ad ts.length cap,.bool u] w fun e w'=>(∃v,e=.returned v/\bj w w' 27 2 v (gH u ts).length (pairs<|gH u ts))/\ae w w':=by
 obtain⟨iO,h0,h1,h2,h3⟩:=Cj;have HIO:=aJ<|And.intro h0<|And.intro h1<|And.intro h2 h3;have HST:=aJ hst;obtain⟨W0,hW0⟩:=eQx<|w.alloc<|.cells #[] 27;have HB0:=lX hW0;have Zz:O (bj w W0 27 2 (.slice (some<|aE w) 0 0) (gH u<|ts.take 0).length<|pairs<|gH u<|ts.take 0):=by
  have e:gH u (ts.take 0)=[]:=by cases u<;>rfl
  show World.ownsRow _ _ _ _ _ _ _;rw[hW0,e];exact World.ownsRow_lit w #[] 0 (XK _) cy ct
 clear hst h0 h1 h2 h3;go_enter func143,ntmps143;go_wp2_with fail;rw[<-hW0];clear hW0;go_loopw[5,6] (fun v i wr=>∃k:Nat,k<=ts.length/\i=.int .i64 k/\O (bj w wr 27 2 v (gH u<|ts.take k).length<|pairs<|gH u<|ts.take k)/\O (ae w wr)) (fun _ i _=>ts.length-(intOf i).toNat);case atStart=>exact⟨0,XP _,rfl,Zz,HB0⟩
 clear Zz HB0;obtain⟨k,hk,rfl,HOW,Y9⟩:=hrel;by_cases hlt2:k<ts.length
 ·have HSU:=aJ<|Jf u hlt2;obtain⟨x,hx⟩:=eQx<|ts[k];obtain⟨xs,hxs⟩:=eQx<|gH u<|ts.take k;have hxl:xs.length<=80:=by have:=Lt u<|ts.take k;rw[Yc]at this;rw[hxs];omega
  rw[<-hx,<-hxs]at HSU;rw[<-hxs]at HOW;have HX:=aJ hx;have hi1:=bG k;have hi2:(k:Int)<(ts.length:Int):=cq;clear hxs hx;go_wp2;go_loopw[5,7] (fun v i w2=>∃q:Nat,q<=2/\i=.int .i64 q/\O (bj w w2 27 2 v (jm u xs x q).length<|pairs<|jm u xs x q)/\O (ae w w2)) (fun _ i _=>2-(intOf i).toNat);case atStart=>exact⟨0,cq,rfl,HOW,Y9⟩
  obtain⟨w2,rfl⟩:=eQx wr;obtain⟨q,hq,rfl,YZ,HB2⟩:=hrel;have hi1:=bG k;have hi2:(k:Int)<(ts.length:Int):=cq;have hsl:=Rk u xs x q;obtain⟨b,off,YW,⟨t0,t1,t2,t3,t4,t5⟩,hb⟩:=Sl.at0 (HST.below HB2) hlt2;rw[<-HX]at t0 t1 t2 t3 t4 t5;subst YW;by_cases hq2:q<2
  ·have hc:q=0\/q=1:=cq;rcases hc with rfl|rfl
   case' inl =>
    cases u;case true =>
     have HE:O (jm true xs x 1=jm true xs x 0):=rfl;have HR:O ((w2.alloc<|.cells #[.string x.a,.string x.b] 27).ownsRow w.heap.size 27 2 u5 (jm true xs x 1).length<|pairs<|jm true xs x 1):=by show World.ownsRow _ _ _ _ _ _ _;rw[HE];exact YZ.alloc _
     have HBR:O (ae w<|w2.alloc<|.cells #[.string x.a,.string x.b] 27):=HB2.alloc HB2.size _;go_wp2;exact⟨⟨1,cq,rfl,HR,HBR⟩,cv⟩
    obtain⟨o,ho⟩:∃o:Al,o=⟨x.a,x.b⟩:=⟨_,rfl⟩;have HOE:O (jm false xs x (0+1)=fM (jm false xs x 0) o):=by show _=_;rw[ho];rfl
    obtain⟨ys,hys⟩:=eQx<|jm false xs x 0;rw[<-hys]at HOE YZ hsl;obtain⟨ns,hns⟩:=eQx<|jm false xs x<|0+1;have ZK:O (∀(W:World) (v:Value),bj w W 27 2 v ns.length (pairs ns)->bj w W 27 2 v (jm false xs x<|0+1).length (pairs<|jm false xs x<|0+1)):=fun W v h=>by rw[<-hns];exact h
    rw[<-hns]at HOE;clear hns;clear hys;have hx1:x.a=o.t:=by rw[ho]
    have hx2:x.b=o.s:=by rw[ho]
    clear ho;obtain⟨adO,capO,rfl,hsO⟩:=nI YZ;have HSO:=aJ hsO;obtain⟨W1,hW1⟩:=eQx<|w2.alloc<|.cells #[.string o.t,.string o.s] 27;have ZF:=lX hW1;have hz1:w2.heap.size<W1.heap.size:=by rw[hW1];simp
    have d0:W1.cell? (aE w2)=some (.string o.t):=by rw[hW1];simp
    have d1:W1.cell? (a6 w2 1)=some (.string o.s):=by rw[hW1];simp
    clear hsO;go_wp2_with fail;rw[<-hW1];clear hW1 t0 t1 t2 t3 t4 t5 hx1 hx2
   case' inr =>
    cases u
    case' true =>
     cases hz:x.s.toList.isEmpty;case false =>
      have hs2:(x.s.toList==[])=false:=by rw[oz];exact hz
      have HE:O (jm true xs x 2=jm true xs x 1):=by show dQ xs x=xs;unfold dQ;rw[hs2];rfl
      have HR:O ((w2.alloc<|.cells #[.string x.c,.string x.d] 27).ownsRow w.heap.size 27 2 u5 (jm true xs x 2).length<|pairs<|jm true xs x 2):=by show World.ownsRow _ _ _ _ _ _ _;rw[HE];exact YZ.alloc _
      have HBR:O (ae w<|w2.alloc<|.cells #[.string x.c,.string x.d] 27):=HB2.alloc HB2.size _;go_wp2;exact⟨⟨2,cq,rfl,HR,HBR⟩,cv⟩
     have hs2:(x.s.toList==[])=true:=by rw[oz];exact hz
     obtain⟨o,ho⟩:∃o:Al,o=⟨x.c,x.d⟩:=⟨_,rfl⟩;have HOE:O (jm true xs x (1+1)=fM (jm true xs x 1) o):=by show _=_;rw[ho];show dQ xs x=_;unfold dQ;rw[hs2];rfl
     obtain⟨ys,hys⟩:=eQx<|jm true xs x 1;rw[<-hys]at HOE YZ hsl;obtain⟨ns,hns⟩:=eQx<|jm true xs x<|1+1;have ZK:O (∀(W:World) (v:Value),bj w W 27 2 v ns.length (pairs ns)->bj w W 27 2 v (jm true xs x<|1+1).length (pairs<|jm true xs x<|1+1)):=fun W v h=>by rw[<-hns];exact h
     rw[<-hns]at HOE;clear hns;clear hys;have hx1:x.c=o.t:=by rw[ho]
     have hx2:x.d=o.s:=by rw[ho]
     clear ho;obtain⟨adO,capO,rfl,hsO⟩:=nI YZ;have HSO:=aJ hsO;obtain⟨W1,hW1⟩:=eQx<|w2.alloc<|.cells #[.string o.t,.string o.s] 27;have ZF:=lX hW1;have hz1:w2.heap.size<W1.heap.size:=by rw[hW1];simp
     have d0:W1.cell? (aE w2)=some (.string o.t):=by rw[hW1];simp
     have d1:W1.cell? (a6 w2 1)=some (.string o.s):=by rw[hW1];simp
     clear hsO;go_wp2_with fail;rw[<-hW1];clear hW1 t0 t1 t2 t3 t4 t5 hx1 hx2
    case' false =>
     obtain⟨o,ho⟩:∃o:Al,o=⟨x.c,x.d⟩:=⟨_,rfl⟩;have HOE:O (jm false xs x (1+1)=fM (jm false xs x 1) o):=by show _=_;rw[ho];rfl
     obtain⟨ys,hys⟩:=eQx<|jm false xs x 1;rw[<-hys]at HOE YZ hsl;obtain⟨ns,hns⟩:=eQx<|jm false xs x<|1+1;have ZK:O (∀(W:World) (v:Value),bj w W 27 2 v ns.length (pairs ns)->bj w W 27 2 v (jm false xs x<|1+1).length (pairs<|jm false xs x<|1+1)):=fun W v h=>by rw[<-hns];exact h
     rw[<-hns]at HOE;clear hns;clear hys;have hx1:x.c=o.t:=by rw[ho]
     have hx2:x.d=o.s:=by rw[ho]
     clear ho;obtain⟨adO,capO,rfl,hsO⟩:=nI YZ;have HSO:=aJ hsO;obtain⟨W1,hW1⟩:=eQx<|w2.alloc<|.cells #[.string o.t,.string o.s] 27;have ZF:=lX hW1;have hz1:w2.heap.size<W1.heap.size:=by rw[hW1];simp
     have d0:W1.cell? (aE w2)=some (.string o.t):=by rw[hW1];simp
     have d1:W1.cell? (a6 w2 1)=some (.string o.s):=by rw[hW1];simp
     clear hsO;go_wp2_with fail;rw[<-hW1];clear hW1 t0 t1 t2 t3 t4 t5 hx1 hx2
   all_goals
    go_loopw[9,10] (fun ov j w3=>∃(m:Nat) (bb:Bool),m<=ys.length/\ov=.bool bb/\j=.int .i64 m/\O (bb=pE (ys.take m) o)/\O (ae W1 w3)) (fun _ j _=>ys.length-(intOf j).toNat);case atStart=>exact⟨0,false,XP _,rfl,rfl,rfl,XL _ _⟩
    obtain⟨m,bb,hm,rfl,rfl,HBB,HB3⟩:=hrel;have HBx:O (ae w2 wr):=ZF.trans<|HB3.mono ZF.size;have HBw:O (ae w wr):=HB2.trans<|HBx.mono HB2.size;have HOx:=aJ<|aP YZ HBx;have c0:=mK HB3 hz1 d0;have c1:=mK HB3 hz1 d1;have hz3:cX w2 wr:=XJ hz1 HB3.size;by_cases hlm:m<ys.length
    ·obtain⟨bO,ZU,hadO,⟨s0,s1⟩,hbO⟩:=mJ.at0 (HSO.below HBx) hlm;have hm1:=bG m;have hm2:(m:Int)<(ys.length:Int):=cq;have HTK:=aJ<|Lu (o:=o) hlm;cases bb;case true=>
      have HBB2:O (true=pE (ys.take<|m+1) o):=by show _=_;rw[HTK,<-HBB];rfl
      clear s0 s1 c0 c1;go_wp2_with fail;go_quiet (fail);go_wp2;go_roundw;case rel=>exact⟨m+1,true,cq,rfl,cx,HBB2,below_drewN HB3 _⟩
      simp[intOf]<;>omega
     cases hv:zH ys[m].t ys[m].s o.t o.s;case true=>
      have heq:=iW _ _ _ _ hv;have HBB2:O (true=pE (ys.take<|m+1) o):=by show _=_;rw[HTK,hv];simp
      clear hv;go_wp2_with fail;go_quiet (fail);go_wp2;go_roundw;case rel=>exact⟨m+1,true,cq,rfl,cx,HBB2,below_drewN HB3 _⟩
      simp[intOf]<;>omega
     have heq:=iW _ _ _ _ hv;have HBB2:O (false=pE (ys.take<|m+1) o):=by show _=_;rw[HTK,hv,<-HBB];rfl
     clear hv;go_wp2_with fail;go_quiet (fail);go_wp2;go_roundw;case rel=>exact⟨m+1,false,cq,rfl,cx,HBB2,below_drewN HB3 _⟩
     simp[intOf]<;>omega
    have Zl:O (bb=pE ys o):=by show _=_;rw[HBB,Yj cq]
    cases bb;case true=>
     have HR:O (bj w wr 27 2 (.slice adO ys.length capO) (ns).length<|pairs<|ns):=by
      show World.ownsRow _ _ _ _ _ _ _;rw[HOE];unfold fM;rw[<-Zl];exact HOx
     clear Zl c0 c1;go_wp2;have HR2:=aJ<|ZK _ _ HR
     first|exact⟨⟨0+1,cq,rfl,HR2,HBw⟩,cv⟩|exact⟨⟨1+1,cq,rfl,HR2,HBw⟩,cv⟩
    have HWE:O (fM ys o=ys++[o]):=by show _=_;unfold fM;rw[<-Zl];rfl
    obtain⟨W4,Zw⟩:=eQx<|wr.alloc<|.cells #[.string o.t,.string o.s] 27;have Zg:O (bj w W4 27 2 (.slice adO ys.length capO) ys.length<|pairs ys):=by show World.ownsRow _ _ _ _ _ _ _;rw[Zw];exact HOx.alloc _
    have HN4:O (∀j u,[Value.string o.t,.string o.s][j]?=some u->W4.cell? ((⟨wr.heap.size,0,none⟩:Addr).add j)=some u):=by rw[Zw];exact Vr wr o
    have ZX:O (ae w W4):=by show Below _ _ _;rw[Zw];exact HBw.alloc HBw.size _
    have hsz4:cY w W4:=ZX.size;clear Zl;go_wp2_with(at_builtin;rw[<-Zw];clear Zw;refine wpList_append_own_at _ rfl _ _ 192 rfl w.heap.size 27 iO (.agg aw) 2 32 underlying192 HIO.1 HIO.2.1 HIO.2.2.1 HIO.2.2.2 rfl cv _ ys.length (pairs ys) rfl Zg ⟨wr.heap.size,0,none⟩ 1 1 [.string o.t,.string o.s] rfl rfl HN4 (by simp[Value.oneCell']) cy cq hsz4 ?_);intro v' w5 hown hgr _ _;have HR:O (bj w w5 27 2 v' (ns).length<|pairs<|ns):=by
     show World.ownsRow _ _ _ _ _ _ _;rw[HOE,HWE,XT];have:pairs (ys++[o])=pairs ys++[.string o.t,.string o.s]:=by simp[pairs]
     rw[this];exact hown
    have HBR:O (ae w w5):=ZX.grown hgr ZX.size fun g hg=>(Zg.lt g hg).1;clear hown hgr c0 c1;go_wp2;have HR2:=aJ<|ZK _ _ HR
    first|exact⟨⟨0+1,cq,rfl,HR2,HBR⟩,cv⟩|exact⟨⟨1+1,cq,rfl,HR2,HBR⟩,cv⟩
  have Zq:O (bj w w2 27 2 u5 (gH u<|ts.take<|k+1).length<|pairs<|gH u<|ts.take<|k+1):=by
   have e:q=2:=cq;have h2:=YZ.out;rw[e]at h2;show World.ownsRow _ _ _ _ _ _ _;rw[HSU];exact h2
  go_wp2;go_roundw;case rel=>exact⟨k+1,cq,cx,Zq,HB2⟩
  simp[intOf]<;>omega
 have HE:O (gH u (ts.take k)=gH u ts):=by show _=_;rw[Yj cq]
 have Zq:O (bj w wr 27 2 u5 (gH u ts).length<|pairs<|gH u ts):=by show World.ownsRow _ _ _ _ _ _ _;rw[<-HE];exact HOW
 go_wp2;go_ret;exact⟨⟨_,rfl,Zq⟩,Y9⟩
def gW{w w':ag}{base:Nat}{e:TypeId}{size:Nat}{v:Value}{n:Nat}{xs:Q03}(h:w.ownsRow base e size v n xs)(hh:∀g,v.ownBlock=some g->w'.heap[g]?=w.heap[g]?):w'.ownsRow base e size v n xs:=by
 refine⟨h.1,?_⟩;rcases h.2 with hl|⟨g,cap,cur,rfl,h1,h2,h3⟩
 ·exact .inl hl
 exact .inr ⟨g,cap,cur,rfl,h1,(hh g rfl).trans h2,h3⟩
def qG{w:ag}{base size n:Nat}{e:TypeId}{v:Value}{xs:Q03}(h:w.ownsRow base e size v n xs):∃ad cap,v=.slice ad n cap:=by
 rcases h.2 with⟨rfl,h0⟩|⟨g,cap,cur,rfl,-⟩
 ·exact⟨none,0,by rw[h0]⟩
 exact⟨_,_,rfl⟩
def pM{w:ag}{base size n cap:Nat}{e:TypeId}{ad:Q02}{xs:Q03}(h:w.ownsRow base e size (.slice ad n cap) n xs)(hn:n≠0):∃g,ad=some (am g)/\(Value.slice ad n cap).ownBlock=some g:=by
 rcases h.2 with⟨-,h0⟩|⟨g,cap',cur,e1,-⟩
 ·exact absurd h0 hn
 injection e1 with e1;exact⟨g,e1,by rw[e1];rfl⟩
def pO{w:ag}{base base' size n:Nat}{e:TypeId}{v:Value}{xs:Q03}(h:w.ownsRow base e size v n xs)(hb:base'<=base):w.ownsRow base' e size v n xs:=by
 refine⟨h.1,?_⟩;rcases h.2 with hl|⟨g,cap,cur,e,h1,h2⟩
 ·exact .inl hl
 exact .inr ⟨g,cap,cur,e,XR hb h1,h2⟩
def xq{w:ag}{base size n cap:Nat}{e:TypeId}{ad:Q02}{xs:Q03}(h:w.ownsRow base e size (.slice ad n cap) n xs):n<=cap:=by
 rcases h.2 with⟨e1,h0⟩|⟨g,cap',cur,e1,-,-,hnc,-⟩
 ·injection e1 with _ e2 e3;omega
 injection e1 with _ e2 e3;omega
def Lv(xs:Q04):∀p,av (xs.take p)=(av xs).take (p*5):=by
 induction xs with
 | nil=>intro p;simp[av]
 | cons x xs ih =>
  intro p;cases p with
  | zero=>simp[av]
  | succ p =>
   have ih:=ih p;unfold av at ih⊢;rw[List.take_succ_cons,Ym,Ym,ih,show(p+1)*5=p*5+1+1+1+1+1 by omega];simp[Fc.row]
def Lx(xs:Q04):∀p,av (xs.drop p)=(av xs).drop (p*5):=by
 induction xs with
 | nil=>intro p;simp[av]
 | cons x xs ih =>
  intro p;cases p with
  | zero=>simp[av]
  | succ p =>
   have ih:=ih p;unfold av at ih⊢;rw[List.drop_succ_cons,Ym,ih,show(p+1)*5=p*5+1+1+1+1+1 by omega];simp[Fc.row]
def qH{w:ag}{base g n cap:Nat}{xs:Q04}(h:w.ownsRow base 52 5 (.slice (some<|am g) n cap) n<|av xs)(p:Nat)(hp:p<=n):∀j u,(av<|xs.take p)[j]?=some u->w.cell? ((⟨g,0,none⟩:Addr).add j)=some u:=fun j u hu=>by
 rw[Lv,List.getElem?_take]at hu;split at hu
 ·rename_i hj;have:=h.cellAt j cq;rw[hu]at this;have e:(⟨g,0,none⟩:Addr).add j=⟨g,j,none⟩:=by unfold Addr.add;split<;>simp_all
  rw[e];exact this
 cases hu
def vQ{w:ag}{base g n cap:Nat}{xs:Q04}(h:w.ownsRow base 52 5 (.slice (some<|am g) n cap) n<|av xs)(p:Nat)(hp:p<=n):∀j u,(av<|xs.drop p)[j]?=some u->w.cell? ((⟨g,p*5,none⟩:Addr).add j)=some u:=fun j u hu=>by
 rw[Lx,List.getElem?_drop]at hu;have hl:=h.1;have hj:p*5+j<n*5:=by
  rw[<-hl];exact(List.getElem?_eq_some_iff.1 hu).1
 have:=h.cellAt (p*5+j) hj;rw[hu]at this;have e:(⟨g,p*5,none⟩:Addr).add j=⟨g,p*5+j,none⟩:=by unfold Addr.add;split<;>simp_all
 rw[e];exact this
def kv(xs:Q04):∀u∈av xs,u.oneCell'=true:=fun u hu=>by
 obtain⟨q,-,h⟩:=XZ.1 hu;simp only[Fc.row,X7,List.not_mem_nil,or_false]at h;rcases h with rfl|rfl|rfl|rfl|rfl<;>rfl
def LA{w:ag}{a:Addr}{xs:Q04}(h:xs=[]):∀j u,(av xs)[j]?=some u->w.cell? (a.add j)=some u:=fun j u hu=>by
 rw[h]at hu;simp[av]at hu
end Go.Proofs.YtojjoblnpldniaaGreat
