/- Contracts of the law's helpers that weigh a schema. -/
import Derived.Test.YtojjoblnpldniaaGreatSq
import Derived.Test.YtojjoblnpldniaaGreatJ2
open Go.Proofs.Tryz
set_option linter.defProp false
namespace Go.Proofs.YtojjoblnpldniaaGreat
open ChangeShapes WideShapes ChangeAt RowKit
open Pl
def RR.row(r:RR):List Value:=[.string r.name,.slice r.ad r.rows.length r.cap]
def TR.row(r:TR):List Value:=[.string r.name,.slice r.ad r.rows.length r.cap]
def mO{w:af}{g i j:Nat}{v:Value}(h:i≠j):(w.setCell (aq g i) v).cell? (aq g j)=w.cell? (aq g j):=by
 apply World.cell?_setCell_other;intro e;exact h<|congrArg Addr.off e
def mS{w:af}{a:Addr}{v u:Value}(h:w.cell? a=some u):(w.setCell a v).cell? a=some v:=by
 apply World.cell?_setCell_same;exact h
def mK{W w1:af}{n o:Nat}{v:Value}(hb:ag W w1)(hn:cU n W)(h:W.cell? (aq n o)=some v):w1.cell? (aq n o)=some v:=by
 rw[hb.cell (p:=⟨n,o,none⟩) hn];exact h
def jV(w:World)(g:Nat):Prop:=∀j,w.frozen? ⟨g,j,none⟩=false
structure Chg(S:Nat->Prop)(w w':World):Prop where
 base:Below 0 w w'
 block:∀k,k<w.heap.size->¬S k->w'.heap[k]?=w.heap[k]?
 free:∀g,g<w.heap.size->jV w g->jV w' g
def Chg.refl(S:Nat->Prop)(w:af):Chg S w w:=⟨WL _ _,fun _ _ _=>rfl,fun _ _ h=>h⟩
def Chg.size{S:Nat->Prop}{w w':af}(h:Chg S w w'):w.heap.size<=w'.heap.size:=h.base.size
def Chg.trans{S:Nat->Prop}{a b c:af}(h:Chg S a b)(k:Chg S b c):Chg S a c :=
 ⟨h.base.trans k.base,fun i hi hs=>(k.block i (WJ hi h.size) hs).trans<|h.block i hi hs,fun g hg hf=>k.free g (WJ hg h.size)<|h.free g hg hf⟩
def Chg.mono{S T:Nat->Prop}{a b:af}(h:Chg S a b)(hs:∀g,S g->T g):Chg T a b :=
 ⟨h.base,fun i hi hn=>h.block i hi fun e=>hn<|hs i e,h.free⟩
def Chg.of{S:Nat->Prop}{w w':af}(h:ag w w'):Chg S w w' :=
 ⟨h.mono<|WO _,fun k hk _=>h.block k hk,fun g hg hf j=>by rw[h.frozen (p:=⟨g,j,none⟩) hg];exact hf j⟩
def Chg.set{S:Nat->Prop}{w:af}{g j:Nat}(v:Value)(hs:S g):Chg S w (w.setCell (aq g j) v) :=
 ⟨(WL 0 w).setCell (WO _) v,fun k _ hk=>Below.heap_setCell _ _ _ _ fun e=>hk<|by rw[e];exact hs,fun g' _ hf j'=>by simpa using hf j'⟩
def Chg.below{S:Nat->Prop}{w w':af}{m:Nat}(h:Chg S w w')(hm:∀g,S g->m<=g)(hw:cd m w):Below m w w' :=
 ⟨h.base.os,h.base.tape,h.base.output,h.base.size,fun k hk=>h.block k (WJ hk hw) fun e=>by have:=hm k e;omega⟩
def Chg.cell{S:Nat->Prop}{w w':af}(h:Chg S w w'){g o:Nat}(hg:cU g w)(hs:¬S g):w'.cell? (aq g o)=w.cell? (aq g o):=by
 have:=h.block g hg hs;unfold World.cell?;simp only[this]
def kV.chg{S:Nat->Prop}{w w':af}{ad:Q02}{xs:Q0a}(h:kV w ad xs)(hc:Chg S w w')(hn:∀g o,xs≠[]->ad=some (aq g o)->¬S g):kV w' ad xs:=by
 rcases h with h|⟨b,off,e,hb,hr⟩
 ·exact .inl h
 by_cases hx:xs=[]
 ·exact .inl hx
 exact .inr ⟨b,off,e,WJ hb hc.size,fun i hi=>(hr i hi).same fun o=>hc.cell hb<|hn b off hx e⟩
def sK.chg{S:Nat->Prop}{w w':af}{ad:Q02}{zs:List Int}(h:sK w ad zs)(hc:Chg S w w')(hn:∀g o,zs≠[]->ad=some (aq g o)->¬S g):sK w' ad zs:=by
 rcases h with h|⟨b,off,e,hb,hr⟩
 ·exact .inl h
 by_cases hx:zs=[]
 ·exact .inl hx
 exact .inr ⟨b,off,e,WJ hb hc.size,fun i hi=>by rw[hc.cell hb (hn b off hx e)];exact hr i hi⟩
def bA(r:ER)(g:Nat):Prop:=r.e.allow≠[]/\r.adA=some ⟨g,0,none⟩
def bK(r:ER)(g:Nat):Prop:=r.e.kids≠[]/\r.adK=some ⟨g,0,none⟩
def mr(r:ER)(g:Nat):Prop:=bA r g\/bK r g
structure SepE(b:Nat)(rs:Q08):Prop where
 zeroA:∀r∈rs,r.e.allow≠[]->∃g,r.adA=some ⟨g,0,none⟩
 zeroK:∀r∈rs,r.e.kids≠[]->∃g,r.adK=some ⟨g,0,none⟩
 head:∀r∈rs,¬mr r b
 one:∀r∈rs,∀g,bA r g->¬bK r g
 two:∀(x y:Nat) (hx:x<rs.length) (hy:y<rs.length),x≠y->∀g,mr rs[x] g->¬mr rs[y] g
def QM(w:World)(P:Nat->Prop):Prop:=∀g,P g->g<w.heap.size/\jV w g
def QM.mono{P Q:Nat->Prop}{w:af}(h:QM w P)(hq:∀g,Q g->P g):QM w Q:=fun g hg=>h g<|hq g hg
def QN(r:RR)(g:Nat):Prop:=(r.rows≠[]/\r.ad=some ⟨g,0,none⟩) \/ ∃q∈r.rows,mr q g
def VZ(r:RR):Prop:=r.rows≠[]->∃b,r.ad=some ⟨b,0,none⟩/\SepE b r.rows
structure SepR(b:Nat)(rs:Q07):Prop where
 good:∀r∈rs,VZ r
 head:∀r∈rs,¬QN r b
 two:∀(x y:Nat) (hx:x<rs.length) (hy:y<rs.length),x≠y->∀g,QN rs[x] g->¬QN rs[y] g
def Tz(r:TR)(g:Nat):Prop:=(r.rows≠[]/\r.ad=some ⟨g,0,none⟩) \/ ∃q∈r.rows,QN q g
def V4(r:TR):Prop:=r.rows≠[]->∃b,r.ad=some ⟨b,0,none⟩/\SepR b r.rows
structure SepT(b:Nat)(rs:Q06):Prop where
 good:∀r∈rs,V4 r
 head:∀r∈rs,¬Tz r b
 two:∀(x y:Nat) (hx:x<rs.length) (hy:y<rs.length),x≠y->∀g,Tz rs[x] g->¬Tz rs[y] g
def QO(b:Nat)(w:World)(qs:Q08):Prop:=SepE b qs/\∀q∈qs,∀g,mr q g->b<g/\g<w.heap.size/\jV w g
def QO.nil(b:Nat)(w:af):QO b w []:=by
 refine⟨⟨?_,?_,?_,?_,?_⟩,?_⟩
 ·intro r hr;cases hr
 ·intro r hr;cases hr
 ·intro r hr;cases hr
 ·intro r hr;cases hr
 ·intro x y hx;exact absurd hx<|XE _
 intro r hr;cases hr
def V5(b:Nat)(w:World)(qs:Q07):Prop:=SepR b qs/\∀q∈qs,∀g,QN q g->b<g/\g<w.heap.size/\jV w g
def V5.nil(b:Nat)(w:af):V5 b w []:=by
 refine⟨⟨?_,?_,?_⟩,?_⟩
 ·intro r hr;cases hr
 ·intro r hr;cases hr
 ·intro x y hx;exact absurd hx<|XE _
 intro r hr;cases hr
def V6(b:Nat)(w:World)(qs:Q06):Prop:=SepT b qs/\∀q∈qs,∀g,Tz q g->b<g/\g<w.heap.size/\jV w g
def V6.nil(b:Nat)(w:af):V6 b w []:=by
 refine⟨⟨?_,?_,?_⟩,?_⟩
 ·intro r hr;cases hr
 ·intro r hr;cases hr
 ·intro x y hx;exact absurd hx<|XE _
 intro r hr;cases hr
open Maps
def QO.add{S:Nat->Prop}{b:Nat}{wr wn:af}{qs:Q08}(h:QO b wr qs)(hc:Chg S wr wn)(hb:cU b wr){q:ER}(zA:q.e.allow≠[]->∃g,q.adA=some (am g))(zK:q.e.kids≠[]->∃g,q.adK=some (am g))(hone:∀g,bA q g->¬bK q g)(hq:∀g,mr q g->wr.heap.size<=g/\g<wn.heap.size/\jV wn g):QO b wn (qs++[q]):=by
 refine⟨⟨?_,?_,?_,?_,?_⟩,?_⟩
 ·intro r hr;rw[WU,WZ]at hr;rcases hr with hr|rfl
  ·exact h.1.zeroA r hr
  exact zA
 ·intro r hr;rw[WU,WZ]at hr;rcases hr with hr|rfl
  ·exact h.1.zeroK r hr
  exact zK
 ·intro r hr;rw[WU,WZ]at hr;rcases hr with hr|rfl
  ·exact h.1.head r hr
  intro hg;have:=(hq b hg).1;omega
 ·intro r hr;rw[WU,WZ]at hr;rcases hr with hr|rfl
  ·exact h.1.one r hr
  exact hone
 ·intro x y hx hy hne g hgx hgy;rw[WP,Xi]at hx hy;by_cases ex:x<qs.length
  ·rw[Xp ex]at hgx;by_cases ey:y<qs.length
   ·rw[Xp ey]at hgy;exact h.1.two x y ex ey hne g hgx hgy
   rw[XG cq]at hgy;have e1:=(hq g<|by simpa using hgy).1;have e2:=(h.2 _ (WH ex) g hgx).2.1;omega
  rw[XG cq]at hgx;have e1:=(hq g<|by simpa using hgx).1;have ey:y<qs.length:=cq
  rw[Xp ey]at hgy;have e2:=(h.2 _ (WH ey) g hgy).2.1;omega
 intro r hr g hg;rw[WU,WZ]at hr;rcases hr with hr|rfl
 ·obtain⟨a1,a2,a3⟩:=h.2 r hr g hg;exact⟨a1,WJ a2 hc.size,hc.free g a2 a3⟩
 obtain⟨a1,a2,a3⟩:=hq g hg;exact⟨cq,a2,a3⟩
def BF(xs:Q0a):∀u∈pairs xs,u.oneCell'=true:=by
 intro u hu;unfold pairs at hu;rw[Xd]at hu;obtain⟨a,-,h⟩:=hu;simp at h;rcases h with rfl|rfl<;>rfl
def TA(zs:List Int):∀u∈ints zs,u.oneCell'=true:=by
 intro u hu;unfold ints at hu;rw[WV]at hu;obtain⟨a,-,rfl⟩:=hu;rfl
def MQ{w:af}{base n:Nat}{v:Value}{xs:Q0a}(h:w.ownsRow base 216 2 v n<|pairs xs)(hn:n=xs.length):∃ad cap,v=.slice ad xs.length cap/\kV w ad xs/\(xs≠[]->∃g,ad=some (am g))/\∀g,xs≠[]->ad=some (am g)->base<=g/\g<w.heap.size/\jV w g:=by
 subst hn;have h2:=h;rcases h.2 with⟨rfl,h0⟩|⟨g,cap,cur,rfl,hbg,hg,hnc,-⟩
 ·have hx:xs=[]:=Xb.1 h0;subst hx;exact⟨none,0,rfl,.inl rfl,fun h=>absurd rfl h,fun _ h=>absurd rfl h⟩
 have hlt:=h2.lt g rfl;refine⟨some<|am g,cap,rfl,.inr ⟨g,0,rfl,hlt.2,fun i hi=>?_⟩,fun _=>⟨g,rfl⟩,fun g' _ e=>?_⟩
 ·have hl:=kI xs;obtain⟨p0,p1⟩:=qZ xs i hi;refine⟨?_,?_⟩
  ·rw[h2.cellAt (0+i*2) cq,Xl];exact p0
  rw[h2.cellAt (0+i*2+1) cq,Xl];exact p1
 injection e with e;injection e with e1 e2;subst e1;exact⟨hlt.1,hlt.2,fun y=>h2.frozenAt y⟩
def Ij{w:af}{base n:Nat}{v:Value}{zs:List Int}(h:w.ownsRow base 2 1 v n<|ints zs)(hn:n=zs.length):∃ad cap,v=.slice ad zs.length cap/\sK w ad zs/\(zs≠[]->∃g,ad=some (am g))/\∀g,zs≠[]->ad=some (am g)->base<=g/\g<w.heap.size/\jV w g:=by
 subst hn;have h2:=h;rcases h.2 with⟨rfl,h0⟩|⟨g,cap,cur,rfl,hbg,hg,hnc,-⟩
 ·have hx:zs=[]:=Xb.1 h0;subst hx;exact⟨none,0,rfl,.inl rfl,fun h=>absurd rfl h,fun _ h=>absurd rfl h⟩
 have hlt:=h2.lt g rfl;refine⟨some<|am g,cap,rfl,.inr ⟨g,0,rfl,hlt.2,fun i hi=>?_⟩,fun _=>⟨g,rfl⟩,fun g' _ e=>?_⟩
 ·rw[h2.cellAt (0+i) cq,Xl];simp[ints,hi]
 injection e with e;injection e with e1 e2;subst e1;exact⟨hlt.1,hlt.2,fun y=>h2.frozenAt y⟩
def uY{ops:Array Oper}{rest:List Oper}{o:Oper}{a:Act}{Q:Exit->Act->World->Prop}(w:af)(hgd:o.guard=none)(s x:Operand)(t:TypeId)
  (ho:o.op=.call { callee:=.builtin .append,args:=#[s,x],argTypes:=#[t,t] })
  (e:TypeId) (i:TypeInfo) (z:Value) (size bytes:Nat) (ht:prog.underlying t=some (.slice e)) (hi:prog.info? e=some i) (hz:i.zero=some z)
  (hsize:i.size=size) (hby:i.bytes=bytes) (hzs:z.cells.size=size) (hsz:0<size)
  (hs:a.eval s=.slice none 0 0)
  (ad:Q02) (m c:Nat) (news:Q03) (hx:a.eval x=.slice ad m c) (hl:news.length=m*size) (hn0:ad=none->m=0) (hnews:∀A,ad=some A->∀j u,news[j]?=some u->w.cell? (A.add j)=some u) (h1:∀u∈news,u.oneCell'=true)
  (h63:0+m<=maxLen) (hbytes:(0+m)*bytes<=140737488355328)
  (h:∀v' w',cD w w' e size v' (0+m) ([]++news)->w.grownBy w' (Value.ownBlock<|.slice none 0 0)->wpList prog ops Q rest (a.put o.dst v') w'):wpList prog ops Q (o::rest) a w:=by
 cases ad;case some A=>exact wpList_append_own w hgd s x t ho w.heap.size e i z size bytes ht hi hz hsize hby hzs hsz (.slice none 0 0) 0 [] hs (World.ownsRow_nil _ _ _ _) A m c news hx hl (hnews A rfl) h1 h63 hbytes (WK _) fun v' w' a b _=>h v' w' a b
 obtain rfl:=hn0 rfl;have hn:news=[]:=List.eq_nil_of_length_eq_zero (by simpa using hl);subst hn;refine wpList_plain hgd fun K hK=>?_;have hr:(Builtin.append_ #[t,t] o.type #[.slice none 0 0,.slice none 0 c]).run prog w=.ok (.slice none 0 0) w:=by
  simp[Builtin.append_,run_underlying ht,sizeOf,typeInfo,hi,Builtin.lenOf,Builtin.firstCells]
 unfold Oper.wp execOp;simp only[ho,resolve,invoke,builtin,Sem.run_bind,Sem.run_pure,Result.andThen_ok,List.map_toArray,XN,List.map_nil,hs,hx,hr];exact hK _ _<|h _ w (World.ownsRow_nil w _ e size) ⟨rfl,rfl,rfl,WK _,fun _ _ _=>rfl⟩
def KG{w:af}{ad:Q02}{xs:Q0a}(h:kV w ad xs):∀A,ad=some A->∀j u,(pairs xs)[j]?=some u->w.cell? (A.add j)=some u:=by
 intro A hA j u hu;subst hA;have hl:=kI xs;have hj:j<(pairs xs).length:=by
  rcases Nat.lt_or_ge j (pairs xs).length with h'|h'
  ·exact h'
  rw[List.getElem?_eq_none h']at hu;cases hu
 rcases h with rfl|⟨b,off,e,hb,hr⟩
 ·simp[pairs]at hj
 injection e with e;subst e;obtain⟨i,hi⟩:∃i,j=i*2\/j=i*2+1:=⟨j / 2,cq⟩;rw[show(⟨b,off,none⟩:Addr).add j=⟨b,off+j,none⟩ by simp[Addr.add]];rcases hi with rfl|rfl
 ·rw[(qZ xs i cq).1]at hu;injection hu with hu;subst hu;exact(hr i cq).1
 rw[(qZ xs i cq).2]at hu;injection hu with hu;subst hu;have:=(hr i cq).2;rw[show off+i*2+1=off+(i*2+1) by omega]at this;exact this
def Vm{w:af}{ad:Q02}{zs:List Int}(h:sK w ad zs):∀A,ad=some A->∀j u,(ints zs)[j]?=some u->w.cell? (A.add j)=some u:=by
 intro A hA j u hu;subst hA;have hj:j<(ints zs).length:=by
  rcases Nat.lt_or_ge j (ints zs).length with h'|h'
  ·exact h'
  rw[List.getElem?_eq_none h']at hu;cases hu
 rcases h with rfl|⟨b,off,e,hb,hr⟩
 ·simp[ints]at hj
 injection e with e;subst e;have hj2:j<zs.length:=by simpa[ints] using hj
 have:=hr j hj2;unfold ints at hu;rw[List.getElem?_map,WS hj2]at hu;simp at hu;subst hu;rw[show(⟨b,off,none⟩:Addr).add j=⟨b,off+j,none⟩ by simp[Addr.add]];exact this
def kV.none0{w:af}{ad:Q02}{xs:Q0a}(h:kV w ad xs):ad=none->xs.length=0:=fun e=>by
 rcases h with rfl|⟨b,off,e',-⟩
 ·rfl
 rw[e']at e;cases e
def sK.none0{w:af}{ad:Q02}{zs:List Int}(h:sK w ad zs):ad=none->zs.length=0:=fun e=>by
 rcases h with rfl|⟨b,off,e',-⟩
 ·rfl
 rw[e']at e;cases e
def kV.grown{w w':af}{row:Option Nat}{ad:Q02}{xs:Q0a}(h:kV w ad xs)(hg:w.grownBy w' row)(hn:∀g o,xs≠[]->ad=some (aq g o)->some g≠row):kV w' ad xs:=by
 rcases h with h|⟨b,off,e,hb,hr⟩
 ·exact .inl h
 by_cases hx:xs=[]
 ·exact .inl hx
 exact .inr ⟨b,off,e,WJ hb hg.size,fun i hi=>⟨hg.cell (hr i hi).1<|hn b off hx e,hg.cell (hr i hi).2<|hn b off hx e⟩⟩
def sK.grown{w w':af}{row:Option Nat}{ad:Q02}{zs:List Int}(h:sK w ad zs)(hg:w.grownBy w' row)(hn:∀g o,zs≠[]->ad=some (aq g o)->some g≠row):sK w' ad zs:=by
 rcases h with h|⟨b,off,e,hb,hr⟩
 ·exact .inl h
 by_cases hx:zs=[]
 ·exact .inl hx
 exact .inr ⟨b,off,e,WJ hb hg.size,fun i hi=>hg.cell (hr i hi)<|hn b off hx e⟩
structure Beside(w:World)(v:Value)(q:ER):Prop where
 ok:q.ok w
 zA:q.e.allow≠[]->∃g,q.adA=some ⟨g,0,none⟩
 zK:q.e.kids≠[]->∃g,q.adK=some ⟨g,0,none⟩
 lt:∀g,mr q g->g<w.heap.size/\v.ownBlock≠some g
def Beside.below{w w':af}{v:Value}{q:ER}(h:Beside w v q)(hb:ag w w'):Beside w' v q :=
 ⟨h.ok.below hb,h.zA,h.zK,fun g hg=>⟨WJ (h.lt g hg).1 hb.size,(h.lt g hg).2⟩⟩
def Beside.grown{w w':af}{v v':Value}{q:ER}(h:Beside w v q)(hg:w.grownBy w' v.ownBlock)(hv:v'.ownBlock=v.ownBlock\/v'.ownBlock=some w.heap.size):Beside w' v' q:=by
 refine⟨⟨h.ok.1.grown hg fun g o hne e=>?_,h.ok.2.grown hg fun g o hne e=>?_⟩,h.zA,h.zK,fun g hi=>⟨WJ (h.lt g hi).1 hg.size,?_⟩⟩
 ·obtain⟨g0,e0⟩:=h.zA hne;rw[e0]at e;injection e with e;injection e with e1 e2;subst e1;exact fun e=>(h.lt g0<|.inl ⟨hne,e0⟩).2 e.symm
 ·obtain⟨g0,e0⟩:=h.zK hne;rw[e0]at e;injection e with e;injection e with e1 e2;subst e1;exact fun e=>(h.lt g0<|.inr ⟨hne,e0⟩).2 e.symm
 rcases hv with e|e
 ·rw[e];exact(h.lt g hi).2
 rw[e];intro e2;injection e2 with e2;have:=(h.lt g hi).1;omega
def Eu{w:af}{base n:Nat}{v:Value}{qs:Q08}(h:w.ownsRow base 43 5 v n<|dV qs)(hn:n=qs.length)(hok:∀q∈qs,q.ok w):∃ad cap,v=.slice ad qs.length cap/\iw w ad qs:=by
 subst hn;have h2:=h;rcases h.2 with⟨rfl,h0⟩|⟨g,cap,cur,rfl,hbg,hg,hnc,-⟩
 ·exact⟨none,0,by rw[h0],.inl<|Xb.1 h0⟩
 have hlt:=h2.lt g rfl;refine⟨some<|am g,cap,rfl,.inr ⟨g,0,rfl,hlt.2,fun i hi=>?_,hok⟩⟩;have hl:=xS qs;have key:∀j,j<5->w.cell? (aq g<|0+i*5+j)=(qs[i]).row[j]?:=fun j hj=>by
  rw[h2.cellAt (0+i*5+j) cq,<-Av qs i hi j hj,Xl]
 exact⟨key 0 cq,key 1 cq,key 2 cq,key 3 cq,key 4 cq⟩
def yj(w:af)(q:ER):∀j u,q.row[j]?=some u->(w.alloc<|.cells (ce q) 43).cell? ((⟨w.heap.size,0,none⟩:Addr).add j)=some u:=by
 intro j u hu;rw[show(⟨w.heap.size,0,none⟩:Addr).add j=⟨w.heap.size,0+j,none⟩ by simp[Addr.add];omega,Xl];have:=World.cell?_alloc_mark w (ce q) 43 (0,0) j;rw[this];simpa[ER.row] using hu
def rT(q:ER):∀u∈q.row,u.oneCell'=true:=by
 intro u hu;simp[ER.row]at hu;rcases hu with rfl|rfl|rfl|rfl|rfl<;>rfl
set_option maxRecDepth 100000
def kV.heap{w w':af}{ad:Q02}{xs:Q0a}(h:kV w ad xs)(hs:cV w w')(hz:xs≠[]->∃g,ad=some (am g))(hn:∀g,xs≠[]->ad=some (am g)->w'.heap[g]?=w.heap[g]?):kV w' ad xs:=by
 rcases h with h|⟨b,off,e,hb,hr⟩
 ·exact .inl h
 by_cases hx:xs=[]
 ·exact .inl hx
 obtain⟨g,eg⟩:=hz hx;have e2:=e;rw[eg]at e;injection e with e;injection e with e1 e3;subst e1;have hh:=hn g hx eg;exact .inr ⟨g,off,e2,WJ hb hs,fun i hi=>⟨(WX (w:=w) (a:=⟨g,_,none⟩) hh).trans (hr i hi).1,(WX (w:=w) (a:=⟨g,_,none⟩) hh).trans (hr i hi).2⟩⟩
def sK.heap{w w':af}{ad:Q02}{xs:List Int}(h:sK w ad xs)(hs:cV w w')(hz:xs≠[]->∃g,ad=some (am g))(hn:∀g,xs≠[]->ad=some (am g)->w'.heap[g]?=w.heap[g]?):sK w' ad xs:=by
 rcases h with h|⟨b,off,e,hb,hr⟩
 ·exact .inl h
 by_cases hx:xs=[]
 ·exact .inl hx
 obtain⟨g,eg⟩:=hz hx;have e2:=e;rw[eg]at e;injection e with e;injection e with e1 e3;subst e1;have hh:=hn g hx eg;exact .inr ⟨g,off,e2,WJ hb hs,fun i hi=>(WX (w:=w) (a:=⟨g,_,none⟩) hh).trans<|hr i hi⟩
def qw{w w':af}{q:ER}(h:q.ok w)(hs:cV w w')(zA:q.e.allow≠[]->∃g,q.adA=some (am g))(zK:q.e.kids≠[]->∃g,q.adK=some (am g))(hn:∀g,mr q g->w'.heap[g]?=w.heap[g]?):q.ok w' :=
 ⟨h.1.heap hs zA fun g h1 h2=>hn g<|.inl ⟨h1,h2⟩,h.2.heap hs zK fun g h1 h2=>hn g<|.inr ⟨h1,h2⟩⟩
def cz{w w':af}{g:Nat}(h:jV w g)(hh:w'.heap[g]?=w.heap[g]?):jV w' g:=fun j=>(World.frozen?_of_block (w:=w) (a:=⟨g,j,none⟩) hh).trans<|h j
def dJ{w w':af}{base:Nat}{e:TypeId}{size:Nat}{v:Value}{n:Nat}{xs:Q03}(h:w.ownsRow base e size v n xs)(hh:∀g,v.ownBlock=some g->w'.heap[g]?=w.heap[g]?):w'.ownsRow base e size v n xs:=by
 refine⟨h.1,?_⟩;rcases h.2 with hl|⟨g,cap,cur,rfl,h1,h2,h3⟩
 ·exact .inl hl
 exact .inr ⟨g,cap,cur,rfl,h1,(hh g rfl).trans h2,h3⟩
structure NewQ(X:Nat)(w:World)(q:ER):Prop where
 zA:q.e.allow≠[]->∃g,q.adA=some ⟨g,0,none⟩
 zK:q.e.kids≠[]->∃g,q.adK=some ⟨g,0,none⟩
 ok:q.ok w
 lie:∀g,mr q g->X<=g/\g<w.heap.size/\jV w g
 one:∀g,bA q g->¬bK q g
 cA:q.e.allow.length<=q.capA
def KH(qs:Q08)(q:ER):dV (qs++[q])=dV qs++q.row:=by simp[dV]
set_option linter.unusedVariables false
structure Kid{α:Type}(K:World->Nat->α->Prop)(I:α->Nat->Prop):Prop where
 heap:∀(w w':World) (base:Nat) (q:α),K w base q->w.heap.size<=w'.heap.size->(∀g,I q g->w'.heap[g]?=w.heap[g]?)->K w' base q
 lt:∀(w:World) (base:Nat) (q:α),K w base q->∀g,I q g->base<=g/\g<w.heap.size
def qV{α:Type}(I:α->Nat->Prop)(v:Value)(rs:List α)(g:Nat):Prop:=v.ownBlock=some g \/ ∃q∈rs,I q g
structure X8{α:Type}(T:TypeId)(size:Nat)(cells:α->List Value)(K:World->Nat->α->Prop)(I:α->Nat->Prop)(w:World)(base:Nat)(v:Value)(rs:List α):Prop where
 own:w.ownsRow base T size v rs.length (rs.flatMap cells)
 kid:∀q∈rs,K w base q
 head:∀q∈rs,∀g,I q g->v.ownBlock≠some g
 two:∀(x y:Nat) (hx:x<rs.length) (hy:y<rs.length),x≠y->∀g,I rs[x] g->¬I rs[y] g
section
variable  {α:Type}{T:TypeId}{size:Nat}{cells:α->List Value}{K:World->Nat->α->Prop}{I:α->Nat->Prop}{w w':World}{base:Nat}{v:Value}{rs:List α}
def X8.lt(kd:Kid K I)(h:X8 T size cells K I w base v rs){g:Nat}(hg:qV I v rs g):base<=g/\g<w.heap.size:=by
 rcases hg with hg|⟨q,hq,hg⟩
 ·exact h.own.lt g hg
 exact kd.lt w base q (h.kid q hq) g hg
def X8.heap(kd:Kid K I)(h:X8 T size cells K I w base v rs)(hs:cV w w')(hh:∀g,qV I v rs g->w'.heap[g]?=w.heap[g]?):X8 T size cells K I w' base v rs where
 own:=dJ h.own fun g hg=>hh g<|.inl hg
 kid q hq:=kd.heap w w' base q (h.kid q hq) hs fun g hg=>hh g<|.inr ⟨q,hq,hg⟩
 head:=h.head
 two:=h.two
def X8.below(kd:Kid K I)(h:X8 T size cells K I w base v rs)(hb:ag w w'):X8 T size cells K I w' base v rs :=
 h.heap kd hb.size fun g hg=>hb.block g (h.lt kd hg).2
def mY(w:af)(base:Nat):X8 T size cells K I w base (.slice none 0 0) [] :=
 ⟨World.ownsRow_nil _ _ _ _,fun q hq=>(by cases hq),fun q hq=>(by cases hq),fun x y hx=>absurd hx ct⟩
def Ik{rs:List α}{q:α}(h:∀(x y:Nat) (hx:x<rs.length) (hy:y<rs.length),x≠y->∀g,I rs[x] g->¬I rs[y] g)(hq:∀p∈rs,∀g,I p g->¬I q g):
  ∀(x y:Nat) (hx:x<(rs++[q]).length) (hy:y<(rs++[q]).length),x≠y->∀g,I (rs++[q])[x] g->¬I (rs++[q])[y] g:=by
 intro x y hx hy hxy g h1 h2;rw[WP,Xi]at hx hy;by_cases ex:x<rs.length
 ·rw[Xp ex]at h1;by_cases ey:y<rs.length
  ·rw[Xp ey]at h2;exact h x y ex ey hxy g h1 h2
  have:y=rs.length:=cq;subst this;rw[XG (WK _)]at h2;simp at h2;exact hq _ (WH ex) g h1 h2
 have:x=rs.length:=cq;subst this;rw[XG (WK _)]at h1;simp at h1;have ey:y<rs.length:=cq;rw[Xp ey]at h2;exact hq _ (WH ey) g h2 h1
def QP{rs:List α}{q:α}(h:∀(x y:Nat) (hx:x<(rs++[q]).length) (hy:y<(rs++[q]).length),x≠y->∀g,I (rs++[q])[x] g->¬I (rs++[q])[y] g):
  (∀(x y:Nat) (hx:x<rs.length) (hy:y<rs.length),x≠y->∀g,I rs[x] g->¬I rs[y] g)/\∀p∈rs,∀g,I p g->¬I q g:=by
 refine⟨fun x y hx hy hxy g h1 h2=>?_,fun p hp g h1 h2=>?_⟩
 ·exact h x y (by simp;omega) (by simp;omega) hxy g (by rw[Xp hx];exact h1) (by rw[Xp hy];exact h2)
 obtain⟨x,hx,rfl⟩:=Xt hp;exact h x rs.length (by simp;omega) ct cq g (by rw[Xp hx];exact h1) (by rw[XG (WK _)];simpa using h2)
def X8.snoc(kd:Kid K I)(h:X8 T size cells K I w base v rs){q:α}{v':Value}(hown:w'.ownsRow base T size v' (rs.length+1)<|rs.flatMap cells++cells q)(hg:w.grownBy w' v.ownBlock)(hat:v'.ownBlock=v.ownBlock \/ ∃g,v'.ownBlock=some g/\w.heap.size<=g)
  (hq:K w base q) (hv:∀g,I q g->v.ownBlock≠some g) (hr:∀p∈rs,∀g,I p g->¬I q g):X8 T size cells K I w' base v' (rs++[q]):=by
 have keep:∀(p:α),K w base p->(∀g,I p g->v.ownBlock≠some g)->K w' base p:=fun p hp hn=>kd.heap w w' base p hp hg.size fun g hi=>hg.block g (kd.lt w base p hp g hi).2 fun e=>hn g hi e.symm;have apart:∀(p:α),K w base p->(∀g,I p g->v.ownBlock≠some g)->∀g,I p g->v'.ownBlock≠some g:=fun p hp hn g hi=>by
  rcases hat with e|⟨g',e,hge⟩
  ·rw[e];exact hn g hi
  rw[e];intro e2;injection e2 with e2;have:=(kd.lt w base p hp g hi).2;omega
 refine⟨by simpa using hown,fun p hp=>?_,fun p hp=>?_,Ik h.two hr⟩
 ·rcases WU.1 hp with hp|hp
  ·exact keep p (h.kid p hp)<|h.head p hp
  rw[WZ]at hp;subst hp;exact keep _ hq hv
 rcases WU.1 hp with hp|hp
 ·exact apart p (h.kid p hp)<|h.head p hp
 rw[WZ]at hp;subst hp;exact apart _ hq hv
def X8.last(kd:Kid K I){xs:List α}{q q':α}{b n cap j:Nat}{u:Value}{w1:af}{row:Option Nat}(h:X8 T size cells K I w base (.slice (some<|am b) n cap)<|xs++[q])(hn:n=xs.length+1)
  (hg:w.grownBy w1 row) (hrow:∀r,row=some r->I q r) (hq':K w1 base q') (hI:∀g,I q' g->I q g\/(g≠b/\∀p∈xs,¬I p g)) (hset:((xs++[q]).flatMap cells).set j u=(xs++[q']).flatMap cells) :
  X8 T size cells K I (w1.setCell (aq b j) u) base (.slice (some<|am b) n cap) (xs++[q']):=by
 have hbl:cU b w:=(h.own.lt b rfl).2;have hq:=h.kid q ct;have hqb:∀g,I q g->g≠b:=fun g hi e=>h.head q ct g hi (by rw[e];rfl);have hq'b:∀g,I q' g->g≠b:=fun g hi e=>by
  rcases hI g hi with h2|h2
  ·exact hqb g h2 e
  exact h2.1 e
 have hb1:w1.heap[b]?=w.heap[b]?:=hg.block b hbl fun e=>hqb b (hrow b e.symm) rfl;have own1:w1.ownsRow base T size (.slice (some<|am b) n cap) (xs++[q]).length ((xs++[q]).flatMap cells):=dJ h.own fun g hgo=>by
  have e:b=g:=by simpa[Value.ownBlock] using hgo
  rw[<-e];exact hb1
 have hlen:(xs++[q]).length=n:=by simp[hn]
 rw[hlen]at own1;obtain⟨ZX,hg2⟩:=own1.stored j u;rw[hset]at ZX;obtain⟨ht1,ht2⟩:=QP h.two;have h2s:∀g,g≠b->(w1.setCell (aq b j) u).heap[g]?=w1.heap[g]?:=fun g hne=>Below.heap_setCell w1 _ u g hne;refine⟨by simpa[hn] using ZX,fun p hp=>?_,fun p hp g hi=>?_,Ik ht1 fun p hp g hi hi'=>?_⟩
 ·rcases WU.1 hp with hp|hp
  ·have hkp:=h.kid p (by simp[hp]);refine kd.heap w _ base p hkp (WR hg.size hg2.size) fun g hi=>?_;have hl:=(kd.lt w base p hkp g hi).2;rw[h2s g (fun e=>h.head p (by simp[hp]) g hi (by rw[e];rfl))];exact hg.block g hl fun e=>ht2 p hp g hi<|hrow g e.symm
  rw[WZ]at hp;subst hp;exact kd.heap w1 _ base _ hq' hg2.size fun g hi=>h2s g<|hq'b g hi
 ·intro e;have e:b=g:=by simpa[Value.ownBlock] using e
  rcases WU.1 hp with hp|hp
  ·exact h.head p (by simp[hp]) g hi (by rw[<-e];rfl)
  rw[WZ]at hp;subst hp;exact hq'b g hi e.symm
 rcases hI g hi' with h2|h2
 ·exact ht2 p hp g hi h2
 exact h2.2 p hp hi
end
structure NodM(w:World)(base:Nat)(v:Value)(qs:Q08):Prop where
 own:w.ownsRow base 43 5 v qs.length (dV qs)
 zA:∀q∈qs,q.e.allow≠[]->∃g,q.adA=some ⟨g,0,none⟩
 zK:∀q∈qs,q.e.kids≠[]->∃g,q.adK=some ⟨g,0,none⟩
 ok:∀q∈qs,q.ok w
 lie:∀q∈qs,∀g,mr q g->base<=g/\g<w.heap.size/\jV w g/\v.ownBlock≠some g
 one:∀q∈qs,∀g,bA q g->¬bK q g
 two:∀(x y:Nat) (hx:x<qs.length) (hy:y<qs.length),x≠y->∀g,mr qs[x] g->¬mr qs[y] g
 cA:∀q∈qs,q.e.allow.length<=q.capA
def NodM.mono{w:af}{base base':Nat}{v:Value}{qs:Q08}(h:NodM w base v qs)(hb:base'<=base):NodM w base' v qs :=
 ⟨⟨h.own.1,by
  rcases h.own.2 with hl|⟨g,cap,cur,e,h1,h2⟩
  ·exact .inl hl
  exact .inr ⟨g,cap,cur,e,WR hb h1,h2⟩⟩,h.zA,h.zK,h.ok,fun q hq g hg=>⟨WR hb (h.lie q hq g hg).1,(h.lie q hq g hg).2⟩,h.one,h.two,h.cA⟩
def RR.vs(q:RR):Value:=.slice q.ad q.rows.length q.cap
def TR.vs(q:TR):Value:=.slice q.ad q.rows.length q.cap
def kR(w:World)(base:Nat)(q:RR):Prop:=NodM w base q.vs q.rows
def iR(q:RR):Nat->Prop:=qV mr q.vs q.rows
def oG:Kid kR iR where
 heap w w' base q h hs hh:={
  own:=dJ h.own fun g hg=>hh g<|.inl hg
  zA:=h.zA
  zK:=h.zK
  ok:=fun x hx=>qw (h.ok x hx) hs (h.zA x hx) (h.zK x hx) fun g hg=>hh g<|.inr ⟨x,hx,hg⟩
  lie:=fun x hx g hg=>by
   obtain⟨a1,a2,a3,a4⟩:=h.lie x hx g hg;exact⟨a1,WJ a2 hs,cz a3<|hh g<|.inr ⟨x,hx,hg⟩,a4⟩
  one:=h.one
  two:=h.two
  cA:=h.cA }
 lt w base q h g hg:=by
  rcases hg with hg|⟨x,hx,hg⟩
  ·exact h.own.lt g hg
  exact⟨(h.lie x hx g hg).1,(h.lie x hx g hg).2.1⟩
def RR.cells(q:RR):List Value:=[.string q.name,q.vs]
def TR.cells(q:TR):List Value:=[.string q.name,q.vs]
abbrev jJ:=X8 39 2 RR.cells kR iR
def kT(w:World)(base:Nat)(q:TR):Prop:=jJ w base q.vs q.rows
def iT(q:TR):Nat->Prop:=qV iR q.vs q.rows
def jW:Kid kT iT where
 heap w w' base q h hs hh:=X8.heap oG h hs hh
 lt w base q h g hg:=X8.lt oG h hg
abbrev dA:=X8 36 2 TR.cells kT iT
def sS{α:Type}{cells:α->List Value}(h2:∀q,(cells q).length=2):∀(rs:List α) (i:Nat) (h:i<rs.length) (j:Nat),j<2->(rs.flatMap cells)[i*2+j]?=(cells rs[i])[j]?
 | [],i,h,_,_=>by simp at h
 | r::rs,0,_,j,hj=>by
  simp only[Xr,Nat.zero_mul,Xl,List.getElem_cons_zero];rw[XD (by rw[h2];exact hj)]
 | r::rs,i+1,h,j,hj=>by
  have:=sS h2 rs i (by simpa using h) j hj;simp only[Xr,List.getElem_cons_succ];rw[Xx (by rw[h2];omega),h2,<-this];congr 1;omega
def qx{α:Type}{cells:α->List Value}(h2:∀q,(cells q).length=2):∀(rs:List α),(rs.flatMap cells).length=rs.length*2
 | []=>rfl
 | r::rs=>by simp only[Xr,WP,h2,qx h2 rs,Xq];omega
def QQ{w:af}{base:Nat}{q:TR}(h:kT w base q):Df w q.ad q.rows:=by
 by_cases hz:q.rows=[]
 ·exact .inl hz
 rcases h.own.2 with⟨-,h0⟩|⟨g,cap,cur,e,-⟩
 ·exact absurd (Xb.1 h0) hz
 have h3:=h.own;unfold TR.vs at e h3;injection e with e1 e2 e3;rw[e1]at h3;refine .inr ⟨g,0,e1,(h3.lt g rfl).2,fun i hi=>?_,fun r hr=>?_⟩
 ·have hl:(q.rows.flatMap RR.cells).length=q.rows.length*2:=qx (fun _=>rfl) _;have key:∀j,j<2->w.cell? (aq g<|0+i*2+j)=(RR.cells q.rows[i])[j]?:=fun j hj=>by
   rw[h3.cellAt (0+i*2+j) cq,<-sS (fun _=>rfl) q.rows i hi j hj,Xl]
  exact⟨key 0 cq,key 1 cq⟩
 have hk:=h.kid r hr;obtain⟨ad,cap',e4,hsl⟩:=Eu hk.own rfl hk.ok;unfold RR.vs at e4;injection e4 with e5 e6 e7;show iw w r.ad r.rows;rw[e5];exact hsl
def QR{w:af}{base size n cap:Nat}{e:TypeId}{ad:Q02}{xs:Q03}(h:w.ownsRow base e size (.slice ad n cap) n xs):n<=cap:=by
 rcases h.2 with⟨e1,h0⟩|⟨g,cap',cur,e1,-,-,hnc,-⟩
 ·injection e1 with _ e2 e3;omega
 injection e1 with _ e2 e3;omega
def dA.read{w:af}{base:Nat}{v:Value}{rs:Q06}(h:dA w base v rs):∃ad cap,v=.slice ad rs.length cap/\jX w ad rs/\∀r∈rs,r.caps:=by
 have hc:∀r∈rs,r.caps:=fun r hr=>⟨QR (h.kid r hr).own,fun q hq=>⟨QR ((h.kid r hr).kid q hq).own,((h.kid r hr).kid q hq).cA⟩⟩;rcases h.own.2 with⟨rfl,h0⟩|⟨g,cap,cur,rfl,-⟩
 ·exact⟨none,0,by rw[h0],.inl<|Xb.1 h0,hc⟩
 have h3:=h.own;refine⟨some<|am g,cap,rfl,.inr ⟨g,0,rfl,(h3.lt g rfl).2,fun i hi=>?_,fun r hr=>QQ<|h.kid r hr⟩,hc⟩;have hl:(rs.flatMap TR.cells).length=rs.length*2:=qx (fun _=>rfl) _;have key:∀j,j<2->w.cell? (aq g<|0+i*2+j)=(TR.cells rs[i])[j]?:=fun j hj=>by
  rw[h3.cellAt (0+i*2+j) cq,<-sS (fun _=>rfl) rs i hi j hj,Xl]
 exact⟨key 0 cq,key 1 cq⟩
structure Tp where
 a:ByteArray
 b:ByteArray
 r:ByteArray
 c:ByteArray
 d:ByteArray
 s:ByteArray
abbrev cg(q:Tp):Array Value:=#[.string q.a,.string q.b,.string q.r,.string q.c,.string q.d,.string q.s]
abbrev Q05:=List Tp
def Tp.fits(t:Tp):Prop:=t.a.size<=maxLen/\t.b.size<=maxLen/\t.r.size<=maxLen/\t.c.size<=maxLen/\t.d.size<=maxLen/\t.s.size<=maxLen
def UU(w:World)(b off:Nat)(t:Tp):Prop :=
 w.cell? ⟨b,off,none⟩=some (.string t.a)/\w.cell? ⟨b,off+1,none⟩=some (.string t.b)/\w.cell? ⟨b,off+2,none⟩=some (.string t.r) /\
 w.cell? ⟨b,off+3,none⟩=some (.string t.c)/\w.cell? ⟨b,off+4,none⟩=some (.string t.d)/\w.cell? ⟨b,off+5,none⟩=some (.string t.s)
def lQ(w:World)(b off:Nat)(ts:Q05):Prop:=∀(i:Nat) (h:i<ts.length),UU w b (off+i*6) ts[i]
def Sl(w:World)(ad:Q02)(ts:Q05):Prop:=ts=[] \/ ∃b off,ad=some ⟨b,off,none⟩/\b<w.heap.size/\lQ w b off ts
def UU.same{w w':af}{b off:Nat}{t:Tp}(h:UU w b off t)(hc:∀o,w'.cell? (aq b o)=w.cell? (aq b o)):UU w' b off t:=by
 obtain⟨h0,h1,h2,h3,h4,h5⟩:=h;exact⟨(hc _).trans h0,(hc _).trans h1,(hc _).trans h2,(hc _).trans h3,(hc _).trans h4,(hc _).trans h5⟩
def lQ.below{w w':af}{b off B:Nat}{ts:Q05}(h:lQ w b off ts)(hB:Below B w w')(hb:b<B):lQ w' b off ts :=
 fun i hi=>(h i hi).same fun o=>hB.cell (p:=⟨b,o,none⟩) hb
def Sl.below{w w':af}{ad:Q02}{ts:Q05}(h:Sl w ad ts)(hB:ag w w'):Sl w' ad ts:=by
 rcases h with h|⟨b,off,e,hb,hr⟩
 ·exact .inl h
 exact .inr ⟨b,off,e,WJ hb hB.size,hr.below hB hb⟩
def BH(w:World)(g o:Nat)(t:Tp):World :=
 (((((w.setCell ⟨g,o,none⟩<|.string t.a).setCell ⟨g,o+1,none⟩<|.string t.b).setCell ⟨g,o+2,none⟩<|.string t.r).setCell ⟨g,o+3,none⟩<|.string t.c).setCell ⟨g,o+4,none⟩<|.string t.d).setCell ⟨g,o+5,none⟩ (.string t.s)
def lT{w:af}{g i j:Nat}{v:Value}(h:i≠j):(w.setCell (aq g i) v).cell? (aq g j)=w.cell? (aq g j):=by
 apply World.cell?_setCell_other;intro e;exact h<|congrArg Addr.off e
def QS{w:af}{a:Addr}{v u:Value}(h:w.cell? a=some u):(w.setCell a v).cell? a=some v:=by
 apply World.cell?_setCell_same;exact h
def Il(w:af)(g o:Nat)(t:Tp)(j:Nat)(h:j<o\/o+6<=j):(BH w g o t).cell? (aq g j)=w.cell? (aq g j):=by
 unfold BH;rw[lT cq,lT cq,lT cq,lT cq,lT cq,lT cq]
def MR{w:af}{g o:Nat}(t:Tp)(h:∀j,j<6->(w.cell?<|aq g<|o+j).isSome=true):UU (BH w g o t) g o t:=by
 have e:∀(W:World) (i j:Nat) (v:Value),(W.cell?<|aq g<|o+j).isSome=true->((W.setCell (aq g<|o+i) v).cell?<|aq g<|o+j).isSome=true:=by
  intro W i j v hW;by_cases hij:i=j
  ·subst hij;obtain⟨u,hu⟩:=Option.isSome_iff_exists.mp hW;rw[QS hu];rfl
  rw[lT cq];exact hW
 have same:∀(W:World) (j:Nat) (v:Value),(W.cell?<|aq g<|o+j).isSome=true->(W.setCell (aq g<|o+j) v).cell? (aq g<|o+j)=some v:=by
  intro W j v hW;obtain⟨u,hu⟩:=Option.isSome_iff_exists.mp hW;exact QS hu
 have h0:=h 0 cq;have h1:=h 1 cq;have h2:=h 2 cq;have h3:=h 3 cq;have h4:=h 4 cq;have h5:=h 5 cq;unfold BH UU;refine⟨?_,?_,?_,?_,?_,?_⟩
 ·rw[lT cq,lT cq,lT cq,lT cq,lT cq];exact same _ 0 _ h0
 ·rw[lT cq,lT cq,lT cq,lT cq];exact same _ 1 _<|e _ 0 1 _ h1
 ·rw[lT cq,lT cq,lT cq];exact same _ 2 _<|e _ 1 2 _<|e _ 0 2 _ h2
 ·rw[lT cq,lT cq];exact same _ 3 _<|e _ 2 3 _<|e _ 1 3 _<|e _ 0 3 _ h3
 ·rw[lT cq];exact same _ 4 _<|e _ 3 4 _<|e _ 2 4 _<|e _ 1 4 _<|e _ 0 4 _ h4
 exact same _ 5 _<|e _ 4 5 _<|e _ 3 5 _<|e _ 2 5 _<|e _ 1 5 _<|e _ 0 5 _ h5
def Im(w:af)(g o:Nat)(t:Tp)(x:Addr):(BH w g o t).frozen? x=w.frozen? x:=by simp[BH]
def KI{B:Nat}{w0 w:af}{g o:Nat}{t:Tp}(h:Below B w0 w)(hg:B<=g):Below B w0 (BH w g o t):=by
 unfold BH;exact(((((h.setCell (by exact hg) _).setCell (by exact hg) _).setCell (by exact hg) _).setCell (by exact hg) _).setCell (by exact hg) _).setCell (by exact hg) _
def NV(w:af)(g o:Nat)(t:Tp):(BH w g o t).heap.size=w.heap.size:=by simp[BH]
structure Filling(w wr:World)(g:Nat)(ts:Q05)(k:Nat):Prop where
 below:ag w wr
 ge:w.heap.size<=g
 lt:g<wr.heap.size
 done:∀(i:Nat) (h:i<ts.length),i<k->UU wr g (0+i*6) ts[i]
 there:∀j,j<ts.length*6->(wr.cell? ⟨g,j,none⟩).isSome=true
 free:∀j,wr.frozen? ⟨g,j,none⟩=false
def Filling.put{w wr:af}{g:Nat}{ts:Q05}{k:Nat}(h:Filling w wr g ts k)(hk:k<ts.length):Filling w (BH wr g (k*6) ts[k]) g ts (k+1) where
 below:=KI h.below h.ge
 ge:=h.ge
 lt:=by rw[NV];exact h.lt
 done i hi hik:=by
  by_cases e:i=k
  ·subst e;rw[Xl];exact MR _ fun j hj=>h.there _ cq
  obtain⟨a0,a1,a2,a3,a4,a5⟩:=h.done i hi cq;refine⟨?_,?_,?_,?_,?_,?_⟩<;>(rw[Il _ _ _ _ _ cq];assumption)
 there j hj:=by
  by_cases hin:j<k*6\/k*6+6<=j
  ·rw[Il _ _ _ _ _ hin];exact h.there j hj
  obtain⟨a0,a1,a2,a3,a4,a5⟩:=MR (w:=wr) (g:=g) (o:=k*6) ts[k] fun j hj=>h.there _ cq;have hj6:j=k*6\/j=k*6+1\/j=k*6+2\/j=k*6+3\/j=k*6+4\/j=k*6+5:=cq
  rcases hj6 with e|e|e|e|e|e
  ·rw[e,a0];rfl
  ·rw[e,a1];rfl
  ·rw[e,a2];rfl
  ·rw[e,a3];rfl
  ·rw[e,a4];rfl
  rw[e,a5];rfl
 free j:=by rw[Im];exact h.free j
def Filling.row{w w':af}{g:Nat}{ts:Q05}(h:Filling w w' g ts ts.length):lQ w' g 0 ts:=fun i hi=>h.done i hi hi
def Filling.sl{w w':af}{g:Nat}{ts:Q05}(h:Filling w w' g ts ts.length):Sl w' (some<|am g) ts:=.inr ⟨g,0,rfl,h.lt,h.row⟩
def NW(x y:Tp):Bool:=x.a.toList==y.a.toList&&x.b.toList==y.b.toList&&x.r.toList==y.r.toList&&x.c.toList==y.c.toList&&x.d.toList==y.d.toList&&x.s.toList==y.s.toList
def Io{x y:ByteArray}(k:x.toList=y.toList):x=y:=by
 rw[Go.ByteArray.toList_eq,Go.ByteArray.toList_eq]at k;obtain⟨x⟩:=x;obtain⟨y⟩:=y;exact congrArg ByteArray.mk<|Array.toList_inj.1 k
def QT(x y:Tp){v:Bool}(h:NW x y=v)(w:af):
  (binOp .eql 29 (.agg<|cg x)<|.agg<|cg y).run prog w=.ok (.bool v) w:=by
 subst h;go_simp;unfold NW
 (repeat' split)<;>simp_all
def ym(ts:Q05)(t:Tp):Bool:=ts.any fun x=>NW x t
def NY{ts:Q05}{t:Tp}{k:Nat}(h:k<ts.length):ym (ts.drop k) t=(NW ts[k] t || ym (ts.drop<|k+1) t):=by
 rw[Xw h];rfl
def Tp.row(t:Tp):List Value:=[.string t.a,.string t.b,.string t.r,.string t.c,.string t.d,.string t.s]
def bn(ts:Q05):List Value:=ts.flatMap Tp.row
def jP:∀ts:List Tp,(bn ts).length=ts.length*6
 | []=>rfl
 | r::rs=>by have:=jP rs;simp only[bn,Tp.row,Xr,WP,Xq,XQ]at this ⊢;omega
def wM:∀(rs:Q05) (i:Nat) (h:i<rs.length) (j:Nat),j<6->(bn rs)[i*6+j]?=(rs[i]).row[j]?
 | [],i,h,_,_=>by simp at h
 | r::rs,0,_,j,hj=>by
  simp only[bn,Xr,Nat.zero_mul,Xl,List.getElem_cons_zero];rw[XD (by simpa[Tp.row] using hj)]
 | r::rs,i+1,h,j,hj=>by
  have:=wM rs i (by simpa using h) j hj;simp only[bn,Xr,List.getElem_cons_succ]at this ⊢;rw[Xx (by simp[Tp.row];omega),<-this];congr 1;simp[Tp.row];omega
def qy(ts:Q05)(t:Tp):bn (ts++[t])=bn ts++t.row:=by simp[bn]
def rU(t:Tp):∀u∈t.row,u.oneCell'=true:=by
 intro u hu;simp[Tp.row]at hu;rcases hu with rfl|rfl|rfl|rfl|rfl|rfl<;>rfl
def sU(w:af)(t:Tp):∀j u,t.row[j]?=some u->(w.alloc<|.cells (cg t) 29).cell? ((⟨w.heap.size,0,none⟩:Addr).add j)=some u:=by
 intro j u hu;rw[show(⟨w.heap.size,0,none⟩:Addr).add j=⟨w.heap.size,0+j,none⟩ by simp[Addr.add];omega,Xl];have:=World.cell?_alloc_mark w (cg t) 29 (0,0) j;rw[this];simpa[Tp.row] using hu
def Ip{w:af}{base n:Nat}{v:Value}{ts:Q05}(h:w.ownsRow base 29 6 v n<|bn ts)(hn:n=ts.length):∃ad cap,v=.slice ad ts.length cap/\Sl w ad ts/\∀g,ad=some (am g)->base<=g/\g<w.heap.size/\jV w g:=by
 subst hn;have h2:=h;rcases h.2 with⟨rfl,h0⟩|⟨g,cap,cur,rfl,hbg,hg,hnc,-⟩
 ·exact⟨none,0,by rw[h0],.inl<|Xb.1 h0,fun g e=>by cases e⟩
 have hlt:=h2.lt g rfl;refine⟨some<|am g,cap,rfl,.inr ⟨g,0,rfl,hlt.2,fun i hi=>?_⟩,fun g' e=>?_⟩
 ·have hl:=jP ts;have key:∀j,j<6->w.cell? (aq g<|0+i*6+j)=(ts[i]).row[j]?:=fun j hj=>by
   rw[h2.cellAt (0+i*6+j) cq,<-wM ts i hi j hj,Xl]
  exact⟨key 0 cq,key 1 cq,key 2 cq,key 3 cq,key 4 cq,key 5 cq⟩
 injection e with e;injection e with e1 e2;subst e1;exact⟨hlt.1,hlt.2,fun y=>h2.frozenAt y⟩
def kE(w:World)(base:Nat)(q:ER):Prop:=NewQ base w q
def pu:Kid kE mr where
 heap w w' base q h hs hh:=⟨h.zA,h.zK,qw h.ok hs h.zA h.zK hh,fun g hg=>by
  obtain⟨a1,a2,a3⟩:=h.lie g hg;exact⟨a1,WJ a2 hs,cz a3<|hh g hg⟩,h.one,h.cA⟩
 lt w base q h g hg:=⟨(h.lie g hg).1,(h.lie g hg).2.1⟩
abbrev KJ:=X8 43 5 ER.row kE mr
def KJ.nod{w:af}{base:Nat}{v:Value}{qs:Q08}(h:KJ w base v qs):NodM w base v qs :=
 ⟨h.own,fun q hq=>(h.kid q hq).zA,fun q hq=>(h.kid q hq).zK,fun q hq=>(h.kid q hq).ok,fun q hq g hg=>⟨((h.kid q hq).lie g hg).1,((h.kid q hq).lie g hg).2.1,((h.kid q hq).lie g hg).2.2,h.head q hq g hg⟩,fun q hq=>(h.kid q hq).one,h.two,fun q hq=>(h.kid q hq).cA⟩
def NodM.ex{w:af}{base:Nat}{v:Value}{qs:Q08}(h:NodM w base v qs):KJ w base v qs :=
 ⟨h.own,fun q hq=>⟨h.zA q hq,h.zK q hq,h.ok q hq,fun g hg=>⟨(h.lie q hq g hg).1,(h.lie q hq g hg).2.1,(h.lie q hq g hg).2.2.1⟩,h.one q hq,h.cA q hq⟩,fun q hq g hg=>(h.lie q hq g hg).2.2.2,h.two⟩
def NewQ.mono{X Y:Nat}{w:af}{q:ER}(h:NewQ X w q)(hY:Y<=X):NewQ Y w q:=⟨h.zA,h.zK,h.ok,fun g hg=>⟨WR hY (h.lie g hg).1,(h.lie g hg).2⟩,h.one,h.cA⟩
section
variable  {α:Type}{T:TypeId}{size:Nat}{cells:α->List Value}{K:World->Nat->α->Prop}{I:α->Nat->Prop}{w w0 w':World}{base:Nat}{v:Value}{rs:List α}
def X8.snocN(kd:Kid K I)(h0:X8 T size cells K I w0 base v rs)(hb0:ag w0 w){q:α}{v':Value}(hown:w'.ownsRow base T size v' (rs.length+1)<|rs.flatMap cells++cells q)(hg:w.grownBy w' v.ownBlock)(hat:v'.ownBlock=v.ownBlock \/ ∃g,v'.ownBlock=some g/\w.heap.size<=g)
  (hq:K w base q) (hn:∀g,I q g->w0.heap.size<=g):X8 T size cells K I w' base v' (rs++[q]) :=
 (h0.below kd hb0).snoc kd hown hg hat hq (fun g hg e=>by have:=(h0.own.lt g e).2;have:=hn g hg;omega) (fun p hp g h1 h2=>by have:=(kd.lt w0 base p (h0.kid p hp) g h1).2;have:=hn g h2;omega)
end
def QU{w:af}{base size n:Nat}{e:TypeId}{v:Value}{xs:Q03}(h:w.ownsRow base e size v n xs){g:Nat}(hg:v.ownBlock=some g):jV w g:=fun j=>by
 rcases h.2 with⟨rfl,-⟩|⟨g',cap,cur,rfl,-,h2,-⟩
 ·simp[Value.ownBlock]at hg
 have e:g'=g:=by simpa[Value.ownBlock] using hg
 subst e;simp[World.frozen?,h2]
def Iq{w:af}{base size n cap:Nat}{e:TypeId}{ad:Q02}{xs:Q03}(h:w.ownsRow base e size (.slice ad n cap) n xs)(hn:n≠0):∃g,ad=some (am g)/\(Value.slice ad n cap).ownBlock=some g:=by
 rcases h.2 with⟨-,h0⟩|⟨g,cap',cur,e1,-⟩
 ·exact absurd h0 hn
 injection e1 with e1;exact⟨g,e1,by rw[e1];rfl⟩
def iH{B:Nat}{w w':af}(hB:Below B w w'){n o:Nat}{v:Value}(hn:n<B)(h:w.cell? (aq n o)=some v):w'.cell? (aq n o)=some v:=(hB.cell (p:=⟨n,o,none⟩) hn).trans h
def aZ{p:Prop}(h:p):O p:=h
def gy{w w':af}{base:Nat}{e:TypeId}{size:Nat}{v:Value}{n:Nat}{xs:Q03}(h:w.ownsRow base e size v n xs)(hb:ag w w'):w'.ownsRow base e size v n xs:=by
 have hl:=fun g hg=>(h.lt g hg).2;refine⟨h.1,?_⟩;rcases h.2 with h0|⟨g,cap,cur,rfl,h1,h2,h3⟩
 ·exact .inl h0
 exact .inr ⟨g,cap,cur,rfl,h1,(hb.block g<|hl g rfl).trans h2,h3⟩
end Go.Proofs.YtojjoblnpldniaaGreat
