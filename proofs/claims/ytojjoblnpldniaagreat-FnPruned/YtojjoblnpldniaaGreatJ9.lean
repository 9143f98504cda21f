/- What a change of some blocks leaves of lists of pairs and of numbers. -/
import Derived.Test.YtojjoblnpldniaaGreatSq
import Derived.Test.YtojjoblnpldniaaGreatJ8
open Go.Proofs.Tryz
set_option maxHeartbeats 80000000
namespace Go.Proofs.YtojjoblnpldniaaGreat
open ChangeShapes WideShapes ChangeAt RowKit
open Pl
theorem kD.chg{S:Nat->Prop}{w w':af}{ad:Q02}{xs:Q0a}(h:kD w ad xs)(hc:Chg S w w')(hn:∀g o,xs≠[]->ad=some ⟨g,o,none⟩->¬S g):kD w' ad xs:=by
 rcases h with h|⟨b,off,e,hb,hr⟩
 ·exact .inl h
 by_cases hx:xs=[]
 ·exact .inl hx
 exact .inr ⟨b,off,e,Vt hb hc.size,fun i hi=>(hr i hi).same fun o=>hc.cell hb (hn b off hx e)⟩
theorem rU.chg{S:Nat->Prop}{w w':af}{ad:Q02}{zs:List Int}(h:rU w ad zs)(hc:Chg S w w')(hn:∀g o,zs≠[]->ad=some ⟨g,o,none⟩->¬S g):rU w' ad zs:=by
 rcases h with h|⟨b,off,e,hb,hr⟩
 ·exact .inl h
 by_cases hx:zs=[]
 ·exact .inl hx
 exact .inr ⟨b,off,e,Vt hb hc.size,fun i hi=>by rw[hc.cell hb (hn b off hx e)];exact hr i hi⟩
def bA(r:ER)(g:Nat):Prop:=r.e.allow≠[]/\r.adA=some ⟨g,0,none⟩
def bK(r:ER)(g:Nat):Prop:=r.e.kids≠[]/\r.adK=some ⟨g,0,none⟩
def pU(r:ER)(g:Nat):Prop:=bA r g\/bK r g
structure SepE(b:Nat)(rs:Q08):Prop where
 zeroA:∀r∈rs,r.e.allow≠[]->∃g,r.adA=some ⟨g,0,none⟩
 zeroK:∀r∈rs,r.e.kids≠[]->∃g,r.adK=some ⟨g,0,none⟩
 head:∀r∈rs,¬pU r b
 one:∀r∈rs,∀g,bA r g->¬bK r g
 two:∀(x y:Nat) (hx:x<rs.length) (hy:y<rs.length),x≠y->∀g,pU rs[x] g->¬pU rs[y] g
def PP(w:World)(P:Nat->Prop):Prop:=∀g,P g->g<w.heap.size/\j6 w g
theorem PP.mono{P Q:Nat->Prop}{w:af}(h:PP w P)(hq:∀g,Q g->P g):PP w Q:=fun g hg=>h g (hq g hg)
def PQ(r:RR)(g:Nat):Prop:=(r.rows≠[]/\r.ad=some ⟨g,0,none⟩) \/ ∃q∈r.rows,pU q g
def UT(r:RR):Prop:=r.rows≠[]->∃b,r.ad=some ⟨b,0,none⟩/\SepE b r.rows
structure SepR(b:Nat)(rs:Q07):Prop where
 good:∀r∈rs,UT r
 head:∀r∈rs,¬PQ r b
 two:∀(x y:Nat) (hx:x<rs.length) (hy:y<rs.length),x≠y->∀g,PQ rs[x] g->¬PQ rs[y] g
def RX(r:TR)(g:Nat):Prop:=(r.rows≠[]/\r.ad=some ⟨g,0,none⟩) \/ ∃q∈r.rows,PQ q g
def UU(r:TR):Prop:=r.rows≠[]->∃b,r.ad=some ⟨b,0,none⟩/\SepR b r.rows
structure SepT(b:Nat)(rs:Q06):Prop where
 good:∀r∈rs,UU r
 head:∀r∈rs,¬RX r b
 two:∀(x y:Nat) (hx:x<rs.length) (hy:y<rs.length),x≠y->∀g,RX rs[x] g->¬RX rs[y] g
def PR(b:Nat)(w:World)(qs:Q08):Prop:=SepE b qs/\∀q∈qs,∀g,pU q g->b<g/\g<w.heap.size/\j6 w g
theorem PR.nil(b:Nat)(w:af):PR b w []:=by
 refine⟨⟨?_,?_,?_,?_,?_⟩,?_⟩
 ·intro r hr;cases hr
 ·intro r hr;cases hr
 ·intro r hr;cases hr
 ·intro r hr;cases hr
 ·intro x y hx;exact absurd hx (Wm _)
 intro r hr;cases hr
def UV(b:Nat)(w:World)(qs:Q07):Prop:=SepR b qs/\∀q∈qs,∀g,PQ q g->b<g/\g<w.heap.size/\j6 w g
theorem UV.nil(b:Nat)(w:af):UV b w []:=by
 refine⟨⟨?_,?_,?_⟩,?_⟩
 ·intro r hr;cases hr
 ·intro r hr;cases hr
 ·intro x y hx;exact absurd hx (Wm _)
 intro r hr;cases hr
def UW(b:Nat)(w:World)(qs:Q06):Prop:=SepT b qs/\∀q∈qs,∀g,RX q g->b<g/\g<w.heap.size/\j6 w g
theorem UW.nil(b:Nat)(w:af):UW b w []:=by
 refine⟨⟨?_,?_,?_⟩,?_⟩
 ·intro r hr;cases hr
 ·intro r hr;cases hr
 ·intro x y hx;exact absurd hx (Wm _)
 intro r hr;cases hr
open Maps
theorem PR.add{S:Nat->Prop}{b:Nat}{wr wn:af}{qs:Q08}(h:PR b wr qs)(hc:Chg S wr wn)(hb:b<wr.heap.size){q:ER}(zA:q.e.allow≠[]->∃g,q.adA=some ⟨g,0,none⟩)(zK:q.e.kids≠[]->∃g,q.adK=some ⟨g,0,none⟩)(hone:∀g,bA q g->¬bK q g)(hq:∀g,pU q g->wr.heap.size<=g/\g<wn.heap.size/\j6 wn g):PR b wn (qs++[q]):=by
 refine⟨⟨?_,?_,?_,?_,?_⟩,?_⟩
 ·intro r hr;rw[VJ,VO]at hr;rcases hr with hr|rfl
  ·exact h.1.zeroA r hr
  exact zA
 ·intro r hr;rw[VJ,VO]at hr;rcases hr with hr|rfl
  ·exact h.1.zeroK r hr
  exact zK
 ·intro r hr;rw[VJ,VO]at hr;rcases hr with hr|rfl
  ·exact h.1.head r hr
  intro hg;have:=(hq b hg).1;omega
 ·intro r hr;rw[VJ,VO]at hr;rcases hr with hr|rfl
  ·exact h.1.one r hr
  exact hone
 ·intro x y hx hy hne g hgx hgy;rw[VD,VT]at hx hy;by_cases ex:x<qs.length
  ·rw[Wd ex]at hgx;by_cases ey:y<qs.length
   ·rw[Wd ey]at hgy;exact h.1.two x y ex ey hne g hgx hgy
   rw[Wz (by omega)]at hgy;have e1:=(hq g (by simpa using hgy)).1;have e2:=(h.2 _ (Vs ex) g hgx).2.1;omega
  rw[Wz (by omega)]at hgx;have e1:=(hq g (by simpa using hgx)).1;have ey:y<qs.length:=by omega
  rw[Wd ey]at hgy;have e2:=(h.2 _ (Vs ey) g hgy).2.1;omega
 intro r hr g hg;rw[VJ,VO]at hr;rcases hr with hr|rfl
 ·obtain⟨a1,a2,a3⟩:=h.2 r hr g hg;exact⟨a1,Vt a2 hc.size,hc.free g a2 a3⟩
 obtain⟨a1,a2,a3⟩:=hq g hg;exact⟨by omega,a2,a3⟩
theorem GQ(xs:Q0a):∀u∈pairs xs,u.oneCell'=true:=by
 intro u hu;unfold pairs at hu;rw[VP]at hu;obtain⟨a,-,h⟩:=hu;simp at h;rcases h with rfl|rfl<;>rfl
theorem RY(zs:List Int):∀u∈ints zs,u.oneCell'=true:=by
 intro u hu;unfold ints at hu;rw[VE]at hu;obtain⟨a,-,rfl⟩:=hu;rfl
theorem PS{w:af}{base n:Nat}{v:Value}{xs:Q0a}(h:w.ownsRow base 216 2 v n (pairs xs))(hn:n=xs.length):∃ad cap,v=.slice ad xs.length cap/\kD w ad xs/\(xs≠[]->∃g,ad=some ⟨g,0,none⟩)/\∀g,xs≠[]->ad=some ⟨g,0,none⟩->base<=g/\g<w.heap.size/\j6 w g:=by
 subst hn;have h2:=h;rcases h.2 with⟨rfl,h0⟩|⟨g,cap,cur,rfl,hbg,hg,hnc,-⟩
 ·have hx:xs=[]:=VM.1 h0;subst hx;exact⟨none,0,rfl,.inl rfl,fun h=>absurd rfl h,fun _ h=>absurd rfl h⟩
 have hlt:=h2.lt g rfl;refine⟨some ⟨g,0,none⟩,cap,rfl,.inr ⟨g,0,rfl,hlt.2,fun i hi=>?_⟩,fun _=>⟨g,rfl⟩,fun g' _ e=>?_⟩
 ·have hl:=lW xs;obtain⟨p0,p1⟩:=qL xs i hi;refine⟨?_,?_⟩
  ·rw[h2.cellAt (0+i*2) (by omega),VW];exact p0
  rw[h2.cellAt (0+i*2+1) (by omega),VW];exact p1
 injection e with e;injection e with e1 e2;subst e1;exact⟨hlt.1,hlt.2,fun y=>h2.frozenAt y⟩
theorem LQ{w:af}{base n:Nat}{v:Value}{zs:List Int}(h:w.ownsRow base 2 1 v n (ints zs))(hn:n=zs.length):∃ad cap,v=.slice ad zs.length cap/\rU w ad zs/\(zs≠[]->∃g,ad=some ⟨g,0,none⟩)/\∀g,zs≠[]->ad=some ⟨g,0,none⟩->base<=g/\g<w.heap.size/\j6 w g:=by
 subst hn;have h2:=h;rcases h.2 with⟨rfl,h0⟩|⟨g,cap,cur,rfl,hbg,hg,hnc,-⟩
 ·have hx:zs=[]:=VM.1 h0;subst hx;exact⟨none,0,rfl,.inl rfl,fun h=>absurd rfl h,fun _ h=>absurd rfl h⟩
 have hlt:=h2.lt g rfl;refine⟨some ⟨g,0,none⟩,cap,rfl,.inr ⟨g,0,rfl,hlt.2,fun i hi=>?_⟩,fun _=>⟨g,rfl⟩,fun g' _ e=>?_⟩
 ·rw[h2.cellAt (0+i) (by omega),VW];simp[ints,hi]
 injection e with e;injection e with e1 e2;subst e1;exact⟨hlt.1,hlt.2,fun y=>h2.frozenAt y⟩
theorem uG{ops:Array Oper}{rest:List Oper}{o:Oper}{a:Act}{Q:Exit->Act->World->Prop}(w:af)(hgd:o.guard=none)(s x:Operand)(t:TypeId)
  (ho:o.op=.call { callee:=.builtin .append,args:=#[s,x],argTypes:=#[t,t] })
  (e:TypeId) (i:TypeInfo) (z:Value) (size bytes:Nat) (ht:prog.underlying t=some (.slice e)) (hi:prog.info? e=some i) (hz:i.zero=some z)
  (hsize:i.size=size) (hby:i.bytes=bytes) (hzs:z.cells.size=size) (hsz:0<size)
  (hs:a.eval s=.slice none 0 0)
  (ad:Q02) (m c:Nat) (news:Q03) (hx:a.eval x=.slice ad m c) (hl:news.length=m*size) (hn0:ad=none->m=0) (hnews:∀A,ad=some A->∀j u,news[j]?=some u->w.cell? (A.add j)=some u) (h1:∀u∈news,u.oneCell'=true)
  (h63:0+m<=maxLen) (hbytes:(0+m)*bytes<=140737488355328)
  (h:∀v' w',w'.ownsRow w.heap.size e size v' (0+m) ([]++news)->w.grownBy w' (Value.ownBlock (.slice none 0 0))->wpList prog ops Q rest (a.put o.dst v') w'):wpList prog ops Q (o::rest) a w:=by
 cases ad;case some A=>exact wpList_append_own w hgd s x t ho w.heap.size e i z size bytes ht hi hz hsize hby hzs hsz (.slice none 0 0) 0 [] hs (World.ownsRow_nil _ _ _ _) A m c news hx hl (hnews A rfl) h1 h63 hbytes (Vu _) fun v' w' a b _=>h v' w' a b
 obtain rfl:=hn0 rfl;have hn:news=[]:=List.eq_nil_of_length_eq_zero (by simpa using hl);subst hn;refine wpList_plain hgd fun K hK=>?_;have hr:(Builtin.append_ #[t,t] o.type #[.slice none 0 0,.slice none 0 c]).run prog w=.ok (.slice none 0 0) w:=by
  simp[Builtin.append_,run_underlying ht,sizeOf,typeInfo,hi,Builtin.lenOf,Builtin.firstCells]
 unfold Oper.wp execOp;simp only[ho,resolve,invoke,builtin,Sem.run_bind,Sem.run_pure,Result.andThen_ok,List.map_toArray,WC,List.map_nil,hs,hx,hr];exact hK _ _ (h _ w (World.ownsRow_nil w _ e size) ⟨rfl,rfl,rfl,Vu _,fun _ _ _=>rfl⟩)
theorem PT{w:af}{ad:Q02}{xs:Q0a}(h:kD w ad xs):∀A,ad=some A->∀j u,(pairs xs)[j]?=some u->w.cell? (A.add j)=some u:=by
 intro A hA j u hu;subst hA;have hl:=lW xs;have hj:j<(pairs xs).length:=by
  rcases Nat.lt_or_ge j (pairs xs).length with h'|h'
  ·exact h'
  rw[List.getElem?_eq_none h']at hu;cases hu
 rcases h with rfl|⟨b,off,e,hb,hr⟩
 ·simp[pairs]at hj
 injection e with e;subst e;obtain⟨i,hi⟩:∃i,j=i*2\/j=i*2+1:=⟨j / 2,by omega⟩;rw[show(⟨b,off,none⟩:Addr).add j=⟨b,off+j,none⟩ by simp[Addr.add]];rcases hi with rfl|rfl
 ·rw[(qL xs i (by omega)).1]at hu;injection hu with hu;subst hu;exact(hr i (by omega)).1
 rw[(qL xs i (by omega)).2]at hu;injection hu with hu;subst hu;have:=(hr i (by omega)).2;rw[show off+i*2+1=off+(i*2+1) by omega]at this;exact this
theorem Ug{w:af}{ad:Q02}{zs:List Int}(h:rU w ad zs):∀A,ad=some A->∀j u,(ints zs)[j]?=some u->w.cell? (A.add j)=some u:=by
 intro A hA j u hu;subst hA;have hj:j<(ints zs).length:=by
  rcases Nat.lt_or_ge j (ints zs).length with h'|h'
  ·exact h'
  rw[List.getElem?_eq_none h']at hu;cases hu
 rcases h with rfl|⟨b,off,e,hb,hr⟩
 ·simp[ints]at hj
 injection e with e;subst e;have hj2:j<zs.length:=by simpa[ints] using hj
 have:=hr j hj2;unfold ints at hu;rw[List.getElem?_map,VG hj2]at hu;simp at hu;subst hu;rw[show(⟨b,off,none⟩:Addr).add j=⟨b,off+j,none⟩ by simp[Addr.add]];exact this
theorem kD.none0{w:af}{ad:Q02}{xs:Q0a}(h:kD w ad xs):ad=none->xs.length=0:=fun e=>by
 rcases h with rfl|⟨b,off,e',-⟩
 ·rfl
 rw[e']at e;cases e
theorem rU.none0{w:af}{ad:Q02}{zs:List Int}(h:rU w ad zs):ad=none->zs.length=0:=fun e=>by
 rcases h with rfl|⟨b,off,e',-⟩
 ·rfl
 rw[e']at e;cases e
theorem kD.grown{w w':af}{row:Option Nat}{ad:Q02}{xs:Q0a}(h:kD w ad xs)(hg:w.grownBy w' row)(hn:∀g o,xs≠[]->ad=some ⟨g,o,none⟩->some g≠row):kD w' ad xs:=by
 rcases h with h|⟨b,off,e,hb,hr⟩
 ·exact .inl h
 by_cases hx:xs=[]
 ·exact .inl hx
 exact .inr ⟨b,off,e,Vt hb hg.size,fun i hi=>⟨hg.cell (hr i hi).1 (hn b off hx e),hg.cell (hr i hi).2 (hn b off hx e)⟩⟩
theorem rU.grown{w w':af}{row:Option Nat}{ad:Q02}{zs:List Int}(h:rU w ad zs)(hg:w.grownBy w' row)(hn:∀g o,zs≠[]->ad=some ⟨g,o,none⟩->some g≠row):rU w' ad zs:=by
 rcases h with h|⟨b,off,e,hb,hr⟩
 ·exact .inl h
 by_cases hx:zs=[]
 ·exact .inl hx
 exact .inr ⟨b,off,e,Vt hb hg.size,fun i hi=>hg.cell (hr i hi) (hn b off hx e)⟩
structure Beside(w:World)(v:Value)(q:ER):Prop where
 ok:q.ok w
 zA:q.e.allow≠[]->∃g,q.adA=some ⟨g,0,none⟩
 zK:q.e.kids≠[]->∃g,q.adK=some ⟨g,0,none⟩
 lt:∀g,pU q g->g<w.heap.size/\v.ownBlock≠some g
theorem Beside.below{w w':af}{v:Value}{q:ER}(h:Beside w v q)(hb:ag w w'):Beside w' v q :=
 ⟨h.ok.below hb,h.zA,h.zK,fun g hg=>⟨Vt (h.lt g hg).1 hb.size,(h.lt g hg).2⟩⟩
theorem Beside.grown{w w':af}{v v':Value}{q:ER}(h:Beside w v q)(hg:w.grownBy w' v.ownBlock)(hv:v'.ownBlock=v.ownBlock\/v'.ownBlock=some w.heap.size):Beside w' v' q:=by
 refine⟨⟨h.ok.1.grown hg fun g o hne e=>?_,h.ok.2.grown hg fun g o hne e=>?_⟩,h.zA,h.zK,fun g hi=>⟨Vt (h.lt g hi).1 hg.size,?_⟩⟩
 ·obtain⟨g0,e0⟩:=h.zA hne;rw[e0]at e;injection e with e;injection e with e1 e2;subst e1;exact fun e=>(h.lt g0 (.inl ⟨hne,e0⟩)).2 e.symm
 ·obtain⟨g0,e0⟩:=h.zK hne;rw[e0]at e;injection e with e;injection e with e1 e2;subst e1;exact fun e=>(h.lt g0 (.inr ⟨hne,e0⟩)).2 e.symm
 rcases hv with e|e
 ·rw[e];exact(h.lt g hi).2
 rw[e];intro e2;injection e2 with e2;have:=(h.lt g hi).1;omega
theorem GR{w:af}{base n:Nat}{v:Value}{qs:Q08}(h:w.ownsRow base 43 5 v n (eD qs))(hn:n=qs.length)(hok:∀q∈qs,q.ok w):∃ad cap,v=.slice ad qs.length cap/\jo w ad qs:=by
 subst hn;have h2:=h;rcases h.2 with⟨rfl,h0⟩|⟨g,cap,cur,rfl,hbg,hg,hnc,-⟩
 ·exact⟨none,0,by rw[h0],.inl (VM.1 h0)⟩
 have hlt:=h2.lt g rfl;refine⟨some ⟨g,0,none⟩,cap,rfl,.inr ⟨g,0,rfl,hlt.2,fun i hi=>?_,hok⟩⟩;have hl:=xx qs;have key:∀j,j<5->w.cell? ⟨g,0+i*5+j,none⟩=(qs[i]).row[j]?:=fun j hj=>by
  rw[h2.cellAt (0+i*5+j) (by omega),<-zQ qs i hi j hj,VW]
 exact⟨key 0 (by omega),key 1 (by omega),key 2 (by omega),key 3 (by omega),key 4 (by omega)⟩
theorem xN(w:af)(q:ER):∀j u,q.row[j]?=some u->(w.alloc (.cells #[.int .i64 q.e.kind,.slice q.adA q.e.allow.length q.capA,.string q.e.over,.string q.e.name,.slice q.adK q.e.kids.length q.capK] 43)).cell? ((⟨w.heap.size,0,none⟩:Addr).add j)=some u:=by
 intro j u hu;rw[show(⟨w.heap.size,0,none⟩:Addr).add j=⟨w.heap.size,0+j,none⟩ by simp[Addr.add];omega,VW];have:=World.cell?_alloc_mark w #[.int .i64 q.e.kind,.slice q.adA q.e.allow.length q.capA,.string q.e.over,.string q.e.name,.slice q.adK q.e.kids.length q.capK] 43 (0,0) j;rw[this];simpa[ER.row] using hu
theorem vM(q:ER):∀u∈q.row,u.oneCell'=true:=by
 intro u hu;simp[ER.row]at hu;rcases hu with rfl|rfl|rfl|rfl|rfl<;>rfl
set_option maxRecDepth 100000
theorem kD.heap{w w':af}{ad:Q02}{xs:Q0a}(h:kD w ad xs)(hs:w.heap.size<=w'.heap.size)(hz:xs≠[]->∃g,ad=some ⟨g,0,none⟩)(hn:∀g,xs≠[]->ad=some ⟨g,0,none⟩->w'.heap[g]?=w.heap[g]?):kD w' ad xs:=by
 rcases h with h|⟨b,off,e,hb,hr⟩
 ·exact .inl h
 by_cases hx:xs=[]
 ·exact .inl hx
 obtain⟨g,eg⟩:=hz hx;have e2:=e;rw[eg]at e;injection e with e;injection e with e1 e3;subst e1;have hh:=hn g hx eg;exact .inr ⟨g,off,e2,Vt hb hs,fun i hi=>⟨(VN (w:=w) (a:=⟨g,_,none⟩) hh).trans (hr i hi).1,(VN (w:=w) (a:=⟨g,_,none⟩) hh).trans (hr i hi).2⟩⟩
theorem rU.heap{w w':af}{ad:Q02}{xs:List Int}(h:rU w ad xs)(hs:w.heap.size<=w'.heap.size)(hz:xs≠[]->∃g,ad=some ⟨g,0,none⟩)(hn:∀g,xs≠[]->ad=some ⟨g,0,none⟩->w'.heap[g]?=w.heap[g]?):rU w' ad xs:=by
 rcases h with h|⟨b,off,e,hb,hr⟩
 ·exact .inl h
 by_cases hx:xs=[]
 ·exact .inl hx
 obtain⟨g,eg⟩:=hz hx;have e2:=e;rw[eg]at e;injection e with e;injection e with e1 e3;subst e1;have hh:=hn g hx eg;exact .inr ⟨g,off,e2,Vt hb hs,fun i hi=>(VN (w:=w) (a:=⟨g,_,none⟩) hh).trans (hr i hi)⟩
theorem pV{w w':af}{q:ER}(h:q.ok w)(hs:w.heap.size<=w'.heap.size)(zA:q.e.allow≠[]->∃g,q.adA=some ⟨g,0,none⟩)(zK:q.e.kids≠[]->∃g,q.adK=some ⟨g,0,none⟩)(hn:∀g,pU q g->w'.heap[g]?=w.heap[g]?):q.ok w' :=
 ⟨h.1.heap hs zA fun g h1 h2=>hn g (.inl ⟨h1,h2⟩),h.2.heap hs zK fun g h1 h2=>hn g (.inr ⟨h1,h2⟩)⟩
theorem bR{w w':af}{g:Nat}(h:j6 w g)(hh:w'.heap[g]?=w.heap[g]?):j6 w' g:=fun j=>(World.frozen?_of_block (w:=w) (a:=⟨g,j,none⟩) hh).trans (h j)
theorem bF{w w':af}{base:Nat}{e:TypeId}{size:Nat}{v:Value}{n:Nat}{xs:Q03}(h:w.ownsRow base e size v n xs)(hh:∀g,v.ownBlock=some g->w'.heap[g]?=w.heap[g]?):w'.ownsRow base e size v n xs:=by
 refine⟨h.1,?_⟩;rcases h.2 with hl|⟨g,cap,cur,rfl,h1,h2,h3⟩
 ·exact .inl hl
 exact .inr ⟨g,cap,cur,rfl,h1,(hh g rfl).trans h2,h3⟩
structure NewQ(X:Nat)(w:World)(q:ER):Prop where
 zA:q.e.allow≠[]->∃g,q.adA=some ⟨g,0,none⟩
 zK:q.e.kids≠[]->∃g,q.adK=some ⟨g,0,none⟩
 ok:q.ok w
 lie:∀g,pU q g->X<=g/\g<w.heap.size/\j6 w g
 one:∀g,bA q g->¬bK q g
 cA:q.e.allow.length<=q.capA
theorem JK(qs:Q08)(q:ER):eD (qs++[q])=eD qs++q.row:=by simp[eD]
set_option linter.unusedVariables false
structure Kid{α:Type}(K:World->Nat->α->Prop)(I:α->Nat->Prop):Prop where
 heap:∀(w w':World) (base:Nat) (q:α),K w base q->w.heap.size<=w'.heap.size->(∀g,I q g->w'.heap[g]?=w.heap[g]?)->K w' base q
 lt:∀(w:World) (base:Nat) (q:α),K w base q->∀g,I q g->base<=g/\g<w.heap.size
def AA{α:Type}(I:α->Nat->Prop)(v:Value)(rs:List α)(g:Nat):Prop:=v.ownBlock=some g \/ ∃q∈rs,I q g
structure WP{α:Type}(T:TypeId)(size:Nat)(cells:α->List Value)(K:World->Nat->α->Prop)(I:α->Nat->Prop)(w:World)(base:Nat)(v:Value)(rs:List α):Prop where
 own:w.ownsRow base T size v rs.length (rs.flatMap cells)
 kid:∀q∈rs,K w base q
 head:∀q∈rs,∀g,I q g->v.ownBlock≠some g
 two:∀(x y:Nat) (hx:x<rs.length) (hy:y<rs.length),x≠y->∀g,I rs[x] g->¬I rs[y] g
section
variable  {α:Type}{T:TypeId}{size:Nat}{cells:α->List Value}{K:World->Nat->α->Prop}{I:α->Nat->Prop}{w w':World}{base:Nat}{v:Value}{rs:List α}
theorem WP.lt(kd:Kid K I)(h:WP T size cells K I w base v rs){g:Nat}(hg:AA I v rs g):base<=g/\g<w.heap.size:=by
 rcases hg with hg|⟨q,hq,hg⟩
 ·exact h.own.lt g hg
 exact kd.lt w base q (h.kid q hq) g hg
theorem WP.heap(kd:Kid K I)(h:WP T size cells K I w base v rs)(hs:w.heap.size<=w'.heap.size)(hh:∀g,AA I v rs g->w'.heap[g]?=w.heap[g]?):WP T size cells K I w' base v rs where
 own:=bF h.own fun g hg=>hh g (.inl hg)
 kid q hq:=kd.heap w w' base q (h.kid q hq) hs fun g hg=>hh g (.inr ⟨q,hq,hg⟩)
 head:=h.head
 two:=h.two
theorem WP.below(kd:Kid K I)(h:WP T size cells K I w base v rs)(hb:ag w w'):WP T size cells K I w' base v rs :=
 h.heap kd hb.size fun g hg=>hb.block g (h.lt kd hg).2
theorem mI(w:af)(base:Nat):WP T size cells K I w base (.slice none 0 0) [] :=
 ⟨World.ownsRow_nil _ _ _ _,fun q hq=>(by cases hq),fun q hq=>(by cases hq),fun x y hx=>absurd hx (by simp)⟩
theorem GU{rs:List α}{q:α}(h:∀(x y:Nat) (hx:x<rs.length) (hy:y<rs.length),x≠y->∀g,I rs[x] g->¬I rs[y] g)(hq:∀p∈rs,∀g,I p g->¬I q g):
  ∀(x y:Nat) (hx:x<(rs++[q]).length) (hy:y<(rs++[q]).length),x≠y->∀g,I (rs++[q])[x] g->¬I (rs++[q])[y] g:=by
 intro x y hx hy hxy g h1 h2;rw[VD,VT]at hx hy;by_cases ex:x<rs.length
 ·rw[Wd ex]at h1;by_cases ey:y<rs.length
  ·rw[Wd ey]at h2;exact h x y ex ey hxy g h1 h2
  have:y=rs.length:=by omega
  subst this;rw[Wz (Vu _)]at h2;simp at h2;exact hq _ (Vs ex) g h1 h2
 have:x=rs.length:=by omega
 subst this;rw[Wz (Vu _)]at h1;simp at h1;have ey:y<rs.length:=by omega
 rw[Wd ey]at h2;exact hq _ (Vs ey) g h2 h1
theorem PU{rs:List α}{q:α}(h:∀(x y:Nat) (hx:x<(rs++[q]).length) (hy:y<(rs++[q]).length),x≠y->∀g,I (rs++[q])[x] g->¬I (rs++[q])[y] g):
  (∀(x y:Nat) (hx:x<rs.length) (hy:y<rs.length),x≠y->∀g,I rs[x] g->¬I rs[y] g)/\∀p∈rs,∀g,I p g->¬I q g:=by
 refine⟨fun x y hx hy hxy g h1 h2=>?_,fun p hp g h1 h2=>?_⟩
 ·exact h x y (by simp;omega) (by simp;omega) hxy g (by rw[Wd hx];exact h1) (by rw[Wd hy];exact h2)
 obtain⟨x,hx,rfl⟩:=V4 hp;exact h x rs.length (by simp;omega) (by simp) (by omega) g (by rw[Wd hx];exact h1) (by rw[Wz (Vu _)];simpa using h2)
theorem WP.snoc(kd:Kid K I)(h:WP T size cells K I w base v rs){q:α}{v':Value}(hown:w'.ownsRow base T size v' (rs.length+1) (rs.flatMap cells++cells q))(hg:w.grownBy w' v.ownBlock)(hat:v'.ownBlock=v.ownBlock \/ ∃g,v'.ownBlock=some g/\w.heap.size<=g)
  (hq:K w base q) (hv:∀g,I q g->v.ownBlock≠some g) (hr:∀p∈rs,∀g,I p g->¬I q g):WP T size cells K I w' base v' (rs++[q]):=by
 have keep:∀(p:α),K w base p->(∀g,I p g->v.ownBlock≠some g)->K w' base p:=fun p hp hn=>kd.heap w w' base p hp hg.size fun g hi=>hg.block g (kd.lt w base p hp g hi).2 (fun e=>hn g hi e.symm);have apart:∀(p:α),K w base p->(∀g,I p g->v.ownBlock≠some g)->∀g,I p g->v'.ownBlock≠some g:=fun p hp hn g hi=>by
  rcases hat with e|⟨g',e,hge⟩
  ·rw[e];exact hn g hi
  rw[e];intro e2;injection e2 with e2;have:=(kd.lt w base p hp g hi).2;omega
 refine⟨by simpa using hown,fun p hp=>?_,fun p hp=>?_,GU h.two hr⟩
 ·rcases VJ.1 hp with hp|hp
  ·exact keep p (h.kid p hp) (h.head p hp)
  rw[VO]at hp;subst hp;exact keep _ hq hv
 rcases VJ.1 hp with hp|hp
 ·exact apart p (h.kid p hp) (h.head p hp)
 rw[VO]at hp;subst hp;exact apart _ hq hv
theorem WP.last(kd:Kid K I){xs:List α}{q q':α}{b n cap j:Nat}{u:Value}{w1:af}{row:Option Nat}(h:WP T size cells K I w base (.slice (some ⟨b,0,none⟩) n cap) (xs++[q]))(hn:n=xs.length+1)
  (hg:w.grownBy w1 row) (hrow:∀r,row=some r->I q r) (hq':K w1 base q') (hI:∀g,I q' g->I q g\/(g≠b/\∀p∈xs,¬I p g)) (hset:((xs++[q]).flatMap cells).set j u=(xs++[q']).flatMap cells) :
  WP T size cells K I (w1.setCell ⟨b,j,none⟩ u) base (.slice (some ⟨b,0,none⟩) n cap) (xs++[q']):=by
 have hbl:b<w.heap.size:=(h.own.lt b rfl).2;have hq:=h.kid q (by simp);have hqb:∀g,I q g->g≠b:=fun g hi e=>h.head q (by simp) g hi (by rw[e];rfl);have hq'b:∀g,I q' g->g≠b:=fun g hi e=>by
  rcases hI g hi with h2|h2
  ·exact hqb g h2 e
  exact h2.1 e
 have hb1:w1.heap[b]?=w.heap[b]?:=hg.block b hbl (fun e=>hqb b (hrow b e.symm) rfl);have own1:w1.ownsRow base T size (.slice (some ⟨b,0,none⟩) n cap) (xs++[q]).length ((xs++[q]).flatMap cells):=bF h.own fun g hgo=>by
  have e:b=g:=by simpa[Value.ownBlock] using hgo
  rw[<-e];exact hb1
 have hlen:(xs++[q]).length=n:=by simp[hn]
 rw[hlen]at own1;obtain⟨ZY,hg2⟩:=own1.stored j u;rw[hset]at ZY;obtain⟨ht1,ht2⟩:=PU h.two;have h2s:∀g,g≠b->(w1.setCell ⟨b,j,none⟩ u).heap[g]?=w1.heap[g]?:=fun g hne=>Below.heap_setCell w1 _ u g hne;refine⟨by simpa[hn] using ZY,fun p hp=>?_,fun p hp g hi=>?_,GU ht1 fun p hp g hi hi'=>?_⟩
 ·rcases VJ.1 hp with hp|hp
  ·have hkp:=h.kid p (by simp[hp]);refine kd.heap w _ base p hkp (Vz hg.size hg2.size) fun g hi=>?_;have hl:=(kd.lt w base p hkp g hi).2;rw[h2s g (fun e=>h.head p (by simp[hp]) g hi (by rw[e];rfl))];exact hg.block g hl (fun e=>ht2 p hp g hi (hrow g e.symm))
  rw[VO]at hp;subst hp;exact kd.heap w1 _ base _ hq' hg2.size fun g hi=>h2s g (hq'b g hi)
 ·intro e;have e:b=g:=by simpa[Value.ownBlock] using e
  rcases VJ.1 hp with hp|hp
  ·exact h.head p (by simp[hp]) g hi (by rw[<-e];rfl)
  rw[VO]at hp;subst hp;exact hq'b g hi e.symm
 rcases hI g hi' with h2|h2
 ·exact ht2 p hp g hi h2
 exact h2.2 p hp hi
end
structure NodM(w:World)(base:Nat)(v:Value)(qs:Q08):Prop where
 own:w.ownsRow base 43 5 v qs.length (eD qs)
 zA:∀q∈qs,q.e.allow≠[]->∃g,q.adA=some ⟨g,0,none⟩
 zK:∀q∈qs,q.e.kids≠[]->∃g,q.adK=some ⟨g,0,none⟩
 ok:∀q∈qs,q.ok w
 lie:∀q∈qs,∀g,pU q g->base<=g/\g<w.heap.size/\j6 w g/\v.ownBlock≠some g
 one:∀q∈qs,∀g,bA q g->¬bK q g
 two:∀(x y:Nat) (hx:x<qs.length) (hy:y<qs.length),x≠y->∀g,pU qs[x] g->¬pU qs[y] g
 cA:∀q∈qs,q.e.allow.length<=q.capA
theorem NodM.mono{w:af}{base base':Nat}{v:Value}{qs:Q08}(h:NodM w base v qs)(hb:base'<=base):NodM w base' v qs :=
 ⟨⟨h.own.1,by
  rcases h.own.2 with hl|⟨g,cap,cur,e,h1,h2⟩
  ·exact .inl hl
  exact .inr ⟨g,cap,cur,e,Vz hb h1,h2⟩⟩,h.zA,h.zK,h.ok,fun q hq g hg=>⟨Vz hb (h.lie q hq g hg).1,(h.lie q hq g hg).2⟩,h.one,h.two,h.cA⟩
def RR.vs(q:RR):Value:=.slice q.ad q.rows.length q.cap
def TR.vs(q:TR):Value:=.slice q.ad q.rows.length q.cap
def kR(w:World)(base:Nat)(q:RR):Prop:=NodM w base q.vs q.rows
def iR(q:RR):Nat->Prop:=AA pU q.vs q.rows
theorem qF:Kid kR iR where
 heap w w' base q h hs hh:={
  own:=bF h.own fun g hg=>hh g (.inl hg)
  zA:=h.zA
  zK:=h.zK
  ok:=fun x hx=>pV (h.ok x hx) hs (h.zA x hx) (h.zK x hx) fun g hg=>hh g (.inr ⟨x,hx,hg⟩)
  lie:=fun x hx g hg=>by
   obtain⟨a1,a2,a3,a4⟩:=h.lie x hx g hg;exact⟨a1,Vt a2 hs,bR a3 (hh g (.inr ⟨x,hx,hg⟩)),a4⟩
  one:=h.one
  two:=h.two
  cA:=h.cA }
 lt w base q h g hg:=by
  rcases hg with hg|⟨x,hx,hg⟩
  ·exact h.own.lt g hg
  exact⟨(h.lie x hx g hg).1,(h.lie x hx g hg).2.1⟩
def RR.cells(q:RR):List Value:=[.string q.name,q.vs]
def TR.cells(q:TR):List Value:=[.string q.name,q.vs]
abbrev jX:=WP 39 2 RR.cells kR iR
def kT(w:World)(base:Nat)(q:TR):Prop:=jX w base q.vs q.rows
def iT(q:TR):Nat->Prop:=AA iR q.vs q.rows
theorem ko:Kid kT iT where
 heap w w' base q h hs hh:=WP.heap qF h hs hh
 lt w base q h g hg:=WP.lt qF h hg
abbrev eZ:=WP 36 2 TR.cells kT iT
theorem l6{α:Type}{cells:α->List Value}(h2:∀q,(cells q).length=2):∀(rs:List α) (i:Nat) (h:i<rs.length) (j:Nat),j<2->(rs.flatMap cells)[i*2+j]?=(cells rs[i])[j]?
 | [],i,h,_,_=>by simp at h
 | r::rs,0,_,j,hj=>by
  simp only[V6,Nat.zero_mul,VW,List.getElem_cons_zero];rw[Wy (by rw[h2];exact hj)]
 | r::rs,i+1,h,j,hj=>by
  have:=l6 h2 rs i (by simpa using h) j hj;simp only[V6,List.getElem_cons_succ];rw[Wx (by rw[h2];omega),h2,<-this];congr 1;omega
theorem kr{α:Type}{cells:α->List Value}(h2:∀q,(cells q).length=2):∀(rs:List α),(rs.flatMap cells).length=rs.length*2
 | []=>rfl
 | r::rs=>by simp only[V6,VD,h2,kr h2 rs,V8];omega
theorem Uh{w:af}{base:Nat}{q:TR}(h:kT w base q):F5 w q.ad q.rows:=by
 by_cases hz:q.rows=[]
 ·exact .inl hz
 rcases h.own.2 with⟨-,h0⟩|⟨g,cap,cur,e,-⟩
 ·exact absurd (VM.1 h0) hz
 have h3:=h.own;unfold TR.vs at e h3;injection e with e1 e2 e3;rw[e1]at h3;refine .inr ⟨g,0,e1,(h3.lt g rfl).2,fun i hi=>?_,fun r hr=>?_⟩
 ·have hl:(q.rows.flatMap RR.cells).length=q.rows.length*2:=kr (fun _=>rfl) _;have key:∀j,j<2->w.cell? ⟨g,0+i*2+j,none⟩=(RR.cells q.rows[i])[j]?:=fun j hj=>by
   rw[h3.cellAt (0+i*2+j) (by omega),<-l6 (fun _=>rfl) q.rows i hi j hj,VW]
  exact⟨key 0 (by omega),key 1 (by omega)⟩
 have hk:=h.kid r hr;obtain⟨ad,cap',e4,hsl⟩:=GR hk.own rfl hk.ok;unfold RR.vs at e4;injection e4 with e5 e6 e7;show jo w r.ad r.rows;rw[e5];exact hsl
theorem PV{w:af}{base size n cap:Nat}{e:TypeId}{ad:Q02}{xs:Q03}(h:w.ownsRow base e size (.slice ad n cap) n xs):n<=cap:=by
 rcases h.2 with⟨e1,h0⟩|⟨g,cap',cur,e1,-,-,hnc,-⟩
 ·injection e1 with _ e2 e3;omega
 injection e1 with _ e2 e3;omega
theorem eZ.read{w:af}{base:Nat}{v:Value}{rs:Q06}(h:eZ w base v rs):∃ad cap,v=.slice ad rs.length cap/\jK w ad rs/\∀r∈rs,r.caps:=by
 have hc:∀r∈rs,r.caps:=fun r hr=>⟨PV (h.kid r hr).own,fun q hq=>⟨PV ((h.kid r hr).kid q hq).own,((h.kid r hr).kid q hq).cA⟩⟩;rcases h.own.2 with⟨rfl,h0⟩|⟨g,cap,cur,rfl,-⟩
 ·exact⟨none,0,by rw[h0],.inl (VM.1 h0),hc⟩
 have h3:=h.own;refine⟨some ⟨g,0,none⟩,cap,rfl,.inr ⟨g,0,rfl,(h3.lt g rfl).2,fun i hi=>?_,fun r hr=>Uh (h.kid r hr)⟩,hc⟩;have hl:(rs.flatMap TR.cells).length=rs.length*2:=kr (fun _=>rfl) _;have key:∀j,j<2->w.cell? ⟨g,0+i*2+j,none⟩=(TR.cells rs[i])[j]?:=fun j hj=>by
  rw[h3.cellAt (0+i*2+j) (by omega),<-l6 (fun _=>rfl) rs i hi j hj,VW]
 exact⟨key 0 (by omega),key 1 (by omega)⟩
def kE(w:World)(base:Nat)(q:ER):Prop:=NewQ base w q
theorem GV:Kid kE pU where
 heap w w' base q h hs hh:=⟨h.zA,h.zK,pV h.ok hs h.zA h.zK hh,fun g hg=>by
  obtain⟨a1,a2,a3⟩:=h.lie g hg;exact⟨a1,Vt a2 hs,bR a3 (hh g hg)⟩,h.one,h.cA⟩
 lt w base q h g hg:=⟨(h.lie g hg).1,(h.lie g hg).2.1⟩
abbrev Tz:=WP 43 5 ER.row kE pU
theorem Tz.nod{w:af}{base:Nat}{v:Value}{qs:Q08}(h:Tz w base v qs):NodM w base v qs :=
 ⟨h.own,fun q hq=>(h.kid q hq).zA,fun q hq=>(h.kid q hq).zK,fun q hq=>(h.kid q hq).ok,fun q hq g hg=>⟨((h.kid q hq).lie g hg).1,((h.kid q hq).lie g hg).2.1,((h.kid q hq).lie g hg).2.2,h.head q hq g hg⟩,fun q hq=>(h.kid q hq).one,h.two,fun q hq=>(h.kid q hq).cA⟩
theorem NodM.ex{w:af}{base:Nat}{v:Value}{qs:Q08}(h:NodM w base v qs):Tz w base v qs :=
 ⟨h.own,fun q hq=>⟨h.zA q hq,h.zK q hq,h.ok q hq,fun g hg=>⟨(h.lie q hq g hg).1,(h.lie q hq g hg).2.1,(h.lie q hq g hg).2.2.1⟩,h.one q hq,h.cA q hq⟩,fun q hq g hg=>(h.lie q hq g hg).2.2.2,h.two⟩
theorem NewQ.mono{X Y:Nat}{w:af}{q:ER}(h:NewQ X w q)(hY:Y<=X):NewQ Y w q:=⟨h.zA,h.zK,h.ok,fun g hg=>⟨Vz hY (h.lie g hg).1,(h.lie g hg).2⟩,h.one,h.cA⟩
section
variable  {α:Type}{T:TypeId}{size:Nat}{cells:α->List Value}{K:World->Nat->α->Prop}{I:α->Nat->Prop}{w w0 w':World}{base:Nat}{v:Value}{rs:List α}
theorem WP.snocN(kd:Kid K I)(h0:WP T size cells K I w0 base v rs)(hb0:ag w0 w){q:α}{v':Value}(hown:w'.ownsRow base T size v' (rs.length+1) (rs.flatMap cells++cells q))(hg:w.grownBy w' v.ownBlock)(hat:v'.ownBlock=v.ownBlock \/ ∃g,v'.ownBlock=some g/\w.heap.size<=g)
  (hq:K w base q) (hn:∀g,I q g->w0.heap.size<=g):WP T size cells K I w' base v' (rs++[q]) :=
 (h0.below kd hb0).snoc kd hown hg hat hq (fun g hg e=>by have:=(h0.own.lt g e).2;have:=hn g hg;omega) (fun p hp g h1 h2=>by have:=(kd.lt w0 base p (h0.kid p hp) g h1).2;have:=hn g h2;omega)
end
def sU(f:Int->Int)(e:Ex):Ex:={ e with kids:=e.kids.map f }
theorem GX{w:af}{base n m cap:Nat}{e:TypeId}{size:Nat}{ad:Q02}{xs:Q03}(h:w.ownsRow base e size (.slice ad n cap) m xs):n<=cap:=by
 rcases h.2 with⟨e1,h0⟩|⟨g,cap',cur,e1,-,-,hnc,-⟩
 ·injection e1 with _ e2 e3;omega
 injection e1 with _ e2 e3;omega
theorem tH(F g:Nat)(f:Int->Int)(r:ER)(w:af)(hok:r.ok w)(hlA:r.e.allow.length<=1048576)(hlK:r.e.kids.length<=1048576)(hrun:∀(xs:Array Value) (u:af),(callFunc F xs).run prog u=.ok (.enter F xs) u)(hpl:∀x∈r.e.kids,∀w1:World,ag w w1->Calls prog F #[.int .i64 x,.pointer (some ⟨g,0,none⟩)] w1 fun e w'=>e=.returned (.int .i64 (f x))/\w'=w1):
  Calls prog 241 #[r.val,.func (Fn.func F) #[] #[.pointer (some ⟨g,0,none⟩)]] w fun e w'=>∃q:ER,e=.returned q.val/\q.e=sU f r.e/\NewQ w.heap.size w' q/\ag w w':=by
 obtain⟨iA,hiA,zA0,zA1,zA2⟩:=info_parts (P:=prog) (e:=216) (z:=.agg #[.string ⟨#[]⟩,.string ⟨#[]⟩]) (size:=2) (bytes:=32) (by kernel_rfl);obtain⟨iI,hiI,zI0,zI1,zI2⟩:=info_parts (P:=prog) (e:=2) (z:=.int .i64 0) (size:=1) (bytes:=8) (by kernel_rfl);have ZH:Hid (prog.info? 216=some iA/\iA.zero=some (.agg #[.string ⟨#[]⟩,.string ⟨#[]⟩])/\iA.size=2/\iA.bytes=32):=⟨hiA,zA0,zA1,zA2⟩;have YP:Hid (prog.info? 2=some iI/\iI.zero=some (.int .i64 0)/\iI.size=1/\iI.bytes=8):=⟨hiI,zI0,zI1,zI2⟩;have Xc:=az hok;have HPL:Hid (∀x∈r.e.kids,∀w1:World,ag w w1->Calls prog F #[.int .i64 x,.pointer (some ⟨g,0,none⟩)] w1 fun e w'=>e=.returned (.int .i64 (f x))/\w'=w1):=hpl;have YQ:Hid (∀(xs:Array Value) (u:World),(callFunc F xs).run prog u=.ok (.enter F xs) u):=hrun;clear hok hpl hrun hiA zA0 zA1 zA2 hiI zI0 zI1 zI2;obtain⟨W1,hW1⟩:=eQx ((w.alloc (.cells #[.int .i64 r.e.kind,.slice r.adA r.e.allow.length r.capA,.string r.e.over,.string r.e.name,.slice r.adK r.e.kids.length r.capK] 43)).alloc (.cells #[.int .i64 0,.slice none 0 0,.string ⟨#[]⟩,.string ⟨#[]⟩,.slice none 0 0] 43));have HB1:Hid (ag w W1):=by show Below _ _ _;rw[hW1];exact((Vv _ _).alloc (Vu _) _).alloc (by simp) _
 have hgl:w.heap.size+1<W1.heap.size:=by rw[hW1];simp
 have HSA1:Hid (kD W1 r.adA r.e.allow):=Xc.out.1.below HB1.out;have HP:Hid (W1.cell? ⟨w.heap.size,0,none⟩=some (.int .i64 r.e.kind)/\W1.cell? ⟨w.heap.size,1,none⟩=some (.slice r.adA r.e.allow.length r.capA)/\W1.cell? ⟨w.heap.size,2,none⟩=some (.string r.e.over)/\W1.cell? ⟨w.heap.size,3,none⟩=some (.string r.e.name)/\W1.cell? ⟨w.heap.size,4,none⟩=some (.slice r.adK r.e.kids.length r.capK)/\(∀y,W1.frozen? ⟨w.heap.size,y,none⟩=false)/\(∀y,W1.frozen? ⟨w.heap.size+1,y,none⟩=false)/\∀y,y<5->(W1.cell? ⟨w.heap.size+1,y,none⟩).isSome=true):=by
  rw[hW1];refine⟨by simp,by simp,by simp,by simp,by simp,fun y=>by simp,fun y=>?_,fun y hy=>?_⟩
  ·simp
  have:=World.cell?_alloc_mark (w.alloc (.cells #[.int .i64 r.e.kind,.slice r.adA r.e.allow.length r.capA,.string r.e.over,.string r.e.name,.slice r.adK r.e.kids.length r.capK] 43)) #[.int .i64 0,.slice none 0 0,.string ⟨#[]⟩,.string ⟨#[]⟩,.slice none 0 0] 43 (0,0) y;rw[show(w.alloc (.cells #[.int .i64 r.e.kind,.slice r.adA r.e.allow.length r.capA,.string r.e.over,.string r.e.name,.slice r.adK r.e.kids.length r.capK] 43)).heap.size=w.heap.size+1 by simp]at this;rw[this];have hc:y=0\/y=1\/y=2\/y=3\/y=4:=by omega
  rcases hc with rfl|rfl|rfl|rfl|rfl<;>rfl
 go_enter func241,ntmps241;unfold ER.val;go_wp2_with(at_builtin;rw[<-hW1];clear hW1;refine uG _ rfl _ _ 40 rfl 216 iA (.agg #[.string ⟨#[]⟩,.string ⟨#[]⟩]) 2 32 underlying40 ZH.out.1 ZH.out.2.1 ZH.out.2.2.1 ZH.out.2.2.2 rfl (by decide) rfl r.adA r.e.allow.length r.capA (pairs r.e.allow) rfl (lW _) HSA1.out.none0 (PT HSA1.out) (GQ _) (by unfold maxLen;omega) (by omega) ?_);intro v2 w2 hown2 WZ;have HB2:Hid (ag W1 w2):=(Vv _ _).grown WZ (Vu _) (fun k hk=>by cases hk);obtain⟨adA,cpA,rfl,hsA,hzA,hoA⟩:=PS (by simpa using hown2) (by simp);have ZX:Hid (r.e.allow.length<=cpA):=GX hown2;have HSA2:=az hsA;have HZA:Hid (r.e.allow≠[]->∃g,adA=some ⟨g,0,none⟩):=hzA;have HOA:Hid (∀g,r.e.allow≠[]->adA=some ⟨g,0,none⟩->W1.heap.size<=g/\g<w2.heap.size/\j6 w2 g):=hoA;have hg0:w.heap.size<W1.heap.size:=by omega
 have x0:w2.cell? ⟨w.heap.size,0,none⟩=some (.int .i64 r.e.kind):=kept HB2.out hg0 HP.out.1;have x1:w2.cell? ⟨w.heap.size,1,none⟩=some (.slice r.adA r.e.allow.length r.capA):=kept HB2.out hg0 HP.out.2.1;have x2:w2.cell? ⟨w.heap.size,2,none⟩=some (.string r.e.over):=kept HB2.out hg0 HP.out.2.2.1;have x3:w2.cell? ⟨w.heap.size,3,none⟩=some (.string r.e.name):=kept HB2.out hg0 HP.out.2.2.2.1;have x4:w2.cell? ⟨w.heap.size,4,none⟩=some (.slice r.adK r.e.kids.length r.capK):=kept HB2.out hg0 HP.out.2.2.2.2.1;have fx:∀y,w2.frozen? ⟨w.heap.size,y,none⟩=false:=fun y=>qM HB2.out hg0 (HP.out.2.2.2.2.2.1 y);have HY:Hid ((∀y,w2.frozen? ⟨w.heap.size+1,y,none⟩=false)/\∀y,y<5->(w2.cell? ⟨w.heap.size+1,y,none⟩).isSome=true):=⟨fun y=>qM HB2.out hgl (HP.out.2.2.2.2.2.2.1 y),fun y hy=>by rw[HB2.out.cell (p:=⟨w.heap.size+1,y,none⟩) hgl];exact HP.out.2.2.2.2.2.2.2 y hy⟩;clear hown2 WZ hsA hzA hoA;obtain⟨W3,hW3⟩:=eQx (w2.setCell ⟨w.heap.size,1,none⟩ (.slice adA r.e.allow.length cpA));have HB3:Hid (ag w W3):=by
  show Below _ _ _;rw[hW3];exact(HB1.out.trans (HB2.out.mono HB1.out.size)).setCell (Vu _) _
 have Zr:Hid (Chg (fun g=>g=w.heap.size) w2 W3):=by rw[hW3];exact Chg.set _ rfl
 have HS3:Hid (W3.heap.size=w2.heap.size):=by show _=_;rw[hW3];simp
 have hw2:w.heap.size+1<w2.heap.size:=Vt hgl HB2.out.size;have HX:Hid (W3.cell? ⟨w.heap.size,0,none⟩=some (.int .i64 r.e.kind)/\W3.cell? ⟨w.heap.size,1,none⟩=some (.slice adA r.e.allow.length cpA)/\W3.cell? ⟨w.heap.size,2,none⟩=some (.string r.e.over)/\W3.cell? ⟨w.heap.size,3,none⟩=some (.string r.e.name)/\W3.cell? ⟨w.heap.size,4,none⟩=some (.slice r.adK r.e.kids.length r.capK)/\(∀y,W3.frozen? ⟨w.heap.size,y,none⟩=false)/\(∀y,W3.frozen? ⟨w.heap.size+1,y,none⟩=false)/\∀y,y<5->(W3.cell? ⟨w.heap.size+1,y,none⟩).isSome=true):=by
  have h8:∀y,W3.cell? ⟨w.heap.size+1,y,none⟩=w2.cell? ⟨w.heap.size+1,y,none⟩:=fun y=>Zr.out.cell hw2 (by omega);refine⟨?_,?_,?_,?_,?_,fun y=>?_,fun y=>?_,fun y hy=>by rw[h8];exact HY.out.2 y hy⟩
  ·rw[hW3,gV (by omega)];exact x0
  ·rw[hW3];exact mD x1
  ·rw[hW3,gV (by omega)];exact x2
  ·rw[hW3,gV (by omega)];exact x3
  ·rw[hW3,gV (by omega)];exact x4
  ·rw[hW3];simpa using fx y
  rw[hW3];simpa using HY.out.1 y
 have y4:=HX.out.2.2.2.2.1;go_wp2;rw[<-hW3];clear hW3 x0 x1 x2 x3 x4 fx;go_loopw[5,15] (fun v i wr=>∃k:Nat,k<=r.e.kids.length/\i=.int .i64 k/\Hid (wr.ownsRow W3.heap.size 2 1 v k (ints ((r.e.kids.take k).map f)))/\Hid (ag W3 wr)) (fun _ i _=>r.e.kids.length-(intOf i).toNat);case atStart=>exact⟨0,Vy _,rfl,World.ownsRow_nil _ _ _ _,Vv _ _⟩
 obtain⟨k,hk,rfl,HOW,HB⟩:=hrel;have WS:Hid (ag w wr):=HB3.out.trans (HB.out.mono HB3.out.size);by_cases hlt:k<r.e.kids.length
 ·rcases Xc.out.2.below WS.out with h|⟨b,off,WR,hb,hr⟩
  ·rw[h]at hlt;simp at hlt
  have t0:=hr k hlt;have hk1:=bI k;have hk2:(k:Int)<(r.e.kids.length:Int):=by omega
  rw[WR];clear hr WR;go_wp2_with fail;rw[YQ.out,Oper.upon_enter];refine(HPL.out _ (Vs hlt) _ WS.out).mono ?_;rintro e w4 ⟨rfl,rfl⟩;go_wp2_with(at_builtin;refine wpList_append_own _ rfl _ _ 41 rfl W3.heap.size 2 iI (.int .i64 0) 1 8 underlying41 YP.out.1 YP.out.2.1 YP.out.2.2.1 YP.out.2.2.2 rfl (by decide) _ _ _ rfl (HOW.out.alloc _) ⟨w4.heap.size,0,none⟩ 1 1 [.int .i64 (f r.e.kids[k])] rfl rfl (cell_one_new _ _ _) (by intro u hu;simp at hu;subst hu;rfl) (by unfold maxLen;omega) (by omega) (by simp;have:=HB.out.size;omega) ?_);intro v5 w5 hown5 hgr5 _;have Xg:Hid (ag W3 w5):=(HB.out.alloc HB.out.size _).grown hgr5 (by simp;have:=HB.out.size;omega) (fun i hi=>(HOW.out.lt i hi).1);have Xa:Hid (w5.ownsRow W3.heap.size 2 1 v5 (k+1) (ints ((r.e.kids.take (k+1)).map f))):=by
   show World.ownsRow _ _ _ _ _ _ _;have e:ints ((r.e.kids.take (k+1)).map f)=ints ((r.e.kids.take k).map f)++[.int .i64 (f r.e.kids[k])]:=by
    rw[Vx hlt,Wl];unfold ints;rw[Wl];rfl
   rw[e];simpa[ints] using hown5
  clear hown5 hgr5;go_wp2;go_roundw;case rel=>exact⟨k+1,by omega,by go_num,Xa,Xg⟩
  simp[intOf]<;>omega
 obtain rfl:k=r.e.kids.length:=by omega
 have hown:=HOW.out;rw[VI]at hown;obtain⟨adK,cpK,rfl,hsK,hzK,hoK⟩:=LQ hown (by simp);have Xh:(r.e.kids.map f).length=r.e.kids.length:=by simp
 obtain⟨q,hq⟩:∃q:ER,q=⟨sU f r.e,adA,cpA,adK,cpK⟩:=⟨_,rfl⟩;have hs3:=HS3.out;have hgw:w.heap.size<W3.heap.size:=by omega
 have hgw1:w.heap.size+1<W3.heap.size:=by omega
 obtain⟨c0,c1,c2,c3,c4,f0,f1,h5⟩:=HX.out;have c0:=kept HB.out hgw c0;have c1:=kept HB.out hgw c1;have c2:=kept HB.out hgw c2;have c3:=kept HB.out hgw c3;have c4:=kept HB.out hgw c4;have f0:∀y,wr.frozen? ⟨w.heap.size,y,none⟩=false:=fun y=>qM HB.out hgw (f0 y);have f1:∀y,wr.frozen? ⟨w.heap.size+1,y,none⟩=false:=fun y=>qM HB.out hgw1 (f1 y);have h5:∀y,y<5->(wr.cell? ⟨w.heap.size+1,y,none⟩).isSome=true:=fun y hy=>by rw[HB.out.cell (p:=⟨w.heap.size+1,y,none⟩) hgw1];exact h5 y hy
 obtain⟨a0,u0⟩:=Option.isSome_iff_exists.mp (h5 0 (by omega));obtain⟨a1,u1⟩:=Option.isSome_iff_exists.mp (h5 1 (by omega));obtain⟨a2,u2⟩:=Option.isSome_iff_exists.mp (h5 2 (by omega));obtain⟨a3,u3⟩:=Option.isSome_iff_exists.mp (h5 3 (by omega));obtain⟨a4,u4⟩:=Option.isSome_iff_exists.mp (h5 4 (by omega));have HSK:=az hsK;have HZK:Hid (r.e.kids.map f≠[]->∃g,adK=some ⟨g,0,none⟩):=hzK;have HOKK:Hid (∀g,r.e.kids.map f≠[]->adK=some ⟨g,0,none⟩->W3.heap.size<=g/\g<wr.heap.size/\j6 wr g):=hoK;have XG:Hid (∀w9:World,Chg (fun g=>g=w.heap.size\/g=w.heap.size+1) wr w9->NewQ w.heap.size w9 q/\ag w w9):=fun w9 hc=>by
  have XZ:ag w w9:=WS.out.trans (hc.below (m:=w.heap.size) (fun g hg=>by rcases hg with h|h<;>omega) WS.out.size);have hcA:Chg (fun g=>g=w.heap.size\/g=w.heap.size+1) w2 w9:=((Zr.out.mono fun g hg=>.inl hg).trans (Chg.of HB.out)).trans hc;refine⟨?_,XZ⟩;rw[hq];refine⟨HZA.out,HZK.out,⟨HSA2.out.chg hcA fun g o hne e=>?_,HSK.out.chg hc fun g o hne e=>?_⟩,?_,?_,ZX.out⟩
  ·obtain⟨g0,e0⟩:=HZA.out hne;rw[e0]at e;injection e with e;injection e with e1 e2;have:=(HOA.out g0 hne e0).1;omega
  ·obtain⟨g0,e0⟩:=HZK.out hne;rw[e0]at e;injection e with e;injection e with e1 e2;have:=(HOKK.out g0 hne e0).1;omega
  ·rintro g (⟨hne,e⟩|⟨hne,e⟩)
   ·obtain⟨p1,p2,p3⟩:=HOA.out g hne e;exact⟨by omega,Vt p2 hcA.size,hcA.free g p2 p3⟩
   obtain⟨p1,p2,p3⟩:=HOKK.out g hne e;exact⟨by omega,Vt p2 hc.size,hc.free g p2 p3⟩
  rintro g ⟨hne,e⟩ ⟨hne2,e2⟩;obtain⟨p1,p2,p3⟩:=HOA.out g hne e;obtain⟨r1,r2,r3⟩:=HOKK.out g hne2 e2;omega
 have HQV:Hid (Value.agg #[.int .i64 q.e.kind,.slice q.adA q.e.allow.length q.capA,.string q.e.over,.string q.e.name,.slice q.adK q.e.kids.length q.capK]=.agg #[.int .i64 r.e.kind,.slice adA r.e.allow.length cpA,.string r.e.over,.string r.e.name,.slice adK r.e.kids.length cpK]/\q.e=sU f r.e):=by
  show _/\_;rw[hq];exact⟨by simp[sU],rfl⟩
 have hlt1:w.heap.size<wr.heap.size:=Vt hgw HB.out.size;have hlt2:w.heap.size+1<wr.heap.size:=Vt hgw1 HB.out.size;clear hq hown hsK hzK hoK h5 y4 hs3;rw[Xh];clear Xh;go_wp2;obtain⟨W9,YF⟩:=eQx (((((((wr.setCell ⟨w.heap.size,4,none⟩ (.slice adK r.e.kids.length cpK)).setCell ⟨w.heap.size+1,0,none⟩ (.int .i64 r.e.kind)).setCell ⟨w.heap.size+1,1,none⟩ (.slice adA r.e.allow.length cpA)).setCell ⟨w.heap.size+1,2,none⟩ (.string r.e.over)).setCell ⟨w.heap.size+1,3,none⟩ (.string r.e.name)).setCell ⟨w.heap.size+1,4,none⟩ (.slice adK r.e.kids.length cpK)));have HC9:Hid (Chg (fun g=>g=w.heap.size\/g=w.heap.size+1) wr W9):=by
  rw[YF];exact(((((Chg.set (S:=fun g=>g=w.heap.size\/g=w.heap.size+1) _ (.inl rfl)).trans (Chg.set _ (.inr rfl))).trans (Chg.set _ (.inr rfl))).trans (Chg.set _ (.inr rfl))).trans (Chg.set _ (.inr rfl))).trans (Chg.set _ (.inr rfl))
 refine bodyPost_ret (v:=.agg #[.int .i64 r.e.kind,.slice adA r.e.allow.length cpA,.string r.e.over,.string r.e.name,.slice adK r.e.kids.length cpK]) ?_ rfl ?_
 ·simp[results,Tryz.results241,go_sem, *]
 rw[<-YF];exact⟨q,by rw[HQV.out.1],HQV.out.2,XG.out _ HC9.out⟩
def pW(f:Ex->List Ex)(s:List Ex×List Int)(e:Ex):List Ex×List Int :=
 if e.kids.isEmpty then (s.1++(f e).map (sU fun k=>(s.1.length:Int)+k),s.2++[((s.1++(f e).map (sU fun k=>(s.1.length:Int)+k)).length:Int)-1])
 else (s.1++[sU (fun k=>s.2.getD k.toNat 0) e],s.2++[(s.1.length:Int)])
def bY(f:Ex->List Ex)(es:Q09)(k:Nat):List Ex×List Int:=(es.take k).foldl (pW f) ([],[])
def xO(f:Ex->List Ex)(es:Q09):List Ex:=(bY f es es.length).1
theorem mJ(f:Ex->List Ex)(es:Q09):bY f es 0=([],[]):=by simp[bY]
theorem mM(f:Ex->List Ex)(es:Q09)(k:Nat)(h:k<es.length):bY f es (k+1)=pW f (bY f es k) es[k]:=by
 unfold bY;rw[Vx h,List.foldl_append];rfl
theorem Dw(f:Ex->List Ex)(es:Q09):∀k,k<=es.length->(bY f es k).2.length=k
 | 0,_=>by rw[mJ];rfl
 | k+1,h=>by
  rw[mM f es k (by omega)];have ih:=Dw f es k (by omega);unfold pW;split<;>simp[ih]
theorem Dx(f:Ex->List Ex)(es:Q09)(B:Nat)(hB:1<=B)(hf:∀e∈es,(f e).length<=B):∀k,k<=es.length->(bY f es k).1.length<=k*B
 | 0,_=>by rw[mJ];simp
 | k+1,h=>by
  rw[mM f es k (by omega)];have ih:=Dx f es B hB hf k (by omega);have hm:=hf es[k] (Vs _);unfold pW;have:(k+1)*B=k*B+B:=Nat.succ_mul k B;split<;>simp only[VD,Wp,VT]<;>omega
theorem LU{f:Int->Int}{e:Ex}(h:∀x∈e.kids,f x=x):sU f e=e:=by
 unfold sU;have:e.kids.map f=e.kids:=by
  conv=>rhs;rw[<-List.map_id e.kids]
  exact List.map_congr_left h
 rw[this]
theorem GY{es:Q09}(h:pR es):∀k,k<=es.length->bY (fun e=>[e]) es k=(es.take k,(List.range k).map fun(n:Nat)=>(n:Int))
 | 0,_=>by rw[mJ];simp
 | k+1,hk=>by
  rw[mM _ es k (by omega),GY h k (by omega),Vx (by omega),List.range_succ,Wl];have hl:(es.take k).length=k:=by rw[V9];omega
  unfold pW;split
  ·rename_i he;have he:es[k].kids=[]:=List.isEmpty_iff.1 he;have e0:∀n:Int,sU (fun x=>n+x) es[k]=es[k]:=fun n=>LU (by rw[he];intro x hx;cases hx);have e1:((k+1:Nat):Int)-1=(k:Int):=by omega
   simp only[WC,List.map_nil,e0,VD,VT,hl,e1]
  have:sU (fun x=>((List.range k).map fun(n:Nat)=>(n:Int)).getD x.toNat 0) es[k]=es[k]:=LU fun x hx=>by
   obtain⟨h1,h2⟩:=h k (by omega) x hx;rw[We,List.getElem?_map,List.getElem?_range (by omega)];simp;omega
  rw[this,hl];rfl
theorem MX{es:Q09}(h:pR es):xO (fun e=>[e]) es=es:=by
 unfold xO;rw[GY h _ (Vu _),VI]
def MZ(f:ByteArray->Ex->List Ex)(tn:ByteArray)(r:Rl):Rl:=⟨r.name,xO (f tn) r.expr⟩
def RZ(f:ByteArray->Ex->List Ex)(t:Ty):Ty:=⟨t.name,t.rels.map (MZ f t.name)⟩
def AB(f:ByteArray->Ex->List Ex)(ts:Q0b):List Ty:=ts.map (RZ f)
theorem M5{ts:Q0b}(h:∀t∈ts,∀r∈t.rels,pR r.expr):AB (fun _ e=>[e]) ts=ts:=by
 unfold AB
 conv=>rhs;rw[<-List.map_id ts]
 refine List.map_congr_left fun t ht=>?_;unfold RZ;have:t.rels.map (MZ (fun _ e=>[e]) t.name)=t.rels:=by
  conv=>rhs;rw[<-List.map_id t.rels]
  refine List.map_congr_left fun r hr=>?_;unfold MZ;rw[MX (h t ht r hr)];rfl
 rw[this];rfl
theorem aM{p:Prop}(h:p):Hid p:=h
theorem NodM.add{w0 w2 w3:af}{base:Nat}{v v':Value}{qs:Q08}{q:ER}(h:NodM w0 base v qs)(hb:ag w0 w2)(hq:NewQ w0.heap.size w2 q)(hbase:base<=w0.heap.size)(hown:w3.ownsRow base 43 5 v' (qs.length+1) (eD qs++q.row))(hg:w2.grownBy w3 v.ownBlock)(hat:v'.ownBlock=v.ownBlock \/ ∃g,v'.ownBlock=some g/\w2.heap.size<=g):NodM w3 base v' (qs++[q]) :=
 Tz.nod (h.ex.snocN GV hb hown hg hat (hq.mono hbase) (fun g hg=>(hq.lie g hg).1))
theorem ik{w:af}{base size n:Nat}{e:TypeId}{v:Value}{xs:Q03}(h:w.ownsRow base e size v n xs):∃ad cap,v=.slice ad n cap:=by
 rcases h.2 with⟨rfl,h0⟩|⟨g,cap,cur,rfl,-⟩
 ·exact⟨none,0,by rw[h0]⟩
 exact⟨_,_,rfl⟩
structure XS(w:World)(P base:Nat)(v pv:Value)(qs:Q08)(ps:List Int):Prop where
 nod:NodM w base v qs
 pl:w.cell? ⟨P,0,none⟩=some pv
 fz:w.frozen? ⟨P,0,none⟩=false
 lt:base<=w.heap.size
 row:w.ownsRow base 2 1 pv ps.length (ints ps)
 ap:∀g,pv.ownBlock=some g->¬AA pU v qs g
 hP:P<base
theorem XS.below{w w':af}{P base:Nat}{v pv:Value}{qs:Q08}{ps:List Int}(h:XS w P base v pv qs ps)(hb:ag w w'):XS w' P base v pv qs ps :=
 ⟨Tz.nod (h.nod.ex.below GV hb),kept hb (Vt h.hP h.lt) h.pl,qM hb (Vt h.hP h.lt) h.fz,Vz h.lt hb.size,bF h.row fun g hg=>hb.block g (h.row.lt g hg).2,h.ap,h.hP⟩
theorem XS.add{w0 w2 w3:af}{P base:Nat}{v v' pv:Value}{qs:Q08}{ps:List Int}{q:ER}(h:XS w0 P base v pv qs ps)(hb:ag w0 w2)(hq:NewQ w0.heap.size w2 q)(hown:w3.ownsRow base 43 5 v' (qs.length+1) (eD qs++q.row))(hg:w2.grownBy w3 v.ownBlock)(hat:v'.ownBlock=v.ownBlock \/ ∃g,v'.ownBlock=some g/\w2.heap.size<=g):XS w3 P base v' pv (qs++[q]) ps:=by
 have h2:=h.below hb;have hPv:v.ownBlock≠some P:=fun e=>by have:=(h.nod.own.lt P e).1;have:=h.hP;omega
 have hP2:P<w2.heap.size:=Vt h2.hP h2.lt;have hPb:w3.heap[P]?=w2.heap[P]?:=hg.block P hP2 (Ne.symm hPv);refine⟨h.nod.add hb hq h.lt hown hg hat,(VN (w:=w2) (a:=⟨P,0,none⟩) hPb).trans h2.pl,(World.frozen?_of_block (w:=w2) (a:=⟨P,0,none⟩) hPb).trans h2.fz,Vz h2.lt hg.size,bF h2.row fun g hg'=>hg.block g (h2.row.lt g hg').2 (fun e=>h.ap g hg' (.inl e.symm)),fun g hg' hi=>?_,h.hP⟩;have hgl:=(h.row.lt g hg').2;rcases hi with hi|⟨p,hp,hi⟩
 ·rcases hat with e|⟨g',e,hge⟩
  ·exact h.ap g hg' (.inl (by rw[<-e];exact hi))
  rw[e]at hi;injection hi with hi;have:=hb.size;omega
 rcases VJ.1 hp with hp|hp
 ·exact h.ap g hg' (.inr ⟨p,hp,hi⟩)
 rw[VO]at hp;subst hp;have:=(hq.lie g hi).1;omega
theorem XS.place{w w1 w2:af}{P base:Nat}{v pv pv':Value}{qs:Q08}{ps:List Int}{z:Int}(h:XS w P base v pv qs ps)(hb:ag w w1)(hown:w2.ownsRow base 2 1 pv' (ps.length+1) (ints ps++[.int .i64 z]))(hg:w1.grownBy w2 pv.ownBlock)(hat:pv'.ownBlock=pv.ownBlock \/ ∃g,pv'.ownBlock=some g/\w1.heap.size<=g):XS (w2.setCell ⟨P,0,none⟩ pv') P base v pv' qs (ps++[z]):=by
 have h1:=h.below hb;have hP1:P<w1.heap.size:=Vt h1.hP h1.lt;have hPp:pv.ownBlock≠some P:=fun e=>by have:=(h.row.lt P e).1;have:=h.hP;omega
 have hPb:w2.heap[P]?=w1.heap[P]?:=hg.block P hP1 (Ne.symm hPp);have hp2:w2.cell? ⟨P,0,none⟩=some pv:=(VN (w:=w1) (a:=⟨P,0,none⟩) hPb).trans h1.pl;have hf2:w2.frozen? ⟨P,0,none⟩=false:=(World.frozen?_of_block (w:=w1) (a:=⟨P,0,none⟩) hPb).trans h1.fz;have hs:∀g,g≠P->(w2.setCell ⟨P,0,none⟩ pv').heap[g]?=w2.heap[g]?:=fun g hne=>Below.heap_setCell w2 _ _ g hne;have hlt:∀g,AA pU v qs g->base<=g/\g<w.heap.size:=fun g hi=>WP.lt GV h.nod.ex hi;refine⟨Tz.nod (h1.nod.ex.heap (w':=w2.setCell ⟨P,0,none⟩ pv') GV (by simpa using hg.size) fun g hi=>?_),mD hp2,by simpa using hf2,by simpa using Vz h1.lt hg.size,?_,fun g hg' hi=>?_,h.hP⟩
 ·have:=hlt g hi;have:=h.hP;rw[hs g (by omega)];exact hg.block g (by have:=hb.size;omega) (fun e=>h.ap g e.symm hi)
 ·have e:ints (ps++[z])=ints ps++[.int .i64 z]:=by simp[ints]
  rw[e,VD,VT];exact bF hown fun g hg'=>hs g (by have:=(hown.lt g hg').1;have:=h.hP;omega)
 rcases hat with e|⟨g',e,hge⟩
 ·exact h.ap g (by rw[<-e];exact hg') hi
 rw[e]at hg';injection hg' with hg';have:=(hlt g hi).2;have:=hb.size;omega
theorem JL(P:Nat)(pv:Value)(base:Nat)(ps:List Int)(x:Int)(w:af)(hp:w.cell? ⟨P,0,none⟩=some pv)(hr:w.ownsRow base 2 1 pv ps.length (ints ps))(h0:0<=x)(h1:x<(ps.length:Int)):
  Calls prog 242 #[.int .i64 x,.pointer (some ⟨P,0,none⟩)] w fun e w'=>e=.returned (.int .i64 (ps.getD x.toNat 0))/\w'=w:=by
 obtain⟨ad,cap,rfl,hs,-,-⟩:=LQ hr rfl;obtain⟨n,rfl⟩:∃n:Nat,x=(n:Int):=⟨x.toNat,by omega⟩;have hn:n<ps.length:=by omega
 rcases hs with rfl|⟨b,off,rfl,hb,hc⟩
 ·simp at hn
 have c0:=hc n hn;have HG:Hid (ps.getD ((n:Int)).toNat 0=ps[n]):=by show _=_;rw[Int.toNat_natCast,We,VG hn];rfl
 clear hr hc;go_enter func242,ntmps242;go_wp2;go_ret;exact⟨by rw[HG.out];rfl,rfl⟩
theorem JM(G:Nat)(n:Nat)(x:Int)(w:af)(hp:w.cell? ⟨G,0,none⟩=some (.int .i64 (n:Int)))(hn:n<=100000)(h0:0<=x)(h1:x<100000):
  Calls prog 243 #[.int .i64 x,.pointer (some ⟨G,0,none⟩)] w fun e w'=>e=.returned (.int .i64 ((n:Int)+x))/\w'=w:=by
 obtain⟨m,rfl⟩:∃m:Nat,x=(m:Int):=⟨x.toNat,by omega⟩;go_enter func243,ntmps243;go_wp2;go_ret;exact⟨by go_num,rfl⟩
theorem JN(xs:Array Value)(u:af):(callFunc 242 xs).run prog u=.ok (.enter 242 xs) u:=by kernel_rfl
theorem JO(xs:Array Value)(u:af):(callFunc 243 xs).run prog u=.ok (.enter 243 xs) u:=by kernel_rfl
def yH(FC:Nat)(rc cp:Array Value)(typ:ByteArray)(f:Ex->List Ex)(w:World)(r:ER):Prop :=
 ∀w1:World,ag w w1->Calls prog FC (rc++(#[.string typ,r.val]++cp)) w1 fun e w'=>∃(Xe:Q02) (cap':Nat) (ms:Q08),e=.returned (.slice Xe ms.length cap')/\ai ms=f r.e/\ag w1 w' /\
  ∀w2:World,w'.heap.size<=w2.heap.size->(∀g,g<w'.heap.size->(g<w.heap.size\/w1.heap.size<=g)->w2.heap[g]?=w'.heap[g]?)->jo w2 Xe ms
def PW(f:Ex->List Ex)(e:Ex):Prop:=(f e).length<=15/\∀m∈f e,m.light/\∀x∈m.kids,0<=x/\x<1000
theorem E8{rs:Q08}{k:Nat}(h:k<rs.length)(h2:k<(ai rs).length):(ai rs)[k]=rs[k].e:=by simp[ai]
theorem GZ(xs:Q08)(y:ER):ai (xs++[y])=ai xs++[y.e]:=by simp[ai]
theorem LV(w:af)(q:ER):∀j u,q.row[j]?=some u->(w.alloc (.cells #[.int .i64 q.e.kind,.slice q.adA q.e.allow.length q.capA,.string q.e.over,.string q.e.name,.slice q.adK q.e.kids.length q.capK] 43)).cell? ((⟨w.heap.size,0,none⟩:Addr).add j)=some u:=xN w q
theorem zb(FC:Nat)(rc cp:Array Value)(typ:bi)(f:Ex->List Ex)(ad:Q02)(cap:Nat)(rs:Q08)(w:af)(hlen:rs.length<=15)(hs:jo w ad rs)(hl:∀r∈rs,r.e.light)(hlow:pR (ai rs))(hB:∀r∈rs,PW f r.e)
  (hrun:∀(xs:Array Value) (u:World),(callFunc FC xs).run prog u=.ok (.enter FC xs) u) (hch:∀r∈rs,r.e.kids=[]->yH FC rc cp typ f w r) :
  Calls prog 173 #[.string typ,.slice ad rs.length cap,.func (Fn.func FC) rc cp] w fun e w'=>∃(v:Value) (qs:Q08),e=.returned v/\NodM w' w.heap.size v qs/\ai qs=xO f (ai rs)/\ag w w':=by
 obtain ⟨iE,hiE,zE0,zE1,zE2⟩:=info_parts (P:=prog) (e:=43) (z:=.agg #[.int .i64 0,.slice none 0 0,.string ⟨#[]⟩,.string ⟨#[]⟩,.slice none 0 0]) (size:=5) (bytes:=88) (by kernel_rfl);obtain ⟨iI,hiI,zI0,zI1,zI2⟩:=info_parts (P:=prog) (e:=2) (z:=.int .i64 0) (size:=1) (bytes:=8) (by kernel_rfl);have HIE:Hid (prog.info? 43=some iE/\iE.zero=some (.agg #[.int .i64 0,.slice none 0 0,.string ⟨#[]⟩,.string ⟨#[]⟩,.slice none 0 0])/\iE.size=5/\iE.bytes=88):=⟨hiE,zE0,zE1,zE2⟩;have YP:Hid (prog.info? 2=some iI/\iI.zero=some (.int .i64 0)/\iI.size=1/\iI.bytes=8):=⟨hiI,zI0,zI1,zI2⟩;have HS:=az hs;have HL:=az hl;have HLOW:=az hlow;have HLB:=az hB;have YQ:Hid (∀ (xs:Array Value) (u:World),(callFunc FC xs).run prog u=.ok (.enter FC xs) u):=hrun;have HCH:Hid (∀ r∈rs,r.e.kids=[]->yH FC rc cp typ f w r):=hch;have ZZ:Hid (∀ k,k<=rs.length->(bY f (ai rs) k).1.length<=k*15/\(bY f (ai rs) k).2.length=k):=fun k hk=>⟨Dx f (ai rs) 15 (by omega) (fun e he=>by
  obtain⟨r,hr,rfl⟩:=VE.1 he;exact(hB r hr).1) k (by rw[ay];exact hk),Dw f (ai rs) k (by rw[ay];exact hk)⟩
 clear hs hl hlow hB hrun hch hiE zE0 zE1 zE2 hiI zI0 zI1 zI2;obtain⟨W0,hW0⟩:=eQx (w.alloc (.cells #[.slice none 0 0] 41));have HX0:Hid (XS W0 w.heap.size (w.heap.size+1) (.slice none 0 0) (.slice none 0 0) [] []):=by
  show XS _ _ _ _ _ _ _;rw[hW0];exact⟨Tz.nod (mI _ _),by simp,by simp,by simp,World.ownsRow_nil _ _ _ _,fun g hg=>by simp[Value.ownBlock]at hg,by omega⟩
 have HB0:=qC hW0;go_enter func173,ntmps173;go_wp2_with fail;rw[<-hW0];clear hW0;go_loopw[7,16] (fun v i wr=>∃(k:Nat) (qs:Q08) (pv:Value),k<=rs.length/\i=.int .i64 k/\Hid (XS wr w.heap.size (w.heap.size+1) v pv qs (bY f (ai rs) k).2)/\Hid (ai qs=(bY f (ai rs) k).1)/\Hid (ag w wr)) (fun _ i _=>rs.length-(intOf i).toNat);case atStart=>exact⟨0,[],.slice none 0 0,Vy _,rfl,by rw[mJ];exact HX0,by show _=_;rw[mJ];rfl,HB0⟩
 clear HX0 HB0;obtain⟨k,qs,pv,hk,rfl,HX,HQ,HB⟩:=hrel;by_cases hlt:k<rs.length
 ·obtain⟨XH,WX,rfl,-⟩:=GR HX.out.nod.own rfl HX.out.nod.ok;rcases HS.out.below HB.out with hnil|⟨b,off,WR,hb,hr,hok⟩
  ·rw[hnil]at hlt;simp at hlt
  obtain⟨t0,t1,t2,t3,t4⟩:=hr k hlt;have Xc:Hid (rs[k].ok wr):=hok rs[k] (Vs hlt);have hlg:=HL.out rs[k] (Vs hlt);have lA:rs[k].e.allow.length<=1048576:=hlg.1;have lK:rs[k].e.kids.length<=1048576:=hlg.2;have hk1:=bI k;have hk2:(k:Int)<(rs.length:Int):=by omega
  have hql:qs.length<=225:=by
   have:=(ZZ.out k hk).1;rw[<-ay,HQ.out];omega
  obtain⟨W1,hW1⟩:=eQx (wr.alloc (.cells #[.int .i64 rs[k].e.kind,.slice rs[k].adA rs[k].e.allow.length rs[k].capA,.string rs[k].e.over,.string rs[k].e.name,.slice rs[k].adK rs[k].e.kids.length rs[k].capK] 43));have HB1:=qC hW1;have hgl:wr.heap.size<W1.heap.size:=by rw[hW1];simp
  have p0:W1.cell? ⟨wr.heap.size,0,none⟩=some (.int .i64 rs[k].e.kind):=by rw[hW1];simp
  have p1:W1.cell? ⟨wr.heap.size,1,none⟩=some (.slice rs[k].adA rs[k].e.allow.length rs[k].capA):=by rw[hW1];simp
  have p2:W1.cell? ⟨wr.heap.size,2,none⟩=some (.string rs[k].e.over):=by rw[hW1];simp
  have p3:W1.cell? ⟨wr.heap.size,3,none⟩=some (.string rs[k].e.name):=by rw[hW1];simp
  have p4:W1.cell? ⟨wr.heap.size,4,none⟩=some (.slice rs[k].adK rs[k].e.kids.length rs[k].capK):=by rw[hW1];simp
  rw[WR];clear hr hok hlg WR hb;by_cases Xp:rs[k].e.kids=[]
  ·have hk0:¬(0:Int)<(rs[k].e.kids.length:Int):=by rw[Xp];simp
   have hk0':¬0<rs[k].e.kids.length:=by rw[Xp];simp
   have HKN:Hid (rs[k].e.kids=[]):=Xp;clear Xp;obtain⟨wo,hwo⟩:=eQx wr;subst hwo;have HS1:Hid (W1.heap.size=wo.heap.size+1):=by show _=_;rw[hW1];simp
   obtain⟨W2,hW2⟩:=eQx ((wo.alloc (.cells #[.int .i64 rs[k].e.kind,.slice rs[k].adA rs[k].e.allow.length rs[k].capA,.string rs[k].e.over,.string rs[k].e.name,.slice rs[k].adK rs[k].e.kids.length rs[k].capK] 43)).alloc (.cells #[.int .i64 (qs.length:Int)] 2));have HBW2:Hid (ag wo W2):=by show Below _ _ _;rw[hW2];exact((Vv _ _).alloc (Vu _) _).alloc (by simp) _
   have HG2:Hid (W2.cell? ⟨wo.heap.size+1,0,none⟩=some (.int .i64 (qs.length:Int))/\wo.heap.size+1<W2.heap.size):=by
    show _/\_;rw[hW2];refine⟨?_,by simp⟩;have:=World.cell?_alloc_mark (wo.alloc (.cells #[.int .i64 rs[k].e.kind,.slice rs[k].adA rs[k].e.allow.length rs[k].capA,.string rs[k].e.over,.string rs[k].e.name,.slice rs[k].adK rs[k].e.kids.length rs[k].capK] 43)) #[.int .i64 (qs.length:Int)] 2 (0,0) 0;rw[show(wo.alloc (.cells #[.int .i64 rs[k].e.kind,.slice rs[k].adA rs[k].e.allow.length rs[k].capA,.string rs[k].e.over,.string rs[k].e.name,.slice rs[k].adK rs[k].e.kids.length rs[k].capK] 43)).heap.size=wo.heap.size+1 by simp]at this;rw[this];rfl
   have Yh:Hid (bY f (ai rs) (k+1)=((bY f (ai rs) k).1++(f rs[k].e).map (sU fun x=>(((bY f (ai rs) k).1.length:Nat):Int)+x),(bY f (ai rs) k).2++[((((bY f (ai rs) k).1++(f rs[k].e).map (sU fun x=>(((bY f (ai rs) k).1.length:Nat):Int)+x)).length:Nat):Int)-1])):=by
    show _=_;rw[mM f (ai rs) k (by rw[ay];exact hlt),E8 hlt];unfold pW;rw[if_pos (by rw[HKN.out];rfl)]
   clear hW1 p0 p1 p2 p3 p4;go_wp2_with fail;rw[<-hW2,YQ.out,Oper.upon_enter];clear hW2;refine(HCH.out rs[k] (Vs hlt) HKN.out W2 (HB.out.trans (HBW2.out.mono HB.out.size))).mono ?_;rintro e w3 ⟨adM,capM,ms,rfl,hme,hb3,hst⟩;have HST:Hid (∀w2:World,w3.heap.size<=w2.heap.size->(∀g,g<w3.heap.size->(g<w.heap.size\/W2.heap.size<=g)->w2.heap[g]?=w3.heap[g]?)->jo w2 adM ms):=hst;have HME:Hid (ai ms=f rs[k].e):=hme;have HLBK:Hid (PW f rs[k].e):=HLB.out _ (Vs hlt);have Xh:ms.length<=15:=by rw[<-ay,hme];exact HLBK.out.1
   have Y7:=iX HBW2 hb3;have HX3:=az (HX.out.below Y7.out);have Zt:Hid (w3.cell? ⟨wo.heap.size+1,0,none⟩=some (.int .i64 (qs.length:Int))/\wo.heap.size+1<w3.heap.size):=⟨kept hb3 HG2.out.2 HG2.out.1,Vt HG2.out.2 hb3.size⟩;have HW23:Hid (W2.heap.size<=w3.heap.size):=hb3.size;clear hst hme hb3 t0 t1 t2 t3 t4;go_wp2_with fail;go_loopw[7,37] (fun v i wr=>∃(j:Nat) (Y8:Q08),j<=ms.length/\i=.int .i64 j/\Hid (XS wr w.heap.size (w.heap.size+1) v pv Y8 (bY f (ai rs) k).2)/\Hid (ai Y8=ai qs++((ai ms).take j).map (sU fun x=>(qs.length:Int)+x))/\Hid (ag w wr)/\Hid (w3.heap.size<=wr.heap.size)/\Hid (∀g,g<w3.heap.size->(g<w.heap.size\/wo.heap.size<=g)->wr.heap[g]?=w3.heap[g]?)/\Hid (∀g,v.ownBlock=some g->g<wo.heap.size\/w3.heap.size<=g)) (fun _ i _=>ms.length-(intOf i).toNat);case atStart=>exact⟨0,qs,Vy _,rfl,HX3,by show _=_;simp,HB.out.trans (Y7.out.mono HB.out.size),Vu _,fun g _ _=>rfl,fun g hg=>.inl (HX.out.nod.own.lt g hg).2⟩
   clear HX3;obtain⟨j,Y8,hj,rfl,HXI,HQI,HBI,HSI,HKI,HVI⟩:=hrel;have hqi:Y8.length<=240:=by
    have e:Y8.length=qs.length+min j ms.length:=by
     rw[<-ay,HQI.out,VD,Wp,V9,ay,ay]
    omega
   by_cases hjt:j<ms.length
   ·rcases HST.out wr HSI.out (fun g h1 h2=>HKI.out g h1 (h2.imp id fun h=>Vz HBW2.out.size h)) with hnil|⟨b2,WV,XC,hb2,hr2,hok2⟩
    ·rw[hnil]at hjt;simp at hjt
    obtain⟨t0,t1,t2,t3,t4⟩:=hr2 j hjt;have HOK2:Hid (ms[j].ok wr):=hok2 ms[j] (Vs hjt);have hmem:ms[j].e∈f rs[k].e:=by rw[<-HME.out];exact VE.2 ⟨ms[j],Vs hjt,rfl⟩
    have hlg:=(HLBK.out.2 _ hmem).1;have HXK:Hid (∀x∈ms[j].e.kids,0<=x/\x<1000):=(HLBK.out.2 _ hmem).2;have lA2:ms[j].e.allow.length<=1048576:=hlg.1;have lK2:ms[j].e.kids.length<=1048576:=hlg.2;have hj1:=bI j;have hj2:(j:Int)<(ms.length:Int):=by omega
    obtain⟨W1b,hW1b⟩:=eQx (wr.alloc (.cells #[.int .i64 ms[j].e.kind,.slice ms[j].adA ms[j].e.allow.length ms[j].capA,.string ms[j].e.over,.string ms[j].e.name,.slice ms[j].adK ms[j].e.kids.length ms[j].capK] 43));have HBb:=qC hW1b;have HGb:Hid (W1b.cell? ⟨wo.heap.size+1,0,none⟩=some (.int .i64 (qs.length:Int))/\wo.heap.size+1<W1b.heap.size):=by
     have h1:wo.heap.size+1<wr.heap.size:=Vt Zt.out.2 HSI.out;exact⟨kept HBb.out h1 ((VN (a:=⟨wo.heap.size+1,0,none⟩) (HKI.out (wo.heap.size+1) Zt.out.2 (.inr (Nat.le_succ _)))).trans Zt.out.1),Vt h1 HBb.out.size⟩
    rw[XC];clear hr2 hok2 hlg hmem XC;go_wp2_with fail;rw[<-hW1b];clear hW1b;refine(tH 243 (wo.heap.size+1) (fun x=>(qs.length:Int)+x) ms[j] _ (HOK2.out.below HBb.out) lA2 lK2 JO (fun x hx w1 hb1=>?pl2)).mono ?_;case pl2 =>
     obtain⟨l1,l2⟩:=HXK.out x hx;exact JM (wo.heap.size+1) qs.length x w1 (kept hb1 HGb.out.2 HGb.out.1) (by omega) l1 (by omega)
    rintro e w2 ⟨q,he2,hqe,hqn,hb2⟩;have Ym:=az (HXI.out.below HBb.out);unfold ER.val at he2;subst he2;obtain⟨W3,hW3⟩:=eQx (w2.alloc (.cells #[.int .i64 q.e.kind,.slice q.adA q.e.allow.length q.capA,.string q.e.over,.string q.e.name,.slice q.adK q.e.kids.length q.capK] 43));have Xi:=qC hW3;have HB3:Hid (ag W1b W3):=hb2.trans (Xi.out.mono hb2.size);have HN3:Hid (NewQ W1b.heap.size W3 q):=GV.heap w2 W3 _ q hqn Xi.out.size fun g hg=>Xi.out.block g (hqn.lie g hg).2.1;have XM:Hid (∀j u,q.row[j]?=some u->W3.cell? ((⟨w2.heap.size,0,none⟩:Addr).add j)=some u):=by rw[hW3];exact LV w2 q
    have HOW3:Hid (W3.ownsRow (w.heap.size+1) 43 5 (u7) Y8.length (eD Y8)):=(Ym.out.below HB3.out).nod.own;have HBA3:Hid (w.heap.size+1<=W3.heap.size):=(Ym.out.below HB3.out).lt;have HQE:Hid (q.e=_):=hqe;clear hqn hqe hb2;go_wp2_with(at_builtin;rw[<-hW3];clear hW3;refine wpList_append_own_at _ rfl _ _ 37 rfl (w.heap.size+1) 43 iE (.agg #[.int .i64 0,.slice none 0 0,.string ⟨#[]⟩,.string ⟨#[]⟩,.slice none 0 0]) 5 88 underlying37 HIE.out.1 HIE.out.2.1 HIE.out.2.2.1 HIE.out.2.2.2 rfl (by decide) (u7) Y8.length (eD Y8) rfl HOW3.out ⟨w2.heap.size,0,none⟩ 1 1 q.row rfl rfl XM.out (vM q) (by unfold maxLen;omega) (by omega) HBA3.out ?_);intro v4 w4 Xj Xx _ hv4;have Xm:Hid (ag w w4):=((HBI.out.trans (HBb.out.mono HBI.out.size)).trans (HB3.out.mono (Vz HBI.out.size HBb.out.size))).grown Xx (by have:=HBA3.out;omega) (fun g hg=>by have:=(HOW3.out.lt g hg).1;omega);have HX4:Hid (XS w4 w.heap.size (w.heap.size+1) v4 pv (Y8++[q]) (bY f (ai rs) k).2):=Ym.out.add HB3.out HN3.out Xj Xx (hv4.imp id fun e=>⟨_,e,Vu _⟩);have HQ4:Hid (ai (Y8++[q])=ai qs++((ai ms).take (j+1)).map (sU fun x=>(qs.length:Int)+x)):=by
     show _=_;rw[GZ,HQI.out,HQE.out,Vx (by rw[ay];exact hjt),Wl,E8 hjt,VY];rfl
    have HS4:Hid (w3.heap.size<=w4.heap.size):=Vz HSI.out (Vz HBb.out.size (Vz HB3.out.size Xx.size));have HW3:Hid (wr.heap.size<=W3.heap.size):=Vz HBb.out.size HB3.out.size;have HK4:Hid (∀g,g<w3.heap.size->(g<w.heap.size\/wo.heap.size<=g)->w4.heap[g]?=w3.heap[g]?):=fun g h1 h2=>by
     have hg:g<wr.heap.size:=Vt h1 HSI.out;have e1:w4.heap[g]?=W3.heap[g]?:=Xx.block g (Vt hg HW3.out) (fun e=>by
      have h3:=HVI.out g e.symm;have h4:=(HXI.out.nod.own.lt g e.symm).1;omega)
     rw[e1,HB3.out.block g (Vt hg HBb.out.size),HBb.out.block g hg];exact HKI.out g h1 h2
    have HV4:Hid (∀g,v4.ownBlock=some g->g<wo.heap.size\/w3.heap.size<=g):=fun g hg=>by
     rcases hv4 with e|e
     ·exact HVI.out g (by rw[<-e];exact hg)
     rw[e]at hg;injection hg with hg;have:=HW3.out;have:=HSI.out;exact .inr (by omega)
    clear Xj Xx hv4 HOW3 XM HN3 HB3 Xi Ym t0 t1 t2 t3 t4;go_wp2;go_roundw;case rel=>exact⟨j+1,Y8++[q],by omega,by go_num,HX4,HQ4,Xm,HS4,HK4,HV4⟩
    simp[intOf]<;>omega
   obtain rfl:j=ms.length:=by omega
   have HQ2:Hid (ai Y8=(bY f (ai rs) (k+1)).1):=by
    show _=_;have:=HQI.out;rw[<-ay ms,VI,HME.out,HQ.out]at this;rw[this,Yh.out,<-HQ.out,ay]
   have YE:Hid ((bY f (ai rs) (k+1)).2=(bY f (ai rs) k).2++[(Y8.length:Int)-1]):=by
    show _=_;rw[<-ay Y8,HQ2.out,Yh.out]
   obtain⟨ZI,hqs2⟩:∃x,x=Y8:=⟨_,rfl⟩;subst hqs2;obtain⟨Yg,XN,rfl,-⟩:=GR HXI.out.nod.own rfl HXI.out.nod.ok;have Yz:Hid (XS wr w.heap.size (w.heap.size+1) (.slice Yg ZI.length XN) pv ZI (bY f (ai rs) k).2):=HXI.out;have Xm:Hid (ag w wr):=HBI.out;have hq2:ZI.length<=300:=by omega
   clear HXI HBI HKI HVI HSI;have c0:=Yz.out.pl;have f0:=Yz.out.fz;have HPL2:Hid ((bY f (ai rs) k).2.length=k):=(ZZ.out k hk).2;have HRP:Hid (wr.ownsRow (w.heap.size+1) 2 1 pv k (ints (bY f (ai rs) k).2)):=by have:=Yz.out.row;rwa [HPL2.out]at this
   have HLT:Hid (w.heap.size+1<=wr.heap.size):=Yz.out.lt;have hq2':(ZI.length:Int)<=300:=by omega
   go_wp2_with(at_builtin;refine wpList_append_own_at _ rfl _ _ 41 rfl (w.heap.size+1) 2 iI (.int .i64 0) 1 8 underlying41 YP.out.1 YP.out.2.1 YP.out.2.2.1 YP.out.2.2.2 rfl (by decide) pv k (ints (bY f (ai rs) k).2) rfl (HRP.out.alloc _) ⟨wr.heap.size,0,none⟩ 1 1 [.int .i64 ((ZI.length:Int)-1)] rfl rfl (cell_one_new _ _ _) (by intro u hu;simp at hu;subst hu;rfl) (by unfold maxLen;omega) (by omega) (by simp;have:=HLT.out;omega) ?_);intro v5 w5 hown5 hgr5 _ hv5;obtain⟨Yi,cap5,rfl⟩:=ik hown5;have HA5:Hid (ag wr (wr.alloc (.cells #[.int .i64 ((ZI.length:Int)-1)] 2))):=(Vv _ _).alloc (Vu _) _;have HPB:Hid (w5.heap[w.heap.size]?=(wr.alloc (.cells #[.int .i64 ((ZI.length:Int)-1)] 2)).heap[w.heap.size]?):=hgr5.block _ (by simp;have:=HLT.out;omega) (fun e=>by have:=(Yz.out.row.lt _ e.symm).1;omega);have HXA5:=az (Yz.out.below HA5.out);have c5:w5.cell? ⟨w.heap.size,0,none⟩=some pv:=(VN (a:=⟨w.heap.size,0,none⟩) HPB.out).trans HXA5.out.pl;have f5:w5.frozen? ⟨w.heap.size,0,none⟩=false:=(World.frozen?_of_block (a:=⟨w.heap.size,0,none⟩) HPB.out).trans HXA5.out.fz;have HX5:Hid (XS (w5.setCell ⟨w.heap.size,0,none⟩ (.slice Yi (k+1) cap5)) w.heap.size (w.heap.size+1) (.slice Yg ZI.length XN) (.slice Yi (k+1) cap5) ZI (bY f (ai rs) (k+1)).2):=by
    show XS _ _ _ _ _ _ _;rw[YE.out];exact Yz.out.place HA5.out (by rw[HPL2.out];exact hown5) hgr5 (hv5.imp id fun e=>⟨_,e,by simp⟩)
   have Xg:Hid (ag w (w5.setCell ⟨w.heap.size,0,none⟩ (.slice Yi (k+1) cap5))):=((Xm.out.trans (HA5.out.mono Xm.out.size)).grown hgr5 (by simp;have:=HLT.out;omega) (fun g hg=>by have:=(Yz.out.row.lt g hg).1;omega)).setCell (Vu _) _;clear hown5 hgr5 hv5 c0 f0;go_wp2;go_roundw;case rel=>exact⟨k+1,ZI,.slice Yi (k+1) cap5,by omega,by go_num,HX5,HQ2,Xg⟩
   simp[intOf]<;>omega
  have hk0:(0:Int)<(rs[k].e.kids.length:Int):=by
   have:=List.length_pos_iff.2 Xp;omega
  have hk0':0<rs[k].e.kids.length:=List.length_pos_iff.2 Xp;have Yh:Hid (bY f (ai rs) (k+1)=((bY f (ai rs) k).1++[sU (fun x=>(bY f (ai rs) k).2.getD x.toNat 0) rs[k].e],(bY f (ai rs) k).2++[((bY f (ai rs) k).1.length:Int)])):=by
   show _=_;rw[mM f (ai rs) k (by rw[ay];exact hlt),E8 hlt];unfold pW;rw[if_neg (by simpa using Xp)]
  clear Xp;go_wp2_with fail;rw[<-hW1];clear hW1;refine(tH 242 w.heap.size (fun x=>(bY f (ai rs) k).2.getD x.toNat 0) rs[k] _ (Xc.out.below HB1.out) lA lK JN (fun x hx w1 hb1=>?pl)).mono ?_;case pl =>
   obtain⟨l1,l2⟩:=HLOW.out k (by rw[ay];exact hlt) x (by rw[E8 hlt];exact hx);have hx1:=(HX.out.below HB1.out).below hb1;exact JL w.heap.size pv (w.heap.size+1) _ x w1 hx1.pl hx1.row l1 (by rw[(ZZ.out k hk).2];exact l2)
  rintro e w2 ⟨q,he2,hqe,hqn,hb2⟩;have Ym:=az (HX.out.below HB1.out);unfold ER.val at he2;subst he2;obtain⟨W3,hW3⟩:=eQx (w2.alloc (.cells #[.int .i64 q.e.kind,.slice q.adA q.e.allow.length q.capA,.string q.e.over,.string q.e.name,.slice q.adK q.e.kids.length q.capK] 43));have Xi:=qC hW3;have HB3:Hid (ag W1 W3):=hb2.trans (Xi.out.mono hb2.size);have HN3:Hid (NewQ W1.heap.size W3 q):=GV.heap w2 W3 _ q hqn Xi.out.size fun g hg=>Xi.out.block g (hqn.lie g hg).2.1;have XM:Hid (∀j u,q.row[j]?=some u->W3.cell? ((⟨w2.heap.size,0,none⟩:Addr).add j)=some u):=by rw[hW3];exact LV w2 q
  have HOW3:Hid (W3.ownsRow (w.heap.size+1) 43 5 (.slice XH qs.length WX) qs.length (eD qs)):=(Ym.out.below HB3.out).nod.own;have HBA3:Hid (w.heap.size+1<=W3.heap.size):=(Ym.out.below HB3.out).lt;have HQE:Hid (q.e=_):=hqe;clear hqn hqe hb2;go_wp2_with(at_builtin;rw[<-hW3];clear hW3;refine wpList_append_own_at _ rfl _ _ 37 rfl (w.heap.size+1) 43 iE (.agg #[.int .i64 0,.slice none 0 0,.string ⟨#[]⟩,.string ⟨#[]⟩,.slice none 0 0]) 5 88 underlying37 HIE.out.1 HIE.out.2.1 HIE.out.2.2.1 HIE.out.2.2.2 rfl (by decide) (.slice XH qs.length WX) qs.length (eD qs) rfl HOW3.out ⟨w2.heap.size,0,none⟩ 1 1 q.row rfl rfl XM.out (vM q) (by unfold maxLen;omega) (by omega) HBA3.out ?_);intro v4 w4 Xj Xx _ hv4;have Xm:Hid (ag w w4):=((HB.out.trans (HB1.out.mono HB.out.size)).trans (HB3.out.mono (Vz HB.out.size HB1.out.size))).grown Xx (by have:=HBA3.out;omega) (fun g hg=>by have:=(HOW3.out.lt g hg).1;omega);have hx4:XS w4 w.heap.size (w.heap.size+1) v4 pv (qs++[q]) (bY f (ai rs) k).2:=Ym.out.add HB3.out HN3.out Xj Xx (hv4.imp id fun e=>⟨_,e,Vu _⟩);have HQ2:Hid (ai (qs++[q])=(bY f (ai rs) (k+1)).1):=by show _=_;rw[GZ,HQ.out,HQE.out,Yh.out]
  have YE:Hid ((bY f (ai rs) (k+1)).2=(bY f (ai rs) k).2++[((qs++[q]).length:Int)-1]):=by
   show _=_;rw[Yh.out,<-HQ.out,ay,VD,VT];simp
  have hq2:(qs++[q]).length<=300:=by rw[VD,VT];omega
  obtain⟨ZI,hqs2⟩:∃x,x=qs++[q]:=⟨_,rfl⟩;rw[<-hqs2]at HQ2 YE hx4 hq2;clear hqs2;obtain⟨Yg,XN,rfl,-⟩:=GR hx4.nod.own rfl hx4.nod.ok;have Yz:=az hx4;clear hx4 Xj Xx hv4 HOW3 XM HN3 HB3 Xi p0 p1 p2 p3 p4 t0 t1 t2 t3 t4 Ym;have c0:=Yz.out.pl;have f0:=Yz.out.fz;have HPL2:Hid ((bY f (ai rs) k).2.length=k):=(ZZ.out k hk).2;have HRP:Hid (w4.ownsRow (w.heap.size+1) 2 1 pv k (ints (bY f (ai rs) k).2)):=by have:=Yz.out.row;rwa [HPL2.out]at this
  have HLT:Hid (w.heap.size+1<=w4.heap.size):=Yz.out.lt;have hq2':(ZI.length:Int)<=300:=by omega
  go_wp2_with(at_builtin;refine wpList_append_own_at _ rfl _ _ 41 rfl (w.heap.size+1) 2 iI (.int .i64 0) 1 8 underlying41 YP.out.1 YP.out.2.1 YP.out.2.2.1 YP.out.2.2.2 rfl (by decide) pv k (ints (bY f (ai rs) k).2) rfl (HRP.out.alloc _) ⟨w4.heap.size,0,none⟩ 1 1 [.int .i64 ((ZI.length:Int)-1)] rfl rfl (cell_one_new _ _ _) (by intro u hu;simp at hu;subst hu;rfl) (by unfold maxLen;omega) (by omega) (by simp;have:=HLT.out;omega) ?_);intro v5 w5 hown5 hgr5 _ hv5;obtain⟨Yi,cap5,rfl⟩:=ik hown5;have HA5:Hid (ag w4 (w4.alloc (.cells #[.int .i64 ((ZI.length:Int)-1)] 2))):=(Vv _ _).alloc (Vu _) _;have HPB:Hid (w5.heap[w.heap.size]?=(w4.alloc (.cells #[.int .i64 ((ZI.length:Int)-1)] 2)).heap[w.heap.size]?):=hgr5.block _ (by simp;have:=HLT.out;omega) (fun e=>by have:=(Yz.out.row.lt _ e.symm).1;omega);have HXA5:=az (Yz.out.below HA5.out);have c5:w5.cell? ⟨w.heap.size,0,none⟩=some pv:=(VN (a:=⟨w.heap.size,0,none⟩) HPB.out).trans HXA5.out.pl;have f5:w5.frozen? ⟨w.heap.size,0,none⟩=false:=(World.frozen?_of_block (a:=⟨w.heap.size,0,none⟩) HPB.out).trans HXA5.out.fz;have HX5:Hid (XS (w5.setCell ⟨w.heap.size,0,none⟩ (.slice Yi (k+1) cap5)) w.heap.size (w.heap.size+1) (.slice Yg ZI.length XN) (.slice Yi (k+1) cap5) ZI (bY f (ai rs) (k+1)).2):=by
   show XS _ _ _ _ _ _ _;rw[YE.out];exact Yz.out.place HA5.out (by rw[HPL2.out];exact hown5) hgr5 (hv5.imp id fun e=>⟨_,e,by simp⟩)
  have Xg:Hid (ag w (w5.setCell ⟨w.heap.size,0,none⟩ (.slice Yi (k+1) cap5))):=((Xm.out.trans (HA5.out.mono Xm.out.size)).grown hgr5 (by simp;have:=HLT.out;omega) (fun g hg=>by have:=(Yz.out.row.lt g hg).1;omega)).setCell (Vu _) _;clear hown5 hgr5 hv5 c0 f0;go_wp2;go_roundw;case rel=>exact⟨k+1,ZI,.slice Yi (k+1) cap5,by omega,by go_num,HX5,HQ2,Xg⟩
  simp[intOf]<;>omega
 obtain rfl:k=rs.length:=by omega
 have HF:Hid (ai qs=xO f (ai rs)):=by
  show _=_;rw[HQ.out];unfold xO;rw[ay]
 go_wp2;go_ret;exact⟨_,qs,rfl,HX.out.nod.mono (by omega),HF.out,HB.out⟩
end Go.Proofs.YtojjoblnpldniaaGreat
