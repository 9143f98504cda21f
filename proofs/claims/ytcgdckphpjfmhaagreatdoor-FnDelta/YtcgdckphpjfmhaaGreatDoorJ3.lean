/- Contracts of the law's helpers that weigh a schema. -/
import Derived.Test.YtcgdckphpjfmhaaGreatDoorSq
import Derived.Deep.DrawnRows
import Derived.Lib.Join
import Derived.Test.YtcgdckphpjfmhaaGreatDoorJ2
open Go.Proofs.Tryz
set_option maxHeartbeats 80000000
namespace Go.Proofs.YtcgdckphpjfmhaaGreatDoor
open ChangeShapes WideShapes ChangeAt RowKit
open Pl
def RR.row(r:RR):List Value:=[.string r.name,.slice r.ad r.rows.length r.cap]
def TR.row(r:TR):List Value:=[.string r.name,.slice r.ad r.rows.length r.cap]
theorem mO{w:ae}{g i j:Nat}{v:Value}(h:i≠j):(w.setCell ⟨g,i,none⟩ v).cell? ⟨g,j,none⟩=w.cell? ⟨g,j,none⟩:=by
 apply World.cell?_setCell_other;intro e;exact h (congrArg Addr.off e)
theorem mS{w:ae}{a:Addr}{v u:Value}(h:w.cell? a=some u):(w.setCell a v).cell? a=some v:=by
 apply World.cell?_setCell_same;exact h
theorem mK{W w1:ae}{n o:Nat}{v:Value}(hb:af W w1)(hn:n<W.heap.size)(h:W.cell? ⟨n,o,none⟩=some v):w1.cell? ⟨n,o,none⟩=some v:=by
 rw[hb.cell (p:=⟨n,o,none⟩) hn];exact h
theorem mF{W w1:ae}{n o:Nat}(hb:af W w1)(hn:n<W.heap.size)(h:W.frozen? ⟨n,o,none⟩=false):w1.frozen? ⟨n,o,none⟩=false:=by
 rw[hb.frozen (p:=⟨n,o,none⟩) hn];exact h
def jM(w:World)(g:Nat):Prop:=∀j,w.frozen? ⟨g,j,none⟩=false
structure Chg(S:Nat->Prop)(w w':World):Prop where
 base:Below 0 w w'
 block:∀k,k<w.heap.size->¬S k->w'.heap[k]?=w.heap[k]?
 free:∀g,g<w.heap.size->jM w g->jM w' g
theorem Chg.refl(S:Nat->Prop)(w:ae):Chg S w w:=⟨V5 _ _,fun _ _ _=>rfl,fun _ _ h=>h⟩
theorem Chg.size{S:Nat->Prop}{w w':ae}(h:Chg S w w'):w.heap.size<=w'.heap.size:=h.base.size
theorem Chg.trans{S:Nat->Prop}{a b c:ae}(h:Chg S a b)(k:Chg S b c):Chg S a c :=
 ⟨h.base.trans k.base,fun i hi hs=>(k.block i (VY hi h.size) hs).trans (h.block i hi hs),fun g hg hf=>k.free g (VY hg h.size) (h.free g hg hf)⟩
theorem Chg.mono{S T:Nat->Prop}{a b:ae}(h:Chg S a b)(hs:∀g,S g->T g):Chg T a b :=
 ⟨h.base,fun i hi hn=>h.block i hi fun e=>hn (hs i e),h.free⟩
theorem Chg.of{S:Nat->Prop}{w w':ae}(h:af w w'):Chg S w w' :=
 ⟨h.mono (Wd _),fun k hk _=>h.block k hk,fun g hg hf j=>by rw[h.frozen (p:=⟨g,j,none⟩) hg];exact hf j⟩
theorem Chg.set{S:Nat->Prop}{w:ae}{g j:Nat}(v:Value)(hs:S g):Chg S w (w.setCell ⟨g,j,none⟩ v) :=
 ⟨(V5 0 w).setCell (Wd _) v,fun k _ hk=>Below.heap_setCell _ _ _ _ (fun e=>hk (by rw[e];exact hs)),fun g' _ hf j'=>by simpa using hf j'⟩
theorem Chg.below{S:Nat->Prop}{w w':ae}{m:Nat}(h:Chg S w w')(hm:∀g,S g->m<=g)(hw:m<=w.heap.size):Below m w w' :=
 ⟨h.base.os,h.base.tape,h.base.output,h.base.size,fun k hk=>h.block k (VY hk hw) fun e=>by have:=hm k e;omega⟩
theorem Chg.cell{S:Nat->Prop}{w w':ae}(h:Chg S w w'){g o:Nat}(hg:g<w.heap.size)(hs:¬S g):w'.cell? ⟨g,o,none⟩=w.cell? ⟨g,o,none⟩:=by
 have:=h.block g hg hs;unfold World.cell?;simp only[this]
def bA(r:ER)(g:Nat):Prop:=r.e.allow≠[]/\r.adA=some ⟨g,0,none⟩
def bK(r:ER)(g:Nat):Prop:=r.e.kids≠[]/\r.adK=some ⟨g,0,none⟩
def qF(r:ER)(g:Nat):Prop:=bA r g\/bK r g
structure SepE(b:Nat)(rs:Q08):Prop where
 zeroA:∀r∈rs,r.e.allow≠[]->∃g,r.adA=some ⟨g,0,none⟩
 zeroK:∀r∈rs,r.e.kids≠[]->∃g,r.adK=some ⟨g,0,none⟩
 head:∀r∈rs,¬qF r b
 one:∀r∈rs,∀g,bA r g->¬bK r g
 two:∀(x y:Nat) (hx:x<rs.length) (hy:y<rs.length),x≠y->∀g,qF rs[x] g->¬qF rs[y] g
def O4(w:World)(P:Nat->Prop):Prop:=∀g,P g->g<w.heap.size/\jM w g
theorem O4.mono{P Q:Nat->Prop}{w:ae}(h:O4 w P)(hq:∀g,Q g->P g):O4 w Q:=fun g hg=>h g (hq g hg)
def Mg(r:RR)(g:Nat):Prop:=(r.rows≠[]/\r.ad=some ⟨g,0,none⟩) \/ ∃q∈r.rows,qF q g
def Tw(r:RR):Prop:=r.rows≠[]->∃b,r.ad=some ⟨b,0,none⟩/\SepE b r.rows
structure SepR(b:Nat)(rs:Q07):Prop where
 good:∀r∈rs,Tw r
 head:∀r∈rs,¬Mg r b
 two:∀(x y:Nat) (hx:x<rs.length) (hy:y<rs.length),x≠y->∀g,Mg rs[x] g->¬Mg rs[y] g
def O5(r:TR)(g:Nat):Prop:=(r.rows≠[]/\r.ad=some ⟨g,0,none⟩) \/ ∃q∈r.rows,Mg q g
def Tx(r:TR):Prop:=r.rows≠[]->∃b,r.ad=some ⟨b,0,none⟩/\SepR b r.rows
structure SepT(b:Nat)(rs:Q06):Prop where
 good:∀r∈rs,Tx r
 head:∀r∈rs,¬O5 r b
 two:∀(x y:Nat) (hx:x<rs.length) (hy:y<rs.length),x≠y->∀g,O5 rs[x] g->¬O5 rs[y] g
def Gd(b:Nat)(w:World)(qs:Q08):Prop:=SepE b qs/\∀q∈qs,∀g,qF q g->b<g/\g<w.heap.size/\jM w g
theorem Gd.nil(b:Nat)(w:ae):Gd b w []:=by
 refine⟨⟨?_,?_,?_,?_,?_⟩,?_⟩
 ·intro r hr;cases hr
 ·intro r hr;cases hr
 ·intro r hr;cases hr
 ·intro r hr;cases hr
 ·intro x y hx;exact absurd hx (Xg _)
 intro r hr;cases hr
theorem Li{q:ER}{gA gK g:Nat}(hA:q.adA=some ⟨gA,0,none⟩)(hK:q.adK=some ⟨gK,0,none⟩)(h:qF q g):g=gA\/g=gK:=by
 rcases h with⟨-,e⟩|⟨-,e⟩
 ·rw[hA]at e;injection e with e;injection e with e1 e2;exact .inl e1.symm
 rw[hK]at e;injection e with e;injection e with e1 e2;exact .inr e1.symm
theorem Gd.snoc{S:Nat->Prop}{b:Nat}{wr wn:ae}{qs:Q08}(h:Gd b wr qs)(hc:Chg S wr wn)(hb:b<wr.heap.size){q:ER}{gA gK:Nat}(hA:q.adA=some ⟨gA,0,none⟩)(hK:q.adK=some ⟨gK,0,none⟩)(h1:wr.heap.size<=gA)(h2:gA<gK)(h3:gK<wn.heap.size)(fA:jM wn gA)(fK:jM wn gK):Gd b wn (qs++[q]):=by
 have hq:∀g,qF q g->wr.heap.size<=g:=fun g hg=>by rcases Li hA hK hg with rfl|rfl<;>omega
 refine⟨⟨?_,?_,?_,?_,?_⟩,?_⟩
 ·intro r hr;rw[Wj,Wl]at hr;rcases hr with hr|rfl
  ·exact h.1.zeroA r hr
  exact fun _=>⟨gA,hA⟩
 ·intro r hr;rw[Wj,Wl]at hr;rcases hr with hr|rfl
  ·exact h.1.zeroK r hr
  exact fun _=>⟨gK,hK⟩
 ·intro r hr;rw[Wj,Wl]at hr;rcases hr with hr|rfl
  ·exact h.1.head r hr
  intro hg;have:=hq b hg;omega
 ·intro r hr;rw[Wj,Wl]at hr;rcases hr with hr|rfl
  ·exact h.1.one r hr
  rintro g ⟨-,e1⟩ ⟨-,e2⟩;rw[hA]at e1;rw[hK]at e2;injection e1 with e1;injection e1 with e1 _;injection e2 with e2;injection e2 with e2 _;omega
 ·intro x y hx hy hne g hgx YV;rw[Wi,WJ]at hx hy;by_cases ex:x<qs.length
  ·rw[WA ex]at hgx;by_cases ey:y<qs.length
   ·rw[WA ey]at YV;exact h.1.two x y ex ey hne g hgx YV
   rw[WM (by omega)]at YV;have e1:=hq g (by simpa using YV);have e2:=(h.2 _ (VZ ex) g hgx).2.1;omega
  rw[WM (by omega)]at hgx;have e1:=hq g (by simpa using hgx);have ey:y<qs.length:=by omega
  rw[WA ey]at YV;have e2:=(h.2 _ (VZ ey) g YV).2.1;omega
 intro r hr g hg;rw[Wj,Wl]at hr;rcases hr with hr|rfl
 ·obtain⟨a1,a2,a3⟩:=h.2 r hr g hg;exact⟨a1,VY a2 hc.size,hc.free g a2 a3⟩
 rcases Li hA hK hg with rfl|rfl
 ·exact⟨by omega,by omega,fA⟩
 exact⟨by omega,by omega,fK⟩
def Vl(m:Nat)(w:World)(r:RR):Prop:=Tw r/\∀g,Mg r g->m<=g/\g<w.heap.size/\jM w g
def O6(b:Nat)(w:World)(qs:Q07):Prop:=SepR b qs/\∀q∈qs,∀g,Mg q g->b<g/\g<w.heap.size/\jM w g
theorem O6.nil(b:Nat)(w:ae):O6 b w []:=by
 refine⟨⟨?_,?_,?_⟩,?_⟩
 ·intro r hr;cases hr
 ·intro r hr;cases hr
 ·intro x y hx;exact absurd hx (Xg _)
 intro r hr;cases hr
theorem O6.snoc{S:Nat->Prop}{b:Nat}{wr wn:ae}{qs:Q07}(h:O6 b wr qs)(hc:Chg S wr wn)(hb:b<wr.heap.size){q:RR}(hq:Vl wr.heap.size wn q):O6 b wn (qs++[q]):=by
 refine⟨⟨?_,?_,?_⟩,?_⟩
 ·intro r hr;rw[Wj,Wl]at hr;rcases hr with hr|rfl
  ·exact h.1.good r hr
  exact hq.1
 ·intro r hr;rw[Wj,Wl]at hr;rcases hr with hr|rfl
  ·exact h.1.head r hr
  intro hg;have:=(hq.2 b hg).1;omega
 ·intro x y hx hy hne g hgx YV;rw[Wi,WJ]at hx hy;by_cases ex:x<qs.length
  ·rw[WA ex]at hgx;by_cases ey:y<qs.length
   ·rw[WA ey]at YV;exact h.1.two x y ex ey hne g hgx YV
   rw[WM (by omega)]at YV;have e1:=(hq.2 g (by simpa using YV)).1;have e2:=(h.2 _ (VZ ex) g hgx).2.1;omega
  rw[WM (by omega)]at hgx;have e1:=(hq.2 g (by simpa using hgx)).1;have ey:y<qs.length:=by omega
  rw[WA ey]at YV;have e2:=(h.2 _ (VZ ey) g YV).2.1;omega
 intro r hr g hg;rw[Wj,Wl]at hr;rcases hr with hr|rfl
 ·obtain⟨a1,a2,a3⟩:=h.2 r hr g hg;exact⟨a1,VY a2 hc.size,hc.free g a2 a3⟩
 obtain⟨a1,a2,a3⟩:=hq.2 g hg;exact⟨by omega,a2,a3⟩
def Vm(m:Nat)(w:World)(r:TR):Prop:=Tx r/\∀g,O5 r g->m<=g/\g<w.heap.size/\jM w g
def O7(b:Nat)(w:World)(qs:Q06):Prop:=SepT b qs/\∀q∈qs,∀g,O5 q g->b<g/\g<w.heap.size/\jM w g
theorem O7.nil(b:Nat)(w:ae):O7 b w []:=by
 refine⟨⟨?_,?_,?_⟩,?_⟩
 ·intro r hr;cases hr
 ·intro r hr;cases hr
 ·intro x y hx;exact absurd hx (Xg _)
 intro r hr;cases hr
theorem O7.snoc{S:Nat->Prop}{b:Nat}{wr wn:ae}{qs:Q06}(h:O7 b wr qs)(hc:Chg S wr wn)(hb:b<wr.heap.size){q:TR}(hq:Vm wr.heap.size wn q):O7 b wn (qs++[q]):=by
 refine⟨⟨?_,?_,?_⟩,?_⟩
 ·intro r hr;rw[Wj,Wl]at hr;rcases hr with hr|rfl
  ·exact h.1.good r hr
  exact hq.1
 ·intro r hr;rw[Wj,Wl]at hr;rcases hr with hr|rfl
  ·exact h.1.head r hr
  intro hg;have:=(hq.2 b hg).1;omega
 ·intro x y hx hy hne g hgx YV;rw[Wi,WJ]at hx hy;by_cases ex:x<qs.length
  ·rw[WA ex]at hgx;by_cases ey:y<qs.length
   ·rw[WA ey]at YV;exact h.1.two x y ex ey hne g hgx YV
   rw[WM (by omega)]at YV;have e1:=(hq.2 g (by simpa using YV)).1;have e2:=(h.2 _ (VZ ex) g hgx).2.1;omega
  rw[WM (by omega)]at hgx;have e1:=(hq.2 g (by simpa using hgx)).1;have ey:y<qs.length:=by omega
  rw[WA ey]at YV;have e2:=(h.2 _ (VZ ey) g YV).2.1;omega
 intro r hr g hg;rw[Wj,Wl]at hr;rcases hr with hr|rfl
 ·obtain⟨a1,a2,a3⟩:=h.2 r hr g hg;exact⟨a1,VY a2 hc.size,hc.free g a2 a3⟩
 obtain⟨a1,a2,a3⟩:=hq.2 g hg;exact⟨by omega,a2,a3⟩
open Maps
theorem Gd.add{S:Nat->Prop}{b:Nat}{wr wn:ae}{qs:Q08}(h:Gd b wr qs)(hc:Chg S wr wn)(hb:b<wr.heap.size){q:ER}(zA:q.e.allow≠[]->∃g,q.adA=some ⟨g,0,none⟩)(zK:q.e.kids≠[]->∃g,q.adK=some ⟨g,0,none⟩)(hone:∀g,bA q g->¬bK q g)(hq:∀g,qF q g->wr.heap.size<=g/\g<wn.heap.size/\jM wn g):Gd b wn (qs++[q]):=by
 refine⟨⟨?_,?_,?_,?_,?_⟩,?_⟩
 ·intro r hr;rw[Wj,Wl]at hr;rcases hr with hr|rfl
  ·exact h.1.zeroA r hr
  exact zA
 ·intro r hr;rw[Wj,Wl]at hr;rcases hr with hr|rfl
  ·exact h.1.zeroK r hr
  exact zK
 ·intro r hr;rw[Wj,Wl]at hr;rcases hr with hr|rfl
  ·exact h.1.head r hr
  intro hg;have:=(hq b hg).1;omega
 ·intro r hr;rw[Wj,Wl]at hr;rcases hr with hr|rfl
  ·exact h.1.one r hr
  exact hone
 ·intro x y hx hy hne g hgx YV;rw[Wi,WJ]at hx hy;by_cases ex:x<qs.length
  ·rw[WA ex]at hgx;by_cases ey:y<qs.length
   ·rw[WA ey]at YV;exact h.1.two x y ex ey hne g hgx YV
   rw[WM (by omega)]at YV;have e1:=(hq g (by simpa using YV)).1;have e2:=(h.2 _ (VZ ex) g hgx).2.1;omega
  rw[WM (by omega)]at hgx;have e1:=(hq g (by simpa using hgx)).1;have ey:y<qs.length:=by omega
  rw[WA ey]at YV;have e2:=(h.2 _ (VZ ey) g YV).2.1;omega
 intro r hr g hg;rw[Wj,Wl]at hr;rcases hr with hr|rfl
 ·obtain⟨a1,a2,a3⟩:=h.2 r hr g hg;exact⟨a1,VY a2 hc.size,hc.free g a2 a3⟩
 obtain⟨a1,a2,a3⟩:=hq g hg;exact⟨by omega,a2,a3⟩
theorem Vn{w:ae}{base n:Nat}{v:Value}{xs:Q0a}(h:w.ownsRow base 223 2 v n (pairs xs))(hn:n=xs.length):∃ad cap,v=.slice ad xs.length cap/\lK w ad xs/\(xs≠[]->∃g,ad=some ⟨g,0,none⟩)/\∀g,xs≠[]->ad=some ⟨g,0,none⟩->base<=g/\g<w.heap.size/\jM w g:=by
 subst hn;have h2:=h;rcases h.2 with⟨rfl,h0⟩|⟨g,cap,cur,rfl,hbg,hg,hnc,-⟩
 ·have hx:xs=[]:=Wu.1 h0;subst hx;exact⟨none,0,rfl,.inl rfl,fun h=>absurd rfl h,fun _ h=>absurd rfl h⟩
 have hlt:=h2.lt g rfl;refine⟨some ⟨g,0,none⟩,cap,rfl,.inr ⟨g,0,rfl,hlt.2,fun i hi=>?_⟩,fun _=>⟨g,rfl⟩,fun g' _ e=>?_⟩
 ·have hl:=rY xs;obtain⟨p0,p1⟩:=uU xs i hi;refine⟨?_,?_⟩
  ·rw[h2.cellAt (0+i*2) (by omega),WB];exact p0
  rw[h2.cellAt (0+i*2+1) (by omega),WB];exact p1
 injection e with e;injection e with e1 e2;subst e1;exact⟨hlt.1,hlt.2,fun y=>h2.frozenAt y⟩
theorem Vo{w:ae}{base n:Nat}{v:Value}{zs:List Int}(h:w.ownsRow base 2 1 v n (ints zs))(hn:n=zs.length):∃ad cap,v=.slice ad zs.length cap/\wS w ad zs/\(zs≠[]->∃g,ad=some ⟨g,0,none⟩)/\∀g,zs≠[]->ad=some ⟨g,0,none⟩->base<=g/\g<w.heap.size/\jM w g:=by
 subst hn;have h2:=h;rcases h.2 with⟨rfl,h0⟩|⟨g,cap,cur,rfl,hbg,hg,hnc,-⟩
 ·have hx:zs=[]:=Wu.1 h0;subst hx;exact⟨none,0,rfl,.inl rfl,fun h=>absurd rfl h,fun _ h=>absurd rfl h⟩
 have hlt:=h2.lt g rfl;refine⟨some ⟨g,0,none⟩,cap,rfl,.inr ⟨g,0,rfl,hlt.2,fun i hi=>?_⟩,fun _=>⟨g,rfl⟩,fun g' _ e=>?_⟩
 ·rw[h2.cellAt (0+i) (by omega),WB];simp[ints,hi]
 injection e with e;injection e with e1 e2;subst e1;exact⟨hlt.1,hlt.2,fun y=>h2.frozenAt y⟩
theorem lK.grown{w w':ae}{row:Option Nat}{ad:Q02}{xs:Q0a}(h:lK w ad xs)(hg:w.grownBy w' row)(hn:∀g o,xs≠[]->ad=some ⟨g,o,none⟩->some g≠row):lK w' ad xs:=by
 rcases h with h|⟨b,off,e,hb,hr⟩
 ·exact .inl h
 by_cases hx:xs=[]
 ·exact .inl hx
 exact .inr ⟨b,off,e,VY hb hg.size,fun i hi=>⟨hg.cell (hr i hi).1 (hn b off hx e),hg.cell (hr i hi).2 (hn b off hx e)⟩⟩
theorem wS.grown{w w':ae}{row:Option Nat}{ad:Q02}{zs:List Int}(h:wS w ad zs)(hg:w.grownBy w' row)(hn:∀g o,zs≠[]->ad=some ⟨g,o,none⟩->some g≠row):wS w' ad zs:=by
 rcases h with h|⟨b,off,e,hb,hr⟩
 ·exact .inl h
 by_cases hx:zs=[]
 ·exact .inl hx
 exact .inr ⟨b,off,e,VY hb hg.size,fun i hi=>hg.cell (hr i hi) (hn b off hx e)⟩
structure Beside(w:World)(v:Value)(q:ER):Prop where
 ok:q.ok w
 zA:q.e.allow≠[]->∃g,q.adA=some ⟨g,0,none⟩
 zK:q.e.kids≠[]->∃g,q.adK=some ⟨g,0,none⟩
 lt:∀g,qF q g->g<w.heap.size/\v.ownBlock≠some g
theorem Beside.below{w w':ae}{v:Value}{q:ER}(h:Beside w v q)(hb:af w w'):Beside w' v q :=
 ⟨h.ok.below hb,h.zA,h.zK,fun g hg=>⟨VY (h.lt g hg).1 hb.size,(h.lt g hg).2⟩⟩
theorem Beside.grown{w w':ae}{v v':Value}{q:ER}(h:Beside w v q)(hg:w.grownBy w' v.ownBlock)(hv:v'.ownBlock=v.ownBlock\/v'.ownBlock=some w.heap.size):Beside w' v' q:=by
 refine⟨⟨h.ok.1.grown hg fun g o hne e=>?_,h.ok.2.grown hg fun g o hne e=>?_⟩,h.zA,h.zK,fun g hi=>⟨VY (h.lt g hi).1 hg.size,?_⟩⟩
 ·obtain⟨g0,e0⟩:=h.zA hne;rw[e0]at e;injection e with e;injection e with e1 e2;subst e1;exact fun e=>(h.lt g0 (.inl ⟨hne,e0⟩)).2 e.symm
 ·obtain⟨g0,e0⟩:=h.zK hne;rw[e0]at e;injection e with e;injection e with e1 e2;subst e1;exact fun e=>(h.lt g0 (.inr ⟨hne,e0⟩)).2 e.symm
 rcases hv with e|e
 ·rw[e];exact(h.lt g hi).2
 rw[e];intro e2;injection e2 with e2;have:=(h.lt g hi).1;omega
theorem Tz{w:ae}{base n:Nat}{v:Value}{qs:Q08}(h:w.ownsRow base 188 5 v n (jQ qs))(hn:n=qs.length)(hok:∀q∈qs,q.ok w):∃ad cap,v=.slice ad qs.length cap/\jv w ad qs:=by
 subst hn;have h2:=h;rcases h.2 with⟨rfl,h0⟩|⟨g,cap,cur,rfl,hbg,hg,hnc,-⟩
 ·exact⟨none,0,by rw[h0],.inl (Wu.1 h0)⟩
 have hlt:=h2.lt g rfl;refine⟨some ⟨g,0,none⟩,cap,rfl,.inr ⟨g,0,rfl,hlt.2,fun i hi=>?_,hok⟩⟩;have hl:=wT qs;have key:∀j,j<5->w.cell? ⟨g,0+i*5+j,none⟩=(qs[i]).row[j]?:=fun j hj=>by
  rw[h2.cellAt (0+i*5+j) (by omega),<-zG qs i hi j hj,WB]
 exact⟨key 0 (by omega),key 1 (by omega),key 2 (by omega),key 3 (by omega),key 4 (by omega)⟩
theorem Mh(w:ae)(q:ER):∀j u,q.row[j]?=some u->(w.alloc (.cells #[.int .i64 q.e.kind,.slice q.adA q.e.allow.length q.capA,.string q.e.over,.string q.e.name,.slice q.adK q.e.kids.length q.capK] 188)).cell? ((⟨w.heap.size,0,none⟩:Addr).add j)=some u:=by
 intro j u hu;rw[show(⟨w.heap.size,0,none⟩:Addr).add j=⟨w.heap.size,0+j,none⟩ by simp[Addr.add];omega,WB];have:=World.cell?_alloc_mark w #[.int .i64 q.e.kind,.slice q.adA q.e.allow.length q.capA,.string q.e.over,.string q.e.name,.slice q.adK q.e.kids.length q.capK] 188 (0,0) j;rw[this];simpa[ER.row] using hu
theorem O8(q:ER):∀u∈q.row,u.oneCell'=true:=by
 intro u hu;simp[ER.row]at hu;rcases hu with rfl|rfl|rfl|rfl|rfl<;>rfl
set_option maxRecDepth 100000
theorem lK.heap{w w':ae}{ad:Q02}{xs:Q0a}(h:lK w ad xs)(hs:w.heap.size<=w'.heap.size)(hz:xs≠[]->∃g,ad=some ⟨g,0,none⟩)(hn:∀g,xs≠[]->ad=some ⟨g,0,none⟩->w'.heap[g]?=w.heap[g]?):lK w' ad xs:=by
 rcases h with h|⟨b,off,e,hb,hr⟩
 ·exact .inl h
 by_cases hx:xs=[]
 ·exact .inl hx
 obtain⟨g,eg⟩:=hz hx;have e2:=e;rw[eg]at e;injection e with e;injection e with e1 e3;subst e1;have hh:=hn g hx eg;exact .inr ⟨g,off,e2,VY hb hs,fun i hi=>⟨(Wt (w:=w) (a:=⟨g,_,none⟩) hh).trans (hr i hi).1,(Wt (w:=w) (a:=⟨g,_,none⟩) hh).trans (hr i hi).2⟩⟩
theorem wS.heap{w w':ae}{ad:Q02}{xs:List Int}(h:wS w ad xs)(hs:w.heap.size<=w'.heap.size)(hz:xs≠[]->∃g,ad=some ⟨g,0,none⟩)(hn:∀g,xs≠[]->ad=some ⟨g,0,none⟩->w'.heap[g]?=w.heap[g]?):wS w' ad xs:=by
 rcases h with h|⟨b,off,e,hb,hr⟩
 ·exact .inl h
 by_cases hx:xs=[]
 ·exact .inl hx
 obtain⟨g,eg⟩:=hz hx;have e2:=e;rw[eg]at e;injection e with e;injection e with e1 e3;subst e1;have hh:=hn g hx eg;exact .inr ⟨g,off,e2,VY hb hs,fun i hi=>(Wt (w:=w) (a:=⟨g,_,none⟩) hh).trans (hr i hi)⟩
theorem su{w w':ae}{q:ER}(h:q.ok w)(hs:w.heap.size<=w'.heap.size)(zA:q.e.allow≠[]->∃g,q.adA=some ⟨g,0,none⟩)(zK:q.e.kids≠[]->∃g,q.adK=some ⟨g,0,none⟩)(hn:∀g,qF q g->w'.heap[g]?=w.heap[g]?):q.ok w' :=
 ⟨h.1.heap hs zA fun g h1 h2=>hn g (.inl ⟨h1,h2⟩),h.2.heap hs zK fun g h1 h2=>hn g (.inr ⟨h1,h2⟩)⟩
theorem cz{w w':ae}{g:Nat}(h:jM w g)(hh:w'.heap[g]?=w.heap[g]?):jM w' g:=fun j=>(World.frozen?_of_block (w:=w) (a:=⟨g,j,none⟩) hh).trans (h j)
theorem jB{w w':ae}{base:Nat}{e:TypeId}{size:Nat}{v:Value}{n:Nat}{xs:Q03}(h:w.ownsRow base e size v n xs)(hh:∀g,v.ownBlock=some g->w'.heap[g]?=w.heap[g]?):w'.ownsRow base e size v n xs:=by
 refine⟨h.1,?_⟩;rcases h.2 with hl|⟨g,cap,cur,rfl,h1,h2,h3⟩
 ·exact .inl hl
 exact .inr ⟨g,cap,cur,rfl,h1,(hh g rfl).trans h2,h3⟩
structure NewQ(X:Nat)(w:World)(q:ER):Prop where
 zA:q.e.allow≠[]->∃g,q.adA=some ⟨g,0,none⟩
 zK:q.e.kids≠[]->∃g,q.adK=some ⟨g,0,none⟩
 ok:q.ok w
 lie:∀g,qF q g->X<=g/\g<w.heap.size/\jM w g
 one:∀g,bA q g->¬bK q g
 cA:q.e.allow.length<=q.capA
theorem Ja(qs:Q08)(q:ER):jQ (qs++[q])=jQ qs++q.row:=by simp[jQ]
theorem jh{a b:ByteArray}(h:a.data.toList=b.data.toList):a=b:=by
 cases a;cases b;congr;exact Array.toList_inj.1 h
def fD(sep:ByteArray)(xs:List ByteArray):ByteArray:=⟨(Lib.join (xs.map (·.data.toList)) sep.data.toList).toArray⟩
theorem De(sep:bZ):fD sep []=⟨#[]⟩:=rfl
theorem inter_snoc{α:Type}(s:List α):∀(l:List (List α)) (x:List α),s.intercalate (l++[x])=if l=[] then x else s.intercalate l++(s++x)
 | [],x=>by simp[List.intercalate]
 | [a],x=>by simp[List.intercalate]
 | a::b::l,x=>by
  have ih:=inter_snoc s (b::l) x;simp only[WU,List.intercalate,List.intersperse,reduceCtorEq,if_false]at ih ⊢;simp only[List.flatten_cons]at ih ⊢;rw[ih];simp
theorem pO(sep:bZ)(xs:List ByteArray)(x:bZ):fD sep (xs++[x])=if xs=[] then x else fD sep xs++sep++x:=by
 apply jh;unfold fD Lib.join;rw[Xb,Xp,List.map_nil,inter_snoc];by_cases h:xs=[]
 ·simp[h]
 simp[h,ByteArray.data_append]
theorem pQ(sep:bZ)(b:Nat):∀(n:Nat) (xs:List ByteArray),xs.length=n->(∀x∈xs,x.size<=b)->(fD sep xs).size<=n*(b+sep.size)
 | 0,xs,hn,_=>by
  have:xs=[]:=List.eq_nil_of_length_eq_zero hn;subst this;simp[De];rfl
 | n+1,xs,hn,hx=>by
  obtain⟨ys,y,rfl⟩:∃ys y,xs=ys++[y]:=by
   have hne:xs≠[]:=by intro e;simp[e]at hn
   exact⟨xs.dropLast,xs.getLast hne,(List.dropLast_concat_getLast hne).symm⟩
  have hl:ys.length=n:=by simp at hn;exact hn
  have ih:=pQ sep b n ys hl (fun x h=>hx x (by simp[h]));have hy:=hx y (by simp);rw[pO,Nat.succ_mul];by_cases h:ys=[]
  ·rw[if_pos h];omega
  rw[if_neg h,Wv,Wv];omega
def fI(a:Al):ByteArray:=if a.s.toList.isEmpty then a.t else a.t++⟨#[35]⟩++a.s
def vk(xs:Q0a):ByteArray:=⟨#[116,104,105,115,40]⟩++fD ⟨#[44]⟩ (xs.map fI)++⟨#[41]⟩
def gJ(k:Int):ByteArray:=if k=4 then ⟨#[32,124,32]⟩ else if k=5 then ⟨#[32,38,32]⟩ else ⟨#[32,45,32]⟩
theorem mE(k:Int):(gJ k).size=3:=by
 unfold gJ;split
 ·rfl
 split<;>rfl
def mG(f:Int->ByteArray)(e:Ex):ByteArray :=
 if e.kind=1 then vk e.allow else if e.kind=2 then e.name else if e.kind=3 then e.over++⟨#[45,62]⟩++e.name else fD (gJ e.kind) (e.kids.map f)
def inT(e:Ex)(inside:Bool)(t:ByteArray):ByteArray:=if inside && !(decide (e.kind=1) || decide (e.kind=2) || decide (e.kind=3)) then ⟨#[40]⟩++t++⟨#[41]⟩ else t
def EF(es:Q09)(n:Nat):Ex:=es[n]?.getD ⟨0,[],⟨#[]⟩,⟨#[]⟩,[]⟩
def txt(es:Q09)(n:Nat):ByteArray:=inT (EF es n) true (mG (fun x=>if _h:x.toNat<n then txt es x.toNat else ⟨#[]⟩) (EF es n))
def jC(es:Q09)(n:Nat)(x:Int):ByteArray:=if x.toNat<n then txt es x.toNat else ⟨#[]⟩
def iW(es:Q09)(n:Nat)(inside:Bool):ByteArray:=inT (EF es n) inside (mG (jC es n) (EF es n))
theorem EG(es:Q09)(n:Nat):txt es n=iW es n true:=by
 rw[txt];rfl
def zZ:Nat->Nat
 | 0=>200
 | n+1=>zZ n*6
theorem Lj(n:Nat):200<=zZ n:=by
 induction n with
 | zero=>exact V4 _
 | succ n ih=>simp only[zZ];omega
theorem Df{m n:Nat}(h:m<=n):zZ m<=zZ n:=by
 induction h with
 | refl=>exact V4 _
 | step _ ih=>simp only[zZ];omega
theorem RP:zZ 14<=20000000000000:=by decide
theorem bI{s:ByteArray}(h:aR s=true):s.size<=12:=by
 simp only[aR,dK,oD,V9,Wn]at h;exact h.1.1.2
theorem Aa{s:ByteArray}(h:uT s=true):s.size<=12:=by
 unfold uT at h;rw[Bool.or_eq_true]at h;rcases h with h|h
 ·have h2:s.data.toList=[]:=by rw[Go.ByteArray.toList_eq]at h;simpa using h
  have h3:s.data.toList.length=0:=by rw[h2];rfl
  have:s.size=s.data.toList.length:=rfl;omega
 exact bI h
theorem zw{xs:Q0a}:∀{k:Nat},Ey xs k=true->∀(i:Nat) (h:i<xs.length),i<k->F4 xs[i]=true
 | 0,_,i,_,hi=>by omega
 | k+1,hk,i,h,hi=>by
  unfold Ey at hk;rw[V9]at hk;by_cases e:i=k
  ·subst e;have:=hk.2;simp only[Wm h,Option.map_some,WO,V9]at this;exact this.1
  exact zw hk.1 i h (by omega)
theorem qQ{a:Al}(h:F4 a=true):(fI a).size<=25:=by
 unfold F4 at h;rw[V9]at h;have h1:=bI h.1;have h2:=Aa h.2;have e1:(⟨#[35]⟩:ByteArray).size=1:=rfl;unfold fI;split
 ·omega
 simp only[Wv];omega
theorem kz{xs:Q0a}(h:ed xs=true):(vk xs).size<=190:=by
 unfold ed at h;simp only [V9,Wn]at h;have hj:=pQ ⟨#[44]⟩ 25 _ (xs.map fI) rfl (fun x hx=>by
  obtain⟨a,ha,rfl⟩:=Wp.1 hx;obtain⟨i,hi,rfl⟩:=Xl ha;exact qQ (zw h.2 i hi hi))
 have e1:(⟨#[116,104,105,115,40]⟩:ByteArray).size=5:=rfl;have e2:(⟨#[41]⟩:ByteArray).size=1:=rfl;have e3:(⟨#[44]⟩:ByteArray).size=1:=rfl;have e4:(xs.map fI).length<=6:=by simp;exact h.1.2
 unfold vk;simp only[Wv];rw[e3]at hj;have:(xs.map fI).length*(25+1)<=6*26:=Nat.mul_le_mul_right _ e4;omega
def TA(es:Q09):Prop:=es.length<=15/\(∀(i:Nat) (h:i<es.length),ay es[i]=true)/\∀i,i<es.length->lh es i=true
theorem O9{es:Q09}(h:aP es=true):TA es:=by
 unfold aP at h;simp only[V9,Wn]at h;refine⟨h.1.1.1.1.2,fun i hi=>?_,fun i hi=>?_⟩
 ·have:=h.1.1.1.2;rw[Wq]at this;exact this _ (VZ hi)
 have:=h.1.1.2;unfold je at this;rw[Wq]at this;exact this i (by simpa using hi)
theorem qR{e:Ex}(h:ay e=true):e.kids.length<=5/\(e.kind=1\/e.kind=2\/e.kind=3\/e.kind=4\/e.kind=5\/e.kind=6):=by
 unfold ay at h;split at h
 ·rename_i k;simp at h;exact⟨by simp[h.2],.inl k⟩
 split at h
 ·rename_i k;simp at h;exact⟨by simp[h.2],.inr (.inl k)⟩
 split at h
 ·rename_i k;simp at h;exact⟨by simp[h.2],.inr (.inr (.inl k))⟩
 split at h
 ·rename_i k;simp at h;exact⟨by omega,by omega⟩
 split at h
 ·rename_i k;simp at h;exact⟨by omega,by omega⟩
 cases h
theorem Ab{es:Q09}(hes:TA es){n:Nat}(hn:n<es.length)(b:Nat)(hb:200<=b)(f:Int->ByteArray)(hf:∀k∈es[n].kids,(f k).size<=b):(mG f es[n]).size<=b*5+20:=by
 have Xu:=hes.2.1 n hn;obtain⟨hk,hkind⟩:=qR Xu;unfold mG;unfold ay at Xu;split
 ·rename_i k;rw[if_pos k]at Xu;simp only[V9]at Xu;have:=kz Xu.1.1.1;omega
 rename_i k1;rw[if_neg k1]at Xu;split
 ·rename_i k2;rw[if_pos k2]at Xu;simp only[V9]at Xu;have:=bI Xu.1.1.1;omega
 rename_i k2;rw[if_neg k2]at Xu;split
 ·rename_i k3;rw[if_pos k3]at Xu;simp only[V9]at Xu;have h1:=bI Xu.1.1.1;have h2:=bI Xu.1.1.2;have e1:(⟨#[45,62]⟩:ByteArray).size=2:=rfl;simp only[Wv];omega
 have hj:=pQ (gJ es[n].kind) b _ (es[n].kids.map f) rfl (fun x hx=>by obtain⟨k,hk,rfl⟩:=Wp.1 hx;exact hf k hk);rw[mE]at hj;have:(es[n].kids.map f).length*(b+3)<=5*(b+3):=Nat.mul_le_mul_right _ (by simp;exact hk);omega
theorem Gf(e:Ex)(i:Bool)(t:bZ):(inT e i t).size<=t.size+2:=by
 have e1:(⟨#[40]⟩:ByteArray).size=1:=rfl;have e2:(⟨#[41]⟩:ByteArray).size=1:=rfl;unfold inT;split
 ·simp only[Wv];omega
 omega
theorem EH{es:Q09}{n:Nat}(h:n<es.length):EF es n=es[n]:=by simp[EF,h]
theorem vv{es:Q09}(hes:TA es){n:Nat}(hn:n<es.length):∀k∈es[n].kids,0<=k/\k.toNat<n:=by
 intro k hk;have:=hes.2.2 n hn;unfold lh at this;rw[Wq]at this;have h1:=this k (by simp[mr,hn,hk]);simp at h1;omega
theorem Jb{es:Q09}(hes:TA es)(n:Nat):n<es.length->∀i,(iW es n i).size<=zZ n:=by
 induction n using Nat.strongRecOn with
 | ind n ih =>
  intro hn i;unfold iW;rw[EH hn];have h1:=Gf es[n] i (mG (jC es n) es[n]);cases n with
  | zero =>
   have h2:=Ab hes hn 200 (V4 _) (jC es 0) (fun k hk=>by have:=vv hes hn k hk;omega);have hno:es[0].kids=[]:=by
    cases hk:es[0].kids with
    | nil=>rfl
    | cons k ks=>have:=vv hes hn k (by rw[hk];simp);omega
   have Xu:=hes.2.1 0 hn;have h3:(mG (jC es 0) es[0]).size<=195:=by
    unfold mG;unfold ay at Xu;split
    ·rename_i k;rw[if_pos k]at Xu;simp only[V9]at Xu;have:=kz Xu.1.1.1;omega
    rename_i k1;rw[if_neg k1]at Xu;split
    ·rename_i k2;rw[if_pos k2]at Xu;simp only[V9]at Xu;have:=bI Xu.1.1.1;omega
    rename_i k2;rw[if_neg k2]at Xu;split
    ·rename_i k3;rw[if_pos k3]at Xu;simp only[V9]at Xu;have h1:=bI Xu.1.1.1;have h2:=bI Xu.1.1.2;have e1:(⟨#[45,62]⟩:ByteArray).size=2:=rfl;simp only[Wv];omega
    rw[hno];have:(fD (gJ es[0].kind) (List.map (jC es 0) [])).size=0:=rfl;omega
   simp only[zZ];omega
  | succ m =>
   have h2:=Ab hes hn (zZ m) (Lj m) (jC es (m+1)) (fun k hk=>by
    have hlt:=vv hes hn k hk;unfold jC;rw[if_pos hlt.2,EG];exact Wh (ih k.toNat hlt.2 (by omega) true) (Df (by omega)))
   have:=Lj m;simp only[zZ];omega
structure RS where
 p:Nat
 bad:Bool
 out:List Ex
def fP:ByteArray:=⟨#[116,104,105,115,40]⟩
def vw:ByteArray:=⟨#[35]⟩
def fu:ByteArray:=⟨#[41]⟩
def mH:ByteArray:=⟨#[44]⟩
def jD:ByteArray:=⟨#[40]⟩
def pR:ByteArray:=⟨#[45,62]⟩
def aY(k:Int):ByteArray:=if k=4 then ⟨#[32,124,32]⟩ else if k=5 then ⟨#[32,38,32]⟩ else ⟨#[32,45,32]⟩
def dX(s w:ByteArray)(p:Nat):Bool:=decide (p+w.size<=s.size)&&(s.extract p (p+w.size)).toList==w.toList
def lV(s w:ByteArray)(st:RS):Bool:=!st.bad&&dX s w st.p
def kM(w:ByteArray)(st:RS):RS:=⟨st.p+w.size,st.bad,st.out⟩
def av(s:ByteArray)(p:Nat):Nat:=((s.data.toList.drop p).takeWhile eT).length
def az(s:ByteArray)(p:Nat):ByteArray:=s.extract p (p+av s p)
def tq(x:Ex)(st:RS):RS:=⟨st.p,st.bad || decide (15<st.out.length+1),st.out++[x]⟩
def vz(st:RS):RS:=⟨st.p,true,st.out⟩
def yT(s:ByteArray)(st:RS):ByteArray:=if lV s vw st then az s (st.p+1) else ⟨#[]⟩
def aX(s:ByteArray)(st:RS):RS:=if lV s vw st then ⟨st.p+1+av s (st.p+1),st.bad,st.out⟩ else st
def bB(s:ByteArray)(st:RS):RS:=⟨st.p+av s st.p,st.bad,st.out⟩
def dx(s:ByteArray):Nat->List Al->RS->Option (List Al)×RS
 | 0,_,st=>(none,st)
 | n+1,xs,st =>
  if st.bad then (none,st)
  else if lV s fu (aX s (bB s st)) then (some (xs++[⟨az s st.p,yT s (bB s st)⟩]),kM fu (aX s (bB s st)))
  else if lV s mH (aX s (bB s st)) then dx s n (xs++[⟨az s st.p,yT s (bB s st)⟩]) (kM mH (aX s (bB s st)))
  else dx s n (xs++[⟨az s st.p,yT s (bB s st)⟩]) (vz (aX s (bB s st)))
def eZ(s:ByteArray)(st:RS):Ex :=
 if lV s pR (bB s st) then ⟨3,[],az s st.p,az s (st.p+av s st.p+2),[]⟩ else ⟨2,[],⟨#[]⟩,az s st.p,[]⟩
def aK(s:ByteArray)(st:RS):RS :=
 if lV s pR (bB s st) then ⟨st.p+av s st.p+2+av s (st.p+av s st.p+2),st.bad,st.out⟩ else bB s st
def judged(x:Ex)(st:RS):RS:=if ay x then st else vz st
def dz(s:ByteArray)(p:Nat):Int:=if dX s (aY 4) p then 4 else if dX s (aY 5) p then 5 else if dX s (aY 6) p then 6 else 0
def il(s:ByteArray)(it:RS->Int×RS)(k:Int):Nat->List Int->RS->List Int×RS
 | 0,zs,st=>(zs,st)
 | n+1,zs,st=>if lV s (aY k) st then il s it k n (zs++[(it (kM (aY k) st)).1]) (it (kM (aY k) st)).2 else (zs,st)
def Ac(s:ByteArray):Nat->Bool->RS->Int×RS
 | 0,_,st=>(0,st)
 | n+1,false,st =>
  if lV s fP st then
   match dx s (s.size+1) [] (kM fP st) with
   | (some xs,st')=>((st'.out.length:Int),tq ⟨1,xs,⟨#[]⟩,⟨#[]⟩,[]⟩ st')
   | (none,st')=>(0,st')
  else if lV s jD st then
   let x:=Ac s n true (kM jD st)
   if lV s fu x.2 then (x.1,kM fu x.2) else (x.1,vz x.2)
  else ((st.out.length:Int),tq (eZ s st) (judged (eZ s st) (aK s st)))
 | n+1,true,st =>
  let x:=Ac s n false st
  if dz s x.2.p=0\/x.2.bad=true then x
  else
   let y:=il s (Ac s n false) (dz s x.2.p) (s.size+1) [x.1] x.2
   ((y.2.out.length:Int),tq ⟨dz s x.2.p,[],⟨#[]⟩,⟨#[]⟩,y.1⟩ y.2)
theorem kN(s:bZ)(p:Nat)(hp:p<=s.size):p+av s p<=s.size:=by
 unfold av;have h1:((s.data.toList.drop p).takeWhile eT).length<=(s.data.toList.drop p).length:=(List.takeWhile_prefix (p:=eT) (l:=s.data.toList.drop p)).length_le;have h2:(s.data.toList.drop p).length=s.size-p:=by rw[WR];simp
 omega
theorem Ad(s:bZ)(p:Nat)(hp:p<=s.size):(az s p).size=av s p:=by
 unfold az;rw[ByteArray.size_extract];have:=kN s p hp;omega
theorem Gg{s w:ByteArray}{p:Nat}(h:dX s w p=true):p+w.size<=s.size:=by
 unfold dX at h;simp only[V9,Wn]at h;exact h.1
theorem lm{s w:ByteArray}{st:RS}(h:lV s w st=true):st.p+w.size<=s.size:=by
 unfold lV at h;simp only[V9]at h;exact Gg h.2
theorem ai{p:Prop}(h:p):Hid p:=h
structure RdC(w:World)(R:Nat)(s:ByteArray)(p:Nat)(bad:Bool)(v:Value):Prop where
 lt:R<w.heap.size
 c0:w.cell? ⟨R,0,none⟩=some (.string s)
 c1:w.cell? ⟨R,1,none⟩=some (.int .i64 (p:Int))
 c2:w.cell? ⟨R,2,none⟩=some (.bool bad)
 c3:w.cell? ⟨R,3,none⟩=some v
 fr:jM w R
theorem RdC.grown{w w':ae}{R:Nat}{s:ByteArray}{p:Nat}{bad:Bool}{v:Value}{row:Option Nat}(h:RdC w R s p bad v)(hg:w.grownBy w' row)(hR:some R≠row):RdC w' R s p bad v :=
 ⟨VY h.lt hg.size,hg.cell h.c0 hR,hg.cell h.c1 hR,hg.cell h.c2 hR,hg.cell h.c3 hR,fun j=>(World.frozen?_of_block (w:=w) (a:=⟨R,j,none⟩) (hg.block R h.lt hR)).trans (h.fr j)⟩
theorem RdC.drewN{w:ae}{R:Nat}{s:ByteArray}{p:Nat}{bad:Bool}{v:Value}(h:RdC w R s p bad v)(n:Nat):RdC (w.drewN n) R s p bad v:=⟨h.lt,h.c0,h.c1,h.c2,h.c3,h.fr⟩
theorem RdC.on{w:ae}{R:Nat}{s:ByteArray}{p:Nat}{bad:Bool}{v:Value}(h:RdC w R s p bad v)(q:Nat):RdC (w.setCell ⟨R,1,none⟩ (.int .i64 (q:Int))) R s q bad v :=
 ⟨by simpa using h.lt,by rw[mO (by omega)];exact h.c0,mS h.c1,by rw[mO (by omega)];exact h.c2,by rw[mO (by omega)];exact h.c3,fun j=>by simpa using h.fr j⟩
theorem Gh(w:ae)(R o:Nat)(v:Value)(n:Nat):w.grownBy ((w.drewN n).setCell ⟨R,o,none⟩ v) (some R) :=
 ⟨rfl,rfl,rfl,by simp,fun k _ hk=>Below.heap_setCell _ _ _ k (fun e=>hk (by rw[e]))⟩
theorem Jc{w w':ae}{R o:Nat}{v:Value}(h:w.grownBy w' (some R)):w.grownBy (w'.setCell ⟨R,o,none⟩ v) (some R) :=
 ⟨h.os,h.tape,h.output,by simpa using h.size,fun k hk hne=>(Below.heap_setCell w' _ _ k (fun e=>hne (by rw[e]))).trans (h.block k hk hne)⟩
def nO(s t:ByteArray)(p:Nat)(bad:Bool):Bool:=!bad&&dX s t p
def RQ(s t:ByteArray)(p:Nat)(bad:Bool):Nat:=if nO s t p bad then p+t.size else p
theorem vC{s t:ByteArray}{p:Nat}{bad:Bool}(h:nO s t p bad=true):RQ s t p bad=p+t.size:=by simp[RQ,h]
theorem Ae{s t:ByteArray}{p:Nat}{bad:Bool}(h:nO s t p bad=false):RQ s t p bad=p:=by simp[RQ,h]
theorem mI(R:Nat)(s t:bZ)(p:Nat)(bad:Bool)(v:Value)(w:ae)(h:RdC w R s p bad v)(hs:s.size<=1000)(hp:p<=s.size)(ht:t.size<=100):
  Calls prog 244 #[.pointer (some ⟨R,0,none⟩),.string t] w fun e w'=>e=.returned (.bool (nO s t p bad))/\RdC w' R s (RQ s t p bad) bad v/\w.grownBy w' (some R):=by
 have H:=ai h;have c0:=h.c0;have c1:=h.c1;have c2:=h.c2;have f1:=h.fr 1;have hlt:=h.lt;have h0:=h;clear h H;have hwr:IntKind.i64.wrap ((p:Int)+(t.size:Int))=(p:Int)+(t.size:Int):=by simp[IntKind.wrap,IntKind.bits,IntKind.signed];omega
 have no:∀{n:Nat} {e:Ending},nO s t p bad=false->e=.returned (.bool false)->e=.returned (.bool (nO s t p bad))/\RdC (w.drewN n) R s (RQ s t p bad) bad v/\w.grownBy (w.drewN n) (some R):=fun hb he=>⟨by rw[hb];exact he,by rw[Ae hb];exact h0.drewN _,⟨rfl,rfl,rfl,V4 _,fun _ _ _=>rfl⟩⟩;have yes:∀{n:Nat} {e:Ending},nO s t p bad=true->e=.returned (.bool true)->e=.returned (.bool (nO s t p bad))/\RdC ((w.drewN n).setCell ⟨R,1,none⟩ (.int .i64 ((p:Int)+(t.size:Int)))) R s (RQ s t p bad) bad v/\w.grownBy ((w.drewN n).setCell ⟨R,1,none⟩ (.int .i64 ((p:Int)+(t.size:Int)))) (some R):=fun hb he=>⟨by rw[hb];exact he,by rw[vC hb];exact(h0.drewN _).on (p+t.size),Gh _ _ _ _ _⟩;have NO:Hid (∀{n:Nat} {e:Ending},_):=@no;have YES:Hid (∀{n:Nat} {e:Ending},_):=@yes;clear no yes h0;cases bad;case true=>
  have HB:Hid (nO s t p true=false):=rfl;clear hwr;go_enter func244,ntmps244;go_wp2_with fail;go_quiet (fail);go_wp2;go_ret;exact NO.out HB.out rfl
 by_cases hl:p+t.size<=s.size
 ·have hd:decide ((s.size:Int)<(p:Int)+(t.size:Int))=false:=by simp;omega
  have hp1:(p:Int)<=(p:Int)+(t.size:Int):=by omega
  have hp2:(p:Int)+(t.size:Int)<=(s.size:Int):=by omega
  have hnn:=bC p;have hla:dX s t p=((s.extract p (p+t.size)).toList==t.toList):=by simp[dX,hl]
  cases he:(s.extract p (p+t.size)).toList==t.toList;case true=>
   have HB:Hid (nO s t p false=true):=by show _=_;simp only[nO,hla,he];rfl
   have hq:(!(s.extract p (p+t.size)).toList==t.toList)=false:=by rw[he];rfl
   clear he hla;go_enter func244,ntmps244;go_wp2_with fail;go_quiet (fail);go_wp2;go_ret;exact YES.out HB.out rfl
  have HB:Hid (nO s t p false=false):=by show _=_;simp only[nO,hla,he];rfl
  have hq:(!(s.extract p (p+t.size)).toList==t.toList)=true:=by rw[he];rfl
  clear he hla;go_enter func244,ntmps244;go_wp2_with fail;go_quiet (fail);go_wp2;go_ret;exact NO.out HB.out rfl
 have hd:decide ((s.size:Int)<(p:Int)+(t.size:Int))=true:=by simp;omega
 have HB:Hid (nO s t p false=false):=by show _=_;simp[nO,dX,hl]
 clear hl;go_enter func244,ntmps244;go_wp2_with fail;go_quiet (fail);go_wp2;go_ret;exact NO.out HB.out rfl
def wat(R:Nat)(w:World):Nat:=match w.cell? ⟨R,1,none⟩ with
 | some (.int _ z)=>z.toNat
 | _=>0
theorem RdC.place{w:ae}{R:Nat}{s:ByteArray}{p:Nat}{bad:Bool}{v:Value}(h:RdC w R s p bad v):wat R w=p:=by
 simp[Go.Proofs.YtcgdckphpjfmhaaGreatDoor.wat,h.c1]
theorem EJ(l:List UInt8)(n:Nat)(h1:∀i (h:i<l.length),i<n->eT l[i]=true)(h2:∀h:n<l.length,eT l[n]=false)(hn:n<=l.length):(l.takeWhile eT).length=n:=by
 induction l generalizing n with
 | nil=>simp at hn;simp[hn]
 | cons x xs ih =>
  cases n with
  | zero =>
   have:=h2 (by simp);simp at this;simp[List.takeWhile,this]
  | succ n =>
   have hx:=h1 0 (by simp) (by omega);simp at hx;have:=ih n (fun i hi hin=>by have:=h1 (i+1) (by simpa using hi) (by omega);simpa using this) (fun h=>by have:=h2 (by simpa using h);simpa using this) (by simpa using hn);simp[List.takeWhile,hx,this]
theorem Pb(s:bZ)(p q:Nat)(hpq:p<=q)(hq:q<=s.size)(h1:∀i (h:i<s.size),p<=i->i<q->eT s[i]=true)(h2:∀h:q<s.size,eT s[q]=false):av s p=q-p:=by
 unfold av;have hl:s.data.toList.length=s.size:=by simp
 refine EJ _ _ (fun i hi hin=>?_) (fun h=>?_) (by rw[WR,hl];omega)
 ·rw[WR,hl]at hi;have:=h1 (p+i) (by omega) (by omega) (by omega);simp only[List.getElem_drop,Array.getElem_toList];exact this
 rw[WR,hl]at h;have:=h2 (by omega);simp only[List.getElem_drop,Array.getElem_toList];have e:p+(q-p)=q:=by omega
 simp only[e];exact this
theorem vD(R:Nat)(s:bZ)(p:Nat)(bad:Bool)(v:Value)(w:ae)(h:RdC w R s p bad v)(hs:s.size<=1000)(hp:p<=s.size):
  Calls prog 252 #[.pointer (some ⟨R,0,none⟩)] w fun e w'=>e=.returned (.string (az s p))/\RdC w' R s (p+av s p) bad v/\w.grownBy w' (some R):=by
 have H:=ai h;have c1:=h.c1;clear h;go_enter func252,ntmps252;go_wp2_with fail;clear c1;go_loopw[8] (fun _ wr=>∃q:Nat,p<=q/\q<=s.size/\Hid (∀i (h:i<s.size),p<=i->i<q->eT s[i]=true)/\Hid (RdC wr R s q bad v)/\Hid (w.grownBy wr (some R))) (fun _ wr=>s.size-wat R wr);case atStart=>exact⟨p,V4 _,hp,fun i h h1 h2=>by omega,H,⟨rfl,rfl,rfl,V4 _,fun _ _ _=>rfl⟩⟩
 obtain⟨q,hq1,hq2,HL,HR,HG⟩:=hrel;have c0:=HR.out.c0;have c1:=HR.out.c1;have f1:=HR.out.fr 1;have hlt:=HR.out.lt;have hq0:=bC q;have stop:∀n m,(∀h:q<s.size,eT s[q]=false)->Ending.returned (.string (s.extract p q))=.returned (.string (az s p))/\RdC ((wr.drewN n).drewN m) R s (p+av s p) bad v/\w.grownBy ((wr.drewN n).drewN m) (some R):=fun n m hn=>by
  have e:=Pb s p q hq1 hq2 HL.out hn;have e2:p+av s p=q:=by omega
  exact⟨by unfold az;rw[e2],by rw[e2];exact(HR.out.drewN n).drewN m,⟨HG.out.os,HG.out.tape,HG.out.output,HG.out.size,HG.out.block⟩⟩
 have STOP:=ai stop;clear stop;have hx1:(p:Int)<=(q:Int):=by omega
 have hx2:(q:Int)<=(s.size:Int):=by omega
 have hx3:=bC p;by_cases hlt2:q<s.size
 ·have hq3:(q:Int)<(s.size:Int):=by omega
  have hd:decide ((q:Int)<(s.size:Int))=true:=by simpa using hq3
  by_cases hb1:(97:Int)<=(s[q].toNat:Int)
  ·have hd1:decide ((97:Int)<=(s[q].toNat:Int))=true:=by simpa using hb1
   by_cases hb2:(s[q].toNat:Int)<=122
   ·have hd2:decide ((s[q].toNat:Int)<=122)=true:=by simpa using hb2
    have HL2:Hid (∀i (h:i<s.size),p<=i->i<q+1->eT s[i]=true):=fun i h h1 h2=>by
     by_cases e:i=q
     ·subst e;simp[eT];omega
     exact HL.out i h h1 (by omega)
    have hwr2:IntKind.i64.wrap ((q:Int)+1)=(q:Int)+1:=by simp[IntKind.wrap,IntKind.bits,IntKind.signed];omega
    go_wp2_with fail;go_quiet (fail);have HR2:Hid (RdC ((wr.drewN nq).setCell ⟨R,1,none⟩ (.int .i64 ((q:Int)+1))) R s (q+1) bad v):=(HR.out.drewN nq).on (q+1);have HG2:Hid (w.grownBy ((wr.drewN nq).setCell ⟨R,1,none⟩ (.int .i64 ((q:Int)+1))) (some R)):=Jc (w':=wr.drewN nq) ⟨HG.out.os,HG.out.tape,HG.out.output,HG.out.size,HG.out.block⟩;have hm1:=HR.out.place;have hm2:=HR2.out.place;have HM:Hid (s.size-wat R ((wr.drewN nq).setCell ⟨R,1,none⟩ (.int .i64 ((q:Int)+1)))<s.size-wat R wr):=by show _<_;rw[hm1,hm2];omega
    clear hm1 hm2;go_wp2;go_roundw;case rel=>exact⟨q+1,by omega,by omega,HL2,HR2,HG2⟩
    exact HM.out
   have hd2:decide ((s[q].toNat:Int)<=122)=false:=by simpa using hb2
   have HN:Hid (∀h:q<s.size,eT s[q]=false):=fun h=>by simp[eT];omega
   go_wp2_with fail;go_quiet (fail);go_wp2_with fail;go_quiet (fail);go_wp2;go_ret;exact STOP.out _ _ HN.out
  have hd1:decide ((97:Int)<=(s[q].toNat:Int))=false:=by simpa using hb1
  have HN:Hid (∀h:q<s.size,eT s[q]=false):=fun h=>by simp[eT];omega
  go_wp2_with fail;go_quiet (fail);go_wp2_with fail;go_quiet (fail);go_wp2;go_ret;exact STOP.out _ _ HN.out
 have hd:decide ((q:Int)<(s.size:Int))=false:=by simp;omega
 have HN:Hid (∀h:q<s.size,eT s[q]=false):=fun h=>absurd h hlt2;go_wp2_with fail;go_quiet (fail);go_wp2_with fail;go_quiet (fail);go_wp2;go_ret;exact STOP.out _ _ HN.out
structure Onl(R:Nat)(v:Value)(w w':World):Prop where
 os:w'.os=w.os
 tape:w'.tape=w.tape
 output:w'.output=w.output
 size:w.heap.size<=w'.heap.size
 block:∀k,k<w.heap.size->k≠R->v.ownBlock≠some k->w'.heap[k]?=w.heap[k]?
def ER.cells(q:ER):Array Value:=#[.int .i64 q.e.kind,.slice q.adA q.e.allow.length q.capA,.string q.e.over,.string q.e.name,.slice q.adK q.e.kids.length q.capK]
theorem Af{w:ae}{a:Addr}{v:Value}(h:w.cell? a=some v)(o:Obj):(w.alloc o).cell? a=some v:=by
 have hlt:=World.block_lt_of_cell? w a h;rw[((V5 w.heap.size w).alloc (V4 _) o).cell hlt];exact h
def yU(w:World)(g:Nat)(q:ER):Prop:=w.cell? ⟨g,0,none⟩=some (.int .i64 q.e.kind)/\w.cell? ⟨g,1,none⟩=some (.slice q.adA q.e.allow.length q.capA)/\w.cell? ⟨g,2,none⟩=some (.string q.e.over)/\w.cell? ⟨g,3,none⟩=some (.string q.e.name)/\w.cell? ⟨g,4,none⟩=some (.slice q.adK q.e.kids.length q.capK)/\g<w.heap.size
theorem yU.grown{w w':ae}{g:Nat}{q:ER}{row:Option Nat}(h:yU w g q)(hg:w.grownBy w' row)(hne:some g≠row):yU w' g q :=
 ⟨hg.cell h.1 hne,hg.cell h.2.1 hne,hg.cell h.2.2.1 hne,hg.cell h.2.2.2.1 hne,hg.cell h.2.2.2.2.1 hne,VY h.2.2.2.2.2 hg.size⟩
theorem Onl.grown{R:Nat}{v:Value}{w w' w'':ae}{row:Option Nat}(h:Onl R v w w')(hg:w'.grownBy w'' row)(hr:∀k,k<w.heap.size->k≠R->v.ownBlock≠some k->some k≠row):Onl R v w w'' :=
 ⟨hg.os.trans h.os,hg.tape.trans h.tape,hg.output.trans h.output,Wh h.size hg.size,fun k hk h1 h2=>(hg.block k (VY hk h.size) (hr k hk h1 h2)).trans (h.block k hk h1 h2)⟩
theorem fJ{W:ae}{base:Nat}{e:TypeId}{size:Nat}{v:Value}{k:Nat}{xs:Q03}(h:W.ownsRow base e size v (k+1) xs):∃g cap,v=.slice (some ⟨g,0,none⟩) (k+1) cap:=by
 rcases h.2 with⟨_,h0⟩|⟨g,cap,_,rfl,_⟩
 ·omega
 exact⟨g,cap,rfl⟩
theorem Onl.at_own{R:Nat}{v:Value}{w w':ae}(h:Onl R v w w')(o:Nat)(u:Value):Onl R v w (w'.setCell ⟨R,o,none⟩ u) :=
 ⟨h.os,h.tape,h.output,by simpa using h.size,fun k hk h1 h2=>(Below.heap_setCell w' _ _ k h1).trans (h.block k hk h1 h2)⟩
theorem RdC.put{w:ae}{R:Nat}{s:ByteArray}{p:Nat}{bad:Bool}{v:Value}(h:RdC w R s p bad v)(u:Value):RdC (w.setCell ⟨R,3,none⟩ u) R s p bad u :=
 ⟨by simpa using h.lt,by rw[mO (by omega)];exact h.c0,by rw[mO (by omega)];exact h.c1,by rw[mO (by omega)];exact h.c2,mS h.c3,fun j=>by simpa using h.fr j⟩
theorem RdC.hurt{w:ae}{R:Nat}{s:ByteArray}{p:Nat}{bad:Bool}{v:Value}(h:RdC w R s p bad v):RdC (w.setCell ⟨R,2,none⟩ (.bool true)) R s p true v :=
 ⟨by simpa using h.lt,by rw[mO (by omega)];exact h.c0,by rw[mO (by omega)];exact h.c1,mS h.c2,by rw[mO (by omega)];exact h.c3,fun j=>by simpa using h.fr j⟩
structure GA(R:Nat)(s:ByteArray)(p:Nat)(bad:Bool)(v:Value)(base n:Nat)(xs:Q03)(q:ER)(w:World)(listed:Array Bool)(w':World):Prop where
 rd:RdC w' R s p bad v
 box:yU w' w.heap.size q
 onl:Onl R v w w'
 own:listed.getD 7 false=false->w'.ownsRow base 188 5 v n xs
 small:listed.getD 6 false=false->w'.heap.size=w.heap.size+1
theorem Jd{listed:Array Bool}{i L:Nat}(h:listed.getD i true=false)(hs:listed.size=L)(hi:i<L):listed.getD i false=false:=by
 rw[<-kH (by omega)];exact h
theorem GA.step{R:Nat}{s:ByteArray}{p:Nat}{bad:Bool}{v:Value}{base n:Nat}{xs:Q03}{q:ER}{w w':ae}{listed:Array Bool}(h:GA R s p bad v base n xs q w listed w'){i:Nat}(hls:listed.size=11)(h6:i≠6)(h7:i≠7):GA R s p bad v base n xs q w (listed.setIfInBounds i true) w' :=
 ⟨h.rd,h.box,h.onl,fun k=>h.own (by
  by_cases hi:i<11
  ·rw[aQ _ _ _ (by omega),if_neg (Ne.symm h7)]at k;exact k
  ·rw[show listed.setIfInBounds i true=listed by rw[Array.setIfInBounds_eq_of_size_le (by omega)]]at k;exact k),fun k=>h.small (by
  by_cases hi:i<11
  ·rw[aQ _ _ _ (by omega),if_neg (Ne.symm h6)]at k;exact k
  rw[show listed.setIfInBounds i true=listed by rw[Array.setIfInBounds_eq_of_size_le (by omega)]]at k;exact k)⟩
theorem GA.made{R:Nat}{s:ByteArray}{p:Nat}{bad:Bool}{v:Value}{base n:Nat}{xs:Q03}{q:ER}{w w':ae}{listed:Array Bool}(h:GA R s p bad v base n xs q w listed w'){i:Nat}(hls:listed.size=11){o:Obj}(hi:i=6:=by rfl):GA R s p bad v base n xs q w (listed.setIfInBounds i true) (w'.alloc o):=by
 subst hi;have hg:=World.grownBy_alloc w' o none;refine⟨h.rd.grown hg (by simp),h.box.grown hg (by simp),h.onl.grown hg (by simp),fun k=>(h.own ?_).alloc _,fun k=>?_⟩
 ·rw[aQ _ _ _ (by omega),if_neg (by omega)]at k;exact k
 rw[aQ _ _ _ (by omega),if_pos rfl]at k;cases k
def VA(l:Q03)(base n:Nat)(v:Value)(q:ER)(xs:Q03)(w:World)(k:Nat)(u:Value)(w':World):Prop :=
 (k≠6/\k≠7->u=l.getD k undef) /\
 (k=6->u=.slice (some ⟨w.heap.size+1,0,none⟩) 1 1/\(∀j x,q.row[j]?=some x->w'.cell? ((⟨w.heap.size+1,0,none⟩:Addr).add j)=some x)/\w.heap.size+1<w'.heap.size) /\
 (k=7->∃g cap,u=.slice (some ⟨g,0,none⟩) (n+1) cap/\w'.ownsRow base 188 5 (.slice (some ⟨g,0,none⟩) (n+1) cap) (n+1) (xs++q.row)/\(v.ownBlock=some g\/w.heap.size<=g))
theorem VA.at{l:Q03}{base n:Nat}{v:Value}{q:ER}{xs:Q03}{w:ae}{k:Nat}{u:Value}{w':ae}(h:k≠6/\k≠7)(hu:u=l.getD k undef):VA l base n v q xs w k u w':=⟨fun _=>hu,fun e=>absurd e h.1,fun e=>absurd e h.2⟩
theorem VA.alloc{l:Q03}{base n:Nat}{v:Value}{q:ER}{xs:Q03}{w w':ae}{i:Nat}{o:Obj}:∀k u,k≠i->VA l base n v q xs w k u w'->VA l base n v q xs w k u (w'.alloc o):=fun k u _ h =>
 ⟨h.1,fun e=>⟨(h.2.1 e).1,fun j x hj=>Af ((h.2.1 e).2.1 j x hj) o,VY (h.2.1 e).2.2 (by simp)⟩,fun e=>by obtain⟨g,cap,e1,e2,e3⟩:=h.2.2 e;exact⟨g,cap,e1,e2.alloc _,e3⟩⟩
theorem GA.appended{R:Nat}{s:ByteArray}{p:Nat}{bad:Bool}{v:Value}{base n:Nat}{xs:Q03}{q:ER}{w w' w'':ae}{listed:Array Bool}(h:GA R s p bad v base n xs q w listed w')(hls:listed.size=11)(hg:w'.grownBy w'' v.ownBlock)(hR:v.ownBlock≠some R)(hX:v.ownBlock≠some w.heap.size)(hb6:w.heap.size+1<w'.heap.size):GA R s p bad v base n xs q w (listed.setIfInBounds 7 true) w'':=by
 refine⟨h.rd.grown hg (Ne.symm hR),h.box.grown hg (Ne.symm hX),h.onl.grown hg (fun k _ _ h2=>Ne.symm h2),fun k=>?_,fun k=>?_⟩
 ·rw[aQ _ _ _ (by omega),if_pos rfl]at k;cases k
 rw[aQ _ _ _ (by omega),if_neg (by omega)]at k;have:=h.small k;omega
theorem VA.app{l:Q03}{base n:Nat}{v:Value}{q:ER}{xs:Q03}{w w' w'':ae}(hg:w'.grownBy w'' v.ownBlock)(hX:v.ownBlock≠some (w.heap.size+1)):∀k u,k≠7->VA l base n v q xs w k u w'->VA l base n v q xs w k u w'':=fun k u hk h =>
 ⟨h.1,fun e=>⟨(h.2.1 e).1,fun j x hj=>hg.cell ((h.2.1 e).2.1 j x hj) (by rw[show((⟨w.heap.size+1,0,none⟩:Addr).add j).block=w.heap.size+1 by unfold Addr.add;split<;>rfl];exact Ne.symm hX),VY (h.2.1 e).2.2 hg.size⟩,fun e=>absurd e hk⟩
theorem RU(R:Nat)(s:bZ)(p:Nat)(bad:Bool)(v:Value)(base n:Nat)(xs:Q03)(q:ER)(w:ae)(h:RdC w R s p bad v)(hown:w.ownsRow base 188 5 v n xs)(hR:R<base)(hB:base<=w.heap.size)(hn:n<=100000):
  Calls prog 245 #[.pointer (some ⟨R,0,none⟩),q.val] w fun e w'=>∃(g cap:Nat),e=.returned (.int .i64 (n:Int))/\RdC w' R s p (bad || decide (15<n+1)) (.slice (some ⟨g,0,none⟩) (n+1) cap)/\w'.ownsRow base 188 5 (.slice (some ⟨g,0,none⟩) (n+1) cap) (n+1) (xs++q.row)/\Onl R v w w'/\(v.ownBlock=some g\/w.heap.size<=g):=by
 obtain⟨iT,hiT,zT0,zT1,zT2⟩:=info_parts (P:=prog) (e:=188) (z:=.agg #[.int .i64 0,.slice none 0 0,.string ⟨#[]⟩,.string ⟨#[]⟩,.slice none 0 0]) (size:=5) (bytes:=88) (by kernel_rfl);have HIT:=ai (And.intro hiT (And.intro zT0 (And.intro zT1 zT2)));have H:=ai h;have HO:=ai hown;have hlt:=h.lt;clear h hown hiT zT0 zT1 zT2;have hne:v.ownBlock≠some R:=fun e=>by have:=(HO.out.lt R e).1;omega
 have HNE:=ai hne;have HNX:Hid (v.ownBlock≠some w.heap.size):=fun e=>by have:=(HO.out.lt _ e).2;omega
 have HNX1:Hid (v.ownBlock≠some (w.heap.size+1)):=fun e=>by have:=(HO.out.lt _ e).2;omega
 clear hne;unfold ER.val;obtain⟨W0,hW0⟩:∃W0,W0=w.alloc (.cells #[.int .i64 q.e.kind,.slice q.adA q.e.allow.length q.capA,.string q.e.over,.string q.e.name,.slice q.adK q.e.kids.length q.capK] 188):=⟨_,rfl⟩;have HG0:Hid (GA R s p bad v base n xs q w (Array.replicate 11 false) W0.drew):=by
  have hg:=World.grownBy_alloc w (.cells #[.int .i64 q.e.kind,.slice q.adA q.e.allow.length q.capA,.string q.e.over,.string q.e.name,.slice q.adK q.e.kids.length q.capK] 188) none;show GA _ _ _ _ _ _ _ _ _ _ _ _;rw[hW0];refine⟨(H.out.grown hg (by simp)).drewN 1,⟨?_,?_,?_,?_,?_,?_⟩,⟨rfl,rfl,rfl,by simp[World.drew],fun k hk _ _=>hg.block k hk (by simp)⟩,fun _=>(HO.out.alloc _).drew,fun _=>by simp[World.drew]⟩<;>simp
 go_enter func245,ntmps245;go_wp2_with fail;rw[<-hW0];clear hW0;refine mD 10 _ _ (VA (Value.pointer (some ⟨R,0,none⟩)::.pointer (some ⟨R,0,none⟩)::.pointer (some ⟨R,0,none⟩)::.pointer (some ⟨R,3,none⟩)::v::.agg #[.int .i64 q.e.kind,.slice q.adA q.e.allow.length q.capA,.string q.e.over,.string q.e.name,.slice q.adK q.e.kids.length q.capK]::.slice (some ⟨w.heap.size+1,0,none⟩) 1 1::undef::.pointer (some ⟨R,0,none⟩)::.pointer (some ⟨R,3,none⟩)::[]) base n v q xs w) (GA R s p bad v base n xs q w) (by kernel_rfl) rfl (by decide +kernel) (by decide +kernel) (Ck [(5,[0,1,2,3,4,5,6,7,8,9])]) HG0.out ?stepA ?finA<;>dsimp only[zo];case stepA =>
  rintro i hi o ho listed f w' hls YQ hG hpre;have HG:=ai hG;have HM:Hid (∀e∈o.after,Region.binds .any e=true->_):=hpre;clear hG hpre;have hc:=KZ (i:=i) (by omega);clear hi
  repeat' rcases hc with rfl|hc
  ·cases ho;have HS:=ai (HG.out.step (i:=0) hls (by decide) (by decide));refine aa rfl fun K HK=>?_;clear HM;dsimp only;go_simp;exact HK.out _ _ ⟨Value.pointer (some ⟨R,0,none⟩),by simp[upd],HS.out,VA.at (by decide) rfl,fun k u _ hu=>hu⟩
  ·cases ho;have HS:=ai (HG.out.step (i:=1) hls (by decide) (by decide));refine aa rfl fun K HK=>?_;clear HM;dsimp only;go_simp;exact HK.out _ _ ⟨Value.pointer (some ⟨R,0,none⟩),by simp[upd],HS.out,VA.at (by decide) rfl,fun k u _ hu=>hu⟩
  ·cases ho;have e1:f 1=Value.pointer (some ⟨R,0,none⟩):=(HM.out ⟨1,.data⟩ (by simp) rfl).1 (by decide);have HS:=ai (HG.out.step (i:=2) hls (by decide) (by decide));refine aa rfl fun K HK=>?_;clear HM;simp only[e1];go_simp;exact HK.out _ _ ⟨Value.pointer (some ⟨R,0,none⟩),by simp[upd,e1],HS.out,VA.at (by decide) rfl,fun k u _ hu=>hu⟩
  ·cases ho;have e2:f 2=Value.pointer (some ⟨R,0,none⟩):=(HM.out ⟨2,.data⟩ (by simp) rfl).1 (by decide);have HS:=ai (HG.out.step (i:=3) hls (by decide) (by decide));refine aa rfl fun K HK=>?_;clear HM;simp only[e2];go_simp;exact HK.out _ _ ⟨Value.pointer (some ⟨R,3,none⟩),by simp[upd,e2],HS.out,VA.at (by decide) rfl,fun k u _ hu=>hu⟩
  ·cases ho;have e3:f 3=Value.pointer (some ⟨R,3,none⟩):=(HM.out ⟨3,.data⟩ (by simp) rfl).1 (by decide);have c3:=HG.out.rd.c3;have HS:=ai (HG.out.step (i:=4) hls (by decide) (by decide));refine aa rfl fun K HK=>?_;clear HM;simp only[e3];go_simp;exact HK.out _ _ ⟨v,by simp[upd,e3],HS.out,VA.at (by decide) rfl,fun k u _ hu=>hu⟩
  ·cases ho;obtain⟨x0,x1,x2,x3,x4,xl⟩:=HG.out.box;have HS:=ai (HG.out.step (i:=5) hls (by decide) (by decide));refine aa rfl fun K HK=>?_;clear HM;dsimp only;go_simp;exact HK.out _ _ ⟨Value.agg #[.int .i64 q.e.kind,.slice q.adA q.e.allow.length q.capA,.string q.e.over,.string q.e.name,.slice q.adK q.e.kids.length q.capK],by simp[upd],HS.out,VA.at (by decide) rfl,fun k u _ hu=>hu⟩
  ·cases ho;have e5:f 5=Value.agg #[.int .i64 q.e.kind,.slice q.adA q.e.allow.length q.capA,.string q.e.over,.string q.e.name,.slice q.adK q.e.kids.length q.capK]:=(HM.out ⟨5,.data⟩ (by simp) rfl).1 (by decide);have hz:=HG.out.small (Jd YQ hls (by omega));have HS:Hid (∀o,GA R s p bad v base n xs q w (listed.setIfInBounds 6 true) (w'.alloc o)):=fun o=>HG.out.made (i:=6) hls;refine aa rfl fun K HK=>?_;clear HM;simp only[e5];go_simp;exact HK.out _ _ ⟨.slice (some ⟨w'.heap.size,0,none⟩) 1 1,by simp[upd,e5],HS.out _,⟨fun h=>absurd rfl h.1,fun _=>⟨by rw[hz],fun j u hj=>by have:=Mh w' q j u hj;rw[hz]at this;exact this,by simp;omega⟩,fun h=>absurd h (by decide)⟩,VA.alloc⟩
  ·cases ho;have e4:f 4=v:=(HM.out ⟨4,.data⟩ (by simp) rfl).1 (by decide);obtain⟨e6,hnews,hb6⟩:=(HM.out ⟨6,.data⟩ (by simp) rfl).2.1 rfl;replace e6:f 6=Value.slice (some ⟨w.heap.size+1,0,none⟩) 1 1:=e6;have hown:=HG.out.own (Jd YQ hls (by omega));clear HM;refine ll _ rfl rfl _ _ 147 rfl base 188 iT (.agg #[.int .i64 0,.slice none 0 0,.string ⟨#[]⟩,.string ⟨#[]⟩,.slice none 0 0]) 5 88 underlying147 HIT.out.1 HIT.out.2.1 HIT.out.2.2.1 HIT.out.2.2.2 rfl (by decide) v n xs e4 hown ⟨w.heap.size+1,0,none⟩ 1 1 q.row e6 rfl hnews (O8 q) (by unfold maxLen;omega) (by omega) (by have:=HG.out.onl.size;omega) ?_;intro v7 w7 YS Y4 hat7;obtain⟨g7,c7,rfl⟩:=fJ YS;refine⟨.slice (some ⟨g7,0,none⟩) (n+1) c7,by simp[upd,e4,e6,Act.put],HG.out.appended hls Y4 HNE.out HNX.out hb6,⟨fun h=>absurd rfl h.2,fun h=>absurd h (by decide),fun _=>⟨g7,c7,rfl,YS,?_⟩⟩,VA.app Y4 HNX1.out⟩;rcases hat7 with e|e
   ·exact .inl e.symm
   simp[Value.ownBlock]at e;exact .inr (by have:=HG.out.onl.size;omega)
  ·cases ho;have e0:f 0=Value.pointer (some ⟨R,0,none⟩):=(HM.out ⟨0,.data⟩ (by simp) rfl).1 (by decide);have HS:=ai (HG.out.step (i:=8) hls (by decide) (by decide));refine aa rfl fun K HK=>?_;clear HM;simp only[e0];go_simp;exact HK.out _ _ ⟨Value.pointer (some ⟨R,0,none⟩),by simp[upd,e0],HS.out,VA.at (by decide) rfl,fun k u _ hu=>hu⟩
  cases ho;have e8:f 8=Value.pointer (some ⟨R,0,none⟩):=(HM.out ⟨8,.data⟩ (by simp) rfl).1 (by decide);have HS:=ai (HG.out.step (i:=9) hls (by decide) (by decide));refine aa rfl fun K HK=>?_;clear HM;simp only[e8];go_simp;exact HK.out _ _ ⟨Value.pointer (some ⟨R,3,none⟩),by simp[upd,e8],HS.out,VA.at (by decide) rfl,fun k u _ hu=>hu⟩
 case finA =>
  rintro o ho listed f w' hG hall;cases ho;obtain⟨g,cap,e7,YS,hat⟩:=(hall 7 (by omega)).2.2 rfl;have e9:f 9=Value.pointer (some ⟨R,3,none⟩):=(hall 9 (by omega)).1 (by decide);have HR:=ai hG.rd;have HN:=ai hG.onl;have HW:=ai YS;have HA:=ai hat;have c3:=hG.rd.c3;have f3:=hG.rd.fr 3;have hl3:=hG.rd.lt;clear hall hG YS hat;refine wpOp_step rfl (fun K hK=>?_);have HK:Hid (∀a w,_->K a w):=hK;clear hK;simp only[e7,e9];go_simp;refine HK.out _ _ ?_;clear HK;obtain⟨W8,Zb⟩:∃W8,W8=w'.setCell ⟨R,3,none⟩ (.slice (some ⟨g,0,none⟩) (n+1) cap):=⟨_,rfl⟩;have HR8:Hid (RdC W8 R s p bad (.slice (some ⟨g,0,none⟩) (n+1) cap)):=by rw[Zb];exact HR.out.put _
  have HN8:Hid (Onl R v w W8):=by rw[Zb];exact HN.out.at_own _ _
  have HW8:Hid (W8.ownsRow base 188 5 (.slice (some ⟨g,0,none⟩) (n+1) cap) (n+1) (xs++q.row)):=by rw[Zb];exact ownsRow_setCell_below HW.out hR _
  rw[<-Zb];clear Zb HR HN HW c3 f3 hl3 e7 e9;have c2:=HR8.out.c2;have c3:=HR8.out.c3;have f2:=HR8.out.fr 2;have hl8:=HR8.out.lt;have hwr:IntKind.i64.wrap (((n:Int)+1)-1)=(n:Int):=by simp[IntKind.wrap,IntKind.bits,IntKind.signed];omega
  by_cases hbig:15<n+1
  ·have hd:decide ((15:Int)<(n:Int)+1)=true:=by simp;omega
   have HB:=ai hbig;clear hbig;go_wp2;exact bodyPost_ret (v:=.int .i64 (n:Int)) (by simp[results,Tryz.results245,go_sem]) rfl ⟨g,cap,rfl,by rw[show decide (15<n+1)=true from decide_eq_true HB.out,Bool.or_true];exact HR8.out.hurt,ownsRow_setCell_below HW8.out hR _,HN8.out.at_own _ _,HA.out⟩
  have hd:decide ((15:Int)<(n:Int)+1)=false:=by simp;omega
  have HB:=ai hbig;clear hbig;go_wp2;exact bodyPost_ret (v:=.int .i64 (n:Int)) (by simp[results,Tryz.results245,go_sem]) rfl ⟨g,cap,rfl,by rw[show decide (15<n+1)=false from decide_eq_false HB.out,Bool.or_false];exact HR8.out,HW8.out,HN8.out,HA.out⟩
structure Went(R:Nat)(v:Value)(w:World)(v':Value)(w':World):Prop where
 onl:Onl R v w w'
 own:v'.ownBlock=v.ownBlock \/ ∃g,v'.ownBlock=some g/\w.heap.size<=g
theorem Onl.refl(R:Nat)(v:Value)(w:ae):Onl R v w w:=⟨rfl,rfl,rfl,V4 _,fun _ _ _ _=>rfl⟩
theorem Went.refl(R:Nat)(v:Value)(w:ae):Went R v w v w:=⟨Onl.refl R v w,.inl rfl⟩
theorem Went.apart{R:Nat}{v v':Value}{w w':ae}(h:Went R v w v' w'){k:Nat}(hk:k<w.heap.size)(hv:v.ownBlock≠some k):v'.ownBlock≠some k:=by
 rcases h.own with e|⟨g,e,hg⟩
 ·rw[e];exact hv
 rw[e];intro h2;injection h2 with h2;omega
theorem Went.trans{R:Nat}{v v1 v2:Value}{w w1 w2:ae}(h:Went R v w v1 w1)(h2:Went R v1 w1 v2 w2):Went R v w v2 w2:=by
 refine⟨⟨h2.onl.os.trans h.onl.os,h2.onl.tape.trans h.onl.tape,h2.onl.output.trans h.onl.output,Wh h.onl.size h2.onl.size,fun k hk h3 h4=>(h2.onl.block k (VY hk h.onl.size) h3 (h.apart hk h4)).trans (h.onl.block k hk h3 h4)⟩,?_⟩;rcases h2.own with e|⟨g,e,hg⟩
 ·rw[e];exact h.own
 exact .inr ⟨g,e,Wh h.onl.size hg⟩
abbrev oI:Value:=.slice none 0 0
theorem Onl.any{R:Nat}{w w':ae}(h:Onl R oI w w')(v:Value):Went R v w v w':=⟨⟨h.os,h.tape,h.output,h.size,fun k hk h1 _=>h.block k hk h1 (by simp[Value.ownBlock])⟩,.inl rfl⟩
theorem Onl.of_grown{R:Nat}{w w':ae}(h:w.grownBy w' (some R)):Onl R oI w w':=⟨h.os,h.tape,h.output,h.size,fun k hk h1 _=>h.block k hk (fun e=>h1 (by injection e))⟩
theorem Onl.trans0{R:Nat}{w w1 w2:ae}(h:Onl R oI w w1)(h2:Onl R oI w1 w2):Onl R oI w w2:=((h.any oI).trans (h2.any oI)).onl
theorem Onl.of_below{R:Nat}{w w':ae}(h:af w w'):Onl R oI w w':=⟨h.os,h.tape,h.output,h.size,fun k hk _ _=>h.block k hk⟩
def Cn(w:World)(base:Nat)(q:ER):Prop:=(q.e.kids=[]/\q.adK=none/\q.capK=0)\/(q.e.kids≠[]/\w.ownsRow base 2 1 (.slice q.adK q.e.kids.length q.capK) q.e.kids.length (ints q.e.kids))
structure RdF(w:World)(R:Nat)(s:ByteArray)(st:RS)(base:Nat)(v:Value)(qs:Q08):Prop where
 rd:RdC w R s st.p st.bad v
 own:w.ownsRow base 188 5 v qs.length (jQ qs)
 out:aj qs=st.out
 zA:∀q∈qs,q.e.allow≠[]->∃g,q.adA=some ⟨g,0,none⟩
 zK:∀q∈qs,q.e.kids≠[]->∃g,q.adK=some ⟨g,0,none⟩
 ok:∀q∈qs,q.ok w
 lie:∀q∈qs,∀g,qF q g->base<=g/\g<w.heap.size/\jM w g/\v.ownBlock≠some g
 one:∀q∈qs,∀g,bA q g->¬bK q g
 two:∀(x y:Nat) (hx:x<qs.length) (hy:y<qs.length),x≠y->∀g,qF qs[x] g->¬qF qs[y] g
 cA:∀q∈qs,q.e.allow.length<=q.capA
 cK:∀q∈qs,Cn w base q
theorem Cn.heap{w w':ae}{base:Nat}{q:ER}(h:Cn w base q)(hz:q.e.kids≠[]->∃g,q.adK=some ⟨g,0,none⟩)(hh:∀g,qF q g->w'.heap[g]?=w.heap[g]?):Cn w' base q:=by
 rcases h with h|⟨hne,h⟩
 ·exact .inl h
 obtain⟨g,eg⟩:=hz hne;refine .inr ⟨hne,jB h fun g' hg'=>?_⟩;rw[eg]at hg';have:g=g':=by simpa[Value.ownBlock] using hg'
 subst this;exact hh g (.inr ⟨hne,eg⟩)
theorem Cn.mono{w:ae}{base base':Nat}{q:ER}(h:Cn w base q)(hb:base'<=base):Cn w base' q:=by
 rcases h with h|⟨hne,h⟩
 ·exact .inl h
 refine .inr ⟨hne,h.1,?_⟩;rcases h.2 with hl|⟨g,cap,cur,e,h1,h2⟩
 ·exact .inl hl
 exact .inr ⟨g,cap,cur,e,Wh hb h1,h2⟩
theorem RdF.over{w w':ae}{R:Nat}{s:ByteArray}{st:RS}{base:Nat}{v:Value}{qs:Q08}(h:RdF w R s st base v qs)(hR:R<base)(ho:Onl R oI w w'){p:Nat}{bad:Bool}(hr:RdC w' R s p bad v):RdF w' R s ⟨p,bad,st.out⟩ base v qs where
 rd:=hr
 own:=jB h.own fun g hg=>ho.block g (h.own.lt g hg).2 (by have:=(h.own.lt g hg).1;omega) (by simp[Value.ownBlock])
 out:=h.out
 zA:=h.zA
 zK:=h.zK
 ok q hq:=su (h.ok q hq) ho.size (h.zA q hq) (h.zK q hq) fun g hg=>ho.block g (h.lie q hq g hg).2.1 (by have:=(h.lie q hq g hg).1;omega) (by simp[Value.ownBlock])
 lie q hq g hg:=by
  obtain⟨h1,h2,h3,h4⟩:=h.lie q hq g hg;exact⟨h1,VY h2 ho.size,cz h3 (ho.block g h2 (by omega) (by simp[Value.ownBlock])),h4⟩
 one:=h.one
 two:=h.two
 cA:=h.cA
 cK q hq:=(h.cK q hq).heap (h.zK q hq) fun g hg=>ho.block g (h.lie q hq g hg).2.1 (by have:=(h.lie q hq g hg).1;omega) (by simp[Value.ownBlock])
theorem Mi(R:Nat)(s:bZ)(st:RS)(base:Nat)(v:Value)(qs:Q08)(q:ER)(w:ae)(h:RdF w R s st base v qs)(hR:R<base)(hB:base<=w.heap.size)(hn:qs.length<=100000)
  (hq:NewQ base w q) (Zc:Cn w base q) (ha:∀g,qF q g->v.ownBlock≠some g/\∀q'∈qs,¬qF q' g) :
  Calls prog 245 #[.pointer (some ⟨R,0,none⟩),q.val] w fun e w'=>∃v',e=.returned (.int .i64 (st.out.length:Int))/\RdF w' R s (tq q.e st) base v' (qs++[q])/\Went R v w v' w':=by
 have hlen:qs.length=st.out.length:=by rw[<-h.out];simp[aj]
 refine(RU R s st.p st.bad v base qs.length (jQ qs) q w h.rd h.own hR hB hn).mono ?_;rintro e w' ⟨g,cap,rfl,hrd,hown,honl,hat⟩;have hW:Went R v w (.slice (some ⟨g,0,none⟩) (qs.length+1) cap) w':=⟨honl,by
  rcases hat with e|e
  ·exact .inl (by rw[e];rfl)
  exact .inr ⟨g,rfl,e⟩⟩
 have keep:∀k,k<w.heap.size->base<=k->v.ownBlock≠some k->w'.heap[k]?=w.heap[k]?:=fun k h1 h2 h3=>honl.block k h1 (by omega) h3;refine⟨.slice (some ⟨g,0,none⟩) (qs.length+1) cap,by rw[hlen],?_,hW⟩;refine⟨by unfold tq;rw[<-hlen];exact hrd,?_,?_,?_,?_,?_,?_,?_,?_,?_,?_⟩
 ·rw[Wi,WJ,Ja];exact hown
 ·simp[aj,tq,<-h.out]
 ·intro q' hq';rcases Wj.1 hq' with h1|h1
  ·exact h.zA q' h1
  rw[Wl]at h1;subst h1;exact hq.zA
 ·intro q' hq';rcases Wj.1 hq' with h1|h1
  ·exact h.zK q' h1
  rw[Wl]at h1;subst h1;exact hq.zK
 ·intro q' hq';rcases Wj.1 hq' with h1|h1
  ·exact su (h.ok q' h1) honl.size (h.zA q' h1) (h.zK q' h1) fun k hk=>keep k (h.lie q' h1 k hk).2.1 (h.lie q' h1 k hk).1 (h.lie q' h1 k hk).2.2.2
  rw[Wl]at h1;subst h1;exact su hq.ok honl.size hq.zA hq.zK fun k hk=>keep k (hq.lie k hk).2.1 (hq.lie k hk).1 (ha k hk).1
 ·intro q' hq' k hk;rcases Wj.1 hq' with h1|h1
  ·obtain⟨a1,a2,a3,a4⟩:=h.lie q' h1 k hk;exact⟨a1,VY a2 honl.size,cz a3 (keep k a2 a1 a4),hW.apart a2 a4⟩
  rw[Wl]at h1;subst h1;obtain⟨a1,a2,a3⟩:=hq.lie k hk;exact⟨a1,VY a2 honl.size,cz a3 (keep k a2 a1 (ha k hk).1),hW.apart a2 (ha k hk).1⟩
 ·intro q' hq';rcases Wj.1 hq' with h1|h1
  ·exact h.one q' h1
  rw[Wl]at h1;subst h1;exact hq.one
 ·intro x y hx hy hxy k hkx hky;rw[Wi,WJ]at hx hy;by_cases ex:x<qs.length
  ·rw[WA ex]at hkx;by_cases ey:y<qs.length
   ·rw[WA ey]at hky;exact h.two x y ex ey hxy k hkx hky
   have:y=qs.length:=by omega
   subst this;rw[WM (V4 _)]at hky;simp at hky;exact(ha k hky).2 _ (VZ ex) hkx
  have:x=qs.length:=by omega
  subst this;rw[WM (V4 _)]at hkx;simp at hkx;have ey:y<qs.length:=by omega
  rw[WA ey]at hky;exact(ha k hkx).2 _ (VZ ey) hky
 ·intro q' hq';rcases Wj.1 hq' with h1|h1
  ·exact h.cA q' h1
  rw[Wl]at h1;subst h1;exact hq.cA
 intro q' hq';rcases Wj.1 hq' with h1|h1
 ·exact(h.cK q' h1).heap (h.zK q' h1) fun k hk=>keep k (h.lie q' h1 k hk).2.1 (h.lie q' h1 k hk).1 (h.lie q' h1 k hk).2.2.2
 rw[Wl]at h1;subst h1;exact Zc.heap hq.zK fun k hk=>keep k (hq.lie k hk).2.1 (hq.lie k hk).1 (ha k hk).1
def vF(R:Nat)(s:ByteArray)(base:Nat)(v:Value)(qs:Q08)(w:World)(x:Int×RS)(e:Ending)(w':World):Prop :=
 ∃v' ns,e=.returned (.int .i64 x.1)/\RdF w' R s x.2 base v' (qs++ns)/\Went R v w v' w'/\∀q∈ns,∀g,qF q g->w.heap.size<=g
def uA(s:ByteArray)(x:Int×RS):Int×RS:=if lV s fu x.2 then (x.1,kM fu x.2) else (x.1,vz x.2)
theorem Je{s:ByteArray}{x:Int×RS}(h:nO s fu x.2.p x.2.bad=true):uA s x=(x.1,kM fu x.2):=if_pos h
theorem Mj{s:ByteArray}{x:Int×RS}(h:nO s fu x.2.p x.2.bad=false):uA s x=(x.1,vz x.2):=if_neg (fun e=>by rw[lV,<-nO,h]at e;cases e)
theorem RdF.is_no{w w':ae}{R:Nat}{s t:ByteArray}{st:RS}{base:Nat}{v:Value}{qs:Q08}(h:RdF w R s st base v qs)(hR:R<base)(hb:nO s t st.p st.bad=false)(hr:RdC w' R s (RQ s t st.p st.bad) st.bad v)(hg:w.grownBy w' (some R)):RdF w' R s st base v qs:=by
 rw[Ae hb]at hr;exact h.over hR (Onl.of_grown hg) hr
theorem RdF.is_yes{w w':ae}{R:Nat}{s t:ByteArray}{st:RS}{base:Nat}{v:Value}{qs:Q08}(h:RdF w R s st base v qs)(hR:R<base)(hb:nO s t st.p st.bad=true)(hr:RdC w' R s (RQ s t st.p st.bad) st.bad v)(hg:w.grownBy w' (some R)):RdF w' R s (kM t st) base v qs:=by
 rw[vC hb]at hr;exact h.over hR (Onl.of_grown hg) hr
theorem Ag{s t:ByteArray}{p:Nat}{bad:Bool}(h:nO s t p bad=true):p+t.size<=s.size:=by
 unfold nO at h;simp only[V9]at h;exact Gg h.2
theorem Pd(R:Nat)(s:bZ)(st:RS)(base:Nat)(v:Value)(qs:Q08)(w:ae)(h:RdF w R s st base v qs)(hR:R<base)(hs:s.size<=1000)(hp:st.p<=s.size)
  (h0:nO s fP st.p st.bad=false) (h1:nO s jD st.p st.bad=true) (x:Int×RS) (hx:x.2.p<=s.size)
  (hrow:∀w1,RdF w1 R s (kM jD st) base v qs->w.heap.size<=w1.heap.size->Calls prog 226 #[.pointer (some ⟨R,0,none⟩)] w1 (vF R s base v qs w1 x)) :
  Calls prog 242 #[.pointer (some ⟨R,0,none⟩)] w (vF R s base v qs w (uA s x)):=by
 have H:=ai h;have Yn:=ai hrow;have HX:=ai hx;have HP:=ai hp;clear h hrow hx hp;go_enter func242,ntmps242;go_wp2_with fail;refine(mI R s fP st.p st.bad v w H.out.rd hs HP.out (by decide)).mono ?_;rintro e w1 ⟨rfl,hr1,hg1⟩;have Yc:=ai (H.out.is_no hR h0 hr1 hg1);have XD:=ai (Onl.of_grown hg1);rw[h0];clear hr1 hg1 h0;go_wp2_with fail;refine(mI R s jD st.p st.bad v w1 Yc.out.rd hs HP.out (by decide)).mono ?_;rintro e w2 ⟨rfl,hr2,hg2⟩;have Yd:=ai (Yc.out.is_yes hR h1 hr2 hg2);have Xv:=ai (XD.out.trans0 (Onl.of_grown hg2));rw[h1];clear hr2 hg2 h1;go_wp2_with fail;refine(Yn.out w2 Yd.out Xv.out.size).mono ?_;rintro e w3 ⟨v3,ns,rfl,hF3,hW3,hns⟩;have HF3:=ai hF3;have HW3:=ai ((Xv.out.any v).trans hW3);have HNS:Hid (∀q∈ns,∀g,qF q g->w.heap.size<=g):=fun q hq g hg=>Wh Xv.out.size (hns q hq g hg);clear hF3 hW3 hns Yc XD Yd Xv Yn;go_wp2_with fail;refine(mI R s fu x.2.p x.2.bad v3 w3 HF3.out.rd hs HX.out (by decide)).mono ?_;rintro e w4 ⟨rfl,hr4,hg4⟩;cases hc:nO s fu x.2.p x.2.bad;case true=>
  have Zd:=ai (HF3.out.is_yes hR hc hr4 hg4);have HW4:=ai (HW3.out.trans ((Onl.of_grown hg4).any v3));have EQ:=ai (Je (x:=x) hc);clear hr4 hg4 hc;go_wp2;exact bodyPost_ret (v:=.int .i64 x.1) (by simp[results,Tryz.results242,go_sem]) rfl (by rw[EQ.out];exact⟨v3,ns,rfl,Zd.out,HW4.out,HNS.out⟩)
 have Zd:=ai (HF3.out.is_no hR hc hr4 hg4);have HW4:=ai (HW3.out.trans ((Onl.of_grown hg4).any v3));have c2:=Zd.out.rd.c2;have f2:=Zd.out.rd.fr 2;have hl:=Zd.out.rd.lt;have EQ:=ai (Mj (x:=x) hc);clear hr4 hg4 hc;go_wp2;exact bodyPost_ret (v:=.int .i64 x.1) (by simp[results,Tryz.results242,go_sem]) rfl (by rw[EQ.out];exact⟨v3,ns,rfl,Zd.out.over hR ((Onl.refl R oI w4).at_own _ _) Zd.out.rd.hurt,HW4.out.trans (((Onl.refl R oI w4).at_own _ _).any v3),HNS.out⟩)
end Go.Proofs.YtcgdckphpjfmhaaGreatDoor
