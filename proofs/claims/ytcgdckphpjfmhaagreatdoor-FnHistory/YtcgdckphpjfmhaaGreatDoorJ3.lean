/- Contracts of the law's helpers that weigh a schema. -/
import Derived.Test.YtcgdckphpjfmhaaGreatDoorSq
import Derived.Test.YtcgdckphpjfmhaaGreatDoorJ1
import Derived.Deep.DrawnRows
import Derived.OwnWalk
import Derived.Maps.AppendAt
import Derived.Lib.Join
open Go.Proofs.Tryz
set_option maxHeartbeats 80000000
namespace Go.Proofs.YtcgdckphpjfmhaaGreatDoor
open ChangeShapes WideShapes ChangeAt RowKit
open Pl
def RR.row(r:RR):List Value:=[.string r.name,.slice r.ad r.rows.length r.cap]
def TR.row(r:TR):List Value:=[.string r.name,.slice r.ad r.rows.length r.cap]
theorem mO{w:ae}{g i j:Nat}{v:Value}(h:i≠j):(w.setCell ⟨g,i,none⟩ v).cell? ⟨g,j,none⟩=w.cell? ⟨g,j,none⟩:=by
 apply World.cell?_setCell_other;intro e;exact h (congrArg Addr.off e)
theorem mS{w:ae}{a:Addr}{v u:Value}(h:w.cell? a=some u):(w.setCell a v).cell? a=some v:=by
 apply World.cell?_setCell_same;exact h
theorem mK{W w1:ae}{n o:Nat}{v:Value}(hb:af W w1)(hn:n<W.heap.size)(h:W.cell? ⟨n,o,none⟩=some v):w1.cell? ⟨n,o,none⟩=some v:=by
 rw[hb.cell (p:=⟨n,o,none⟩) hn];exact h
theorem mF{W w1:ae}{n o:Nat}(hb:af W w1)(hn:n<W.heap.size)(h:W.frozen? ⟨n,o,none⟩=false):w1.frozen? ⟨n,o,none⟩=false:=by
 rw[hb.frozen (p:=⟨n,o,none⟩) hn];exact h
def jJ(w:World)(g:Nat):Prop:=∀j,w.frozen? ⟨g,j,none⟩=false
structure Chg(S:Nat->Prop)(w w':World):Prop where
 base:Below 0 w w'
 block:∀k,k<w.heap.size->¬S k->w'.heap[k]?=w.heap[k]?
 free:∀g,g<w.heap.size->jJ w g->jJ w' g
theorem Chg.refl(S:Nat->Prop)(w:ae):Chg S w w:=⟨VD _ _,fun _ _ _=>rfl,fun _ _ h=>h⟩
theorem Chg.size{S:Nat->Prop}{w w':ae}(h:Chg S w w'):w.heap.size<=w'.heap.size:=h.base.size
theorem Chg.trans{S:Nat->Prop}{a b c:ae}(h:Chg S a b)(k:Chg S b c):Chg S a c :=
 ⟨h.base.trans k.base,fun i hi hs=>(k.block i (Vy hi h.size) hs).trans (h.block i hi hs),fun g hg hf=>k.free g (Vy hg h.size) (h.free g hg hf)⟩
theorem Chg.mono{S T:Nat->Prop}{a b:ae}(h:Chg S a b)(hs:∀g,S g->T g):Chg T a b :=
 ⟨h.base,fun i hi hn=>h.block i hi fun e=>hn (hs i e),h.free⟩
theorem Chg.of{S:Nat->Prop}{w w':ae}(h:af w w'):Chg S w w' :=
 ⟨h.mono (VG _),fun k hk _=>h.block k hk,fun g hg hf j=>by rw[h.frozen (p:=⟨g,j,none⟩) hg];exact hf j⟩
theorem Chg.set{S:Nat->Prop}{w:ae}{g j:Nat}(v:Value)(hs:S g):Chg S w (w.setCell ⟨g,j,none⟩ v) :=
 ⟨(VD 0 w).setCell (VG _) v,fun k _ hk=>Below.heap_setCell _ _ _ _ (fun e=>hk (by rw[e];exact hs)),fun g' _ hf j'=>by simpa using hf j'⟩
theorem Chg.below{S:Nat->Prop}{w w':ae}{m:Nat}(h:Chg S w w')(hm:∀g,S g->m<=g)(hw:m<=w.heap.size):Below m w w' :=
 ⟨h.base.os,h.base.tape,h.base.output,h.base.size,fun k hk=>h.block k (Vy hk hw) fun e=>by have:=hm k e;omega⟩
theorem Chg.cell{S:Nat->Prop}{w w':ae}(h:Chg S w w'){g o:Nat}(hg:g<w.heap.size)(hs:¬S g):w'.cell? ⟨g,o,none⟩=w.cell? ⟨g,o,none⟩:=by
 have:=h.block g hg hs;unfold World.cell?;simp only[this]
def bA(r:ER)(g:Nat):Prop:=r.e.allow≠[]/\r.adA=some ⟨g,0,none⟩
def bK(r:ER)(g:Nat):Prop:=r.e.kids≠[]/\r.adK=some ⟨g,0,none⟩
def qd(r:ER)(g:Nat):Prop:=bA r g\/bK r g
structure SepE(b:Nat)(rs:Q08):Prop where
 zeroA:∀r∈rs,r.e.allow≠[]->∃g,r.adA=some ⟨g,0,none⟩
 zeroK:∀r∈rs,r.e.kids≠[]->∃g,r.adK=some ⟨g,0,none⟩
 head:∀r∈rs,¬qd r b
 one:∀r∈rs,∀g,bA r g->¬bK r g
 two:∀(x y:Nat) (hx:x<rs.length) (hy:y<rs.length),x≠y->∀g,qd rs[x] g->¬qd rs[y] g
def Oi(w:World)(P:Nat->Prop):Prop:=∀g,P g->g<w.heap.size/\jJ w g
theorem Oi.mono{P Q:Nat->Prop}{w:ae}(h:Oi w P)(hq:∀g,Q g->P g):Oi w Q:=fun g hg=>h g (hq g hg)
def Lt(r:RR)(g:Nat):Prop:=(r.rows≠[]/\r.ad=some ⟨g,0,none⟩) \/ ∃q∈r.rows,qd q g
def SE(r:RR):Prop:=r.rows≠[]->∃b,r.ad=some ⟨b,0,none⟩/\SepE b r.rows
structure SepR(b:Nat)(rs:Q07):Prop where
 good:∀r∈rs,SE r
 head:∀r∈rs,¬Lt r b
 two:∀(x y:Nat) (hx:x<rs.length) (hy:y<rs.length),x≠y->∀g,Lt rs[x] g->¬Lt rs[y] g
def Oj(r:TR)(g:Nat):Prop:=(r.rows≠[]/\r.ad=some ⟨g,0,none⟩) \/ ∃q∈r.rows,Lt q g
def SF(r:TR):Prop:=r.rows≠[]->∃b,r.ad=some ⟨b,0,none⟩/\SepR b r.rows
structure SepT(b:Nat)(rs:Q06):Prop where
 good:∀r∈rs,SF r
 head:∀r∈rs,¬Oj r b
 two:∀(x y:Nat) (hx:x<rs.length) (hy:y<rs.length),x≠y->∀g,Oj rs[x] g->¬Oj rs[y] g
def FO(b:Nat)(w:World)(qs:Q08):Prop:=SepE b qs/\∀q∈qs,∀g,qd q g->b<g/\g<w.heap.size/\jJ w g
theorem FO.nil(b:Nat)(w:ae):FO b w []:=by
 refine⟨⟨?_,?_,?_,?_,?_⟩,?_⟩
 ·intro r hr;cases hr
 ·intro r hr;cases hr
 ·intro r hr;cases hr
 ·intro r hr;cases hr
 ·intro x y hx;exact absurd hx (WJ _)
 intro r hr;cases hr
theorem KG{q:ER}{gA gK g:Nat}(hA:q.adA=some ⟨gA,0,none⟩)(hK:q.adK=some ⟨gK,0,none⟩)(h:qd q g):g=gA\/g=gK:=by
 rcases h with⟨-,e⟩|⟨-,e⟩
 ·rw[hA]at e;injection e with e;injection e with e1 e2;exact .inl e1.symm
 rw[hK]at e;injection e with e;injection e with e1 e2;exact .inr e1.symm
theorem FO.snoc{S:Nat->Prop}{b:Nat}{wr wn:ae}{qs:Q08}(h:FO b wr qs)(hc:Chg S wr wn)(hb:b<wr.heap.size){q:ER}{gA gK:Nat}(hA:q.adA=some ⟨gA,0,none⟩)(hK:q.adK=some ⟨gK,0,none⟩)(h1:wr.heap.size<=gA)(h2:gA<gK)(h3:gK<wn.heap.size)(fA:jJ wn gA)(fK:jJ wn gK):FO b wn (qs++[q]):=by
 have hq:∀g,qd q g->wr.heap.size<=g:=fun g hg=>by rcases KG hA hK hg with rfl|rfl<;>omega
 refine⟨⟨?_,?_,?_,?_,?_⟩,?_⟩
 ·intro r hr;rw[VL,VK]at hr;rcases hr with hr|rfl
  ·exact h.1.zeroA r hr
  exact fun _=>⟨gA,hA⟩
 ·intro r hr;rw[VL,VK]at hr;rcases hr with hr|rfl
  ·exact h.1.zeroK r hr
  exact fun _=>⟨gK,hK⟩
 ·intro r hr;rw[VL,VK]at hr;rcases hr with hr|rfl
  ·exact h.1.head r hr
  intro hg;have:=hq b hg;omega
 ·intro r hr;rw[VL,VK]at hr;rcases hr with hr|rfl
  ·exact h.1.one r hr
  rintro g ⟨-,e1⟩ ⟨-,e2⟩;rw[hA]at e1;rw[hK]at e2;injection e1 with e1;injection e1 with e1 _;injection e2 with e2;injection e2 with e2 _;omega
 ·intro x y hx hy hne g hgx Yu;rw[VI,Wh]at hx hy;by_cases ex:x<qs.length
  ·rw[VY ex]at hgx;by_cases ey:y<qs.length
   ·rw[VY ey]at Yu;exact h.1.two x y ex ey hne g hgx Yu
   rw[Wj (by omega)]at Yu;have e1:=hq g (by simpa using Yu);have e2:=(h.2 _ (Vz ex) g hgx).2.1;omega
  rw[Wj (by omega)]at hgx;have e1:=hq g (by simpa using hgx);have ey:y<qs.length:=by omega
  rw[VY ey]at Yu;have e2:=(h.2 _ (Vz ey) g Yu).2.1;omega
 intro r hr g hg;rw[VL,VK]at hr;rcases hr with hr|rfl
 ·obtain⟨a1,a2,a3⟩:=h.2 r hr g hg;exact⟨a1,Vy a2 hc.size,hc.free g a2 a3⟩
 rcases KG hA hK hg with rfl|rfl
 ·exact⟨by omega,by omega,fA⟩
 exact⟨by omega,by omega,fK⟩
def UT(m:Nat)(w:World)(r:RR):Prop:=SE r/\∀g,Lt r g->m<=g/\g<w.heap.size/\jJ w g
def Ol(b:Nat)(w:World)(qs:Q07):Prop:=SepR b qs/\∀q∈qs,∀g,Lt q g->b<g/\g<w.heap.size/\jJ w g
theorem Ol.nil(b:Nat)(w:ae):Ol b w []:=by
 refine⟨⟨?_,?_,?_⟩,?_⟩
 ·intro r hr;cases hr
 ·intro r hr;cases hr
 ·intro x y hx;exact absurd hx (WJ _)
 intro r hr;cases hr
theorem Ol.snoc{S:Nat->Prop}{b:Nat}{wr wn:ae}{qs:Q07}(h:Ol b wr qs)(hc:Chg S wr wn)(hb:b<wr.heap.size){q:RR}(hq:UT wr.heap.size wn q):Ol b wn (qs++[q]):=by
 refine⟨⟨?_,?_,?_⟩,?_⟩
 ·intro r hr;rw[VL,VK]at hr;rcases hr with hr|rfl
  ·exact h.1.good r hr
  exact hq.1
 ·intro r hr;rw[VL,VK]at hr;rcases hr with hr|rfl
  ·exact h.1.head r hr
  intro hg;have:=(hq.2 b hg).1;omega
 ·intro x y hx hy hne g hgx Yu;rw[VI,Wh]at hx hy;by_cases ex:x<qs.length
  ·rw[VY ex]at hgx;by_cases ey:y<qs.length
   ·rw[VY ey]at Yu;exact h.1.two x y ex ey hne g hgx Yu
   rw[Wj (by omega)]at Yu;have e1:=(hq.2 g (by simpa using Yu)).1;have e2:=(h.2 _ (Vz ex) g hgx).2.1;omega
  rw[Wj (by omega)]at hgx;have e1:=(hq.2 g (by simpa using hgx)).1;have ey:y<qs.length:=by omega
  rw[VY ey]at Yu;have e2:=(h.2 _ (Vz ey) g Yu).2.1;omega
 intro r hr g hg;rw[VL,VK]at hr;rcases hr with hr|rfl
 ·obtain⟨a1,a2,a3⟩:=h.2 r hr g hg;exact⟨a1,Vy a2 hc.size,hc.free g a2 a3⟩
 obtain⟨a1,a2,a3⟩:=hq.2 g hg;exact⟨by omega,a2,a3⟩
def UU(m:Nat)(w:World)(r:TR):Prop:=SF r/\∀g,Oj r g->m<=g/\g<w.heap.size/\jJ w g
def Om(b:Nat)(w:World)(qs:Q06):Prop:=SepT b qs/\∀q∈qs,∀g,Oj q g->b<g/\g<w.heap.size/\jJ w g
theorem Om.nil(b:Nat)(w:ae):Om b w []:=by
 refine⟨⟨?_,?_,?_⟩,?_⟩
 ·intro r hr;cases hr
 ·intro r hr;cases hr
 ·intro x y hx;exact absurd hx (WJ _)
 intro r hr;cases hr
theorem Om.snoc{S:Nat->Prop}{b:Nat}{wr wn:ae}{qs:Q06}(h:Om b wr qs)(hc:Chg S wr wn)(hb:b<wr.heap.size){q:TR}(hq:UU wr.heap.size wn q):Om b wn (qs++[q]):=by
 refine⟨⟨?_,?_,?_⟩,?_⟩
 ·intro r hr;rw[VL,VK]at hr;rcases hr with hr|rfl
  ·exact h.1.good r hr
  exact hq.1
 ·intro r hr;rw[VL,VK]at hr;rcases hr with hr|rfl
  ·exact h.1.head r hr
  intro hg;have:=(hq.2 b hg).1;omega
 ·intro x y hx hy hne g hgx Yu;rw[VI,Wh]at hx hy;by_cases ex:x<qs.length
  ·rw[VY ex]at hgx;by_cases ey:y<qs.length
   ·rw[VY ey]at Yu;exact h.1.two x y ex ey hne g hgx Yu
   rw[Wj (by omega)]at Yu;have e1:=(hq.2 g (by simpa using Yu)).1;have e2:=(h.2 _ (Vz ex) g hgx).2.1;omega
  rw[Wj (by omega)]at hgx;have e1:=(hq.2 g (by simpa using hgx)).1;have ey:y<qs.length:=by omega
  rw[VY ey]at Yu;have e2:=(h.2 _ (Vz ey) g Yu).2.1;omega
 intro r hr g hg;rw[VL,VK]at hr;rcases hr with hr|rfl
 ·obtain⟨a1,a2,a3⟩:=h.2 r hr g hg;exact⟨a1,Vy a2 hc.size,hc.free g a2 a3⟩
 obtain⟨a1,a2,a3⟩:=hq.2 g hg;exact⟨by omega,a2,a3⟩
open Maps
theorem FO.add{S:Nat->Prop}{b:Nat}{wr wn:ae}{qs:Q08}(h:FO b wr qs)(hc:Chg S wr wn)(hb:b<wr.heap.size){q:ER}(zA:q.e.allow≠[]->∃g,q.adA=some ⟨g,0,none⟩)(zK:q.e.kids≠[]->∃g,q.adK=some ⟨g,0,none⟩)(hone:∀g,bA q g->¬bK q g)(hq:∀g,qd q g->wr.heap.size<=g/\g<wn.heap.size/\jJ wn g):FO b wn (qs++[q]):=by
 refine⟨⟨?_,?_,?_,?_,?_⟩,?_⟩
 ·intro r hr;rw[VL,VK]at hr;rcases hr with hr|rfl
  ·exact h.1.zeroA r hr
  exact zA
 ·intro r hr;rw[VL,VK]at hr;rcases hr with hr|rfl
  ·exact h.1.zeroK r hr
  exact zK
 ·intro r hr;rw[VL,VK]at hr;rcases hr with hr|rfl
  ·exact h.1.head r hr
  intro hg;have:=(hq b hg).1;omega
 ·intro r hr;rw[VL,VK]at hr;rcases hr with hr|rfl
  ·exact h.1.one r hr
  exact hone
 ·intro x y hx hy hne g hgx Yu;rw[VI,Wh]at hx hy;by_cases ex:x<qs.length
  ·rw[VY ex]at hgx;by_cases ey:y<qs.length
   ·rw[VY ey]at Yu;exact h.1.two x y ex ey hne g hgx Yu
   rw[Wj (by omega)]at Yu;have e1:=(hq g (by simpa using Yu)).1;have e2:=(h.2 _ (Vz ex) g hgx).2.1;omega
  rw[Wj (by omega)]at hgx;have e1:=(hq g (by simpa using hgx)).1;have ey:y<qs.length:=by omega
  rw[VY ey]at Yu;have e2:=(h.2 _ (Vz ey) g Yu).2.1;omega
 intro r hr g hg;rw[VL,VK]at hr;rcases hr with hr|rfl
 ·obtain⟨a1,a2,a3⟩:=h.2 r hr g hg;exact⟨a1,Vy a2 hc.size,hc.free g a2 a3⟩
 obtain⟨a1,a2,a3⟩:=hq g hg;exact⟨by omega,a2,a3⟩
theorem UV{w:ae}{base n:Nat}{v:Value}{xs:Q0a}(h:w.ownsRow base 223 2 v n (pairs xs))(hn:n=xs.length):∃ad cap,v=.slice ad xs.length cap/\ll w ad xs/\(xs≠[]->∃g,ad=some ⟨g,0,none⟩)/\∀g,xs≠[]->ad=some ⟨g,0,none⟩->base<=g/\g<w.heap.size/\jJ w g:=by
 subst hn;have h2:=h;rcases h.2 with⟨rfl,h0⟩|⟨g,cap,cur,rfl,hbg,hg,hnc,-⟩
 ·have hx:xs=[]:=VS.1 h0;subst hx;exact⟨none,0,rfl,.inl rfl,fun h=>absurd rfl h,fun _ h=>absurd rfl h⟩
 have hlt:=h2.lt g rfl;refine⟨some ⟨g,0,none⟩,cap,rfl,.inr ⟨g,0,rfl,hlt.2,fun i hi=>?_⟩,fun _=>⟨g,rfl⟩,fun g' _ e=>?_⟩
 ·have hl:=rH xs;obtain⟨p0,p1⟩:=uI xs i hi;refine⟨?_,?_⟩
  ·rw[h2.cellAt (0+i*2) (by omega),V4];exact p0
  rw[h2.cellAt (0+i*2+1) (by omega),V4];exact p1
 injection e with e;injection e with e1 e2;subst e1;exact⟨hlt.1,hlt.2,fun y=>h2.frozenAt y⟩
theorem UW{w:ae}{base n:Nat}{v:Value}{zs:List Int}(h:w.ownsRow base 2 1 v n (ints zs))(hn:n=zs.length):∃ad cap,v=.slice ad zs.length cap/\wB w ad zs/\(zs≠[]->∃g,ad=some ⟨g,0,none⟩)/\∀g,zs≠[]->ad=some ⟨g,0,none⟩->base<=g/\g<w.heap.size/\jJ w g:=by
 subst hn;have h2:=h;rcases h.2 with⟨rfl,h0⟩|⟨g,cap,cur,rfl,hbg,hg,hnc,-⟩
 ·have hx:zs=[]:=VS.1 h0;subst hx;exact⟨none,0,rfl,.inl rfl,fun h=>absurd rfl h,fun _ h=>absurd rfl h⟩
 have hlt:=h2.lt g rfl;refine⟨some ⟨g,0,none⟩,cap,rfl,.inr ⟨g,0,rfl,hlt.2,fun i hi=>?_⟩,fun _=>⟨g,rfl⟩,fun g' _ e=>?_⟩
 ·rw[h2.cellAt (0+i) (by omega),V4];simp[ints,hi]
 injection e with e;injection e with e1 e2;subst e1;exact⟨hlt.1,hlt.2,fun y=>h2.frozenAt y⟩
theorem ll.grown{w w':ae}{row:Option Nat}{ad:Q02}{xs:Q0a}(h:ll w ad xs)(hg:w.grownBy w' row)(hn:∀g o,xs≠[]->ad=some ⟨g,o,none⟩->some g≠row):ll w' ad xs:=by
 rcases h with h|⟨b,off,e,hb,hr⟩
 ·exact .inl h
 by_cases hx:xs=[]
 ·exact .inl hx
 exact .inr ⟨b,off,e,Vy hb hg.size,fun i hi=>⟨hg.cell (hr i hi).1 (hn b off hx e),hg.cell (hr i hi).2 (hn b off hx e)⟩⟩
theorem wB.grown{w w':ae}{row:Option Nat}{ad:Q02}{zs:List Int}(h:wB w ad zs)(hg:w.grownBy w' row)(hn:∀g o,zs≠[]->ad=some ⟨g,o,none⟩->some g≠row):wB w' ad zs:=by
 rcases h with h|⟨b,off,e,hb,hr⟩
 ·exact .inl h
 by_cases hx:zs=[]
 ·exact .inl hx
 exact .inr ⟨b,off,e,Vy hb hg.size,fun i hi=>hg.cell (hr i hi) (hn b off hx e)⟩
structure Beside(w:World)(v:Value)(q:ER):Prop where
 ok:q.ok w
 zA:q.e.allow≠[]->∃g,q.adA=some ⟨g,0,none⟩
 zK:q.e.kids≠[]->∃g,q.adK=some ⟨g,0,none⟩
 lt:∀g,qd q g->g<w.heap.size/\v.ownBlock≠some g
theorem Beside.below{w w':ae}{v:Value}{q:ER}(h:Beside w v q)(hb:af w w'):Beside w' v q :=
 ⟨h.ok.below hb,h.zA,h.zK,fun g hg=>⟨Vy (h.lt g hg).1 hb.size,(h.lt g hg).2⟩⟩
theorem Beside.grown{w w':ae}{v v':Value}{q:ER}(h:Beside w v q)(hg:w.grownBy w' v.ownBlock)(hv:v'.ownBlock=v.ownBlock\/v'.ownBlock=some w.heap.size):Beside w' v' q:=by
 refine⟨⟨h.ok.1.grown hg fun g o hne e=>?_,h.ok.2.grown hg fun g o hne e=>?_⟩,h.zA,h.zK,fun g hi=>⟨Vy (h.lt g hi).1 hg.size,?_⟩⟩
 ·obtain⟨g0,e0⟩:=h.zA hne;rw[e0]at e;injection e with e;injection e with e1 e2;subst e1;exact fun e=>(h.lt g0 (.inl ⟨hne,e0⟩)).2 e.symm
 ·obtain⟨g0,e0⟩:=h.zK hne;rw[e0]at e;injection e with e;injection e with e1 e2;subst e1;exact fun e=>(h.lt g0 (.inr ⟨hne,e0⟩)).2 e.symm
 rcases hv with e|e
 ·rw[e];exact(h.lt g hi).2
 rw[e];intro e2;injection e2 with e2;have:=(h.lt g hi).1;omega
theorem SG{w:ae}{base n:Nat}{v:Value}{qs:Q08}(h:w.ownsRow base 188 5 v n (jL qs))(hn:n=qs.length)(hok:∀q∈qs,q.ok w):∃ad cap,v=.slice ad qs.length cap/\jq w ad qs:=by
 subst hn;have h2:=h;rcases h.2 with⟨rfl,h0⟩|⟨g,cap,cur,rfl,hbg,hg,hnc,-⟩
 ·exact⟨none,0,by rw[h0],.inl (VS.1 h0)⟩
 have hlt:=h2.lt g rfl;refine⟨some ⟨g,0,none⟩,cap,rfl,.inr ⟨g,0,rfl,hlt.2,fun i hi=>?_,hok⟩⟩;have hl:=wD qs;have key:∀j,j<5->w.cell? ⟨g,0+i*5+j,none⟩=(qs[i]).row[j]?:=fun j hj=>by
  rw[h2.cellAt (0+i*5+j) (by omega),<-zl qs i hi j hj,V4]
 exact⟨key 0 (by omega),key 1 (by omega),key 2 (by omega),key 3 (by omega),key 4 (by omega)⟩
theorem Lu(w:ae)(q:ER):∀j u,q.row[j]?=some u->(w.alloc (.cells #[.int .i64 q.e.kind,.slice q.adA q.e.allow.length q.capA,.string q.e.over,.string q.e.name,.slice q.adK q.e.kids.length q.capK] 188)).cell? ((⟨w.heap.size,0,none⟩:Addr).add j)=some u:=by
 intro j u hu;rw[show(⟨w.heap.size,0,none⟩:Addr).add j=⟨w.heap.size,0+j,none⟩ by simp[Addr.add];omega,V4];have:=World.cell?_alloc_mark w #[.int .i64 q.e.kind,.slice q.adA q.e.allow.length q.capA,.string q.e.over,.string q.e.name,.slice q.adK q.e.kids.length q.capK] 188 (0,0) j;rw[this];simpa[ER.row] using hu
theorem Oo(q:ER):∀u∈q.row,u.oneCell'=true:=by
 intro u hu;simp[ER.row]at hu;rcases hu with rfl|rfl|rfl|rfl|rfl<;>rfl
set_option maxRecDepth 100000
theorem ll.heap{w w':ae}{ad:Q02}{xs:Q0a}(h:ll w ad xs)(hs:w.heap.size<=w'.heap.size)(hz:xs≠[]->∃g,ad=some ⟨g,0,none⟩)(hn:∀g,xs≠[]->ad=some ⟨g,0,none⟩->w'.heap[g]?=w.heap[g]?):ll w' ad xs:=by
 rcases h with h|⟨b,off,e,hb,hr⟩
 ·exact .inl h
 by_cases hx:xs=[]
 ·exact .inl hx
 obtain⟨g,eg⟩:=hz hx;have e2:=e;rw[eg]at e;injection e with e;injection e with e1 e3;subst e1;have hh:=hn g hx eg;exact .inr ⟨g,off,e2,Vy hb hs,fun i hi=>⟨(VR (w:=w) (a:=⟨g,_,none⟩) hh).trans (hr i hi).1,(VR (w:=w) (a:=⟨g,_,none⟩) hh).trans (hr i hi).2⟩⟩
theorem wB.heap{w w':ae}{ad:Q02}{xs:List Int}(h:wB w ad xs)(hs:w.heap.size<=w'.heap.size)(hz:xs≠[]->∃g,ad=some ⟨g,0,none⟩)(hn:∀g,xs≠[]->ad=some ⟨g,0,none⟩->w'.heap[g]?=w.heap[g]?):wB w' ad xs:=by
 rcases h with h|⟨b,off,e,hb,hr⟩
 ·exact .inl h
 by_cases hx:xs=[]
 ·exact .inl hx
 obtain⟨g,eg⟩:=hz hx;have e2:=e;rw[eg]at e;injection e with e;injection e with e1 e3;subst e1;have hh:=hn g hx eg;exact .inr ⟨g,off,e2,Vy hb hs,fun i hi=>(VR (w:=w) (a:=⟨g,_,none⟩) hh).trans (hr i hi)⟩
theorem rQ{w w':ae}{q:ER}(h:q.ok w)(hs:w.heap.size<=w'.heap.size)(zA:q.e.allow≠[]->∃g,q.adA=some ⟨g,0,none⟩)(zK:q.e.kids≠[]->∃g,q.adK=some ⟨g,0,none⟩)(hn:∀g,qd q g->w'.heap[g]?=w.heap[g]?):q.ok w' :=
 ⟨h.1.heap hs zA fun g h1 h2=>hn g (.inl ⟨h1,h2⟩),h.2.heap hs zK fun g h1 h2=>hn g (.inr ⟨h1,h2⟩)⟩
theorem cz{w w':ae}{g:Nat}(h:jJ w g)(hh:w'.heap[g]?=w.heap[g]?):jJ w' g:=fun j=>(World.frozen?_of_block (w:=w) (a:=⟨g,j,none⟩) hh).trans (h j)
theorem jv{w w':ae}{base:Nat}{e:TypeId}{size:Nat}{v:Value}{n:Nat}{xs:Q03}(h:w.ownsRow base e size v n xs)(hh:∀g,v.ownBlock=some g->w'.heap[g]?=w.heap[g]?):w'.ownsRow base e size v n xs:=by
 refine⟨h.1,?_⟩;rcases h.2 with hl|⟨g,cap,cur,rfl,h1,h2,h3⟩
 ·exact .inl hl
 exact .inr ⟨g,cap,cur,rfl,h1,(hh g rfl).trans h2,h3⟩
structure NewQ(X:Nat)(w:World)(q:ER):Prop where
 zA:q.e.allow≠[]->∃g,q.adA=some ⟨g,0,none⟩
 zK:q.e.kids≠[]->∃g,q.adK=some ⟨g,0,none⟩
 ok:q.ok w
 lie:∀g,qd q g->X<=g/\g<w.heap.size/\jJ w g
 one:∀g,bA q g->¬bK q g
 cA:q.e.allow.length<=q.capA
theorem II(qs:Q08)(q:ER):jL (qs++[q])=jL qs++q.row:=by simp[jL]
def kz(x y:Al):Bool:=x.t.toList==y.t.toList&&x.s.toList==y.s.toList
def FP(a:Al):Bool:=aS a.t&&uH a.s
def dP(xs:Q0a)(k:Nat)(a:Al):Bool:=(xs.take k).any fun x=>kz x a
theorem tQ(xs:Q0a)(k:Nat)(a:Al)(h:k<xs.length):dP xs (k+1) a=(dP xs k a || kz xs[k] a):=by
 unfold dP;rw[VE h,List.any_append];simp
theorem tT(xs:Q0a)(a:Al):dP xs 0 a=false:=by simp[dP]
def Eb(xs:Q0a):Nat->Bool
 | 0=>true
 | k+1=>Eb xs k&&(xs[k]?.map fun a=>FP a && !dP xs k a).getD true
theorem zF(xs:Q0a)(k:Nat)(h:k<xs.length):Eb xs (k+1)=(Eb xs k&&(FP xs[k] && !dP xs k xs[k])):=by
 simp[Eb,h]
theorem oZ(xs:Q0a)(k:Nat)(h:k<xs.length)(hb:(FP xs[k] && !dP xs k xs[k])=false):∀n,k<n->Eb xs n=false
 | 0,hn=>by omega
 | n+1,hn=>by
  by_cases e:n=k
  ·subst e;rw[zF _ _ h,hb];simp
  simp[Eb,oZ xs k h hb n (by omega)]
def dW(xs:Q0a):Bool:=decide (1<=xs.length)&&decide (xs.length<=6)&&Eb xs xs.length
def az(e:Ex):Bool :=
 if e.kind=1 then dW e.allow&&e.over.toList.isEmpty&&e.name.toList.isEmpty&&decide (e.kids.length=0)
 else if e.kind=2 then aS e.name&&decide (e.allow.length=0)&&e.over.toList.isEmpty&&decide (e.kids.length=0)
 else if e.kind=3 then aS e.over&&aS e.name&&decide (e.allow.length=0)&&decide (e.kids.length=0)
 else if e.kind=4\/e.kind=5 then decide (2<=e.kids.length)&&decide (e.kids.length<=5)&&decide (e.allow.length=0)&&e.over.toList.isEmpty&&e.name.toList.isEmpty
 else if e.kind=6 then decide (e.kids.length=2)&&decide (e.allow.length=0)&&e.over.toList.isEmpty&&e.name.toList.isEmpty
 else false
def dB(f:Int->Int):List Int->Int->Int
 | [],at'=>at'+1
 | k::ks,at'=>if at'<0\/k≠at' then -1 else if f at'<0 then -1 else dB f ks (f at'-1)
def lY(es:Q09)(n:Nat):List Int:=(es[n]?.map Ex.kids).getD []
def aG(es:Q09)(n:Nat):Int:=dB (fun x=>if _h:0<=x/\x.toNat<n then aG es x.toNat else -1) (lY es n).reverse ((n:Int)-1)
def dQ(es:Q09)(n:Nat)(x:Int):Int:=if 0<=x/\x.toNat<n then aG es x.toNat else -1
theorem jT(es:Q09)(n:Nat):aG es n=dB (dQ es n) (lY es n).reverse ((n:Int)-1):=by
 rw[aG];rfl
theorem Cy{f:Int->Int}(hf:∀x,0<=x->f x<=x):∀(ks:List Int) (a:Int),-1<=a->dB f ks a<=a+1
 | [],a,_=>by simp[dB]
 | k::ks,a,ha=>by
  unfold dB;split
  ·omega
  rename_i h;split
  ·omega
  rename_i h2;have h0:0<=a:=by omega
  have:=Cy hf ks (f a-1) (by omega);have:=hf a h0;omega
theorem nW(es:Q09)(n:Nat):aG es n<=n:=by
 induction n using Nat.strongRecOn with
 | ind n ih =>
  rw [jT];have:=Cy (f:=dQ es n) (fun x hx=>by
   unfold dQ;split
   ·rename_i h;have:=ih x.toNat h.2;omega
   omega) (lY es n).reverse ((n:Int)-1) (by omega)
  omega
theorem Oq(es:Q09)(n:Nat)(x:Int)(hx:0<=x):dQ es n x<=x:=by
 unfold dQ;split
 ·have:=nW es x.toNat;omega
 omega
theorem sN{es:Q09}{n:Nat}(ih:∀m,m<n->0<=aG es m->∀j:Nat,aG es m<=j->j<=m->0<=aG es j):
  ∀(ks:List Int) (a:Int),a<n->0<=dB (dQ es n) ks a->∀j:Nat,dB (dQ es n) ks a<=j->(j:Int)<=a->0<=aG es j
 | [],a,ha,h,j,h1,h2=>by simp[dB]at h1;omega
 | k::ks,a,ha,h,j,h1,h2=>by
  unfold dB at h h1;split at h
  ·omega
  rename_i c;rw[if_neg c]at h1;split at h
  ·omega
  rename_i c2;rw[if_neg c2]at h1;have h0:0<=a:=by omega
  have hF:dQ es n a=aG es a.toNat:=by unfold dQ;rw[if_pos ⟨h0,by omega⟩]
  rw[hF]at h h1 c2;by_cases hj:aG es a.toNat<=j
  ·exact ih a.toNat (by omega) (by omega) j hj (by omega)
  exact sN ih ks (aG es a.toNat-1) (by have:=nW es a.toNat;omega) h j h1 (by omega)
theorem sO(es:Q09)(n:Nat):0<=aG es n->∀j:Nat,aG es n<=j->j<=n->0<=aG es j:=by
 induction n using Nat.strongRecOn with
 | ind n ih =>
  intro h j h1 h2;by_cases e:j=n
  ·subst e;exact h
  rw[jT]at h h1;exact sN ih _ _ (by omega) h j h1 (by omega)
def kN(es:Q09)(i:Nat):Bool:=(lY es i).all fun k=>decide (0<=k)&&decide (k<=(i:Int)-1)
theorem xJ{es:Q09}{n:Nat}:∀(ks:List Int) (a:Int),a<n->0<=dB (dQ es n) ks a->∀k∈ks,0<=k/\k<=a
 | [],_,_,_,k,hk=>by cases hk
 | x::ks,a,ha,h,k,hk=>by
  unfold dB at h;split at h
  ·omega
  rename_i c;split at h
  ·omega
  rename_i c2;have h0:0<=a:=by omega
  rcases VU.1 hk with rfl|hk
  ·omega
  have hl:=Oq es n a h0;have:=xJ ks (dQ es n a-1) (by omega) h k hk;omega
theorem Lv(es:Q09)(i:Nat)(h:0<=aG es i):kN es i=true:=by
 unfold kN;rw[VN];intro k hk;rw[jT]at h;have:=xJ _ _ (by omega) h k (by simpa using hk);simp;omega
def Ot(es:Q09)(n:Nat):Prop:=∀j,j<n->0<=aG es j
def own(es:Q09):Nat:=(es.filter fun e=>decide (e.kind=1)).length
def gF(es:Q09)(k:Nat):Nat:=own (es.take k)
theorem zG(es:Q09)(k:Nat)(h:k<es.length):gF es (k+1)=gF es k+(if es[k].kind=1 then 1 else 0):=by
 unfold gF own;rw[VE h,WP,VI];by_cases e:es[k].kind=1<;>simp[e]
theorem uM(es:Q09)(k:Nat):gF es k<=k:=by
 unfold gF own;exact VJ (List.length_filter_le ..) (by simp;omega)
def jw(es:Q09)(k:Nat):Bool:=(es.take k).all az
theorem uN(es:Q09)(k:Nat)(h:k<es.length):jw es (k+1)=(jw es k&&az es[k]):=by
 unfold jw;rw[VE h,WK];simp
theorem Cz(es:Q09)(k:Nat)(h:k<es.length)(hb:az es[k]=false):es.all az=false:=by
 rw[Bool.eq_false_iff];intro h2;rw[VN]at h2;have:=h2 es[k] (Vz h);rw[hb]at this;cases this
def jc(es:Q09)(k:Nat):Bool:=(List.range k).all (kN es)
theorem FQ(es:Q09)(k:Nat):jc es (k+1)=(jc es k&&kN es k):=by simp[jc,List.range_succ]
theorem Ou(es:Q09)(k:Nat)(h:k<es.length)(hb:kN es k=false):jc es es.length=false:=by
 rw[Bool.eq_false_iff];intro h2;unfold jc at h2;rw[VN]at h2;have:=h2 k (by simpa using h);rw[hb]at this;cases this
def aP(es:Q09):Bool:=decide (1<=es.length)&&decide (es.length<=15)&&es.all az&&jc es es.length&&decide (own es<=1)&&decide (aG es (es.length-1)=0)
def jy(es:Q09):Bool:=(List.range es.length).all fun j=>decide (0<=aG es j)
def kW(es:Q09):Bool:=decide (1<=es.length)&&decide (es.length<=15)&&es.all az&&decide (own es<=1)&&(jy es&&decide (aG es (es.length-1)=0))
theorem wJ(es:Q09):aP es=kW es:=by
 by_cases h1:1<=es.length
 ·by_cases ht:aG es (es.length-1)=0
  ·have ha:jy es=true:=by
    unfold jy;rw[VN];intro j hj;have hj':j<es.length:=by simpa using hj
    simpa using sO es (es.length-1) (by omega) j (by omega) (by omega)
   have hk:jc es es.length=true:=by
    unfold jc;rw[VN];intro j hj;have hj':j<es.length:=by simpa using hj
    exact Lv es j (sO es (es.length-1) (by omega) j (by omega) (by omega))
   simp[aP,kW,ht,ha,hk,h1]
  simp[aP,kW,ht]
 simp[aP,kW,h1]
theorem je{a b:ByteArray}(h:a.data.toList=b.data.toList):a=b:=by
 cases a;cases b;congr;exact Array.toList_inj.1 h
def fB(sep:ByteArray)(xs:List ByteArray):ByteArray:=⟨(Lib.join (xs.map (·.data.toList)) sep.data.toList).toArray⟩
theorem CB(sep:bW):fB sep []=⟨#[]⟩:=rfl
theorem inter_snoc{α:Type}(s:List α):∀(l:List (List α)) (x:List α),s.intercalate (l++[x])=if l=[] then x else s.intercalate l++(s++x)
 | [],x=>by simp[List.intercalate]
 | [a],x=>by simp[List.intercalate]
 | a::b::l,x=>by
  have ih:=inter_snoc s (b::l) x;simp only[Wp,List.intercalate,List.intersperse,reduceCtorEq,if_false]at ih ⊢;simp only[List.flatten_cons]at ih ⊢;rw[ih];simp
theorem o6(sep:bW)(xs:List ByteArray)(x:bW):fB sep (xs++[x])=if xs=[] then x else fB sep xs++sep++x:=by
 apply je;unfold fB Lib.join;rw[WA,WO,List.map_nil,inter_snoc];by_cases h:xs=[]
 ·simp[h]
 simp[h,ByteArray.data_append]
theorem o7(sep:bW)(b:Nat):∀(n:Nat) (xs:List ByteArray),xs.length=n->(∀x∈xs,x.size<=b)->(fB sep xs).size<=n*(b+sep.size)
 | 0,xs,hn,_=>by
  have:xs=[]:=List.eq_nil_of_length_eq_zero hn;subst this;simp[CB];rfl
 | n+1,xs,hn,hx=>by
  obtain⟨ys,y,rfl⟩:∃ys y,xs=ys++[y]:=by
   have hne:xs≠[]:=by intro e;simp[e]at hn
   exact⟨xs.dropLast,xs.getLast hne,(List.dropLast_concat_getLast hne).symm⟩
  have hl:ys.length=n:=by simp at hn;exact hn
  have ih:=o7 sep b n ys hl (fun x h=>hx x (by simp[h]));have hy:=hx y (by simp);rw[o6,Nat.succ_mul];by_cases h:ys=[]
  ·rw[if_pos h];omega
  rw[if_neg h,VT,VT];omega
def fI(a:Al):ByteArray:=if a.s.toList.isEmpty then a.t else a.t++⟨#[35]⟩++a.s
def uO(xs:Q0a):ByteArray:=⟨#[116,104,105,115,40]⟩++fB ⟨#[44]⟩ (xs.map fI)++⟨#[41]⟩
def gG(k:Int):ByteArray:=if k=4 then ⟨#[32,124,32]⟩ else if k=5 then ⟨#[32,38,32]⟩ else ⟨#[32,45,32]⟩
theorem lZ(k:Int):(gG k).size=3:=by
 unfold gG;split
 ·rfl
 split<;>rfl
def l7(f:Int->ByteArray)(e:Ex):ByteArray :=
 if e.kind=1 then uO e.allow else if e.kind=2 then e.name else if e.kind=3 then e.over++⟨#[45,62]⟩++e.name else fB (gG e.kind) (e.kids.map f)
def inT(e:Ex)(inside:Bool)(t:ByteArray):ByteArray:=if inside && !(decide (e.kind=1) || decide (e.kind=2) || decide (e.kind=3)) then ⟨#[40]⟩++t++⟨#[41]⟩ else t
def Ec(es:Q09)(n:Nat):Ex:=es[n]?.getD ⟨0,[],⟨#[]⟩,⟨#[]⟩,[]⟩
def txt(es:Q09)(n:Nat):ByteArray:=inT (Ec es n) true (l7 (fun x=>if _h:x.toNat<n then txt es x.toNat else ⟨#[]⟩) (Ec es n))
def jA(es:Q09)(n:Nat)(x:Int):ByteArray:=if x.toNat<n then txt es x.toNat else ⟨#[]⟩
def iU(es:Q09)(n:Nat)(inside:Bool):ByteArray:=inT (Ec es n) inside (l7 (jA es n) (Ec es n))
theorem Ed(es:Q09)(n:Nat):txt es n=iU es n true:=by
 rw[txt];rfl
def zH:Nat->Nat
 | 0=>200
 | n+1=>zH n*6
theorem KH(n:Nat):200<=zH n:=by
 induction n with
 | zero=>exact VC _
 | succ n ih=>simp only[zH];omega
theorem CE{m n:Nat}(h:m<=n):zH m<=zH n:=by
 induction h with
 | refl=>exact VC _
 | step _ ih=>simp only[zH];omega
theorem Rh:zH 14<=20000000000000:=by decide
theorem bG{s:ByteArray}(h:aS s=true):s.size<=12:=by
 simp only[aS,dI,nP,VF,VM]at h;exact h.1.1.2
theorem zI{s:ByteArray}(h:uH s=true):s.size<=12:=by
 unfold uH at h;rw[Bool.or_eq_true]at h;rcases h with h|h
 ·have h2:s.data.toList=[]:=by rw[Go.ByteArray.toList_eq]at h;simpa using h
  have h3:s.data.toList.length=0:=by rw[h2];rfl
  have:s.size=s.data.toList.length:=rfl;omega
 exact bG h
theorem za{xs:Q0a}:∀{k:Nat},Eb xs k=true->∀(i:Nat) (h:i<xs.length),i<k->FP xs[i]=true
 | 0,_,i,_,hi=>by omega
 | k+1,hk,i,h,hi=>by
  unfold Eb at hk;rw[VF]at hk;by_cases e:i=k
  ·subst e;have:=hk.2;simp only[VO h,Option.map_some,Wn,VF]at this;exact this.1
  exact za hk.1 i h (by omega)
theorem qB{a:Al}(h:FP a=true):(fI a).size<=25:=by
 unfold FP at h;rw[VF]at h;have h1:=bG h.1;have h2:=zI h.2;have e1:(⟨#[35]⟩:ByteArray).size=1:=rfl;unfold fI;split
 ·omega
 simp only[VT];omega
theorem j4{xs:Q0a}(h:dW xs=true):(uO xs).size<=190:=by
 unfold dW at h;simp only [VF,VM]at h;have hj:=o7 ⟨#[44]⟩ 25 _ (xs.map fI) rfl (fun x hx=>by
  obtain⟨a,ha,rfl⟩:=VQ.1 hx;obtain⟨i,hi,rfl⟩:=WR ha;exact qB (za h.2 i hi hi))
 have e1:(⟨#[116,104,105,115,40]⟩:ByteArray).size=5:=rfl;have e2:(⟨#[41]⟩:ByteArray).size=1:=rfl;have e3:(⟨#[44]⟩:ByteArray).size=1:=rfl;have e4:(xs.map fI).length<=6:=by simp;exact h.1.2
 unfold uO;simp only[VT];rw[e3]at hj;have:(xs.map fI).length*(25+1)<=6*26:=Nat.mul_le_mul_right _ e4;omega
def SH(es:Q09):Prop:=es.length<=15/\(∀(i:Nat) (h:i<es.length),az es[i]=true)/\∀i,i<es.length->kN es i=true
theorem Ov{es:Q09}(h:aP es=true):SH es:=by
 unfold aP at h;simp only[VF,VM]at h;refine⟨h.1.1.1.1.2,fun i hi=>?_,fun i hi=>?_⟩
 ·have:=h.1.1.1.2;rw[VN]at this;exact this _ (Vz hi)
 have:=h.1.1.2;unfold jc at this;rw[VN]at this;exact this i (by simpa using hi)
theorem qC{e:Ex}(h:az e=true):e.kids.length<=5/\(e.kind=1\/e.kind=2\/e.kind=3\/e.kind=4\/e.kind=5\/e.kind=6):=by
 unfold az at h;split at h
 ·rename_i k;simp at h;exact⟨by simp[h.2],.inl k⟩
 split at h
 ·rename_i k;simp at h;exact⟨by simp[h.2],.inr (.inl k)⟩
 split at h
 ·rename_i k;simp at h;exact⟨by simp[h.2],.inr (.inr (.inl k))⟩
 split at h
 ·rename_i k;simp at h;exact⟨by omega,by omega⟩
 split at h
 ·rename_i k;simp at h;exact⟨by omega,by omega⟩
 cases h
theorem zJ{es:Q09}(hes:SH es){n:Nat}(hn:n<es.length)(b:Nat)(hb:200<=b)(f:Int->ByteArray)(hf:∀k∈es[n].kids,(f k).size<=b):(l7 f es[n]).size<=b*5+20:=by
 have WU:=hes.2.1 n hn;obtain⟨hk,hkind⟩:=qC WU;unfold l7;unfold az at WU;split
 ·rename_i k;rw[if_pos k]at WU;simp only[VF]at WU;have:=j4 WU.1.1.1;omega
 rename_i k1;rw[if_neg k1]at WU;split
 ·rename_i k2;rw[if_pos k2]at WU;simp only[VF]at WU;have:=bG WU.1.1.1;omega
 rename_i k2;rw[if_neg k2]at WU;split
 ·rename_i k3;rw[if_pos k3]at WU;simp only[VF]at WU;have h1:=bG WU.1.1.1;have h2:=bG WU.1.1.2;have e1:(⟨#[45,62]⟩:ByteArray).size=2:=rfl;simp only[VT];omega
 have hj:=o7 (gG es[n].kind) b _ (es[n].kids.map f) rfl (fun x hx=>by obtain⟨k,hk,rfl⟩:=VQ.1 hx;exact hf k hk);rw[lZ]at hj;have:(es[n].kids.map f).length*(b+3)<=5*(b+3):=Nat.mul_le_mul_right _ (by simp;exact hk);omega
theorem FR(e:Ex)(i:Bool)(t:bW):(inT e i t).size<=t.size+2:=by
 have e1:(⟨#[40]⟩:ByteArray).size=1:=rfl;have e2:(⟨#[41]⟩:ByteArray).size=1:=rfl;unfold inT;split
 ·simp only[VT];omega
 omega
theorem Ee{es:Q09}{n:Nat}(h:n<es.length):Ec es n=es[n]:=by simp[Ec,h]
theorem uP{es:Q09}(hes:SH es){n:Nat}(hn:n<es.length):∀k∈es[n].kids,0<=k/\k.toNat<n:=by
 intro k hk;have:=hes.2.2 n hn;unfold kN at this;rw[VN]at this;have h1:=this k (by simp[lY,hn,hk]);simp at h1;omega
theorem IJ{es:Q09}(hes:SH es)(n:Nat):n<es.length->∀i,(iU es n i).size<=zH n:=by
 induction n using Nat.strongRecOn with
 | ind n ih =>
  intro hn i;unfold iU;rw[Ee hn];have h1:=FR es[n] i (l7 (jA es n) es[n]);cases n with
  | zero =>
   have h2:=zJ hes hn 200 (VC _) (jA es 0) (fun k hk=>by have:=uP hes hn k hk;omega);have hno:es[0].kids=[]:=by
    cases hk:es[0].kids with
    | nil=>rfl
    | cons k ks=>have:=uP hes hn k (by rw[hk];simp);omega
   have WU:=hes.2.1 0 hn;have h3:(l7 (jA es 0) es[0]).size<=195:=by
    unfold l7;unfold az at WU;split
    ·rename_i k;rw[if_pos k]at WU;simp only[VF]at WU;have:=j4 WU.1.1.1;omega
    rename_i k1;rw[if_neg k1]at WU;split
    ·rename_i k2;rw[if_pos k2]at WU;simp only[VF]at WU;have:=bG WU.1.1.1;omega
    rename_i k2;rw[if_neg k2]at WU;split
    ·rename_i k3;rw[if_pos k3]at WU;simp only[VF]at WU;have h1:=bG WU.1.1.1;have h2:=bG WU.1.1.2;have e1:(⟨#[45,62]⟩:ByteArray).size=2:=rfl;simp only[VT];omega
    rw[hno];have:(fB (gG es[0].kind) (List.map (jA es 0) [])).size=0:=rfl;omega
   simp only[zH];omega
  | succ m =>
   have h2:=zJ hes hn (zH m) (KH m) (jA es (m+1)) (fun k hk=>by
    have hlt:=uP hes hn k hk;unfold jA;rw[if_pos hlt.2,Ed];exact VJ (ih k.toNat hlt.2 (by omega) true) (CE (by omega)))
   have:=KH m;simp only[zH];omega
structure RS where
 p:Nat
 bad:Bool
 out:List Ex
def fQ:ByteArray:=⟨#[116,104,105,115,40]⟩
def uQ:ByteArray:=⟨#[35]⟩
def eY:ByteArray:=⟨#[41]⟩
def l8:ByteArray:=⟨#[44]⟩
def jB:ByteArray:=⟨#[40]⟩
def o8:ByteArray:=⟨#[45,62]⟩
def aX(k:Int):ByteArray:=if k=4 then ⟨#[32,124,32]⟩ else if k=5 then ⟨#[32,38,32]⟩ else ⟨#[32,45,32]⟩
def dS(s w:ByteArray)(p:Nat):Bool:=decide (p+w.size<=s.size)&&(s.extract p (p+w.size)).toList==w.toList
def lw(s w:ByteArray)(st:RS):Bool:=!st.bad&&dS s w st.p
def kC(w:ByteArray)(st:RS):RS:=⟨st.p+w.size,st.bad,st.out⟩
def au(s:ByteArray)(p:Nat):Nat:=((s.data.toList.drop p).takeWhile eF).length
def aA(s:ByteArray)(p:Nat):ByteArray:=s.extract p (p+au s p)
def sF(x:Ex)(st:RS):RS:=⟨st.p,st.bad || decide (15<st.out.length+1),st.out++[x]⟩
def uR(st:RS):RS:=⟨st.p,true,st.out⟩
def yz(s:ByteArray)(st:RS):ByteArray:=if lw s uQ st then aA s (st.p+1) else ⟨#[]⟩
def aW(s:ByteArray)(st:RS):RS:=if lw s uQ st then ⟨st.p+1+au s (st.p+1),st.bad,st.out⟩ else st
def bi(s:ByteArray)(st:RS):RS:=⟨st.p+au s st.p,st.bad,st.out⟩
def dx(s:ByteArray):Nat->List Al->RS->Option (List Al)×RS
 | 0,_,st=>(none,st)
 | n+1,xs,st =>
  if st.bad then (none,st)
  else if lw s eY (aW s (bi s st)) then (some (xs++[⟨aA s st.p,yz s (bi s st)⟩]),kC eY (aW s (bi s st)))
  else if lw s l8 (aW s (bi s st)) then dx s n (xs++[⟨aA s st.p,yz s (bi s st)⟩]) (kC l8 (aW s (bi s st)))
  else dx s n (xs++[⟨aA s st.p,yz s (bi s st)⟩]) (uR (aW s (bi s st)))
def eQ(s:ByteArray)(st:RS):Ex :=
 if lw s o8 (bi s st) then ⟨3,[],aA s st.p,aA s (st.p+au s st.p+2),[]⟩ else ⟨2,[],⟨#[]⟩,aA s st.p,[]⟩
def aH(s:ByteArray)(st:RS):RS :=
 if lw s o8 (bi s st) then ⟨st.p+au s st.p+2+au s (st.p+au s st.p+2),st.bad,st.out⟩ else bi s st
def judged(x:Ex)(st:RS):RS:=if az x then st else uR st
def dz(s:ByteArray)(p:Nat):Int:=if dS s (aX 4) p then 4 else if dS s (aX 5) p then 5 else if dS s (aX 6) p then 6 else 0
def ic(s:ByteArray)(it:RS->Int×RS)(k:Int):Nat->List Int->RS->List Int×RS
 | 0,zs,st=>(zs,st)
 | n+1,zs,st=>if lw s (aX k) st then ic s it k n (zs++[(it (kC (aX k) st)).1]) (it (kC (aX k) st)).2 else (zs,st)
def zL(s:ByteArray):Nat->Bool->RS->Int×RS
 | 0,_,st=>(0,st)
 | n+1,false,st =>
  if lw s fQ st then
   match dx s (s.size+1) [] (kC fQ st) with
   | (some xs,st')=>((st'.out.length:Int),sF ⟨1,xs,⟨#[]⟩,⟨#[]⟩,[]⟩ st')
   | (none,st')=>(0,st')
  else if lw s jB st then
   let x:=zL s n true (kC jB st)
   if lw s eY x.2 then (x.1,kC eY x.2) else (x.1,uR x.2)
  else ((st.out.length:Int),sF (eQ s st) (judged (eQ s st) (aH s st)))
 | n+1,true,st =>
  let x:=zL s n false st
  if dz s x.2.p=0\/x.2.bad=true then x
  else
   let y:=ic s (zL s n false) (dz s x.2.p) (s.size+1) [x.1] x.2
   ((y.2.out.length:Int),sF ⟨dz s x.2.p,[],⟨#[]⟩,⟨#[]⟩,y.1⟩ y.2)
theorem kD(s:bW)(p:Nat)(hp:p<=s.size):p+au s p<=s.size:=by
 unfold au;have h1:((s.data.toList.drop p).takeWhile eF).length<=(s.data.toList.drop p).length:=(List.takeWhile_prefix (p:=eF) (l:=s.data.toList.drop p)).length_le;have h2:(s.data.toList.drop p).length=s.size-p:=by rw[Wq];simp
 omega
theorem zM(s:bW)(p:Nat)(hp:p<=s.size):(aA s p).size=au s p:=by
 unfold aA;rw[ByteArray.size_extract];have:=kD s p hp;omega
theorem FT{s w:ByteArray}{p:Nat}(h:dS s w p=true):p+w.size<=s.size:=by
 unfold dS at h;simp only[VF,VM]at h;exact h.1
theorem kP{s w:ByteArray}{st:RS}(h:lw s w st=true):st.p+w.size<=s.size:=by
 unfold lw at h;simp only[VF]at h;exact FT h.2
theorem ai{p:Prop}(h:p):Hid p:=h
structure RdC(w:World)(R:Nat)(s:ByteArray)(p:Nat)(bad:Bool)(v:Value):Prop where
 lt:R<w.heap.size
 c0:w.cell? ⟨R,0,none⟩=some (.string s)
 c1:w.cell? ⟨R,1,none⟩=some (.int .i64 (p:Int))
 c2:w.cell? ⟨R,2,none⟩=some (.bool bad)
 c3:w.cell? ⟨R,3,none⟩=some v
 fr:jJ w R
theorem RdC.grown{w w':ae}{R:Nat}{s:ByteArray}{p:Nat}{bad:Bool}{v:Value}{row:Option Nat}(h:RdC w R s p bad v)(hg:w.grownBy w' row)(hR:some R≠row):RdC w' R s p bad v :=
 ⟨Vy h.lt hg.size,hg.cell h.c0 hR,hg.cell h.c1 hR,hg.cell h.c2 hR,hg.cell h.c3 hR,fun j=>(World.frozen?_of_block (w:=w) (a:=⟨R,j,none⟩) (hg.block R h.lt hR)).trans (h.fr j)⟩
theorem RdC.drewN{w:ae}{R:Nat}{s:ByteArray}{p:Nat}{bad:Bool}{v:Value}(h:RdC w R s p bad v)(n:Nat):RdC (w.drewN n) R s p bad v:=⟨h.lt,h.c0,h.c1,h.c2,h.c3,h.fr⟩
theorem RdC.on{w:ae}{R:Nat}{s:ByteArray}{p:Nat}{bad:Bool}{v:Value}(h:RdC w R s p bad v)(q:Nat):RdC (w.setCell ⟨R,1,none⟩ (.int .i64 (q:Int))) R s q bad v :=
 ⟨by simpa using h.lt,by rw[mO (by omega)];exact h.c0,mS h.c1,by rw[mO (by omega)];exact h.c2,by rw[mO (by omega)];exact h.c3,fun j=>by simpa using h.fr j⟩
theorem FU(w:ae)(R o:Nat)(v:Value)(n:Nat):w.grownBy ((w.drewN n).setCell ⟨R,o,none⟩ v) (some R) :=
 ⟨rfl,rfl,rfl,by simp,fun k _ hk=>Below.heap_setCell _ _ _ k (fun e=>hk (by rw[e]))⟩
theorem IK{w w':ae}{R o:Nat}{v:Value}(h:w.grownBy w' (some R)):w.grownBy (w'.setCell ⟨R,o,none⟩ v) (some R) :=
 ⟨h.os,h.tape,h.output,by simpa using h.size,fun k hk hne=>(Below.heap_setCell w' _ _ k (fun e=>hne (by rw[e]))).trans (h.block k hk hne)⟩
def ny(s t:ByteArray)(p:Nat)(bad:Bool):Bool:=!bad&&dS s t p
def Ri(s t:ByteArray)(p:Nat)(bad:Bool):Nat:=if ny s t p bad then p+t.size else p
theorem uS{s t:ByteArray}{p:Nat}{bad:Bool}(h:ny s t p bad=true):Ri s t p bad=p+t.size:=by simp[Ri,h]
theorem zP{s t:ByteArray}{p:Nat}{bad:Bool}(h:ny s t p bad=false):Ri s t p bad=p:=by simp[Ri,h]
theorem ma(R:Nat)(s t:bW)(p:Nat)(bad:Bool)(v:Value)(w:ae)(h:RdC w R s p bad v)(hs:s.size<=1000)(hp:p<=s.size)(ht:t.size<=100):
  Calls prog 244 #[.pointer (some ⟨R,0,none⟩),.string t] w fun e w'=>e=.returned (.bool (ny s t p bad))/\RdC w' R s (Ri s t p bad) bad v/\w.grownBy w' (some R):=by
 have H:=ai h;have c0:=h.c0;have c1:=h.c1;have c2:=h.c2;have f1:=h.fr 1;have hlt:=h.lt;have h0:=h;clear h H;have hwr:IntKind.i64.wrap ((p:Int)+(t.size:Int))=(p:Int)+(t.size:Int):=by simp[IntKind.wrap,IntKind.bits,IntKind.signed];omega
 have no:∀{n:Nat} {e:Ending},ny s t p bad=false->e=.returned (.bool false)->e=.returned (.bool (ny s t p bad))/\RdC (w.drewN n) R s (Ri s t p bad) bad v/\w.grownBy (w.drewN n) (some R):=fun hb he=>⟨by rw[hb];exact he,by rw[zP hb];exact h0.drewN _,⟨rfl,rfl,rfl,VC _,fun _ _ _=>rfl⟩⟩;have yes:∀{n:Nat} {e:Ending},ny s t p bad=true->e=.returned (.bool true)->e=.returned (.bool (ny s t p bad))/\RdC ((w.drewN n).setCell ⟨R,1,none⟩ (.int .i64 ((p:Int)+(t.size:Int)))) R s (Ri s t p bad) bad v/\w.grownBy ((w.drewN n).setCell ⟨R,1,none⟩ (.int .i64 ((p:Int)+(t.size:Int)))) (some R):=fun hb he=>⟨by rw[hb];exact he,by rw[uS hb];exact(h0.drewN _).on (p+t.size),FU _ _ _ _ _⟩;have NO:Hid (∀{n:Nat} {e:Ending},_):=@no;have YES:Hid (∀{n:Nat} {e:Ending},_):=@yes;clear no yes h0;cases bad;case true=>
  have HB:Hid (ny s t p true=false):=rfl;clear hwr;go_enter func244,ntmps244;go_wp2_with fail;go_quiet (fail);go_wp2;go_ret;exact NO.out HB.out rfl
 by_cases hl:p+t.size<=s.size
 ·have hd:decide ((s.size:Int)<(p:Int)+(t.size:Int))=false:=by simp;omega
  have hp1:(p:Int)<=(p:Int)+(t.size:Int):=by omega
  have hp2:(p:Int)+(t.size:Int)<=(s.size:Int):=by omega
  have hnn:=bq p;have hla:dS s t p=((s.extract p (p+t.size)).toList==t.toList):=by simp[dS,hl]
  cases he:(s.extract p (p+t.size)).toList==t.toList;case true=>
   have HB:Hid (ny s t p false=true):=by show _=_;simp only[ny,hla,he];rfl
   have hq:(!(s.extract p (p+t.size)).toList==t.toList)=false:=by rw[he];rfl
   clear he hla;go_enter func244,ntmps244;go_wp2_with fail;go_quiet (fail);go_wp2;go_ret;exact YES.out HB.out rfl
  have HB:Hid (ny s t p false=false):=by show _=_;simp only[ny,hla,he];rfl
  have hq:(!(s.extract p (p+t.size)).toList==t.toList)=true:=by rw[he];rfl
  clear he hla;go_enter func244,ntmps244;go_wp2_with fail;go_quiet (fail);go_wp2;go_ret;exact NO.out HB.out rfl
 have hd:decide ((s.size:Int)<(p:Int)+(t.size:Int))=true:=by simp;omega
 have HB:Hid (ny s t p false=false):=by show _=_;simp[ny,dS,hl]
 clear hl;go_enter func244,ntmps244;go_wp2_with fail;go_quiet (fail);go_wp2;go_ret;exact NO.out HB.out rfl
def wat(R:Nat)(w:World):Nat:=match w.cell? ⟨R,1,none⟩ with
 | some (.int _ z)=>z.toNat
 | _=>0
theorem RdC.place{w:ae}{R:Nat}{s:ByteArray}{p:Nat}{bad:Bool}{v:Value}(h:RdC w R s p bad v):wat R w=p:=by
 simp[Go.Proofs.YtcgdckphpjfmhaaGreatDoor.wat,h.c1]
theorem Ef(l:List UInt8)(n:Nat)(h1:∀i (h:i<l.length),i<n->eF l[i]=true)(h2:∀h:n<l.length,eF l[n]=false)(hn:n<=l.length):(l.takeWhile eF).length=n:=by
 induction l generalizing n with
 | nil=>simp at hn;simp[hn]
 | cons x xs ih =>
  cases n with
  | zero =>
   have:=h2 (by simp);simp at this;simp[List.takeWhile,this]
  | succ n =>
   have hx:=h1 0 (by simp) (by omega);simp at hx;have:=ih n (fun i hi hin=>by have:=h1 (i+1) (by simpa using hi) (by omega);simpa using this) (fun h=>by have:=h2 (by simpa using h);simpa using this) (by simpa using hn);simp[List.takeWhile,hx,this]
theorem Ow(s:bW)(p q:Nat)(hpq:p<=q)(hq:q<=s.size)(h1:∀i (h:i<s.size),p<=i->i<q->eF s[i]=true)(h2:∀h:q<s.size,eF s[q]=false):au s p=q-p:=by
 unfold au;have hl:s.data.toList.length=s.size:=by simp
 refine Ef _ _ (fun i hi hin=>?_) (fun h=>?_) (by rw[Wq,hl];omega)
 ·rw[Wq,hl]at hi;have:=h1 (p+i) (by omega) (by omega) (by omega);simp only[List.getElem_drop,Array.getElem_toList];exact this
 rw[Wq,hl]at h;have:=h2 (by omega);simp only[List.getElem_drop,Array.getElem_toList];have e:p+(q-p)=q:=by omega
 simp only[e];exact this
theorem uT(R:Nat)(s:bW)(p:Nat)(bad:Bool)(v:Value)(w:ae)(h:RdC w R s p bad v)(hs:s.size<=1000)(hp:p<=s.size):
  Calls prog 252 #[.pointer (some ⟨R,0,none⟩)] w fun e w'=>e=.returned (.string (aA s p))/\RdC w' R s (p+au s p) bad v/\w.grownBy w' (some R):=by
 have H:=ai h;have c1:=h.c1;clear h;go_enter func252,ntmps252;go_wp2_with fail;clear c1;go_loopw[8] (fun _ wr=>∃q:Nat,p<=q/\q<=s.size/\Hid (∀i (h:i<s.size),p<=i->i<q->eF s[i]=true)/\Hid (RdC wr R s q bad v)/\Hid (w.grownBy wr (some R))) (fun _ wr=>s.size-wat R wr);case atStart=>exact⟨p,VC _,hp,fun i h h1 h2=>by omega,H,⟨rfl,rfl,rfl,VC _,fun _ _ _=>rfl⟩⟩
 obtain⟨q,hq1,hq2,HL,HR,HG⟩:=hrel;have c0:=HR.out.c0;have c1:=HR.out.c1;have f1:=HR.out.fr 1;have hlt:=HR.out.lt;have hq0:=bq q;have stop:∀n m,(∀h:q<s.size,eF s[q]=false)->Ending.returned (.string (s.extract p q))=.returned (.string (aA s p))/\RdC ((wr.drewN n).drewN m) R s (p+au s p) bad v/\w.grownBy ((wr.drewN n).drewN m) (some R):=fun n m hn=>by
  have e:=Ow s p q hq1 hq2 HL.out hn;have e2:p+au s p=q:=by omega
  exact⟨by unfold aA;rw[e2],by rw[e2];exact(HR.out.drewN n).drewN m,⟨HG.out.os,HG.out.tape,HG.out.output,HG.out.size,HG.out.block⟩⟩
 have STOP:=ai stop;clear stop;have hx1:(p:Int)<=(q:Int):=by omega
 have hx2:(q:Int)<=(s.size:Int):=by omega
 have hx3:=bq p;by_cases hlt2:q<s.size
 ·have hq3:(q:Int)<(s.size:Int):=by omega
  have hd:decide ((q:Int)<(s.size:Int))=true:=by simpa using hq3
  by_cases hb1:(97:Int)<=(s[q].toNat:Int)
  ·have hd1:decide ((97:Int)<=(s[q].toNat:Int))=true:=by simpa using hb1
   by_cases hb2:(s[q].toNat:Int)<=122
   ·have hd2:decide ((s[q].toNat:Int)<=122)=true:=by simpa using hb2
    have HL2:Hid (∀i (h:i<s.size),p<=i->i<q+1->eF s[i]=true):=fun i h h1 h2=>by
     by_cases e:i=q
     ·subst e;simp[eF];omega
     exact HL.out i h h1 (by omega)
    have hwr2:IntKind.i64.wrap ((q:Int)+1)=(q:Int)+1:=by simp[IntKind.wrap,IntKind.bits,IntKind.signed];omega
    go_wp2_with fail;go_quiet (fail);have HR2:Hid (RdC ((wr.drewN nq).setCell ⟨R,1,none⟩ (.int .i64 ((q:Int)+1))) R s (q+1) bad v):=(HR.out.drewN nq).on (q+1);have HG2:Hid (w.grownBy ((wr.drewN nq).setCell ⟨R,1,none⟩ (.int .i64 ((q:Int)+1))) (some R)):=IK (w':=wr.drewN nq) ⟨HG.out.os,HG.out.tape,HG.out.output,HG.out.size,HG.out.block⟩;have hm1:=HR.out.place;have hm2:=HR2.out.place;have HM:Hid (s.size-wat R ((wr.drewN nq).setCell ⟨R,1,none⟩ (.int .i64 ((q:Int)+1)))<s.size-wat R wr):=by show _<_;rw[hm1,hm2];omega
    clear hm1 hm2;go_wp2;go_roundw;case rel=>exact⟨q+1,by omega,by omega,HL2,HR2,HG2⟩
    exact HM.out
   have hd2:decide ((s[q].toNat:Int)<=122)=false:=by simpa using hb2
   have HN:Hid (∀h:q<s.size,eF s[q]=false):=fun h=>by simp[eF];omega
   go_wp2_with fail;go_quiet (fail);go_wp2_with fail;go_quiet (fail);go_wp2;go_ret;exact STOP.out _ _ HN.out
  have hd1:decide ((97:Int)<=(s[q].toNat:Int))=false:=by simpa using hb1
  have HN:Hid (∀h:q<s.size,eF s[q]=false):=fun h=>by simp[eF];omega
  go_wp2_with fail;go_quiet (fail);go_wp2_with fail;go_quiet (fail);go_wp2;go_ret;exact STOP.out _ _ HN.out
 have hd:decide ((q:Int)<(s.size:Int))=false:=by simp;omega
 have HN:Hid (∀h:q<s.size,eF s[q]=false):=fun h=>absurd h hlt2;go_wp2_with fail;go_quiet (fail);go_wp2_with fail;go_quiet (fail);go_wp2;go_ret;exact STOP.out _ _ HN.out
end Go.Proofs.YtcgdckphpjfmhaaGreatDoor
