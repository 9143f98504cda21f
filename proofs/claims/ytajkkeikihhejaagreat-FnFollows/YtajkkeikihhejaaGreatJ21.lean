/- Lists in memory whose elements hold lists again, each in a row and in a block of its own: one more at the end, another last one. Expressions, relations and types as such lists. -/
import Derived.Test.YtajkkeikihhejaaGreatSq
import Derived.Test.YtajkkeikihhejaaGreatJ20
import Derived.Test.YtajkkeikihhejaaGreatJ19
import Derived.Test.YtajkkeikihhejaaGreatDrawTuple
import Derived.Sort.Grow
open Go.Proofs.Tryz
set_option maxHeartbeats 80000000
namespace Go.Proofs.YtajkkeikihhejaaGreat
set_option maxRecDepth 100000
set_option linter.unusedVariables false
open ChangeShapes WideShapes ChangeAt RowKit
open Pl
structure Kid{α:Type}(K:World->Nat->α->Prop)(I:α->Nat->Prop):Prop where
 heap:∀(w w':World) (base:Nat) (q:α),K w base q->w.heap.size<=w'.heap.size->(∀g,I q g->w'.heap[g]?=w.heap[g]?)->K w' base q
 lt:∀(w:World) (base:Nat) (q:α),K w base q->∀g,I q g->base<=g/\g<w.heap.size
def GZ{α:Type}(I:α->Nat->Prop)(v:Value)(rs:List α)(g:Nat):Prop:=v.ownBlock=some g \/ ∃q∈rs,I q g
structure Wq{α:Type}(T:TypeId)(size:Nat)(cells:α->List Value)(K:World->Nat->α->Prop)(I:α->Nat->Prop)(w:World)(base:Nat)(v:Value)(rs:List α):Prop where
 own:w.ownsRow base T size v rs.length (rs.flatMap cells)
 kid:∀q∈rs,K w base q
 head:∀q∈rs,∀g,I q g->v.ownBlock≠some g
 two:∀(x y:Nat) (hx:x<rs.length) (hy:y<rs.length),x≠y->∀g,I rs[x] g->¬I rs[y] g
section
variable  {α:Type}{T:TypeId}{size:Nat}{cells:α->List Value}{K:World->Nat->α->Prop}{I:α->Nat->Prop}{w w':World}{base:Nat}{v:Value}{rs:List α}
theorem Wq.lt(kd:Kid K I)(h:Wq T size cells K I w base v rs){g:Nat}(hg:GZ I v rs g):base<=g/\g<w.heap.size:=by
 rcases hg with hg|⟨q,hq,hg⟩
 ·exact h.own.lt g hg
 exact kd.lt w base q (h.kid q hq) g hg
theorem Wq.heap(kd:Kid K I)(h:Wq T size cells K I w base v rs)(hs:w.heap.size<=w'.heap.size)(hh:∀g,GZ I v rs g->w'.heap[g]?=w.heap[g]?):Wq T size cells K I w' base v rs where
 own:=jJ h.own fun g hg=>hh g (.inl hg)
 kid q hq:=kd.heap w w' base q (h.kid q hq) hs fun g hg=>hh g (.inr ⟨q,hq,hg⟩)
 head:=h.head
 two:=h.two
theorem Wq.below(kd:Kid K I)(h:Wq T size cells K I w base v rs)(hb:ae w w'):Wq T size cells K I w' base v rs :=
 h.heap kd hb.size fun g hg=>hb.block g (h.lt kd hg).2
theorem Pq(w:af)(base:Nat):Wq T size cells K I w base (.slice none 0 0) [] :=
 ⟨World.ownsRow_nil _ _ _ _,fun q hq=>(by cases hq),fun q hq=>(by cases hq),fun x y hx=>absurd hx (by simp)⟩
theorem G5{rs:List α}{q:α}(h:∀(x y:Nat) (hx:x<rs.length) (hy:y<rs.length),x≠y->∀g,I rs[x] g->¬I rs[y] g)(hq:∀p∈rs,∀g,I p g->¬I q g):
  ∀(x y:Nat) (hx:x<(rs++[q]).length) (hy:y<(rs++[q]).length),x≠y->∀g,I (rs++[q])[x] g->¬I (rs++[q])[y] g:=by
 intro x y hx hy hxy g h1 h2;rw[U2,Vr]at hx hy;by_cases ex:x<rs.length
 ·rw[Vg ex]at h1;by_cases ey:y<rs.length
  ·rw[Vg ey]at h2;exact h x y ex ey hxy g h1 h2
  have:y=rs.length:=by omega
  subst this;rw[Vu (UU _)]at h2;simp at h2;exact hq _ (UR ex) g h1 h2
 have:x=rs.length:=by omega
 subst this;rw[Vu (UU _)]at h1;simp at h1;have ey:y<rs.length:=by omega
 rw[Vg ey]at h2;exact hq _ (UR ey) g h2 h1
theorem Ps{rs:List α}{q:α}(h:∀(x y:Nat) (hx:x<(rs++[q]).length) (hy:y<(rs++[q]).length),x≠y->∀g,I (rs++[q])[x] g->¬I (rs++[q])[y] g):
  (∀(x y:Nat) (hx:x<rs.length) (hy:y<rs.length),x≠y->∀g,I rs[x] g->¬I rs[y] g)/\∀p∈rs,∀g,I p g->¬I q g:=by
 refine⟨fun x y hx hy hxy g h1 h2=>?_,fun p hp g h1 h2=>?_⟩
 ·exact h x y (by simp;omega) (by simp;omega) hxy g (by rw[Vg hx];exact h1) (by rw[Vg hy];exact h2)
 obtain⟨x,hx,rfl⟩:=VI hp;exact h x rs.length (by simp;omega) (by simp) (by omega) g (by rw[Vg hx];exact h1) (by rw[Vu (UU _)];simpa using h2)
theorem Wq.snoc(kd:Kid K I)(h:Wq T size cells K I w base v rs){q:α}{v':Value}(hown:w'.ownsRow base T size v' (rs.length+1) (rs.flatMap cells++cells q))(hg:w.grownBy w' v.ownBlock)(hat:v'.ownBlock=v.ownBlock \/ ∃g,v'.ownBlock=some g/\w.heap.size<=g)
  (hq:K w base q) (hv:∀g,I q g->v.ownBlock≠some g) (hr:∀p∈rs,∀g,I p g->¬I q g):Wq T size cells K I w' base v' (rs++[q]):=by
 have keep:∀(p:α),K w base p->(∀g,I p g->v.ownBlock≠some g)->K w' base p:=fun p hp hn=>kd.heap w w' base p hp hg.size fun g hi=>hg.block g (kd.lt w base p hp g hi).2 (fun e=>hn g hi e.symm);have apart:∀(p:α),K w base p->(∀g,I p g->v.ownBlock≠some g)->∀g,I p g->v'.ownBlock≠some g:=fun p hp hn g hi=>by
  rcases hat with e|⟨g',e,hge⟩
  ·rw[e];exact hn g hi
  rw[e];intro e2;injection e2 with e2;have:=(kd.lt w base p hp g hi).2;omega
 refine⟨by simpa using hown,fun p hp=>?_,fun p hp=>?_,G5 h.two hr⟩
 ·rcases U6.1 hp with hp|hp
  ·exact keep p (h.kid p hp) (h.head p hp)
  rw[U4]at hp;subst hp;exact keep _ hq hv
 rcases U6.1 hp with hp|hp
 ·exact apart p (h.kid p hp) (h.head p hp)
 rw[U4]at hp;subst hp;exact apart _ hq hv
theorem Wq.last(kd:Kid K I){xs:List α}{q q':α}{b n cap j:Nat}{u:Value}{w1:af}{row:Option Nat}(h:Wq T size cells K I w base (.slice (some ⟨b,0,none⟩) n cap) (xs++[q]))(hn:n=xs.length+1)
  (hg:w.grownBy w1 row) (hrow:∀r,row=some r->I q r) (hq':K w1 base q') (hI:∀g,I q' g->I q g\/(g≠b/\∀p∈xs,¬I p g)) (hset:((xs++[q]).flatMap cells).set j u=(xs++[q']).flatMap cells) :
  Wq T size cells K I (w1.setCell ⟨b,j,none⟩ u) base (.slice (some ⟨b,0,none⟩) n cap) (xs++[q']):=by
 have hbl:b<w.heap.size:=(h.own.lt b rfl).2;have hq:=h.kid q (by simp);have hqb:∀g,I q g->g≠b:=fun g hi e=>h.head q (by simp) g hi (by rw[e];rfl);have hq'b:∀g,I q' g->g≠b:=fun g hi e=>by
  rcases hI g hi with h2|h2
  ·exact hqb g h2 e
  exact h2.1 e
 have hb1:w1.heap[b]?=w.heap[b]?:=hg.block b hbl (fun e=>hqb b (hrow b e.symm) rfl);have own1:w1.ownsRow base T size (.slice (some ⟨b,0,none⟩) n cap) (xs++[q]).length ((xs++[q]).flatMap cells):=jJ h.own fun g hgo=>by
  have e:b=g:=by simpa[Value.ownBlock] using hgo
  rw[<-e];exact hb1
 have hlen:(xs++[q]).length=n:=by simp[hn]
 rw[hlen]at own1;obtain⟨Zu,hg2⟩:=own1.stored j u;rw[hset]at Zu;obtain⟨ht1,ht2⟩:=Ps h.two;have h2s:∀g,g≠b->(w1.setCell ⟨b,j,none⟩ u).heap[g]?=w1.heap[g]?:=fun g hne=>Below.heap_setCell w1 _ u g hne;refine⟨by simpa[hn] using Zu,fun p hp=>?_,fun p hp g hi=>?_,G5 ht1 fun p hp g hi hi'=>?_⟩
 ·rcases U6.1 hp with hp|hp
  ·have hkp:=h.kid p (by simp[hp]);refine kd.heap w _ base p hkp (U0 hg.size hg2.size) fun g hi=>?_;have hl:=(kd.lt w base p hkp g hi).2;rw[h2s g (fun e=>h.head p (by simp[hp]) g hi (by rw[e];rfl))];exact hg.block g hl (fun e=>ht2 p hp g hi (hrow g e.symm))
  rw[U4]at hp;subst hp;exact kd.heap w1 _ base _ hq' hg2.size fun g hi=>h2s g (hq'b g hi)
 ·intro e;have e:b=g:=by simpa[Value.ownBlock] using e
  rcases U6.1 hp with hp|hp
  ·exact h.head p (by simp[hp]) g hi (by rw[<-e];rfl)
  rw[U4]at hp;subst hp;exact hq'b g hi e.symm
 rcases hI g hi' with h2|h2
 ·exact ht2 p hp g hi h2
 exact h2.2 p hp hi
end
structure NodM(w:World)(base:Nat)(v:Value)(qs:Q08):Prop where
 own:w.ownsRow base 39 5 v qs.length (jS qs)
 zA:∀q∈qs,q.e.allow≠[]->∃g,q.adA=some ⟨g,0,none⟩
 zK:∀q∈qs,q.e.kids≠[]->∃g,q.adK=some ⟨g,0,none⟩
 ok:∀q∈qs,q.ok w
 lie:∀q∈qs,∀g,p9 q g->base<=g/\g<w.heap.size/\jX w g/\v.ownBlock≠some g
 one:∀q∈qs,∀g,bA q g->¬bK q g
 two:∀(x y:Nat) (hx:x<qs.length) (hy:y<qs.length),x≠y->∀g,p9 qs[x] g->¬p9 qs[y] g
 cA:∀q∈qs,q.e.allow.length<=q.capA
theorem NodM.mono{w:af}{base base':Nat}{v:Value}{qs:Q08}(h:NodM w base v qs)(hb:base'<=base):NodM w base' v qs :=
 ⟨⟨h.own.1,by
  rcases h.own.2 with hl|⟨g,cap,cur,e,h1,h2⟩
  ·exact .inl hl
  exact .inr ⟨g,cap,cur,e,U0 hb h1,h2⟩⟩,h.zA,h.zK,h.ok,fun q hq g hg=>⟨U0 hb (h.lie q hq g hg).1,(h.lie q hq g hg).2⟩,h.one,h.two,h.cA⟩
def RR.vs(q:RR):Value:=.slice q.ad q.rows.length q.cap
def TR.vs(q:TR):Value:=.slice q.ad q.rows.length q.cap
def kR(w:World)(base:Nat)(q:RR):Prop:=NodM w base q.vs q.rows
def iR(q:RR):Nat->Prop:=GZ p9 q.vs q.rows
theorem JN:Kid kR iR where
 heap w w' base q h hs hh:={
  own:=jJ h.own fun g hg=>hh g (.inl hg)
  zA:=h.zA
  zK:=h.zK
  ok:=fun x hx=>rH (h.ok x hx) hs (h.zA x hx) (h.zK x hx) fun g hg=>hh g (.inr ⟨x,hx,hg⟩)
  lie:=fun x hx g hg=>by
   obtain⟨a1,a2,a3,a4⟩:=h.lie x hx g hg;exact⟨a1,UT a2 hs,dx a3 (hh g (.inr ⟨x,hx,hg⟩)),a4⟩
  one:=h.one
  two:=h.two
  cA:=h.cA }
 lt w base q h g hg:=by
  rcases hg with hg|⟨x,hx,hg⟩
  ·exact h.own.lt g hg
  exact⟨(h.lie x hx g hg).1,(h.lie x hx g hg).2.1⟩
def RR.cells(q:RR):List Value:=[.string q.name,q.vs]
def TR.cells(q:TR):List Value:=[.string q.name,q.vs]
abbrev Cq:=Wq 147 2 RR.cells kR iR
def kT(w:World)(base:Nat)(q:TR):Prop:=Cq w base q.vs q.rows
def iT(q:TR):Nat->Prop:=GZ iR q.vs q.rows
theorem mM:Kid kT iT where
 heap w w' base q h hs hh:=Wq.heap JN h hs hh
 lt w base q h g hg:=Wq.lt JN h hg
abbrev iX:=Wq 127 2 TR.cells kT iT
theorem rV{α:Type}{cells:α->List Value}(h2:∀q,(cells q).length=2):∀(rs:List α) (i:Nat) (h:i<rs.length) (j:Nat),j<2->(rs.flatMap cells)[i*2+j]?=(cells rs[i])[j]?
 | [],i,h,_,_=>by simp at h
 | r::rs,0,_,j,hj=>by
  simp only[Vo,Nat.zero_mul,Vj,List.getElem_cons_zero];rw[VP (by rw[h2];exact hj)]
 | r::rs,i+1,h,j,hj=>by
  have:=rV h2 rs i (by simpa using h) j hj;simp only[Vo,List.getElem_cons_succ];rw[VN (by rw[h2];omega),h2,<-this];congr 1;omega
theorem pg{α:Type}{cells:α->List Value}(h2:∀q,(cells q).length=2):∀(rs:List α),(rs.flatMap cells).length=rs.length*2
 | []=>rfl
 | r::rs=>by simp only[Vo,U2,h2,pg h2 rs,Vq];omega
theorem TA{w:af}{base:Nat}{q:TR}(h:kT w base q):NW w q.ad q.rows:=by
 by_cases hz:q.rows=[]
 ·exact .inl hz
 rcases h.own.2 with⟨-,h0⟩|⟨g,cap,cur,e,-⟩
 ·exact absurd (Vb.1 h0) hz
 have h3:=h.own;unfold TR.vs at e h3;injection e with e1 e2 e3;rw[e1]at h3;refine .inr ⟨g,0,e1,(h3.lt g rfl).2,fun i hi=>?_,fun r hr=>?_⟩
 ·have hl:(q.rows.flatMap RR.cells).length=q.rows.length*2:=pg (fun _=>rfl) _;have key:∀j,j<2->w.cell? ⟨g,0+i*2+j,none⟩=(RR.cells q.rows[i])[j]?:=fun j hj=>by
   rw[h3.cellAt (0+i*2+j) (by omega),<-rV (fun _=>rfl) q.rows i hi j hj,Vj]
  exact⟨key 0 (by omega),key 1 (by omega)⟩
 have hk:=h.kid r hr;obtain⟨ad,cap',e4,hsl⟩:=Sw hk.own rfl hk.ok;unfold RR.vs at e4;injection e4 with e5 e6 e7;show gZ w r.ad r.rows;rw[e5];exact hsl
theorem Pt{w:af}{base size n cap:Nat}{e:TypeId}{ad:Q02}{xs:Q03}(h:w.ownsRow base e size (.slice ad n cap) n xs):n<=cap:=by
 rcases h.2 with⟨e1,h0⟩|⟨g,cap',cur,e1,-,-,hnc,-⟩
 ·injection e1 with _ e2 e3;omega
 injection e1 with _ e2 e3;omega
theorem iX.read{w:af}{base:Nat}{v:Value}{rs:Q06}(h:iX w base v rs):∃ad cap,v=.slice ad rs.length cap/\kU w ad rs/\∀r∈rs,r.caps:=by
 have hc:∀r∈rs,r.caps:=fun r hr=>⟨Pt (h.kid r hr).own,fun q hq=>⟨Pt ((h.kid r hr).kid q hq).own,((h.kid r hr).kid q hq).cA⟩⟩;rcases h.own.2 with⟨rfl,h0⟩|⟨g,cap,cur,rfl,-⟩
 ·exact⟨none,0,by rw[h0],.inl (Vb.1 h0),hc⟩
 have h3:=h.own;refine⟨some ⟨g,0,none⟩,cap,rfl,.inr ⟨g,0,rfl,(h3.lt g rfl).2,fun i hi=>?_,fun r hr=>TA (h.kid r hr)⟩,hc⟩;have hl:(rs.flatMap TR.cells).length=rs.length*2:=pg (fun _=>rfl) _;have key:∀j,j<2->w.cell? ⟨g,0+i*2+j,none⟩=(TR.cells rs[i])[j]?:=fun j hj=>by
  rw[h3.cellAt (0+i*2+j) (by omega),<-rV (fun _=>rfl) rs i hi j hj,Vj]
 exact⟨key 0 (by omega),key 1 (by omega)⟩
section
variable  {α:Type}{T:TypeId}{size:Nat}{cells:α->List Value}{K:World->Nat->α->Prop}{I:α->Nat->Prop}{w w':World}{base:Nat}{v:Value}
theorem Bh{q q':α}{rs:List α}(hI:∀g,I q' g->I q g)(h:∀(x y:Nat) (hx:x<(q::rs).length) (hy:y<(q::rs).length),x≠y->∀g,I (q::rs)[x] g->¬I (q::rs)[y] g):
  ∀(x y:Nat) (hx:x<(q'::rs).length) (hy:y<(q'::rs).length),x≠y->∀g,I (q'::rs)[x] g->¬I (q'::rs)[y] g:=by
 intro x y hx hy hxy g h1 h2;cases x with
 | zero =>
  cases y with
  | zero=>exact hxy rfl
  | succ y=>exact h 0 (y+1) (by simp) (by simpa using hy) (by omega) g (hI g h1) h2
 | succ x =>
  cases y with
  | zero=>exact h (x+1) 0 (by simpa using hx) (by simp) (by omega) g h1 (hI g h2)
  | succ y=>exact h (x+1) (y+1) (by simpa using hx) (by simpa using hy) hxy g h1 h2
theorem Wq.first(kd:Kid K I){q q':α}{rs:List α}{b n cap j:Nat}{u:Value}(h:Wq T size cells K I w base (.slice (some ⟨b,0,none⟩) n cap) (q::rs))(hn:n=rs.length+1)
  (hq':∀w,K w base q->K w base q') (hI:∀g,I q' g->I q g) (hset:((q::rs).flatMap cells).set j u=(q'::rs).flatMap cells) :
  Wq T size cells K I (w.setCell ⟨b,j,none⟩ u) base (.slice (some ⟨b,0,none⟩) n cap) (q'::rs):=by
 have own1:w.ownsRow base T size (.slice (some ⟨b,0,none⟩) n cap) n ((q::rs).flatMap cells):=by have:=h.own;rwa [show(q::rs).length=n by simp[hn]]at this
 obtain⟨Zu,hg2⟩:=own1.stored j u;rw[hset]at Zu;have hne:∀p∈q::rs,∀g,I p g->g≠b:=fun p hp g hi e=>h.head p hp g hi (by rw[e];rfl);have keep:∀p∈q::rs,K (w.setCell ⟨b,j,none⟩ u) base p:=fun p hp=>kd.heap w _ base p (h.kid p hp) hg2.size fun g hi=>Below.heap_setCell w _ u g (hne p hp g hi);refine⟨by simpa[hn] using Zu,fun p hp=>?_,fun p hp g hi=>?_,Bh hI h.two⟩
 ·rcases U9.1 hp with rfl|hp
  ·exact hq' _ (keep q (by simp))
  exact keep p (by simp[hp])
 rcases U9.1 hp with rfl|hp
 ·exact h.head q (by simp) g (hI g hi)
 exact h.head p (by simp[hp]) g hi
theorem Wq.firstIn(kd:Kid K I){q q':α}{rs:List α}(h:Wq T size cells K I w base v (q::rs))(hs:w.heap.size<=w'.heap.size)(hh:∀g,¬I q g->w'.heap[g]?=w.heap[g]?)(hc:cells q'=cells q)(hk:K w' base q')(hI:∀g,I q' g->I q g):
  Wq T size cells K I w' base v (q'::rs):=by
 refine⟨?_,fun p hp=>?_,fun p hp g hi=>?_,Bh hI h.two⟩
 ·have h1:=jJ (w':=w') h.own fun g hg=>hh g fun hi=>h.head q (by simp) g hi hg;simpa[List.flatMap_cons,hc] using h1
 ·rcases U9.1 hp with rfl|hp
  ·exact hk
  refine kd.heap w w' base p (h.kid p (by simp[hp])) hs fun g hi=>hh g fun hq=>?_;obtain⟨i,hi2,rfl⟩:=VI hp;exact h.two 0 (i+1) (by simp) (by simp;omega) (by omega) g hq hi
 rcases U9.1 hp with rfl|hp
 ·exact h.head q (by simp) g (hI g hi)
 exact h.head p (by simp[hp]) g hi
end
def ER.asK(x:ER)(k:Int):ER:={ x with e:={ x.e with kind:=k } }
theorem NodM.kind{w:af}{base b n cap:Nat}{x:ER}{xs:Q08}(k:Int)(h:NodM w base (.slice (some ⟨b,0,none⟩) n cap) (x::xs))(hn:n=xs.length+1):NodM (w.setCell ⟨b,0,none⟩ (.int .i64 k)) base (.slice (some ⟨b,0,none⟩) n cap) (x.asK k::xs):=by
 have own1:w.ownsRow base 39 5 (.slice (some ⟨b,0,none⟩) n cap) n (jS (x::xs)):=by have:=h.own;rwa [show(x::xs).length=n by simp[hn]]at this
 obtain⟨Zu,hg2⟩:=own1.stored 0 (.int .i64 k);have hset:(jS (x::xs)).set 0 (.int .i64 k)=jS (x.asK k::xs):=by simp[jS,ER.row,ER.asK]
 rw[hset]at Zu;have hb:∀q∈x::xs,∀g,p9 q g->g≠b:=fun q hq g hg e=>(h.lie q hq g hg).2.2.2 (by rw[e];rfl);have hsame:∀g,g≠b->(w.setCell ⟨b,0,none⟩ (.int .i64 k)).heap[g]?=w.heap[g]?:=fun g hg=>Below.heap_setCell w _ _ g hg;have hall:∀{P:ER->Prop},(∀q∈x::xs,P q)->(P x->P (x.asK k))->∀q∈x.asK k::xs,P q:=fun hP hx q hq=>by
  rcases U9.1 hq with rfl|hq
  ·exact hx (hP x (by simp))
  exact hP q (by simp[hq])
 refine ⟨by simpa [hn] using Zu,hall h.zA id,hall h.zK id,hall (P:=fun q=>q.ok _) (fun q hq=>rH (h.ok q hq) hg2.size (h.zA q hq) (h.zK q hq) fun g hg=>hsame g (hb q hq g hg)) id,hall (P:=fun q=>∀ g,p9 q g->base<=g/\g<(w.setCell ⟨b,0,none⟩ (.int .i64 k)).heap.size/\jX (w.setCell ⟨b,0,none⟩ (.int .i64 k)) g/\_) (fun q hq g hg=>by
  obtain⟨a1,a2,a3,a4⟩:=h.lie q hq g hg;exact⟨a1,UT a2 hg2.size,dx a3 (hsame g (hb q hq g hg)),a4⟩) id,hall h.one id,?_,hall h.cA id⟩
 exact Bh (I:=p9) (q:=x) (q':=x.asK k) (fun g hg=>hg) h.two
theorem iX.named{w:af}{base b n cap:Nat}{t:TR}{ts:Q06}(nm:bQ)(h:iX w base (.slice (some ⟨b,0,none⟩) n cap) (t::ts))(hn:n=ts.length+1):iX (w.setCell ⟨b,0,none⟩ (.string nm)) base (.slice (some ⟨b,0,none⟩) n cap) (({ t with name:=nm }:TR)::ts) :=
 Wq.first mM h hn (fun w hk=>hk) (fun g hg=>hg) (by simp[TR.cells,TR.vs])
def TR.asK(t:TR)(q:RR)(qs:Q07)(x:ER)(xs:Q08)(k:Int):TR:={ t with rows:={ q with rows:=x.asK k::xs }::qs }
theorem iX.kind{w:af}{base b:Nat}{v:Value}{t:TR}{ts:Q06}{q:RR}{qs:Q07}{x:ER}{xs:Q08}(k:Int)(h:iX w base v (t::ts))(ht:t.rows=q::qs)(hq:q.rows=x::xs)(hb:q.ad=some ⟨b,0,none⟩):
  iX (w.setCell ⟨b,0,none⟩ (.int .i64 k)) base v (t.asK q qs x xs k::ts):=by
 have hkt:=h.kid t (by simp);have hR:Cq w base t.vs (q::qs):=by have:=hkt;unfold kT at this;rwa [ht]at this
 have hkq:=hR.kid q (by simp);have hN:NodM w base q.vs (x::xs):=by have:=hkq;unfold kR at this;rwa [hq]at this
 have hvq:q.vs=.slice (some ⟨b,0,none⟩) (xs.length+1) q.cap:=by unfold RR.vs;rw[hb,hq];rfl
 rw[hvq]at hN;have hN2:=hN.kind k rfl;have hsz:w.heap.size<=(w.setCell ⟨b,0,none⟩ (.int .i64 k)).heap.size:=by simp
 have hsame:∀g,g≠b->(w.setCell ⟨b,0,none⟩ (.int .i64 k)).heap[g]?=w.heap[g]?:=fun g hg=>Below.heap_setCell w _ _ g hg;have hib:iR q b:=.inl (by rw[hvq];rfl);have hvq2:({ q with rows:=x.asK k::xs }:RR).vs=q.vs:=by unfold RR.vs;rw[hq];rfl
 have hiR:∀g,iR { q with rows:=x.asK k::xs } g->iR q g:=fun g hg=>by
  rcases hg with hg|⟨y,hy,hg⟩
  ·exact .inl (by rw[<-hvq2];exact hg)
  rcases U9.1 hy with rfl|hy
  ·exact .inr ⟨x,by rw[hq];simp,hg⟩
  exact .inr ⟨y,by rw[hq];simp[hy],hg⟩
 have hR2:Cq (w.setCell ⟨b,0,none⟩ (.int .i64 k)) base t.vs ({ q with rows:=x.asK k::xs }::qs):=Wq.firstIn JN hR hsz (fun g hg=>hsame g fun e=>hg (by rw[e];exact hib)) (by unfold RR.cells;rw[hvq2]) (by show NodM _ _ _ _;rw[hvq2,hvq];exact hN2) hiR;have hvt:(t.asK q qs x xs k).vs=t.vs:=by unfold TR.vs TR.asK;rw[ht];rfl
 have hit:iT t b:=.inr ⟨q,by rw[ht];simp,hib⟩;refine Wq.firstIn mM h hsz (fun g hg=>hsame g fun e=>hg (by rw[e];exact hit)) (by unfold TR.cells;rw[hvt];rfl) (by show Cq _ _ _ _;rw[hvt];exact hR2) fun g hg=>?_;rcases hg with hg|⟨y,hy,hg⟩
 ·exact .inl (by rw[<-hvt];exact hg)
 rcases U9.1 hy with rfl|hy
 ·exact .inr ⟨q,by rw[ht];simp,hiR g hg⟩
 exact .inr ⟨y,by rw[ht];simp[hy],hg⟩
open Maps
set_option maxRecDepth 8000 in
theorem MJ(b off cap:Nat)(ts:Q05)(t:Tp)(w:af)(hlen:ts.length<=1000)(hcap:ts.length<=cap)(hs:kW w b off ts)(hb:b<w.heap.size)(hf:∀x∈ts,x.fits)(ht:t.fits):
  Calls prog 129 #[.slice (some ⟨b,off,none⟩) ts.length cap,.agg #[.string t.a,.string t.b,.string t.r,.string t.c,.string t.d,.string t.s]] w fun e w'=>∃v:Value,e=.returned v/\w'.ownsRow w.heap.size 46 6 v (jP ts t).length (bW (jP ts t))/\ae w w':=by
 obtain⟨iT,hiT,zT0,zT1,zT2⟩:=info_parts (P:=prog) (e:=46) (z:=.agg #[.string ⟨#[]⟩,.string ⟨#[]⟩,.string ⟨#[]⟩,.string ⟨#[]⟩,.string ⟨#[]⟩,.string ⟨#[]⟩]) (size:=6) (bytes:=96) (by kernel_rfl);have HIT:Hid (prog.info? 46=some iT/\iT.zero=some (.agg #[.string ⟨#[]⟩,.string ⟨#[]⟩,.string ⟨#[]⟩,.string ⟨#[]⟩,.string ⟨#[]⟩,.string ⟨#[]⟩])/\iT.size=6/\iT.bytes=96):=⟨hiT,zT0,zT1,zT2⟩;have HS:=aC hs;have HF:=aC hf;have HT:Hid t.fits:=ht;clear hs hf ht hiT zT0 zT1 zT2;obtain⟨W0,hW0⟩:∃W0,W0=w.alloc (.cells #[.string t.a,.string t.b,.string t.r,.string t.c,.string t.d,.string t.s] 46):=⟨_,rfl⟩;have HB0:=mI hW0;have HX0:Hid (uE W0 w.heap.size t):=by show uE _ _ _;rw[hW0];exact EM w t _
 go_enter func129,ntmps129;go_wp2;rw[<-hW0];clear hW0;go_loopw[5] (fun i wr=>∃k:Nat,k<=ts.length/\i=.int .i64 k/\Hid (∀i (h:i<ts.length),i<k->ts[i].ahead t=true)/\Hid (ae w wr)/\Hid (uE wr w.heap.size t)) (fun i _=>ts.length-(intOf i).toNat);case atStart=>exact⟨0,UY _,rfl,fun i h hi=>by omega,HB0,HX0⟩
 clear HX0 HB0;obtain⟨k,hk,rfl,HU,HB,HX⟩:=hrel;have hk1:=bG k;by_cases hlt:k<ts.length
 ·have hk2:(k:Int)<(ts.length:Int):=by omega
  obtain⟨t0,t1,t2,t3,t4,t5⟩:=(HS.out.below HB.out hb) k hlt;obtain⟨x0,x1,x2,x3,x4,x5,xl⟩:=HX.out;have hbr:b<wr.heap.size:=UT hb HB.out.size;obtain⟨f0,f1,f2,f3,f4,f5⟩:=HF.out _ (UR hlt);obtain⟨e0,e1,e2,e3,e4,e5⟩:=HT.out;have HA:Hid (∀W,Calls prog 137 #[.agg #[.string ts[k].a,.string ts[k].b,.string ts[k].r,.string ts[k].c,.string ts[k].d,.string ts[k].s],.agg #[.string t.a,.string t.b,.string t.r,.string t.c,.string t.d,.string t.s]] W fun e w'=>e=.returned (.bool (ts[k].ahead t))/\ae W w'):=fun W=>nE _ _ _ _ _ _ _ _ _ _ _ _ W f0 f1 f2 f3 f4 f5 e0 e1 e2 e3 e4 e5;clear f0 f1 f2 f3 f4 f5 e0 e1 e2 e3 e4 e5;have H0:wr.drew.cell? ⟨b,off+k*6,none⟩=some (.string ts[k].a)/\wr.drew.cell? ⟨b,off+k*6+1,none⟩=some (.string ts[k].b)/\wr.drew.cell? ⟨b,off+k*6+2,none⟩=some (.string ts[k].r)/\wr.drew.cell? ⟨b,off+k*6+3,none⟩=some (.string ts[k].c)/\wr.drew.cell? ⟨b,off+k*6+4,none⟩=some (.string ts[k].d)/\wr.drew.cell? ⟨b,off+k*6+5,none⟩=some (.string ts[k].s)/\wr.drew.cell? ⟨w.heap.size,0,none⟩=some (.string t.a)/\wr.drew.cell? ⟨w.heap.size,1,none⟩=some (.string t.b)/\wr.drew.cell? ⟨w.heap.size,2,none⟩=some (.string t.r)/\wr.drew.cell? ⟨w.heap.size,3,none⟩=some (.string t.c)/\wr.drew.cell? ⟨w.heap.size,4,none⟩=some (.string t.d)/\wr.drew.cell? ⟨w.heap.size,5,none⟩=some (.string t.s)/\b<wr.drew.heap.size/\w.heap.size<wr.drew.heap.size/\ae w wr.drew:=⟨t0,t1,t2,t3,t4,t5,x0,x1,x2,x3,x4,x5,hbr,xl,HB.out.drew⟩;clear t0 t1 t2 t3 t4 t5 x0 x1 x2 x3 x4 x5;generalize hq:ts[k].ahead t=q at HA;cases q;case true=>
   have HQ:Hid (ts[k].ahead t=true):=hq;clear hq;go_wp2_with fail
   go_region_held3 (fun w'=>w'.cell? ⟨b,off+k*6,none⟩=some (.string ts[k].a)/\w'.cell? ⟨b,off+k*6+1,none⟩=some (.string ts[k].b)/\w'.cell? ⟨b,off+k*6+2,none⟩=some (.string ts[k].r)/\w'.cell? ⟨b,off+k*6+3,none⟩=some (.string ts[k].c)/\w'.cell? ⟨b,off+k*6+4,none⟩=some (.string ts[k].d)/\w'.cell? ⟨b,off+k*6+5,none⟩=some (.string ts[k].s)/\w'.cell? ⟨w.heap.size,0,none⟩=some (.string t.a)/\w'.cell? ⟨w.heap.size,1,none⟩=some (.string t.b)/\w'.cell? ⟨w.heap.size,2,none⟩=some (.string t.r)/\w'.cell? ⟨w.heap.size,3,none⟩=some (.string t.c)/\w'.cell? ⟨w.heap.size,4,none⟩=some (.string t.d)/\w'.cell? ⟨w.heap.size,5,none⟩=some (.string t.s)/\b<w'.heap.size/\w.heap.size<w'.heap.size/\ae w w')
    (first|assumption|exact K4 (by assumption) hbx|exact H0)
    (first|(go_at_call 137;refine(HA.out _).mono ?_;rintro e w' ⟨rfl,hbx⟩))
   rename_i hH;obtain⟨-,-,-,-,-,-,x0,x1,x2,x3,x4,x5,-,xl,gB⟩:=hH;have HB2:=dX gB;have YY:=dX (O3 x0 x1 x2 x3 x4 x5 xl);have ZF:Hid (∀i (h:i<ts.length),i<k+1->ts[i].ahead t=true):=fun i h hi=>by
    by_cases e:i=k
    ·subst e;exact HQ.out
    exact HU.out i h (by omega)
   clear x0 x1 x2 x3 x4 x5 gB hbx H0 HA HQ HU HB HX;go_wp2;go_roundw;case rel=>exact⟨k+1,by omega,by go_num,ZF,HB2,YY⟩
   simp[intOf]<;>omega
  have HQ:Hid (ts[k].ahead t=false):=hq;clear hq;go_wp2_with fail
  go_region_held3 (fun w'=>w'.cell? ⟨b,off+k*6,none⟩=some (.string ts[k].a)/\w'.cell? ⟨b,off+k*6+1,none⟩=some (.string ts[k].b)/\w'.cell? ⟨b,off+k*6+2,none⟩=some (.string ts[k].r)/\w'.cell? ⟨b,off+k*6+3,none⟩=some (.string ts[k].c)/\w'.cell? ⟨b,off+k*6+4,none⟩=some (.string ts[k].d)/\w'.cell? ⟨b,off+k*6+5,none⟩=some (.string ts[k].s)/\w'.cell? ⟨w.heap.size,0,none⟩=some (.string t.a)/\w'.cell? ⟨w.heap.size,1,none⟩=some (.string t.b)/\w'.cell? ⟨w.heap.size,2,none⟩=some (.string t.r)/\w'.cell? ⟨w.heap.size,3,none⟩=some (.string t.c)/\w'.cell? ⟨w.heap.size,4,none⟩=some (.string t.d)/\w'.cell? ⟨w.heap.size,5,none⟩=some (.string t.s)/\b<w'.heap.size/\w.heap.size<w'.heap.size/\ae w w')
   (first|assumption|exact K4 (by assumption) hbx|exact H0)
   (first|(go_at_call 137;refine(HA.out _).mono ?_;rintro e w' ⟨rfl,hbx⟩))
  rename_i hH;obtain⟨-,-,-,-,-,-,x0,x1,x2,x3,x4,x5,-,xl,gB⟩:=hH;have HP:=dX (KZ ts t k hk HU.out (fun _=>HQ.out));have V9:=dX gB;have HXW:=dX (O3 x0 x1 x2 x3 x4 x5 xl);clear hbx H0 HA HQ HU HB HX gB x0 x1 x2 x3 x4 x5;obtain⟨W1,hW1⟩:∃W1,W1=w'.alloc (.cells #[] 46):=⟨_,rfl⟩;have WP:Hid (W1.ownsRow w'.heap.size 46 6 (.slice (some ⟨w'.heap.size,0,none⟩) 0 0) 0 []):=by
   show World.ownsRow _ _ _ _ _ _ _;rw[hW1];exact World.ownsRow_lit w' #[] 0 (UU _) (by unfold maxLen;omega) (by simp)
  have Xi:=mI hW1;have HR1:Hid (kW W1 b off ts):=(HS.out.below V9.out hb).below Xi.out (UT hb V9.out.size);have Y0:=aC (HXW.out.below Xi.out);have HB1:Hid (ae w W1):=V9.out.trans (Xi.out.mono V9.out.size);have hWs:w.heap.size<w'.heap.size:=HXW.out.2.2.2.2.2.2;have hb1:b<W1.heap.size:=UT hb HB1.out.size;have hkc:k<=cap:=by omega
  have hz1:w'.heap.size<=W1.heap.size:=Xi.out.size;clear V9 HXW Xi;go_wp2_with(at_builtin;rw[<-hW1];clear hW1;refine wpList_append_own_at _ rfl _ _ 25 rfl w'.heap.size 46 iT (.agg #[.string ⟨#[]⟩,.string ⟨#[]⟩,.string ⟨#[]⟩,.string ⟨#[]⟩,.string ⟨#[]⟩,.string ⟨#[]⟩]) 6 96 underlying25 HIT.out.1 HIT.out.2.1 HIT.out.2.2.1 HIT.out.2.2.2 rfl (by decide) _ 0 [] rfl WP.out ⟨b,off,none⟩ k cap (bW (ts.take k)) rfl (by rw[jo,Vy];congr 1;omega) (ul (Dm HR1.out k)) (rQ _) (by unfold maxLen;omega) (by omega) hz1 ?_);intro v2 w2 hown2 WN _ _;have V7:Hid (w2.ownsRow w'.heap.size 46 6 v2 k (bW (ts.take k))):=by
   show World.ownsRow _ _ _ _ _ _ _
   first|exact hown2|(rw[Vj,VU]at hown2;exact hown2)
  have hne:some w.heap.size≠Value.ownBlock (.slice (some ⟨w'.heap.size,0,none⟩) 0 0):=fun e=>by simp[Value.ownBlock]at e;omega
  have hnb:some b≠Value.ownBlock (.slice (some ⟨w'.heap.size,0,none⟩) 0 0):=fun e=>by simp[Value.ownBlock]at e;omega
  have YY:Hid (uE w2 w.heap.size t):=Y0.out.grown WN hne;have HR2:Hid (kW w2 b off ts):=o7 HR1.out WN hb1 hnb;have HB2:Hid (ae w w2):=HB1.out.grown WN HB1.out.size (fun g hg=>by simp[Value.ownBlock]at hg;omega);have hz2:w'.heap.size<=w2.heap.size:=U0 hz1 WN.size;clear hown2 WN WP Y0 HR1 HB1 hne hnb;obtain⟨x0,x1,x2,x3,x4,x5,xl2⟩:=YY.out;obtain⟨W3,hW3⟩:∃W3,W3=w2.alloc (.cells #[.string t.a,.string t.b,.string t.r,.string t.c,.string t.d,.string t.s] 46):=⟨_,rfl⟩;have Ww:Hid (W3.ownsRow w'.heap.size 46 6 v2 k (bW (ts.take k))):=by show World.ownsRow _ _ _ _ _ _ _;rw[hW3];exact V7.out.alloc _
  have Ye:Hid (∀j u,t.row[j]?=some u->W3.cell? ((⟨w2.heap.size,0,none⟩:Addr).add j)=some u):=by show ∀j u,_;rw[hW3];exact Dl w2 t
  have YQ:=mI hW3;have HB3:Hid (ae w W3):=HB2.out.trans (YQ.out.mono HB2.out.size);have HR3:Hid (kW W3 b off ts):=HR2.out.below YQ.out (UT hb HB2.out.size);have hz3:w'.heap.size<=W3.heap.size:=U0 hz2 YQ.out.size;have hb3:b<W3.heap.size:=UT hb HB3.out.size;clear YQ HB2 HR2 YY hb1 hz1 hz2;go_wp2_with(at_builtin;rw[<-hW3];clear hW3;refine wpList_append_own_at _ rfl _ _ 25 rfl w'.heap.size 46 iT (.agg #[.string ⟨#[]⟩,.string ⟨#[]⟩,.string ⟨#[]⟩,.string ⟨#[]⟩,.string ⟨#[]⟩,.string ⟨#[]⟩]) 6 96 underlying25 HIT.out.1 HIT.out.2.1 HIT.out.2.2.1 HIT.out.2.2.2 rfl (by decide) v2 k (bW (ts.take k)) rfl Ww.out ⟨w2.heap.size,0,none⟩ 1 1 t.row rfl rfl Ye.out (Av _) (by unfold maxLen;omega) (by omega) hz3 ?_);intro v4 w4 WU XB _ _;have hnb:some b≠v2.ownBlock:=fun e=>by have:=(V7.out.lt b e.symm).1;omega
  have HR4:Hid (kW w4 b off ts):=o7 HR3.out XB hb3 hnb;have XF:Hid (ae w w4):=HB3.out.grown XB HB3.out.size (fun g hg=>by have:=(V7.out.lt g hg).1;omega);have Wo:=aC WU;have Y3:w'.heap.size<=w4.heap.size:=U0 hz3 XB.size;clear WU XB Ww V7 Ye HB3 HR3 hb3 hz3 hnb x0 x1 x2 x3 x4 x5 xl2;have hdl:(ts.drop k).length=ts.length-k:=VR;clear hdl;go_wp2_with(at_builtin;refine wpList_append_own_at _ rfl _ _ 25 rfl w'.heap.size 46 iT (.agg #[.string ⟨#[]⟩,.string ⟨#[]⟩,.string ⟨#[]⟩,.string ⟨#[]⟩,.string ⟨#[]⟩,.string ⟨#[]⟩]) 6 96 underlying25 HIT.out.1 HIT.out.2.1 HIT.out.2.2.1 HIT.out.2.2.2 rfl (by decide) v4 (k+1) (bW (ts.take k)++t.row) rfl Wo.out ⟨b,off+k*6,none⟩ (ts.length-k) (cap-k) (bW (ts.drop k)) rfl (by rw[jo,VR]) (ul (Mh HR4.out k)) (rQ _) (by unfold maxLen;omega) (by omega) Y3 ?_);intro v5 w5 hown5 hgr5 _ _;have Xt:Hid (ae w w5):=XF.out.grown hgr5 XF.out.size (fun g hg=>by have:=(Wo.out.lt g hg).1;omega);have hlp:(jP ts t).length=k+1+(ts.length-k):=by rw[HP.out];simp;omega
  have hown6:w5.ownsRow w'.heap.size 46 6 v5 (jP ts t).length (bW (jP ts t)):=by
   rw[hlp,HP.out,show ts.take k++t::ts.drop k=(ts.take k++[t])++ts.drop k by simp,vH,Au];first|exact hown5|(rw[Vm];exact hown5)
  have WY:=dX (dI hown6 (Nat.le_of_lt hWs));clear hown5 hown6 hgr5 hlp;go_wp2;go_ret;exact⟨v5,rfl,WY.out,Xt.out⟩
 have hd:decide ((k:Int)<(ts.length:Int))=false:=by simp;omega
 go_wp2_with fail;go_quiet (fail);have HP:=dX (KZ ts t k hk HU.out (fun h=>absurd h hlt));obtain⟨W9,hW9⟩:∃W9,wr.drewN nq=W9:=⟨_,rfl⟩;have V9:Hid (ae w W9):=by show Below _ _ _;rw[<-hW9];exact⟨HB.out.os,HB.out.tape,HB.out.output,HB.out.size,HB.out.block⟩
 have HXW:Hid (uE W9 w.heap.size t):=by show uE _ _ _;rw[<-hW9];exact HX.out
 rw[hW9];clear hW9 HU HB HX hd;obtain⟨W1,hW1⟩:∃W1,W1=W9.alloc (.cells #[] 46):=⟨_,rfl⟩;have WP:Hid (W1.ownsRow W9.heap.size 46 6 (.slice (some ⟨W9.heap.size,0,none⟩) 0 0) 0 []):=by
  show World.ownsRow _ _ _ _ _ _ _;rw[hW1];exact World.ownsRow_lit W9 #[] 0 (UU _) (by unfold maxLen;omega) (by simp)
 have Xi:=mI hW1;have HR1:Hid (kW W1 b off ts):=(HS.out.below V9.out hb).below Xi.out (UT hb V9.out.size);have Y0:=aC (HXW.out.below Xi.out);have HB1:Hid (ae w W1):=V9.out.trans (Xi.out.mono V9.out.size);have hWs:w.heap.size<W9.heap.size:=HXW.out.2.2.2.2.2.2;have hb1:b<W1.heap.size:=UT hb HB1.out.size;have hkc:k<=cap:=by omega
 have hz1:W9.heap.size<=W1.heap.size:=Xi.out.size;clear V9 HXW Xi;go_wp2_with(at_builtin;rw[<-hW1];clear hW1;refine wpList_append_own_at _ rfl _ _ 25 rfl W9.heap.size 46 iT (.agg #[.string ⟨#[]⟩,.string ⟨#[]⟩,.string ⟨#[]⟩,.string ⟨#[]⟩,.string ⟨#[]⟩,.string ⟨#[]⟩]) 6 96 underlying25 HIT.out.1 HIT.out.2.1 HIT.out.2.2.1 HIT.out.2.2.2 rfl (by decide) _ 0 [] rfl WP.out ⟨b,off,none⟩ k cap (bW (ts.take k)) rfl (by rw[jo,Vy];congr 1;omega) (ul (Dm HR1.out k)) (rQ _) (by unfold maxLen;omega) (by omega) hz1 ?_);intro v2 w2 hown2 WN _ _;have V7:Hid (w2.ownsRow W9.heap.size 46 6 v2 k (bW (ts.take k))):=by
  show World.ownsRow _ _ _ _ _ _ _
  first|exact hown2|(rw[Vj,VU]at hown2;exact hown2)
 have hne:some w.heap.size≠Value.ownBlock (.slice (some ⟨W9.heap.size,0,none⟩) 0 0):=fun e=>by simp[Value.ownBlock]at e;omega
 have hnb:some b≠Value.ownBlock (.slice (some ⟨W9.heap.size,0,none⟩) 0 0):=fun e=>by simp[Value.ownBlock]at e;omega
 have YY:Hid (uE w2 w.heap.size t):=Y0.out.grown WN hne;have HR2:Hid (kW w2 b off ts):=o7 HR1.out WN hb1 hnb;have HB2:Hid (ae w w2):=HB1.out.grown WN HB1.out.size (fun g hg=>by simp[Value.ownBlock]at hg;omega);have hz2:W9.heap.size<=w2.heap.size:=U0 hz1 WN.size;clear hown2 WN WP Y0 HR1 HB1 hne hnb;obtain⟨x0,x1,x2,x3,x4,x5,xl2⟩:=YY.out;obtain⟨W3,hW3⟩:∃W3,W3=w2.alloc (.cells #[.string t.a,.string t.b,.string t.r,.string t.c,.string t.d,.string t.s] 46):=⟨_,rfl⟩;have Ww:Hid (W3.ownsRow W9.heap.size 46 6 v2 k (bW (ts.take k))):=by show World.ownsRow _ _ _ _ _ _ _;rw[hW3];exact V7.out.alloc _
 have Ye:Hid (∀j u,t.row[j]?=some u->W3.cell? ((⟨w2.heap.size,0,none⟩:Addr).add j)=some u):=by show ∀j u,_;rw[hW3];exact Dl w2 t
 have YQ:=mI hW3;have HB3:Hid (ae w W3):=HB2.out.trans (YQ.out.mono HB2.out.size);have HR3:Hid (kW W3 b off ts):=HR2.out.below YQ.out (UT hb HB2.out.size);have hz3:W9.heap.size<=W3.heap.size:=U0 hz2 YQ.out.size;have hb3:b<W3.heap.size:=UT hb HB3.out.size;clear YQ HB2 HR2 YY hb1 hz1 hz2;go_wp2_with(at_builtin;rw[<-hW3];clear hW3;refine wpList_append_own_at _ rfl _ _ 25 rfl W9.heap.size 46 iT (.agg #[.string ⟨#[]⟩,.string ⟨#[]⟩,.string ⟨#[]⟩,.string ⟨#[]⟩,.string ⟨#[]⟩,.string ⟨#[]⟩]) 6 96 underlying25 HIT.out.1 HIT.out.2.1 HIT.out.2.2.1 HIT.out.2.2.2 rfl (by decide) v2 k (bW (ts.take k)) rfl Ww.out ⟨w2.heap.size,0,none⟩ 1 1 t.row rfl rfl Ye.out (Av _) (by unfold maxLen;omega) (by omega) hz3 ?_);intro v4 w4 WU XB _ _;have hnb:some b≠v2.ownBlock:=fun e=>by have:=(V7.out.lt b e.symm).1;omega
 have HR4:Hid (kW w4 b off ts):=o7 HR3.out XB hb3 hnb;have XF:Hid (ae w w4):=HB3.out.grown XB HB3.out.size (fun g hg=>by have:=(V7.out.lt g hg).1;omega);have Wo:=aC WU;have Y3:W9.heap.size<=w4.heap.size:=U0 hz3 XB.size;clear WU XB Ww V7 Ye HB3 HR3 hb3 hz3 hnb x0 x1 x2 x3 x4 x5 xl2;have hdl:(ts.drop k).length=ts.length-k:=VR;clear hdl;by_cases hce:cap=k
 all_goals
  go_wp2_with(at_builtin;refine wpList_append_own_at _ rfl _ _ 25 rfl W9.heap.size 46 iT (.agg #[.string ⟨#[]⟩,.string ⟨#[]⟩,.string ⟨#[]⟩,.string ⟨#[]⟩,.string ⟨#[]⟩,.string ⟨#[]⟩]) 6 96 underlying25 HIT.out.1 HIT.out.2.1 HIT.out.2.2.1 HIT.out.2.2.2 rfl (by decide) v4 (k+1) (bW (ts.take k)++t.row) rfl Wo.out _ (ts.length-k) _ (bW (ts.drop k)) rfl (by rw[jo,VR]) (Mi (by omega) _ _) (rQ _) (by unfold maxLen;omega) (by omega) Y3 ?_);intro v5 w5 hown5 hgr5 _ _;have Xt:Hid (ae w w5):=XF.out.grown hgr5 XF.out.size (fun g hg=>by have:=(Wo.out.lt g hg).1;omega);have hlp:(jP ts t).length=k+1+(ts.length-k):=by rw[HP.out];simp;omega
  have hown6:w5.ownsRow W9.heap.size 46 6 v5 (jP ts t).length (bW (jP ts t)):=by
   rw[hlp,HP.out,show ts.take k++t::ts.drop k=(ts.take k++[t])++ts.drop k by simp,vH,Au];first|exact hown5|(rw[Vm];exact hown5)
  have WY:=dX (dI hown6 (Nat.le_of_lt hWs));clear hown5 hown6 hgr5 hlp;go_wp2;go_ret;exact⟨v5,rfl,WY.out,Xt.out⟩
set_option maxRecDepth 8000 in
theorem MK(ad:Q02)(cap:Nat)(ts:Q05)(t:Tp)(w:af)(hlen:ts.length<=1048576)(hs:Sl w ad ts):
  Calls prog 128 #[.slice ad ts.length cap,.agg #[.string t.a,.string t.b,.string t.r,.string t.c,.string t.d,.string t.s]] w fun e w'=>e=.returned (.bool (xm ts t))/\ae w w':=by
 have HS:=aC hs;clear hs;obtain⟨W0,hW0⟩:∃W0,W0=w.alloc (.cells #[.string t.a,.string t.b,.string t.r,.string t.c,.string t.d,.string t.s] 46):=⟨_,rfl⟩;have HB0:=mI hW0;have HX0:Hid (W0.cell? ⟨w.heap.size,0,none⟩=some (.string t.a)/\W0.cell? ⟨w.heap.size,1,none⟩=some (.string t.b)/\W0.cell? ⟨w.heap.size,2,none⟩=some (.string t.r)/\W0.cell? ⟨w.heap.size,3,none⟩=some (.string t.c)/\W0.cell? ⟨w.heap.size,4,none⟩=some (.string t.d)/\W0.cell? ⟨w.heap.size,5,none⟩=some (.string t.s)/\w.heap.size<W0.heap.size):=by show _/\_;rw[hW0];refine⟨?_,?_,?_,?_,?_,?_,?_⟩<;>simp
 go_enter func128,ntmps128;go_wp2;rw[<-hW0];clear hW0;go_loopw[5] (fun i wr=>∃k:Nat,k<=ts.length/\i=.int .i64 k/\Hid (xm (ts.drop k) t=xm ts t)/\Hid (ae W0 wr)) (fun i _=>ts.length-(intOf i).toNat);case atStart=>exact⟨0,UY _,rfl,rfl,UV _ _⟩
 obtain⟨k,hk,rfl,HP,HB⟩:=hrel;have V9:Hid (ae w wr):=HB0.out.trans (HB.out.mono HB0.out.size);by_cases hlt:k<ts.length
 ·rcases HS.out.below V9.out with hnil|⟨b,off,rfl,hb,hr⟩
  ·rw[hnil]at hlt;simp at hlt
  obtain⟨t0,t1,t2,t3,t4,t5⟩:=hr k hlt;have x0:=mK HB.out HX0.out.2.2.2.2.2.2 HX0.out.1;have x1:=mK HB.out HX0.out.2.2.2.2.2.2 HX0.out.2.1;have x2:=mK HB.out HX0.out.2.2.2.2.2.2 HX0.out.2.2.1;have x3:=mK HB.out HX0.out.2.2.2.2.2.2 HX0.out.2.2.2.1;have x4:=mK HB.out HX0.out.2.2.2.2.2.2 HX0.out.2.2.2.2.1;have x5:=mK HB.out HX0.out.2.2.2.2.2.2 HX0.out.2.2.2.2.2.1;have hk1:=bG k;have hk2:(k:Int)<(ts.length:Int):=by omega
  have HD:Hid (xm ts t=(Me ts[k] t || xm (ts.drop (k+1)) t)):=by show _=_;rw[<-HP.out];exact Mf hlt
  clear hr;cases hq:Me ts[k] t;case true=>
   have heq:=OZ ts[k] t hq;have HN:Hid (xm ts t=true):=by show _=_;rw[HD.out,hq];rfl
   clear hq;go_wp2_with fail;go_region_held3 (fun w'=>w'.cell? ⟨b,off+k*6,none⟩=some (.string ts[k].a)/\w'.cell? ⟨b,off+k*6+1,none⟩=some (.string ts[k].b)/\w'.cell? ⟨b,off+k*6+2,none⟩=some (.string ts[k].r)/\w'.cell? ⟨b,off+k*6+3,none⟩=some (.string ts[k].c)/\w'.cell? ⟨b,off+k*6+4,none⟩=some (.string ts[k].d)/\w'.cell? ⟨b,off+k*6+5,none⟩=some (.string ts[k].s)/\w'.cell? ⟨w.heap.size,0,none⟩=some (.string t.a)/\w'.cell? ⟨w.heap.size,1,none⟩=some (.string t.b)/\w'.cell? ⟨w.heap.size,2,none⟩=some (.string t.r)/\w'.cell? ⟨w.heap.size,3,none⟩=some (.string t.c)/\w'.cell? ⟨w.heap.size,4,none⟩=some (.string t.d)/\w'.cell? ⟨w.heap.size,5,none⟩=some (.string t.s)/\ae wr w') (first|assumption|exact⟨t0,t1,t2,t3,t4,t5,x0,x1,x2,x3,x4,x5,(UV _ _).drew⟩) (fail);rename_i hH;have HG:Hid (ae wr _):=hH.2.2.2.2.2.2.2.2.2.2.2.2;clear hH t0 t1 t2 t3 t4 t5 x0 x1 x2 x3 x4 x5 heq;go_wp2;go_ret;exact⟨by rw[HN.out];rfl,V9.out.trans (HG.out.mono V9.out.size)⟩
  have heq:=OZ ts[k] t hq;have Wj:Hid (xm (ts.drop (k+1)) t=xm ts t):=by show _=_;rw[HD.out,hq];rfl
  clear hq;go_wp2_with fail;go_region_held3 (fun w'=>w'.cell? ⟨b,off+k*6,none⟩=some (.string ts[k].a)/\w'.cell? ⟨b,off+k*6+1,none⟩=some (.string ts[k].b)/\w'.cell? ⟨b,off+k*6+2,none⟩=some (.string ts[k].r)/\w'.cell? ⟨b,off+k*6+3,none⟩=some (.string ts[k].c)/\w'.cell? ⟨b,off+k*6+4,none⟩=some (.string ts[k].d)/\w'.cell? ⟨b,off+k*6+5,none⟩=some (.string ts[k].s)/\w'.cell? ⟨w.heap.size,0,none⟩=some (.string t.a)/\w'.cell? ⟨w.heap.size,1,none⟩=some (.string t.b)/\w'.cell? ⟨w.heap.size,2,none⟩=some (.string t.r)/\w'.cell? ⟨w.heap.size,3,none⟩=some (.string t.c)/\w'.cell? ⟨w.heap.size,4,none⟩=some (.string t.d)/\w'.cell? ⟨w.heap.size,5,none⟩=some (.string t.s)/\ae wr w') (first|assumption|exact⟨t0,t1,t2,t3,t4,t5,x0,x1,x2,x3,x4,x5,(UV _ _).drew⟩) (fail);rename_i hH;have HG:Hid (ae W0 _):=HB.out.trans (hH.2.2.2.2.2.2.2.2.2.2.2.2.mono HB.out.size);clear hH t0 t1 t2 t3 t4 t5 x0 x1 x2 x3 x4 x5 heq;go_wp2;go_roundw;case rel=>exact⟨k+1,by omega,by go_num,Wj,HG⟩
  simp[intOf]<;>omega
 have HN:Hid (xm ts t=false):=by show _=_;rw[<-HP.out,Vf (by omega)];rfl
 go_wp2;go_ret;exact⟨by rw[HN.out];rfl,V9.out⟩
def sH(ts:Q05)(t:Tp):Bool:=dO ts&&t.ok && !xm ts t && !(ts.length==40)
def Cr(ts:Q05)(t:Tp):List Tp:=if sH ts t then jP ts t else []
theorem Bi{ts:Q05}{t:Tp}(h:sH ts t=true):Cr ts t=jP ts t:=by simp[Cr,h]
theorem rW{ts:Q05}{t:Tp}(h:sH ts t=false):Cr ts t=[]:=by simp[Cr,h]
def TB(w w':World)(e:Ending)(L:Q05)(f:Bool):Prop:=∃v:Value,e=.returned (.tuple #[v,.bool f])/\w'.ownsRow w.heap.size 46 6 v L.length (bW L)/\ae w w'
theorem sQ(b off cap:Nat)(ts:Q05)(t:Tp)(w:af)(hlen:ts.length<=1048576)(hcap:ts.length<=cap)(hs:kW w b off ts)(hb:b<w.heap.size)(hf:∀x∈ts,x.fits)(ht:t.fits):
  Calls prog 88 #[.slice (some ⟨b,off,none⟩) ts.length cap,.agg #[.string t.a,.string t.b,.string t.r,.string t.c,.string t.d,.string t.s]] w fun e w'=>TB w w' e (Cr ts t) (sH ts t):=by
 have HF:=dX hf;have Wl:=dX ht;obtain⟨W0,hW0⟩:∃W0,W0=w.alloc (.cells #[.string t.a,.string t.b,.string t.r,.string t.c,.string t.d,.string t.s] 46):=⟨_,rfl⟩;have HB0:=mI hW0;have HX0:Hid (uE W0 w.heap.size t):=by show uE _ _ _;rw[hW0];exact EM w t _
 have HS:=dX hs;have SL:Hid (∀W:World,ae w W->Sl W (some ⟨b,off,none⟩) ts):=fun W hB=>.inr ⟨b,off,rfl,UT hb hB.size,HS.out.below hB hb⟩;have WH:ts.length<=maxLen:=by unfold maxLen;omega
 have HT:=dX (oh (some ⟨b,off,none⟩) cap ts W0 WH (SL.out _ HB0.out) hf);clear hs hf WH ht;go_enter func88,ntmps88;go_wp2_with fail;rw[<-hW0];clear hW0;refine HT.out.mono ?_;rintro e w1 ⟨he,hb1⟩;have HB1:=jR HB0 hb1;have Y0:=aC (HX0.out.below hb1);clear HT HX0 HB0 hb1;cases h1:dO ts;case false=>
  rw[h1]at he;subst he;have HR:Hid (sH ts t=false):=by show _=_;simp[sH,h1]
  have HL:Hid (Cr ts t=[]):=rW HR.out;clear h1;go_wp2
  go_ret2
  exact⟨.slice none 0 0,by rw[HR.out];rfl,by rw[HL.out];exact World.ownsRow_nil _ _ _ _,HB1.out⟩
 rw[h1]at he;subst he;obtain⟨x0,x1,x2,x3,x4,x5,xl⟩:=Y0.out;have H1:=dX h1;obtain⟨e0,e1,e2,e3,e4,e5⟩:=Wl.out;have HH:=dX (d9 t.a t.b t.r t.c t.d t.s w1 e0 e1 e2 e3 e4 e5);clear h1 e0 e1 e2 e3 e4 e5;go_wp2_with fail;refine HH.out.mono ?_;rintro e w2 ⟨he,hb2⟩;have HB2:=jR HB1 hb2;have YY:=aC (Y0.out.below hb2);clear HH Y0 HB1 hb2 x0 x1 x2 x3 x4 x5 xl;cases h2:t.ok;case false=>
  have h2':cO t.a t.b t.r t.c t.d t.s=false:=h2;rw[h2']at he;subst he;have HR:Hid (sH ts t=false):=by show _=_;simp[sH,H1.out,h2]
  have HL:Hid (Cr ts t=[]):=rW HR.out;clear h2 h2';go_wp2
  go_ret2
  exact⟨.slice none 0 0,by rw[HR.out];rfl,by rw[HL.out];exact World.ownsRow_nil _ _ _ _,HB2.out⟩
 have h2':cO t.a t.b t.r t.c t.d t.s=true:=h2;rw[h2']at he;subst he;have H2:=dX h2;obtain⟨x0,x1,x2,x3,x4,x5,xl⟩:=YY.out;have HH:=dX (MK (some ⟨b,off,none⟩) cap ts t w2 hlen (SL.out _ HB2.out));clear h2 h2';go_wp2_with fail;refine HH.out.mono ?_;rintro e w3 ⟨he,hb3⟩;have HB3:=jR HB2 hb3;have HX3:=aC (YY.out.below hb3);clear HH YY HB2 hb3 x0 x1 x2 x3 x4 x5 xl;cases h3:xm ts t;case true=>
  rw[h3]at he;subst he;have HR:Hid (sH ts t=false):=by show _=_;simp[sH,H1.out,H2.out,h3]
  have HL:Hid (Cr ts t=[]):=rW HR.out;clear h3;go_wp2
  go_ret2
  exact⟨.slice none 0 0,by rw[HR.out];rfl,by rw[HL.out];exact World.ownsRow_nil _ _ _ _,HB3.out⟩
 rw[h3]at he;subst he;have H3:=dX h3;clear h3;by_cases h4:ts.length=40
 ·have HR:Hid (sH ts t=false):=by show _=_;simp[sH,H1.out,H2.out,H3.out,h4]
  have HL:Hid (Cr ts t=[]):=rW HR.out;have h5:((ts.length:Int)==40)=true:=by simp;omega
  have H4:=dX h4;clear h4;go_wp2
  go_ret2
  exact⟨.slice none 0 0,by rw[HR.out];rfl,by rw[HL.out];exact World.ownsRow_nil _ _ _ _,HB3.out⟩
 have HR:Hid (sH ts t=true):=by show _=_;simp[sH,H1.out,H2.out,H3.out,h4]
 have HL:Hid (Cr ts t=jP ts t):=Bi HR.out;have h5:((ts.length:Int)==40)=false:=by simp;omega
 have h40:=Mg H1.out;obtain⟨x0,x1,x2,x3,x4,x5,xl⟩:=HX3.out;have HP:=dX (MJ b off cap ts t w3 (by omega) hcap (HS.out.below HB3.out hb) (UT hb HB3.out.size) HF.out Wl.out);clear HX3;go_wp2_with fail;refine HP.out.mono ?_;rintro e w4 ⟨v4,rfl,hs4,hb4⟩;have HS4:=dX hs4;clear hs4 HP x0 x1 x2 x3 x4 x5 xl;go_wp2
 go_ret2
 exact⟨v4,by rw[HR.out];rfl,by rw[HL.out];exact dI HS4.out HB3.out.size,HB3.out.trans (hb4.mono HB3.out.size)⟩
def Tp.short(t:Tp):Prop:=t.a.size<=20/\t.b.size<=20/\t.r.size<=20/\t.c.size<=20/\t.d.size<=20/\t.s.size<=20
theorem Tp.short.fits{t:Tp}(h:t.short):t.fits:=by unfold Tp.short at h;unfold Tp.fits maxLen;omega
def qO(ts:Q05):Prop:=∀t∈ts,t.short
theorem qO.fits{ts:Q05}(h:qO ts):∀t∈ts,t.fits:=fun t ht=>(h t ht).fits
theorem MM:qO []:=fun t ht=>by cases ht
theorem rX(ts:Q05)(t:Tp):(jP ts t).length=ts.length+1:=by
 induction ts with
 | nil=>rfl
 | cons x xs ih =>
  unfold jP;split
  ·simp[ih]
  simp
theorem qO.put{ts:Q05}{t:Tp}(h:qO ts)(ht:t.short):qO (jP ts t):=fun x hx=>by
 rcases (O1 ts t x).1 hx with rfl|k
 ·exact ht
 exact h x k
theorem ol{w w':af}{R base n:Nat}{v:Value}{xs:Q03}(h:w.ownsRow base 46 6 v n xs)(hR:R<base)(hO:Only R w w'):w'.ownsRow base 46 6 v n xs :=
 h.kept hO (.inr fun e=>by have:=(h.lt R e).1;omega)
theorem nk{w:af}{base g n c:Nat}{ts:Q05}(h:w.ownsRow base 46 6 (.slice (some ⟨g,0,none⟩) n c) n (bW ts))(hn:n=ts.length):kW w g 0 ts/\g<w.heap.size/\n<=c/\base<=g:=by
 have hlt:=h.lt g rfl;refine⟨?_,hlt.2,?_,hlt.1⟩
 ·subst hn;intro i hi;have key:∀j,j<6->w.cell? ⟨g,0+i*6+j,none⟩=(ts[i]).row[j]?:=fun j hj=>by
   rw[h.cellAt (0+i*6+j) (by have:=jo ts;omega),<-vz ts i hi j hj,Vj]
  exact⟨key 0 (by omega),key 1 (by omega),key 2 (by omega),key 3 (by omega),key 4 (by omega),key 5 (by omega)⟩
 rcases h.2 with⟨e,-⟩|⟨g',cap',cur,e,-,-,hle,-⟩
 ·cases e
 injection e with e1 e2 e3;omega
theorem sS{W:af}{base:Nat}{e:TypeId}{size:Nat}{v:Value}{k:Nat}{xs:Q03}(h:W.ownsRow base e size v (k+1) xs):∃g cap,v=.slice (some ⟨g,0,none⟩) (k+1) cap:=by
 rcases h.2 with⟨_,h0⟩|⟨g,cap,_,rfl,_⟩
 ·omega
 exact⟨g,cap,rfl⟩
theorem Rd.grown{w w':af}{R:Nat}{ad:Q02}{len cap:Nat}{row:Option Nat}(h:Rd w R ad len cap)(hg:w.grownBy w' row)(hR:some R≠row)(hb:0<len->∀b off,ad=some ⟨b,off,none⟩->some b≠row):Rd w' R ad len cap where
 lt:=UT h.lt hg.size
 code:=hg.cell h.code hR
 place:=by obtain⟨p,hp,hl⟩:=h.place;exact⟨p,hg.cell hp hR,hl⟩
 free:=(World.frozen?_of_block (w:=w) (a:=⟨R,1,none⟩) (hg.block R h.lt hR)).trans h.free
 bytes h0:=by
  obtain⟨b,off,e,hne,hbl,hc⟩:=h.bytes h0;refine⟨b,off,e,hne,UT hbl hg.size,fun i hi=>?_⟩;obtain⟨c,c0,c1,hcc⟩:=hc i hi;exact⟨c,c0,c1,hg.cell hcc (hb h0 b off e)⟩
 small:=h.small
theorem Only.grownNew{R:Nat}{w a b:af}{row:Option Nat}(h:Only R w a)(hg:a.grownBy b row)(hr:∀g,row=some g->w.heap.size<=g):Only R w b :=
 ⟨hg.os.trans h.os,hg.tape.trans h.tape,hg.output.trans h.output,U0 h.size hg.size,fun i hi hne=>(hg.block i (UT hi h.size) (fun e=>by have:=hr i e.symm;omega)).trans (h.block i hi hne)⟩
end Go.Proofs.YtajkkeikihhejaaGreat
namespace Go.Proofs.YtajkkeikihhejaaGreat
open ChangeShapes WideShapes ChangeAt RowKit
open Pl
attribute [local go_sem ↓] Go.wp_at_zero Go.wp_at_succ
structure BelowD(B:Nat)(w w':World):Prop where
 b:Below B w w'
 d:w.drawn<=w'.drawn
theorem BelowD.size{B:Nat}{w w':af}(h:BelowD B w w'):w.heap.size<=w'.heap.size:=h.b.size
theorem BelowD.refl(B:Nat)(w:af):BelowD B w w:=⟨UV B w,UU _⟩
theorem BelowD.trans{B:Nat}{a b c:af}(h:BelowD B a b)(k:BelowD B b c):BelowD B a c:=⟨h.b.trans k.b,U0 h.d k.d⟩
theorem BelowD.mono{B B':Nat}{w w':af}(h:BelowD B w w')(hB:B'<=B):BelowD B' w w':=⟨h.b.mono hB,h.d⟩
theorem BelowD.drew{B:Nat}{a w:af}(h:BelowD B a w):BelowD B a w.drew:=⟨h.b.drew,U0 h.d (Nat.le_succ _)⟩
theorem BelowD.alloc{B:Nat}{a w:af}(h:BelowD B a w)(hB:B<=w.heap.size)(o:Obj):BelowD B a (w.alloc o):=⟨h.b.alloc hB o,h.d⟩
theorem BelowD.cell{B:Nat}{w w':af}(h:BelowD B w w'){p:Addr}(hp:p.block<B):w'.cell? p=w.cell? p:=h.b.cell hp
theorem BelowD.frozen{B:Nat}{w w':af}(h:BelowD B w w'){p:Addr}(hp:p.block<B):w'.frozen? p=w.frozen? p:=h.b.frozen hp
theorem BelowD.grew{w w':af}(h:BelowD w.heap.size w w'):∃q os,w'=Go.Sort.grow (w.drewN q) os:=by
 obtain⟨⟨h1,h2,h3,h4,h5⟩,h6⟩:=h;refine⟨w'.drawn-w.drawn,w'.heap.extract w.heap.size w'.heap.size,?_⟩;obtain⟨hp,tp,dr,os,ou⟩:=w';simp only at h1 h2 h3 h4 h5 h6;subst h1 h2 h3;simp only[Go.Sort.grow,World.drewN,World.mk.injEq,true_and,and_true];refine⟨?_,by omega⟩;apply Array.ext
 ·simp;omega
 intro i hi hj;by_cases hlt:i<w.heap.size
 ·have:=h5 i hlt;rw[VH hi,VH hlt]at this;injection this with this;rw[this,Array.getElem_append_left hlt]
 rw[Array.getElem_append_right (by omega)];simp;congr 1;omega
theorem uy{W w1:af}(hb:BelowD W.heap.size W w1):(∀b o,b<W.heap.size->w1.cell? ⟨b,o,none⟩=W.cell? ⟨b,o,none⟩)/\(∀b o,b<W.heap.size->w1.frozen? ⟨b,o,none⟩=W.frozen? ⟨b,o,none⟩) :=
 ⟨fun b o h=>hb.cell (p:=⟨b,o,none⟩) h,fun b o h=>hb.frozen (p:=⟨b,o,none⟩) h⟩
theorem fI(t i:bQ)(w:af)(ht:t.size<=maxLen)(hi:i.size<=maxLen):
  Calls prog 161 #[.agg #[.string t,.string i]] w fun e w'=>e=.returned (.bool (fw t i))/\BelowD w.heap.size w w':=by
 by_cases hn:aT t=true
 all_goals
  go_enter func161,ntmps161;go_wp2_with(first|(go_at_call 162;refine(aP _ _ ht).mono ?_;rintro e w' ⟨rfl,rfl⟩)|(go_at_call 208;refine(Aq _ _ hi).mono ?_;rintro e w' ⟨rfl,rfl⟩));go_ret;exact⟨ah (by simp[fw,hn]),(BelowD.refl _ _).alloc (UU _) _⟩
theorem xJ(t i:bQ)(w:af)(ht:t.size<=maxLen)(hi:i.size<=maxLen):
  Calls prog 207 #[.agg #[.string t,.string i]] w fun e w'=>e=.returned (.string (aD t i))/\BelowD w.heap.size w w':=by
 by_cases hn:fw t i=true
 ·obtain⟨h1,h2⟩:=zh hn;have HT:Hid (aD t i=t++⟨#[58]⟩++i):=mR hn;go_enter func207,ntmps207;go_wp2_with(go_at_call 161;refine(fI _ _ _ ht hi).mono ?_;rintro e w' ⟨rfl,hb⟩;obtain⟨hc,hf⟩:=uy hb);go_ret;exact⟨gF HT.out.symm,((BelowD.refl _ _).alloc (UU _) _).trans (hb.mono (by simp))⟩
 have hn':fw t i=false:=by simpa using hn
 have HT:Hid (aD t i=⟨#[]⟩):=tN hn';clear hn;go_enter func207,ntmps207;go_wp2_with(go_at_call 161;refine(fI _ _ _ ht hi).mono ?_;rintro e w' ⟨rfl,hb⟩;obtain⟨hc,hf⟩:=uy hb);go_ret;exact⟨gF HT.out.symm,((BelowD.refl _ _).alloc (UU _) _).trans (hb.mono (by simp))⟩
theorem wh(a b r c d s:bQ)(w:af)(ha:a.size<=maxLen)(hb:b.size<=maxLen)(hr:r.size<=maxLen)(hc:c.size<=maxLen)(hd:d.size<=maxLen)(hs:s.size<=maxLen):
  Calls prog 108 #[.agg #[.string a,.string b,.string r,.string c,.string d,.string s]] w fun e w'=>e=.returned (.bool (cO a b r c d s))/\BelowD w.heap.size w w':=by
 by_cases h1:fw a b=true
 ·by_cases h2:aT r=true
  ·by_cases h3:fw c d=true
   ·have HT:Hid (cO a b r c d s=tO s):=zM h1 h2 h3;go_enter func108,ntmps108;go_wp2_with fail;refine(fI _ _ _ ha hb).mono ?_;rintro e w1 ⟨rfl,hb1⟩;obtain⟨hc1,hf1⟩:=uy hb1;have hz1:w.heap.size<w1.heap.size:=by have:=hb1.size;simp at this;omega
    go_wp2_with fail;refine(aP _ _ hr).mono ?_;rintro e w1' ⟨rfl,rfl⟩;go_wp2_with fail;refine(fI _ _ _ hc hd).mono ?_;rintro e w2 ⟨rfl,hb2⟩;obtain⟨hc2,hf2⟩:=uy hb2;have hz2:w.heap.size<w2.heap.size:=by have:=hb2.size;omega
    go_wp2_with(go_at_call 163;refine(Dk _ _ hs).mono ?_;rintro e w3 ⟨rfl,rfl⟩)
    all_goals go_ret
    all_goals exact⟨ah (HT.out.trans (by simp[tO, *])).symm,((BelowD.refl _ _).alloc (UU _) _).trans ((hb1.mono (by simp)).trans (hb2.mono (by omega)))⟩
   have h3':fw c d=false:=by simpa using h3
   have HT:Hid (cO a b r c d s=false):=zL h3';clear h3;go_enter func108,ntmps108;go_wp2_with fail;refine(fI _ _ _ ha hb).mono ?_;rintro e w1 ⟨rfl,hb1⟩;obtain⟨hc1,hf1⟩:=uy hb1;have hz1:w.heap.size<w1.heap.size:=by have:=hb1.size;simp at this;omega
   go_wp2_with fail;refine(aP _ _ hr).mono ?_;rintro e w1' ⟨rfl,rfl⟩;go_wp2_with fail;refine(fI _ _ _ hc hd).mono ?_;rintro e w2 ⟨rfl,hb2⟩;go_wp2;go_ret;exact⟨ah HT.out.symm,((BelowD.refl _ _).alloc (UU _) _).trans ((hb1.mono (by simp)).trans (hb2.mono (by omega)))⟩
  have h2':aT r=false:=by simpa using h2
  have HT:Hid (cO a b r c d s=false):=zJ h2';clear h2;go_enter func108,ntmps108;go_wp2_with fail;refine(fI _ _ _ ha hb).mono ?_;rintro e w1 ⟨rfl,hb1⟩;obtain⟨hc1,hf1⟩:=uy hb1;go_wp2_with fail;refine(aP _ _ hr).mono ?_;rintro e w1' ⟨rfl,rfl⟩;go_wp2;go_ret;exact⟨ah HT.out.symm,((BelowD.refl _ _).alloc (UU _) _).trans (hb1.mono (by simp))⟩
 have h1':fw a b=false:=by simpa using h1
 have HT:Hid (cO a b r c d s=false):=zI h1';clear h1;go_enter func108,ntmps108;go_wp2_with fail;refine(fI _ _ _ ha hb).mono ?_;rintro e w1 ⟨rfl,hb1⟩;go_wp2;go_ret;exact⟨ah HT.out.symm,((BelowD.refl _ _).alloc (UU _) _).trans (hb1.mono (by simp))⟩
theorem TC{w W w':af}{n:Nat}{x0 x1 x2 x3 x4 x5:Value}(h:W.cell? ⟨n,0,none⟩=some x0/\W.cell? ⟨n,1,none⟩=some x1/\W.cell? ⟨n,2,none⟩=some x2/\W.cell? ⟨n,3,none⟩=some x3/\W.cell? ⟨n,4,none⟩=some x4/\W.cell? ⟨n,5,none⟩=some x5/\n<W.heap.size/\BelowD n w W)(hb:BelowD W.heap.size W w'):w'.cell? ⟨n,0,none⟩=some x0/\w'.cell? ⟨n,1,none⟩=some x1/\w'.cell? ⟨n,2,none⟩=some x2/\w'.cell? ⟨n,3,none⟩=some x3/\w'.cell? ⟨n,4,none⟩=some x4/\w'.cell? ⟨n,5,none⟩=some x5/\n<w'.heap.size/\BelowD n w w':=by
 obtain⟨h0,h1,h2,h3,h4,h5,hn,hB⟩:=h;have hc:∀o,w'.cell? ⟨n,o,none⟩=W.cell? ⟨n,o,none⟩:=fun o=>hb.cell (p:=⟨n,o,none⟩) hn;refine⟨by rw[hc];exact h0,by rw[hc];exact h1,by rw[hc];exact h2,by rw[hc];exact h3,by rw[hc];exact h4,by rw[hc];exact h5,UT hn hb.size,hB.trans (hb.mono (Nat.le_of_lt hn))⟩
theorem xK(a b r c d s:bQ)(w:af)(ha:a.size<=maxLen)(hb:b.size<=maxLen)(hr:r.size<=maxLen)(hc:c.size<=maxLen)(hd:d.size<=maxLen)(hs:s.size<=maxLen):
  Calls prog 160 #[.agg #[.string a,.string b,.string r,.string c,.string d,.string s]] w fun e w'=>e=.returned (.string (bi a b r c d s))/\BelowD w.heap.size w w':=by
 by_cases hn:cO a b r c d s=true
 ·obtain⟨h1,h2,h3,h4⟩:=jY hn;have hx:=iJ a b;have hy:=iJ c d;have YK:=(nM h2).2;have hs12:=Et h4;clear h1 h2 h3 h4;go_enter func160,ntmps160;go_wp2_with fail;refine(wh _ _ _ _ _ _ _ ha hb hr hc hd hs).mono ?_;rintro e w1 ⟨rfl,hb1⟩;obtain⟨hc1,hf1⟩:=uy hb1;have hz1:w.heap.size<w1.heap.size:=by have:=hb1.size;simp at this;omega
  have k:∀o v,(w.alloc (.cells #[.string a,.string b,.string r,.string c,.string d,.string s] 46)).cell? ⟨w.heap.size,o,none⟩=some v->w1.cell? ⟨w.heap.size,o,none⟩=some v:=fun o v h=>by rw[hc1 _ _ (by simp)];exact h
  have k0:=k 0 (.string a) (by simp);have k1:=k 1 (.string b) (by simp);have k2:=k 2 (.string r) (by simp);have k3:=k 3 (.string c) (by simp);have k4:=k 4 (.string d) (by simp);have k5:=k 5 (.string s) (by simp);have HB1:BelowD w.heap.size w w1:=((BelowD.refl _ _).alloc (UU _) _).trans (hb1.mono (by simp));clear k hb1 hc1 hf1;have q1:(9223372036854775807<(aD a b).size+1)=False:=by simp;omega
  have q2:(9223372036854775807<(aD a b).size+1+r.size)=False:=by simp;omega
  have q3:(9223372036854775807<(aD a b).size+1+r.size+1)=False:=by simp;omega
  have q4:(9223372036854775807<(aD a b).size+1+r.size+1+(aD c d).size)=False:=by simp;omega
  go_wp2_with fail
  go_region_held3 (fun w'=>w'.cell? ⟨w.heap.size,0,none⟩=some (.string a)/\w'.cell? ⟨w.heap.size,1,none⟩=some (.string b)/\w'.cell? ⟨w.heap.size,2,none⟩=some (.string r)/\w'.cell? ⟨w.heap.size,3,none⟩=some (.string c)/\w'.cell? ⟨w.heap.size,4,none⟩=some (.string d)/\w'.cell? ⟨w.heap.size,5,none⟩=some (.string s)/\w.heap.size<w'.heap.size/\BelowD w.heap.size w w')
   (first|exact TC (by assumption) hbx|exact⟨k0,k1,k2,k3,k4,k5,hz1,HB1.drew⟩)
   (first|(go_at_call 207;refine(xJ _ _ _ (by assumption) (by assumption)).mono ?_;rintro e w' ⟨rfl,hbx⟩))
  rename_i hH;obtain⟨g0,g1,g2,g3,g4,g5,gz,gB⟩:=hH;clear k0 k1 k2 k3 k4 k5 hbx q1 q2 q3 q4 HB1;by_cases he:s.toList.isEmpty=true
  ·have HT:Hid (bi a b r c d s=_):=mU hn he;go_wp2;go_ret;exact⟨gF HT.out.symm,gB⟩
  have he':s.toList.isEmpty=false:=by simpa using he
  have HT:Hid (bi a b r c d s=_):=mV hn he';clear he;go_wp2;go_ret;exact⟨gF (HT.out.trans (by simp only[VF])).symm,gB⟩
 have hn':cO a b r c d s=false:=by simpa using hn
 have HT:Hid (bi a b r c d s=⟨#[]⟩):=tQ hn';clear hn;go_enter func160,ntmps160;go_wp2_with fail;refine(wh _ _ _ _ _ _ _ ha hb hr hc hd hs).mono ?_;rintro e w1 ⟨rfl,hb1⟩;go_wp2;go_ret;exact⟨gF HT.out.symm,((BelowD.refl _ _).alloc (UU _) _).trans (hb1.mono (by simp))⟩
theorem Rt{w W w':af}{n m k:Nat}{x0 x1 x2 x3 x4 x5 y0 y1 y2 y3 y4 y5:Value}(hk:k<=n)(h:W.cell? ⟨n,0,none⟩=some x0/\W.cell? ⟨n,1,none⟩=some x1/\W.cell? ⟨n,2,none⟩=some x2/\W.cell? ⟨n,3,none⟩=some x3/\W.cell? ⟨n,4,none⟩=some x4/\W.cell? ⟨n,5,none⟩=some x5/\W.cell? ⟨m,0,none⟩=some y0/\W.cell? ⟨m,1,none⟩=some y1/\W.cell? ⟨m,2,none⟩=some y2/\W.cell? ⟨m,3,none⟩=some y3/\W.cell? ⟨m,4,none⟩=some y4/\W.cell? ⟨m,5,none⟩=some y5/\n<W.heap.size/\m<W.heap.size/\BelowD k w W)(hb:BelowD W.heap.size W w'):w'.cell? ⟨n,0,none⟩=some x0/\w'.cell? ⟨n,1,none⟩=some x1/\w'.cell? ⟨n,2,none⟩=some x2/\w'.cell? ⟨n,3,none⟩=some x3/\w'.cell? ⟨n,4,none⟩=some x4/\w'.cell? ⟨n,5,none⟩=some x5/\w'.cell? ⟨m,0,none⟩=some y0/\w'.cell? ⟨m,1,none⟩=some y1/\w'.cell? ⟨m,2,none⟩=some y2/\w'.cell? ⟨m,3,none⟩=some y3/\w'.cell? ⟨m,4,none⟩=some y4/\w'.cell? ⟨m,5,none⟩=some y5/\n<w'.heap.size/\m<w'.heap.size/\BelowD k w w':=by
 obtain⟨h0,h1,h2,h3,h4,h5,h6,h7,h8,h9,h10,h11,hn,hm,hB⟩:=h;have hc:∀o,w'.cell? ⟨n,o,none⟩=W.cell? ⟨n,o,none⟩:=fun o=>hb.cell (p:=⟨n,o,none⟩) hn;have hd:∀o,w'.cell? ⟨m,o,none⟩=W.cell? ⟨m,o,none⟩:=fun o=>hb.cell (p:=⟨m,o,none⟩) hm;exact⟨by rw[hc];exact h0,by rw[hc];exact h1,by rw[hc];exact h2,by rw[hc];exact h3,by rw[hc];exact h4,by rw[hc];exact h5,by rw[hd];exact h6,by rw[hd];exact h7,by rw[hd];exact h8,by rw[hd];exact h9,by rw[hd];exact h10,by rw[hd];exact h11,UT hn hb.size,UT hm hb.size,hB.trans (hb.mono (by omega))⟩
theorem Ld(w:af)(o1 o2:Obj):BelowD w.heap.size w ((w.alloc o1).alloc o2) :=
 ((BelowD.refl _ _).alloc (UU _) _).alloc (by simp) _
theorem uz(a b r c d s a' b' r' c' d' s':bQ)(w:af)(ha:a.size<=maxLen)(hb:b.size<=maxLen)(hr:r.size<=maxLen)(hc:c.size<=maxLen)(hd:d.size<=maxLen)(hs:s.size<=maxLen)(ga:a'.size<=maxLen)(gb:b'.size<=maxLen)(gr:r'.size<=maxLen)(gc:c'.size<=maxLen)(gd:d'.size<=maxLen)(gs:s'.size<=maxLen):
  Calls prog 106 #[.agg #[.string a,.string b,.string r,.string c,.string d,.string s],.agg #[.string a',.string b',.string r',.string c',.string d',.string s']] w fun e w'=>e=.returned (.int .i64 (Jl a b r c d s a' b' r' c' d' s'))/\BelowD w.heap.size w w':=by
 have H0:((w.alloc (.cells #[.string a,.string b,.string r,.string c,.string d,.string s] 46)).alloc (.cells #[.string a',.string b',.string r',.string c',.string d',.string s'] 46)).drew.cell? ⟨w.heap.size,0,none⟩=some (.string a)/\((w.alloc (.cells #[.string a,.string b,.string r,.string c,.string d,.string s] 46)).alloc (.cells #[.string a',.string b',.string r',.string c',.string d',.string s'] 46)).drew.cell? ⟨w.heap.size,1,none⟩=some (.string b)/\((w.alloc (.cells #[.string a,.string b,.string r,.string c,.string d,.string s] 46)).alloc (.cells #[.string a',.string b',.string r',.string c',.string d',.string s'] 46)).drew.cell? ⟨w.heap.size,2,none⟩=some (.string r)/\((w.alloc (.cells #[.string a,.string b,.string r,.string c,.string d,.string s] 46)).alloc (.cells #[.string a',.string b',.string r',.string c',.string d',.string s'] 46)).drew.cell? ⟨w.heap.size,3,none⟩=some (.string c)/\((w.alloc (.cells #[.string a,.string b,.string r,.string c,.string d,.string s] 46)).alloc (.cells #[.string a',.string b',.string r',.string c',.string d',.string s'] 46)).drew.cell? ⟨w.heap.size,4,none⟩=some (.string d)/\((w.alloc (.cells #[.string a,.string b,.string r,.string c,.string d,.string s] 46)).alloc (.cells #[.string a',.string b',.string r',.string c',.string d',.string s'] 46)).drew.cell? ⟨w.heap.size,5,none⟩=some (.string s)/\((w.alloc (.cells #[.string a,.string b,.string r,.string c,.string d,.string s] 46)).alloc (.cells #[.string a',.string b',.string r',.string c',.string d',.string s'] 46)).drew.cell? ⟨w.heap.size+1,0,none⟩=some (.string a')/\((w.alloc (.cells #[.string a,.string b,.string r,.string c,.string d,.string s] 46)).alloc (.cells #[.string a',.string b',.string r',.string c',.string d',.string s'] 46)).drew.cell? ⟨w.heap.size+1,1,none⟩=some (.string b')/\((w.alloc (.cells #[.string a,.string b,.string r,.string c,.string d,.string s] 46)).alloc (.cells #[.string a',.string b',.string r',.string c',.string d',.string s'] 46)).drew.cell? ⟨w.heap.size+1,2,none⟩=some (.string r')/\((w.alloc (.cells #[.string a,.string b,.string r,.string c,.string d,.string s] 46)).alloc (.cells #[.string a',.string b',.string r',.string c',.string d',.string s'] 46)).drew.cell? ⟨w.heap.size+1,3,none⟩=some (.string c')/\((w.alloc (.cells #[.string a,.string b,.string r,.string c,.string d,.string s] 46)).alloc (.cells #[.string a',.string b',.string r',.string c',.string d',.string s'] 46)).drew.cell? ⟨w.heap.size+1,4,none⟩=some (.string d')/\((w.alloc (.cells #[.string a,.string b,.string r,.string c,.string d,.string s] 46)).alloc (.cells #[.string a',.string b',.string r',.string c',.string d',.string s'] 46)).drew.cell? ⟨w.heap.size+1,5,none⟩=some (.string s')/\w.heap.size<((w.alloc (.cells #[.string a,.string b,.string r,.string c,.string d,.string s] 46)).alloc (.cells #[.string a',.string b',.string r',.string c',.string d',.string s'] 46)).drew.heap.size/\w.heap.size+1<((w.alloc (.cells #[.string a,.string b,.string r,.string c,.string d,.string s] 46)).alloc (.cells #[.string a',.string b',.string r',.string c',.string d',.string s'] 46)).drew.heap.size/\BelowD w.heap.size w (((w.alloc (.cells #[.string a,.string b,.string r,.string c,.string d,.string s] 46)).alloc (.cells #[.string a',.string b',.string r',.string c',.string d',.string s'] 46)).drew):=by
  refine⟨?_,?_,?_,?_,?_,?_,?_,?_,?_,?_,?_,?_,?_,?_,?_⟩
  all_goals first|exact(Ld _ _ _).drew|(simp;done)|(simp;omega)
 go_enter func106,ntmps106;go_wp2_with fail
 go_region_held3 (fun w'=>w'.cell? ⟨w.heap.size,0,none⟩=some (.string a)/\w'.cell? ⟨w.heap.size,1,none⟩=some (.string b)/\w'.cell? ⟨w.heap.size,2,none⟩=some (.string r)/\w'.cell? ⟨w.heap.size,3,none⟩=some (.string c)/\w'.cell? ⟨w.heap.size,4,none⟩=some (.string d)/\w'.cell? ⟨w.heap.size,5,none⟩=some (.string s)/\w'.cell? ⟨w.heap.size+1,0,none⟩=some (.string a')/\w'.cell? ⟨w.heap.size+1,1,none⟩=some (.string b')/\w'.cell? ⟨w.heap.size+1,2,none⟩=some (.string r')/\w'.cell? ⟨w.heap.size+1,3,none⟩=some (.string c')/\w'.cell? ⟨w.heap.size+1,4,none⟩=some (.string d')/\w'.cell? ⟨w.heap.size+1,5,none⟩=some (.string s')/\w.heap.size<w'.heap.size/\w.heap.size+1<w'.heap.size/\BelowD w.heap.size w w')
  (first|assumption|exact Rt (UU _) (by assumption) hbx|exact H0)
  (first|(go_at_call 160;refine(xK _ _ _ _ _ _ _ (by assumption) (by assumption) (by assumption) (by assumption) (by assumption) (by assumption)).mono ?_;rintro e w' ⟨rfl,hbx⟩)|(go_at_call 159;refine(Tryz.strings_Compare _ _ _).mono ?_;rintro e w' ⟨rfl,rfl⟩))
 rename_i hH;obtain⟨-,-,-,-,-,-,-,-,-,-,-,-,-,-,gB⟩:=hH;go_wp2;go_ret;exact⟨rfl,gB⟩
end Go.Proofs.YtajkkeikihhejaaGreat
namespace Go.Proofs.YtajkkeikihhejaaGreat
open ChangeShapes WideShapes ChangeAt RowKit
open Pl
attribute [local go_sem ↓] Go.wp_at_zero Go.wp_at_succ
theorem MN(a b r c d:bQ)(w:af):
  Calls prog 181 #[.agg #[.string a,.string b,.string r,.string c,.string d]] w fun e w'=>e=.returned (.agg #[.string a,.string b,.string r,.string c,.string d,.string ⟨#[]⟩])/\ae w w':=by
 go_enter func181,ntmps181;go_wp2;exact bodyPost_ret (v:=.agg #[.string a,.string b,.string r,.string c,.string d,.string ⟨#[]⟩]) (by simp[results,Tryz.results181,go_sem, *]) rfl ⟨rfl,by
  repeat(first|exact UV _ _|refine Below.setCell ?_ (by first|(simp;done)|(simp;omega)) _|refine Below.alloc ?_ (by first|(simp;done)|(simp;omega)) _)⟩
theorem Rv{w W w':af}{n m k:Nat}{x0 x1 x2 x3 x4 y0 y1 y2 y3 y4:Value}(hk:k<=n)(h:W.cell? ⟨n,0,none⟩=some x0/\W.cell? ⟨n,1,none⟩=some x1/\W.cell? ⟨n,2,none⟩=some x2/\W.cell? ⟨n,3,none⟩=some x3/\W.cell? ⟨n,4,none⟩=some x4/\W.cell? ⟨m,0,none⟩=some y0/\W.cell? ⟨m,1,none⟩=some y1/\W.cell? ⟨m,2,none⟩=some y2/\W.cell? ⟨m,3,none⟩=some y3/\W.cell? ⟨m,4,none⟩=some y4/\n<W.heap.size/\m<W.heap.size/\Below k w W)(hb:ae W w'):w'.cell? ⟨n,0,none⟩=some x0/\w'.cell? ⟨n,1,none⟩=some x1/\w'.cell? ⟨n,2,none⟩=some x2/\w'.cell? ⟨n,3,none⟩=some x3/\w'.cell? ⟨n,4,none⟩=some x4/\w'.cell? ⟨m,0,none⟩=some y0/\w'.cell? ⟨m,1,none⟩=some y1/\w'.cell? ⟨m,2,none⟩=some y2/\w'.cell? ⟨m,3,none⟩=some y3/\w'.cell? ⟨m,4,none⟩=some y4/\n<w'.heap.size/\m<w'.heap.size/\Below k w w':=by
 obtain⟨h0,h1,h2,h3,h4,h5,h6,h7,h8,h9,hn,hm,hB⟩:=h;have hc:∀o,w'.cell? ⟨n,o,none⟩=W.cell? ⟨n,o,none⟩:=fun o=>hb.cell (p:=⟨n,o,none⟩) hn;have hd:∀o,w'.cell? ⟨m,o,none⟩=W.cell? ⟨m,o,none⟩:=fun o=>hb.cell (p:=⟨m,o,none⟩) hm;exact⟨by rw[hc];exact h0,by rw[hc];exact h1,by rw[hc];exact h2,by rw[hc];exact h3,by rw[hc];exact h4,by rw[hd];exact h5,by rw[hd];exact h6,by rw[hd];exact h7,by rw[hd];exact h8,by rw[hd];exact h9,UT hn hb.size,UT hm hb.size,hB.trans (hb.mono (by omega))⟩
theorem Ux(a b r c d a' b' r' c' d':bQ)(w W:af)(hW:W=((w.alloc (.cells #[.string a,.string b,.string r,.string c,.string d] 29)).alloc (.cells #[.string a',.string b',.string r',.string c',.string d'] 29))):W.drew.cell? ⟨w.heap.size,0,none⟩=some (.string a)/\W.drew.cell? ⟨w.heap.size,1,none⟩=some (.string b)/\W.drew.cell? ⟨w.heap.size,2,none⟩=some (.string r)/\W.drew.cell? ⟨w.heap.size,3,none⟩=some (.string c)/\W.drew.cell? ⟨w.heap.size,4,none⟩=some (.string d)/\W.drew.cell? ⟨w.heap.size+1,0,none⟩=some (.string a')/\W.drew.cell? ⟨w.heap.size+1,1,none⟩=some (.string b')/\W.drew.cell? ⟨w.heap.size+1,2,none⟩=some (.string r')/\W.drew.cell? ⟨w.heap.size+1,3,none⟩=some (.string c')/\W.drew.cell? ⟨w.heap.size+1,4,none⟩=some (.string d')/\w.heap.size<W.drew.heap.size/\w.heap.size+1<W.drew.heap.size/\ae w W.drew:=by
 subst hW;refine⟨?_,?_,?_,?_,?_,?_,?_,?_,?_,?_,?_,?_,?_⟩
 all_goals first|exact(Aw _ _ _).drew|(simp;done)|(simp;omega)
theorem wm(a b r c d a' b' r' c' d':bQ)(w:af)(ha:a.size<=maxLen)(hb:b.size<=maxLen)(hr:r.size<=maxLen)(hc:c.size<=maxLen)(hd:d.size<=maxLen)(ga:a'.size<=maxLen)(gb:b'.size<=maxLen)(gr:r'.size<=maxLen)(gc:c'.size<=maxLen)(gd:d'.size<=maxLen):
  Calls prog 130 #[.agg #[.string a,.string b,.string r,.string c,.string d],.agg #[.string a',.string b',.string r',.string c',.string d']] w fun e w'=>e=.returned (.bool (gH a b r c d ⟨#[]⟩ a' b' r' c' d' ⟨#[]⟩))/\ae w w':=by
 have he0:(⟨#[]⟩:ByteArray).size<=maxLen:=by decide
 have H0:=Ux a b r c d a' b' r' c' d' w _ rfl;go_enter func130,ntmps130;go_wp2_with fail
 go_region_held3 (fun w'=>w'.cell? ⟨w.heap.size,0,none⟩=some (.string a)/\w'.cell? ⟨w.heap.size,1,none⟩=some (.string b)/\w'.cell? ⟨w.heap.size,2,none⟩=some (.string r)/\w'.cell? ⟨w.heap.size,3,none⟩=some (.string c)/\w'.cell? ⟨w.heap.size,4,none⟩=some (.string d)/\w'.cell? ⟨w.heap.size+1,0,none⟩=some (.string a')/\w'.cell? ⟨w.heap.size+1,1,none⟩=some (.string b')/\w'.cell? ⟨w.heap.size+1,2,none⟩=some (.string r')/\w'.cell? ⟨w.heap.size+1,3,none⟩=some (.string c')/\w'.cell? ⟨w.heap.size+1,4,none⟩=some (.string d')/\w.heap.size<w'.heap.size/\w.heap.size+1<w'.heap.size/\ae w w')
  (first|assumption|exact Rv (UU _) (by assumption) hbx|exact H0)
  (first|(go_at_call 181;refine(MN _ _ _ _ _ _).mono ?_;rintro e w' ⟨rfl,hbx⟩)|(go_at_call 137;refine(nE _ _ _ _ _ _ _ _ _ _ _ _ _ (by assumption) (by assumption) (by assumption) (by assumption) (by assumption) (by assumption) (by assumption) (by assumption) (by assumption) (by assumption) (by assumption) (by assumption)).mono ?_;rintro e w' ⟨rfl,hbx⟩))
 rename_i hJ;obtain⟨-,-,-,-,-,-,-,-,-,-,-,-,gB⟩:=hJ;go_wp2;go_ret;exact⟨rfl,gB⟩
end Go.Proofs.YtajkkeikihhejaaGreat
namespace Go.Proofs.YtajkkeikihhejaaGreat
open Pl
theorem TD{P:Nat->Prop}(h:∃n,P n):∃n,P n/\∀m,P m->n<=m:=by
 obtain⟨n,hn⟩:=h
 induction n using Nat.strongRecOn with
 | ind n ih =>
  by_cases hx:∃m,m<n/\P m
  ·obtain⟨m,hm,hp⟩:=hx;exact ih m hm hp
  exact⟨n,hn,fun m hm=>Nat.le_of_not_lt fun hlt=>hx ⟨m,hlt,hm⟩⟩
theorem Pv{ts:Q0b}(h:∃f,Sol ts f):∃f,Least ts f:=by
 have key:∀ k,∃ n:Nat,(∃ g,Sol ts g/\g k=(n:Int))/\∀ m:Nat,(∃ g,Sol ts g/\g k=(m:Int))->n<=m:=fun k=>TD (by
  obtain⟨f,hf⟩:=h;exact⟨(f k).toNat,f,hf,by have:=hf.pos k;omega⟩)
 have low:∀k g,Sol ts g->(((key k).choose:Nat):Int)<=g k:=fun k g hg=>by
  have h1:=(key k).choose_spec.2 (g k).toNat ⟨g,hg,by have:=hg.pos k;omega⟩;have:=hg.pos k;omega
 refine⟨fun k=>(((key k).choose:Nat):Int),⟨fun k=>Int.natCast_nonneg _,fun k hk d hd=>?_⟩,fun k hk g hg=>low k g hg⟩;obtain⟨g,hg,e⟩:=(key k).choose_spec.1;have h1:=low (d.typ,d.rel) g hg;have h2:=hg.up k hk d hd;show(((key (d.typ,d.rel)).choose:Nat):Int)+stepOf d<=(((key k).choose:Nat):Int);rw[<-e];exact Int.le_trans (Int.add_le_add_right h1 _) h2
theorem SI(ts:Q0b):∃st,aM ts=true->Least ts st:=by
 by_cases h:aM ts=true
 ·obtain⟨st,hst⟩:=Pv (bq.1 h).2.2;exact⟨st,fun _=>hst⟩
 exact⟨fun _=>0,fun h2=>absurd h2 h⟩
end Go.Proofs.YtajkkeikihhejaaGreat
