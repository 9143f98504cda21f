/- Lists in memory whose elements hold lists again, each in a row and in a block of its own: one more at the end, another last one. Expressions, relations and types as such lists. -/
import Derived.Test.YtojjoblnpldniaaGreatSq
import Derived.Test.YtojjoblnpldniaaGreatJ9
import Derived.Test.YtojjoblnpldniaaGreatJ10
import Derived.Test.YtojjoblnpldniaaGreatJ12
import Derived.Test.YtojjoblnpldniaaGreatSpecExpr
import Derived.Sort.Grow
open Go.Proofs.Tryz
set_option maxHeartbeats 80000000
namespace Go.Proofs.YtojjoblnpldniaaGreat
set_option maxRecDepth 100000
set_option linter.unusedVariables false
open ChangeShapes WideShapes ChangeAt RowKit
open Pl
structure Kid{α:Type}(K:World->Nat->α->Prop)(I:α->Nat->Prop):Prop where
 heap:∀(w w':World) (base:Nat) (q:α),K w base q->w.heap.size<=w'.heap.size->(∀g,I q g->w'.heap[g]?=w.heap[g]?)->K w' base q
 lt:∀(w:World) (base:Nat) (q:α),K w base q->∀g,I q g->base<=g/\g<w.heap.size
def GJ{α:Type}(I:α->Nat->Prop)(v:Value)(rs:List α)(g:Nat):Prop:=v.ownBlock=some g \/ ∃q∈rs,I q g
structure WW{α:Type}(T:TypeId)(size:Nat)(cells:α->List Value)(K:World->Nat->α->Prop)(I:α->Nat->Prop)(w:World)(base:Nat)(v:Value)(rs:List α):Prop where
 own:w.ownsRow base T size v rs.length (rs.flatMap cells)
 kid:∀q∈rs,K w base q
 head:∀q∈rs,∀g,I q g->v.ownBlock≠some g
 two:∀(x y:Nat) (hx:x<rs.length) (hy:y<rs.length),x≠y->∀g,I rs[x] g->¬I rs[y] g
section
variable  {α:Type}{T:TypeId}{size:Nat}{cells:α->List Value}{K:World->Nat->α->Prop}{I:α->Nat->Prop}{w w':World}{base:Nat}{v:Value}{rs:List α}
theorem WW.lt(kd:Kid K I)(h:WW T size cells K I w base v rs){g:Nat}(hg:GJ I v rs g):base<=g/\g<w.heap.size:=by
 rcases hg with hg|⟨q,hq,hg⟩
 ·exact h.own.lt g hg
 exact kd.lt w base q (h.kid q hq) g hg
theorem WW.heap(kd:Kid K I)(h:WW T size cells K I w base v rs)(hs:w.heap.size<=w'.heap.size)(hh:∀g,GJ I v rs g->w'.heap[g]?=w.heap[g]?):WW T size cells K I w' base v rs where
 own:=jH h.own fun g hg=>hh g (.inl hg)
 kid q hq:=kd.heap w w' base q (h.kid q hq) hs fun g hg=>hh g (.inr ⟨q,hq,hg⟩)
 head:=h.head
 two:=h.two
theorem WW.below(kd:Kid K I)(h:WW T size cells K I w base v rs)(hb:ag w w'):WW T size cells K I w' base v rs :=
 h.heap kd hb.size fun g hg=>hb.block g (h.lt kd hg).2
theorem PP(w:ae)(base:Nat):WW T size cells K I w base (.slice none 0 0) [] :=
 ⟨World.ownsRow_nil _ _ _ _,fun q hq=>(by cases hq),fun q hq=>(by cases hq),fun x y hx=>absurd hx (by simp)⟩
theorem GK{rs:List α}{q:α}(h:∀(x y:Nat) (hx:x<rs.length) (hy:y<rs.length),x≠y->∀g,I rs[x] g->¬I rs[y] g)(hq:∀p∈rs,∀g,I p g->¬I q g):
  ∀(x y:Nat) (hx:x<(rs++[q]).length) (hy:y<(rs++[q]).length),x≠y->∀g,I (rs++[q])[x] g->¬I (rs++[q])[y] g:=by
 intro x y hx hy hxy g h1 h2;rw[Vx,VW]at hx hy;by_cases ex:x<rs.length
 ·rw[VO ex]at h1;by_cases ey:y<rs.length
  ·rw[VO ey]at h2;exact h x y ex ey hxy g h1 h2
  have:y=rs.length:=by omega
  subst this;rw[V5 (Vr _)]at h2;simp at h2;exact hq _ (Vp ex) g h1 h2
 have:x=rs.length:=by omega
 subst this;rw[V5 (Vr _)]at h1;simp at h1;have ey:y<rs.length:=by omega
 rw[VO ey]at h2;exact hq _ (Vp ey) g h2 h1
theorem PQ{rs:List α}{q:α}(h:∀(x y:Nat) (hx:x<(rs++[q]).length) (hy:y<(rs++[q]).length),x≠y->∀g,I (rs++[q])[x] g->¬I (rs++[q])[y] g):
  (∀(x y:Nat) (hx:x<rs.length) (hy:y<rs.length),x≠y->∀g,I rs[x] g->¬I rs[y] g)/\∀p∈rs,∀g,I p g->¬I q g:=by
 refine⟨fun x y hx hy hxy g h1 h2=>?_,fun p hp g h1 h2=>?_⟩
 ·exact h x y (by simp;omega) (by simp;omega) hxy g (by rw[VO hx];exact h1) (by rw[VO hy];exact h2)
 obtain⟨x,hx,rfl⟩:=Wl hp;exact h x rs.length (by simp;omega) (by simp) (by omega) g (by rw[VO hx];exact h1) (by rw[V5 (Vr _)];simpa using h2)
theorem WW.snoc(kd:Kid K I)(h:WW T size cells K I w base v rs){q:α}{v':Value}(hown:w'.ownsRow base T size v' (rs.length+1) (rs.flatMap cells++cells q))(hg:w.grownBy w' v.ownBlock)(hat:v'.ownBlock=v.ownBlock \/ ∃g,v'.ownBlock=some g/\w.heap.size<=g)
  (hq:K w base q) (hv:∀g,I q g->v.ownBlock≠some g) (hr:∀p∈rs,∀g,I p g->¬I q g):WW T size cells K I w' base v' (rs++[q]):=by
 have keep:∀(p:α),K w base p->(∀g,I p g->v.ownBlock≠some g)->K w' base p:=fun p hp hn=>kd.heap w w' base p hp hg.size fun g hi=>hg.block g (kd.lt w base p hp g hi).2 (fun e=>hn g hi e.symm);have apart:∀(p:α),K w base p->(∀g,I p g->v.ownBlock≠some g)->∀g,I p g->v'.ownBlock≠some g:=fun p hp hn g hi=>by
  rcases hat with e|⟨g',e,hge⟩
  ·rw[e];exact hn g hi
  rw[e];intro e2;injection e2 with e2;have:=(kd.lt w base p hp g hi).2;omega
 refine⟨by simpa using hown,fun p hp=>?_,fun p hp=>?_,GK h.two hr⟩
 ·rcases VE.1 hp with hp|hp
  ·exact keep p (h.kid p hp) (h.head p hp)
  rw[VD]at hp;subst hp;exact keep _ hq hv
 rcases VE.1 hp with hp|hp
 ·exact apart p (h.kid p hp) (h.head p hp)
 rw[VD]at hp;subst hp;exact apart _ hq hv
theorem WW.last(kd:Kid K I){xs:List α}{q q':α}{b n cap j:Nat}{u:Value}{w1:ae}{row:Option Nat}(h:WW T size cells K I w base (.slice (some ⟨b,0,none⟩) n cap) (xs++[q]))(hn:n=xs.length+1)
  (hg:w.grownBy w1 row) (hrow:∀r,row=some r->I q r) (hq':K w1 base q') (hI:∀g,I q' g->I q g\/(g≠b/\∀p∈xs,¬I p g)) (hset:((xs++[q]).flatMap cells).set j u=(xs++[q']).flatMap cells) :
  WW T size cells K I (w1.setCell ⟨b,j,none⟩ u) base (.slice (some ⟨b,0,none⟩) n cap) (xs++[q']):=by
 have hbl:b<w.heap.size:=(h.own.lt b rfl).2;have hq:=h.kid q (by simp);have hqb:∀g,I q g->g≠b:=fun g hi e=>h.head q (by simp) g hi (by rw[e];rfl);have hq'b:∀g,I q' g->g≠b:=fun g hi e=>by
  rcases hI g hi with h2|h2
  ·exact hqb g h2 e
  exact h2.1 e
 have hb1:w1.heap[b]?=w.heap[b]?:=hg.block b hbl (fun e=>hqb b (hrow b e.symm) rfl);have own1:w1.ownsRow base T size (.slice (some ⟨b,0,none⟩) n cap) (xs++[q]).length ((xs++[q]).flatMap cells):=jH h.own fun g hgo=>by
  have e:b=g:=by simpa[Value.ownBlock] using hgo
  rw[<-e];exact hb1
 have hlen:(xs++[q]).length=n:=by simp[hn]
 rw[hlen]at own1;obtain⟨Zp,hg2⟩:=own1.stored j u;rw[hset]at Zp;obtain⟨ht1,ht2⟩:=PQ h.two;have h2s:∀g,g≠b->(w1.setCell ⟨b,j,none⟩ u).heap[g]?=w1.heap[g]?:=fun g hne=>Below.heap_setCell w1 _ u g hne;refine⟨by simpa[hn] using Zp,fun p hp=>?_,fun p hp g hi=>?_,GK ht1 fun p hp g hi hi'=>?_⟩
 ·rcases VE.1 hp with hp|hp
  ·have hkp:=h.kid p (by simp[hp]);refine kd.heap w _ base p hkp (Vz hg.size hg2.size) fun g hi=>?_;have hl:=(kd.lt w base p hkp g hi).2;rw[h2s g (fun e=>h.head p (by simp[hp]) g hi (by rw[e];rfl))];exact hg.block g hl (fun e=>ht2 p hp g hi (hrow g e.symm))
  rw[VD]at hp;subst hp;exact kd.heap w1 _ base _ hq' hg2.size fun g hi=>h2s g (hq'b g hi)
 ·intro e;have e:b=g:=by simpa[Value.ownBlock] using e
  rcases VE.1 hp with hp|hp
  ·exact h.head p (by simp[hp]) g hi (by rw[<-e];rfl)
  rw[VD]at hp;subst hp;exact hq'b g hi e.symm
 rcases hI g hi' with h2|h2
 ·exact ht2 p hp g hi h2
 exact h2.2 p hp hi
end
structure NodM(w:World)(base:Nat)(v:Value)(qs:Q08):Prop where
 own:w.ownsRow base 43 5 v qs.length (jQ qs)
 zA:∀q∈qs,q.e.allow≠[]->∃g,q.adA=some ⟨g,0,none⟩
 zK:∀q∈qs,q.e.kids≠[]->∃g,q.adK=some ⟨g,0,none⟩
 ok:∀q∈qs,q.ok w
 lie:∀q∈qs,∀g,qc q g->base<=g/\g<w.heap.size/\jb w g/\v.ownBlock≠some g
 one:∀q∈qs,∀g,bA q g->¬bK q g
 two:∀(x y:Nat) (hx:x<qs.length) (hy:y<qs.length),x≠y->∀g,qc qs[x] g->¬qc qs[y] g
 cA:∀q∈qs,q.e.allow.length<=q.capA
theorem NodM.mono{w:ae}{base base':Nat}{v:Value}{qs:Q08}(h:NodM w base v qs)(hb:base'<=base):NodM w base' v qs :=
 ⟨⟨h.own.1,by
  rcases h.own.2 with hl|⟨g,cap,cur,e,h1,h2⟩
  ·exact .inl hl
  exact .inr ⟨g,cap,cur,e,Vz hb h1,h2⟩⟩,h.zA,h.zK,h.ok,fun q hq g hg=>⟨Vz hb (h.lie q hq g hg).1,(h.lie q hq g hg).2⟩,h.one,h.two,h.cA⟩
def RR.vs(q:RR):Value:=.slice q.ad q.rows.length q.cap
def TR.vs(q:TR):Value:=.slice q.ad q.rows.length q.cap
def kR(w:World)(base:Nat)(q:RR):Prop:=NodM w base q.vs q.rows
def iR(q:RR):Nat->Prop:=GJ qc q.vs q.rows
theorem JC:Kid kR iR where
 heap w w' base q h hs hh:={
  own:=jH h.own fun g hg=>hh g (.inl hg)
  zA:=h.zA
  zK:=h.zK
  ok:=fun x hx=>rP (h.ok x hx) hs (h.zA x hx) (h.zK x hx) fun g hg=>hh g (.inr ⟨x,hx,hg⟩)
  lie:=fun x hx g hg=>by
   obtain⟨a1,a2,a3,a4⟩:=h.lie x hx g hg;exact⟨a1,Vq a2 hs,cO a3 (hh g (.inr ⟨x,hx,hg⟩)),a4⟩
  one:=h.one
  two:=h.two
  cA:=h.cA }
 lt w base q h g hg:=by
  rcases hg with hg|⟨x,hx,hg⟩
  ·exact h.own.lt g hg
  exact⟨(h.lie x hx g hg).1,(h.lie x hx g hg).2.1⟩
def RR.cells(q:RR):List Value:=[.string q.name,q.vs]
def TR.cells(q:TR):List Value:=[.string q.name,q.vs]
abbrev Cq:=WW 39 2 RR.cells kR iR
def kT(w:World)(base:Nat)(q:TR):Prop:=Cq w base q.vs q.rows
def iT(q:TR):Nat->Prop:=GJ iR q.vs q.rows
theorem nI:Kid kT iT where
 heap w w' base q h hs hh:=WW.heap JC h hs hh
 lt w base q h g hg:=WW.lt JC h hg
abbrev iE:=WW 36 2 TR.cells kT iT
theorem rU{α:Type}{cells:α->List Value}(h2:∀q,(cells q).length=2):∀(rs:List α) (i:Nat) (h:i<rs.length) (j:Nat),j<2->(rs.flatMap cells)[i*2+j]?=(cells rs[i])[j]?
 | [],i,h,_,_=>by simp at h
 | r::rs,0,_,j,hj=>by
  simp only[VX,Nat.zero_mul,VQ,List.getElem_cons_zero];rw[Wt (by rw[h2];exact hj)]
 | r::rs,i+1,h,j,hj=>by
  have:=rU h2 rs i (by simpa using h) j hj;simp only[VX,List.getElem_cons_succ];rw[Wq (by rw[h2];omega),h2,<-this];congr 1;omega
theorem pu{α:Type}{cells:α->List Value}(h2:∀q,(cells q).length=2):∀(rs:List α),(rs.flatMap cells).length=rs.length*2
 | []=>rfl
 | r::rs=>by simp only[VX,Vx,h2,pu h2 rs,VS];omega
theorem Ub{w:ae}{base:Nat}{q:TR}(h:kT w base q):O4 w q.ad q.rows:=by
 by_cases hz:q.rows=[]
 ·exact .inl hz
 rcases h.own.2 with⟨-,h0⟩|⟨g,cap,cur,e,-⟩
 ·exact absurd (VM.1 h0) hz
 have h3:=h.own;unfold TR.vs at e h3;injection e with e1 e2 e3;rw[e1]at h3;refine .inr ⟨g,0,e1,(h3.lt g rfl).2,fun i hi=>?_,fun r hr=>?_⟩
 ·have hl:(q.rows.flatMap RR.cells).length=q.rows.length*2:=pu (fun _=>rfl) _;have key:∀j,j<2->w.cell? ⟨g,0+i*2+j,none⟩=(RR.cells q.rows[i])[j]?:=fun j hj=>by
   rw[h3.cellAt (0+i*2+j) (by omega),<-rU (fun _=>rfl) q.rows i hi j hj,VQ]
  exact⟨key 0 (by omega),key 1 (by omega)⟩
 have hk:=h.kid r hr;obtain⟨ad,cap',e4,hsl⟩:=Tv hk.own rfl hk.ok;unfold RR.vs at e4;injection e4 with e5 e6 e7;show jw w r.ad r.rows;rw[e5];exact hsl
theorem PR{w:ae}{base size n cap:Nat}{e:TypeId}{ad:Q02}{xs:Q03}(h:w.ownsRow base e size (.slice ad n cap) n xs):n<=cap:=by
 rcases h.2 with⟨e1,h0⟩|⟨g,cap',cur,e1,-,-,hnc,-⟩
 ·injection e1 with _ e2 e3;omega
 injection e1 with _ e2 e3;omega
theorem iE.read{w:ae}{base:Nat}{v:Value}{rs:Q06}(h:iE w base v rs):∃ad cap,v=.slice ad rs.length cap/\mP w ad rs/\∀r∈rs,r.caps:=by
 have hc:∀r∈rs,r.caps:=fun r hr=>⟨PR (h.kid r hr).own,fun q hq=>⟨PR ((h.kid r hr).kid q hq).own,((h.kid r hr).kid q hq).cA⟩⟩;rcases h.own.2 with⟨rfl,h0⟩|⟨g,cap,cur,rfl,-⟩
 ·exact⟨none,0,by rw[h0],.inl (VM.1 h0),hc⟩
 have h3:=h.own;refine⟨some ⟨g,0,none⟩,cap,rfl,.inr ⟨g,0,rfl,(h3.lt g rfl).2,fun i hi=>?_,fun r hr=>Ub (h.kid r hr)⟩,hc⟩;have hl:(rs.flatMap TR.cells).length=rs.length*2:=pu (fun _=>rfl) _;have key:∀j,j<2->w.cell? ⟨g,0+i*2+j,none⟩=(TR.cells rs[i])[j]?:=fun j hj=>by
  rw[h3.cellAt (0+i*2+j) (by omega),<-rU (fun _=>rfl) rs i hi j hj,VQ]
 exact⟨key 0 (by omega),key 1 (by omega)⟩
section
variable  {α:Type}{T:TypeId}{size:Nat}{cells:α->List Value}{K:World->Nat->α->Prop}{I:α->Nat->Prop}{w w':World}{base:Nat}{v:Value}
theorem Ao{q q':α}{rs:List α}(hI:∀g,I q' g->I q g)(h:∀(x y:Nat) (hx:x<(q::rs).length) (hy:y<(q::rs).length),x≠y->∀g,I (q::rs)[x] g->¬I (q::rs)[y] g):
  ∀(x y:Nat) (hx:x<(q'::rs).length) (hy:y<(q'::rs).length),x≠y->∀g,I (q'::rs)[x] g->¬I (q'::rs)[y] g:=by
 intro x y hx hy hxy g h1 h2;cases x with
 | zero =>
  cases y with
  | zero=>exact hxy rfl
  | succ y=>exact h 0 (y+1) (by simp) (by simpa using hy) (by omega) g (hI g h1) h2
 | succ x =>
  cases y with
  | zero=>exact h (x+1) 0 (by simpa using hx) (by simp) (by omega) g h1 (hI g h2)
  | succ y=>exact h (x+1) (y+1) (by simpa using hx) (by simpa using hy) hxy g h1 h2
theorem WW.first(kd:Kid K I){q q':α}{rs:List α}{b n cap j:Nat}{u:Value}(h:WW T size cells K I w base (.slice (some ⟨b,0,none⟩) n cap) (q::rs))(hn:n=rs.length+1)
  (hq':∀w,K w base q->K w base q') (hI:∀g,I q' g->I q g) (hset:((q::rs).flatMap cells).set j u=(q'::rs).flatMap cells) :
  WW T size cells K I (w.setCell ⟨b,j,none⟩ u) base (.slice (some ⟨b,0,none⟩) n cap) (q'::rs):=by
 have own1:w.ownsRow base T size (.slice (some ⟨b,0,none⟩) n cap) n ((q::rs).flatMap cells):=by have:=h.own;rwa [show(q::rs).length=n by simp[hn]]at this
 obtain⟨Zp,hg2⟩:=own1.stored j u;rw[hset]at Zp;have hne:∀p∈q::rs,∀g,I p g->g≠b:=fun p hp g hi e=>h.head p hp g hi (by rw[e];rfl);have keep:∀p∈q::rs,K (w.setCell ⟨b,j,none⟩ u) base p:=fun p hp=>kd.heap w _ base p (h.kid p hp) hg2.size fun g hi=>Below.heap_setCell w _ u g (hne p hp g hi);refine⟨by simpa[hn] using Zp,fun p hp=>?_,fun p hp g hi=>?_,Ao hI h.two⟩
 ·rcases VH.1 hp with rfl|hp
  ·exact hq' _ (keep q (by simp))
  exact keep p (by simp[hp])
 rcases VH.1 hp with rfl|hp
 ·exact h.head q (by simp) g (hI g hi)
 exact h.head p (by simp[hp]) g hi
theorem WW.firstIn(kd:Kid K I){q q':α}{rs:List α}(h:WW T size cells K I w base v (q::rs))(hs:w.heap.size<=w'.heap.size)(hh:∀g,¬I q g->w'.heap[g]?=w.heap[g]?)(hc:cells q'=cells q)(hk:K w' base q')(hI:∀g,I q' g->I q g):
  WW T size cells K I w' base v (q'::rs):=by
 refine⟨?_,fun p hp=>?_,fun p hp g hi=>?_,Ao hI h.two⟩
 ·have h1:=jH (w':=w') h.own fun g hg=>hh g fun hi=>h.head q (by simp) g hi hg;simpa[List.flatMap_cons,hc] using h1
 ·rcases VH.1 hp with rfl|hp
  ·exact hk
  refine kd.heap w w' base p (h.kid p (by simp[hp])) hs fun g hi=>hh g fun hq=>?_;obtain⟨i,hi2,rfl⟩:=Wl hp;exact h.two 0 (i+1) (by simp) (by simp;omega) (by omega) g hq hi
 rcases VH.1 hp with rfl|hp
 ·exact h.head q (by simp) g (hI g hi)
 exact h.head p (by simp[hp]) g hi
end
def ER.asK(x:ER)(k:Int):ER:={ x with e:={ x.e with kind:=k } }
theorem NodM.kind{w:ae}{base b n cap:Nat}{x:ER}{xs:Q08}(k:Int)(h:NodM w base (.slice (some ⟨b,0,none⟩) n cap) (x::xs))(hn:n=xs.length+1):NodM (w.setCell ⟨b,0,none⟩ (.int .i64 k)) base (.slice (some ⟨b,0,none⟩) n cap) (x.asK k::xs):=by
 have own1:w.ownsRow base 43 5 (.slice (some ⟨b,0,none⟩) n cap) n (jQ (x::xs)):=by have:=h.own;rwa [show(x::xs).length=n by simp[hn]]at this
 obtain⟨Zp,hg2⟩:=own1.stored 0 (.int .i64 k);have hset:(jQ (x::xs)).set 0 (.int .i64 k)=jQ (x.asK k::xs):=by simp[jQ,ER.row,ER.asK]
 rw[hset]at Zp;have hb:∀q∈x::xs,∀g,qc q g->g≠b:=fun q hq g hg e=>(h.lie q hq g hg).2.2.2 (by rw[e];rfl);have hsame:∀g,g≠b->(w.setCell ⟨b,0,none⟩ (.int .i64 k)).heap[g]?=w.heap[g]?:=fun g hg=>Below.heap_setCell w _ _ g hg;have hall:∀{P:ER->Prop},(∀q∈x::xs,P q)->(P x->P (x.asK k))->∀q∈x.asK k::xs,P q:=fun hP hx q hq=>by
  rcases VH.1 hq with rfl|hq
  ·exact hx (hP x (by simp))
  exact hP q (by simp[hq])
 refine ⟨by simpa [hn] using Zp,hall h.zA id,hall h.zK id,hall (P:=fun q=>q.ok _) (fun q hq=>rP (h.ok q hq) hg2.size (h.zA q hq) (h.zK q hq) fun g hg=>hsame g (hb q hq g hg)) id,hall (P:=fun q=>∀ g,qc q g->base<=g/\g<(w.setCell ⟨b,0,none⟩ (.int .i64 k)).heap.size/\jb (w.setCell ⟨b,0,none⟩ (.int .i64 k)) g/\_) (fun q hq g hg=>by
  obtain⟨a1,a2,a3,a4⟩:=h.lie q hq g hg;exact⟨a1,Vq a2 hg2.size,cO a3 (hsame g (hb q hq g hg)),a4⟩) id,hall h.one id,?_,hall h.cA id⟩
 exact Ao (I:=qc) (q:=x) (q':=x.asK k) (fun g hg=>hg) h.two
theorem iE.named{w:ae}{base b n cap:Nat}{t:TR}{ts:Q06}(nm:bQ)(h:iE w base (.slice (some ⟨b,0,none⟩) n cap) (t::ts))(hn:n=ts.length+1):iE (w.setCell ⟨b,0,none⟩ (.string nm)) base (.slice (some ⟨b,0,none⟩) n cap) (({ t with name:=nm }:TR)::ts) :=
 WW.first nI h hn (fun w hk=>hk) (fun g hg=>hg) (by simp[TR.cells,TR.vs])
def TR.asK(t:TR)(q:RR)(qs:Q07)(x:ER)(xs:Q08)(k:Int):TR:={ t with rows:={ q with rows:=x.asK k::xs }::qs }
theorem iE.kind{w:ae}{base b:Nat}{v:Value}{t:TR}{ts:Q06}{q:RR}{qs:Q07}{x:ER}{xs:Q08}(k:Int)(h:iE w base v (t::ts))(ht:t.rows=q::qs)(hq:q.rows=x::xs)(hb:q.ad=some ⟨b,0,none⟩):
  iE (w.setCell ⟨b,0,none⟩ (.int .i64 k)) base v (t.asK q qs x xs k::ts):=by
 have hkt:=h.kid t (by simp);have hR:Cq w base t.vs (q::qs):=by have:=hkt;unfold kT at this;rwa [ht]at this
 have hkq:=hR.kid q (by simp);have hN:NodM w base q.vs (x::xs):=by have:=hkq;unfold kR at this;rwa [hq]at this
 have hvq:q.vs=.slice (some ⟨b,0,none⟩) (xs.length+1) q.cap:=by unfold RR.vs;rw[hb,hq];rfl
 rw[hvq]at hN;have hN2:=hN.kind k rfl;have hsz:w.heap.size<=(w.setCell ⟨b,0,none⟩ (.int .i64 k)).heap.size:=by simp
 have hsame:∀g,g≠b->(w.setCell ⟨b,0,none⟩ (.int .i64 k)).heap[g]?=w.heap[g]?:=fun g hg=>Below.heap_setCell w _ _ g hg;have hib:iR q b:=.inl (by rw[hvq];rfl);have hvq2:({ q with rows:=x.asK k::xs }:RR).vs=q.vs:=by unfold RR.vs;rw[hq];rfl
 have hiR:∀g,iR { q with rows:=x.asK k::xs } g->iR q g:=fun g hg=>by
  rcases hg with hg|⟨y,hy,hg⟩
  ·exact .inl (by rw[<-hvq2];exact hg)
  rcases VH.1 hy with rfl|hy
  ·exact .inr ⟨x,by rw[hq];simp,hg⟩
  exact .inr ⟨y,by rw[hq];simp[hy],hg⟩
 have hR2:Cq (w.setCell ⟨b,0,none⟩ (.int .i64 k)) base t.vs ({ q with rows:=x.asK k::xs }::qs):=WW.firstIn JC hR hsz (fun g hg=>hsame g fun e=>hg (by rw[e];exact hib)) (by unfold RR.cells;rw[hvq2]) (by show NodM _ _ _ _;rw[hvq2,hvq];exact hN2) hiR;have hvt:(t.asK q qs x xs k).vs=t.vs:=by unfold TR.vs TR.asK;rw[ht];rfl
 have hit:iT t b:=.inr ⟨q,by rw[ht];simp,hib⟩;refine WW.firstIn nI h hsz (fun g hg=>hsame g fun e=>hg (by rw[e];exact hit)) (by unfold TR.cells;rw[hvt];rfl) (by show Cq _ _ _ _;rw[hvt];exact hR2) fun g hg=>?_;rcases hg with hg|⟨y,hy,hg⟩
 ·exact .inl (by rw[<-hvt];exact hg)
 rcases VH.1 hy with rfl|hy
 ·exact .inr ⟨q,by rw[ht];simp,hiR g hg⟩
 exact .inr ⟨y,by rw[ht];simp[hy],hg⟩
set_option maxRecDepth 100000 in
theorem Cr(ad:Q02)(cap:Nat)(rs:Q08)(w:ae)(hlen:rs.length<=1048576)(hs:jw w ad rs)(hl:∀r∈rs,r.e.light)(hk:∀r∈rs,eT rs.length r.e.kids):
  Calls prog 260 #[.slice ad rs.length cap] w fun e w'=>e=.returned (.slice (some ⟨w.heap.size,0,none⟩) rs.length rs.length)/\Fil w w' w.heap.size rs.length (bools (dz (aj rs))):=by
 have HS:=aC hs;have HL:=aC hl;have HK:=aC hk;clear hs hl hk;obtain⟨inf,hi,hz0,hz1,hz2⟩:=info_parts zC;go_enter func260,ntmps260;go_wp2_with(at_make;refine wpList_make_full _ rfl _ _ 338 rfl w.heap.size 4 inf (.bool false) 1 underlying338 hi hz0 hz1 .i64 .i64 _ _ rs.length rfl rfl rfl rfl (by rw[hz2];omega) (by unfold maxLen;omega) (Vr _) ?_;intro w0 hown0 Yz);have HF0:Hid (Fil w w0 w.heap.size rs.length (bools (List.replicate rs.length false))):=by
  have:=CX (v:=.bool false) hown0 Yz;show Fil _ _ _ _ _;simpa[bools] using this
 clear hown0 Yz hi hz0 hz1 hz2;go_loopw[4] (fun i wr=>∃(m:Nat) (out:List Bool),m<=rs.length/\i=.int .i64 ((m:Int)-1)/\out.length=rs.length/\Hid (dX (aj rs) m out=dz (aj rs))/\Hid (Fil w wr w.heap.size rs.length (bools out))) (fun i _=>(intOf i+1).toNat);case atStart=>exact⟨rs.length,List.replicate rs.length false,Vr _,by go_num,by simp,(by show _=_;unfold dz;rw[aX]),HF0⟩
 obtain⟨m,out,hm,rfl,hol,HN,HF⟩:=hrel;by_cases hm0:0<m
 ·obtain⟨m,rfl⟩:∃m',m=m'+1:=⟨m-1,by omega⟩;have hmi:(((m+1:Nat):Int)-1)=(m:Int):=by omega
  rw[hmi];have hlt:m<rs.length:=by omega
  rcases HS.out.below HF.out.below with rfl|⟨b,off,rfl,hb,hr,hok⟩
  ·simp at hlt
  obtain⟨t0,t1,t2,t3,t4⟩:=hr m hlt;have XN:Hid (rs[m].ok _):=hok rs[m] (Vp hlt);have lg:=(HL.out rs[m] (Vp hlt)).2;have HKI:Hid (eT rs.length rs[m].e.kids):=HK.out rs[m] (Vp hlt);have hk1:=bC m;have hk2:(m:Int)<(rs.length:Int):=by omega
  have hbw:b<w.heap.size:=by
   rcases HS.out with h|⟨b',off',h1,h2,-⟩
   ·rw[h]at hlt;simp at hlt
   injection h1 with h1;injection h1 with h1;omega
  have HR:Hid (yz wr b (off+m*5) rs[m]):=hr m hlt;have HNX:Hid (dX (aj rs) m (bf m rs[m].e.kind rs[m].e.kids 0 out)=dz (aj rs)):=by
   show _=_;rw[<-HN.out,zD _ _ _ (by rw[aX];exact hlt)];simp[aj]
  clear hr hok t0 t1 t2 t3;go_wp2_with fail;clear t4;go_loopw[23] (fun i w2=>∃(j:Nat) (WN:List Bool),j<=rs[m].e.kids.length/\i=.int .i64 j/\WN.length=rs.length/\Hid (bf m rs[m].e.kind (rs[m].e.kids.drop j) j WN=bf m rs[m].e.kind rs[m].e.kids 0 out)/\Hid (Fil w w2 w.heap.size rs.length (bools WN))) (fun i _=>rs[m].e.kids.length-(intOf i).toNat);case atStart=>exact⟨0,out,Vv _,rfl,hol,rfl,HF⟩
  obtain⟨j,WN,hj,rfl,ho2,HJ,Yb⟩:=hrel;have hE2:jw wr _ rs:=HS.out.below Yb.out.below;have ht:yz wr b (off+m*5) rs[m]:=by
   rcases hE2 with h|⟨b',off',h1,h2,h3,-⟩
   ·exact absurd hlt (by rw[h];simp)
   injection h1 with h1;injection h1 with h1 h1';subst h1;subst h1';exact h3 m hlt
  obtain⟨t0,t1,t2,t3,t4⟩:=ht;by_cases hjl:j<rs[m].e.kids.length
  ·have hK2:wL wr rs[m].adK rs[m].e.kids:=(hE2.mem (Vp hlt)).2;rcases hK2 with hnil|⟨ba,Yx,Xl,ZT,hra⟩
   ·rw[hnil]at hjl;simp at hjl
   rw[Xl];have q0:=hra j hjl;have hj1:=bC j;have hj2:(j:Int)<(rs[m].e.kids.length:Int):=by omega
   obtain⟨x0,x1⟩:=HKI.out _ (Vp hjl);obtain⟨x,hx⟩:∃x:Nat,rs[m].e.kids[j]=(x:Int):=⟨rs[m].e.kids[j].toNat,by omega⟩;rw[hx]at q0 x0 x1;have c0:=Yb.out.done m (by simp[bools];omega);have fz:=Yb.out.free;obtain⟨v0,u0⟩:=Option.isSome_iff_exists.mp (Yb.out.there x (by omega));have hbr:b<wr.heap.size:=Vq hbw Yb.out.below.size;obtain⟨bo,hbo⟩:∃bo,bo=(bools WN)[m]'(by simp[bools];omega):=⟨_,rfl⟩;rw[<-hbo]at c0;clear hra Xl hE2 t1 t2 t3;have hm2:m<WN.length:=by omega
   have hbo1:bo=.bool WN[m]:=by rw[hbo];simp[bools]
   have hbo':WN[m]?.getD false=WN[m]:=by simp[hm2]
   rw[hbo1]at c0;clear hbo hbo1;cases hb0:WN[m];case true=>
    rw[hb0]at c0 hbo';have YA:Hid (Fil w (wr.setCell ⟨w.heap.size,x,none⟩ (.bool true)) w.heap.size rs.length (bools (WN.set x true))):=by show Fil _ _ _ _ _;rw[nR];exact Yb.out.set _ (by simp[bools];omega) (by omega)
    have HJ2:Hid (bf m rs[m].e.kind (rs[m].e.kids.drop (j+1)) (j+1) (WN.set x true)=bf m rs[m].e.kind rs[m].e.kids 0 out):=by
     show _=_;rw[<-HJ.out,jC _ _ _ _ _ hjl,hx];simp[*]
    go_wp2;go_roundw;case rel=>exact⟨j+1,WN.set x true,by omega,by go_num,by simp[ho2],HJ2,YA⟩
    simp[intOf]<;>omega
   rw[hb0]at c0 hbo';cases hkb:(rs[m].e.kind==6);case false=>
    have YA:Hid (Fil w (wr.setCell ⟨w.heap.size,x,none⟩ (.bool false)) w.heap.size rs.length (bools (WN.set x false))):=by show Fil _ _ _ _ _;rw[nR];exact Yb.out.set _ (by simp[bools];omega) (by omega)
    have HJ2:Hid (bf m rs[m].e.kind (rs[m].e.kids.drop (j+1)) (j+1) (WN.set x false)=bf m rs[m].e.kind rs[m].e.kids 0 out):=by
     show _=_;rw[<-HJ.out,jC _ _ _ _ _ hjl,hx];simp[*]
    go_wp2;go_roundw;case rel=>exact⟨j+1,WN.set x false,by omega,by go_num,by simp[ho2],HJ2,YA⟩
    simp[intOf]<;>omega
   cases hjb:((j:Int)==1);case true=>
    have hjn:(j==1)=true:=by simp at hjb⊢;omega
    have YA:Hid (Fil w (wr.setCell ⟨w.heap.size,x,none⟩ (.bool true)) w.heap.size rs.length (bools (WN.set x true))):=by show Fil _ _ _ _ _;rw[nR];exact Yb.out.set _ (by simp[bools];omega) (by omega)
    have HJ2:Hid (bf m rs[m].e.kind (rs[m].e.kids.drop (j+1)) (j+1) (WN.set x true)=bf m rs[m].e.kind rs[m].e.kids 0 out):=by
     show _=_;rw[<-HJ.out,jC _ _ _ _ _ hjl,hx];simp[*]
    go_wp2;go_roundw;case rel=>exact⟨j+1,WN.set x true,by omega,by go_num,by simp[ho2],HJ2,YA⟩
    simp[intOf]<;>omega
   have hjn:(j==1)=false:=by simp at hjb⊢;omega
   have YA:Hid (Fil w (wr.setCell ⟨w.heap.size,x,none⟩ (.bool false)) w.heap.size rs.length (bools (WN.set x false))):=by show Fil _ _ _ _ _;rw[nR];exact Yb.out.set _ (by simp[bools];omega) (by omega)
   have HJ2:Hid (bf m rs[m].e.kind (rs[m].e.kids.drop (j+1)) (j+1) (WN.set x false)=bf m rs[m].e.kind rs[m].e.kids 0 out):=by
    show _=_;rw[<-HJ.out,jC _ _ _ _ _ hjl,hx];simp[*]
   go_wp2;go_roundw;case rel=>exact⟨j+1,WN.set x false,by omega,by go_num,by simp[ho2],HJ2,YA⟩
   simp[intOf]<;>omega
  have Zl:Hid (dX (aj rs) m WN=dz (aj rs)):=by
   show _=_;rw[<-HNX.out,<-HJ.out,VN (by omega)];rfl
  go_wp2;go_roundw;case rel=>exact⟨m,WN,by omega,by go_num,ho2,Zl,Yb⟩
  simp[intOf]<;>omega
 obtain rfl:m=0:=by omega
 have YO:Hid (Fil w wr w.heap.size rs.length (bools (dz (aj rs)))):=by
  show Fil _ _ _ _ _;rw[<-HN.out];exact HF.out
 go_wp2;go_ret;exact⟨rfl,YO.out⟩
def Lr(es:Q09):Prop:=∀(i:Nat) (h:i<es.length),∀x∈es[i].kids,0<=x/\x<(i:Int)
theorem JD{es:Q09}(h:aK es=true):Lr es:=by
 intro i hi x hx;unfold aK at h;simp only[Vt,VF]at h;have h1:=h.1.1.2;unfold ja at h1;rw[VC]at h1;have h2:=h1 i (by simpa using hi);unfold kP dC at h2;rw[Vy hi]at h2;simp only[Option.map_some,Wd,VC,Vt,VF]at h2;have:=h2 x hx;omega
def hasB(ts:Q0b)(t r:ByteArray):Bool:=!(az ts t r).isEmpty
theorem uw{ts:Q0b}(h:aY ts=true){t:Ty}(ht:t∈ts){r:Rl}(hr:r∈t.rels):aP r.name=true/\aK r.expr=true:=by
 unfold aY at h;simp only[Vt]at h;obtain⟨j,hj,rfl⟩:=Wl ht;have h1:=o9 h.2 j hj;unfold kF at h1;rw[Vy hj]at h1;simp only[Vt]at h1;obtain⟨k,hk,rfl⟩:=Wl hr;have h2:=o8 h1.2 k hk;unfold mg at h2;rw[Vy hk]at h2;simp only[Vt]at h2;exact⟨h2.1.1,h2.2⟩
theorem Ap{ts:Q0b}{typ:ByteArray}:∀{es:Q09},aR ts typ es=true->∀e∈es,oP ts e.allow=true/\lG ts typ e=true
 | [],_,e,he=>by cases he
 | x::es,h,e,he=>by
  unfold aR at h;split at h
  ·rename_i hc;simp only[Vt]at hc;rcases VH.1 he with rfl|he
   ·exact hc
   exact Ap h e he
  cases h
theorem RU{ts:Q0b}(h:iq ts=true){t:Ty}(ht:t∈ts){r:Rl}(hr:r∈t.rels){e:Ex}(he:e∈r.expr):oP ts e.allow=true/\lG ts t.name e=true:=by
 have h1:=VC.1 h t ht;have h2:=VC.1 h1 r hr;exact Ap h2 e he
structure Fc where
 a:ByteArray
 b:ByteArray
 r:ByteArray
 c:ByteArray
 d:ByteArray
abbrev Q04:=List Fc
def Fc.u(f:Fc):ByteArray×ByteArray:=(f.c,f.d)
def xe(x y:Fc):Bool:=x.a.toList==y.a.toList&&x.b.toList==y.b.toList&&x.r.toList==y.r.toList&&x.c.toList==y.c.toList&&x.d.toList==y.d.toList
theorem Aq{x y:Fc}:xe x y=true↔x=y:=by
 constructor
 ·intro h;unfold xe at h;simp only[Vt,beq_iff_eq]at h;obtain⟨⟨⟨⟨h1,h2⟩,h3⟩,h4⟩,h5⟩:=h;cases x;cases y;simp only at h1 h2 h3 h4 h5;rw[fZ h1,fZ h2,fZ h3,fZ h4,fZ h5]
 rintro rfl;unfold xe;simp
def df(out:Q04)(f:Fc):Bool:=out.any fun g=>xe g f
theorem bY{out:Q04}{f:Fc}:df out f=true↔f∈out:=by
 unfold df;rw[VT];constructor
 ·rintro⟨g,hg,h⟩;rw[<-Aq.1 h];exact hg
 intro h;exact⟨f,h,Aq.2 rfl⟩
def GL(u:Q01)(x y:Q04):Prop:=∀g:Fc,g.u=u->(g∈x↔g∈y)
theorem xg{x y:Q04}{f:Fc}(h:GL f.u x y):df x f=df y f:=by
 rw[VL,bY,bY];exact h f rfl
def eG(l:Q05)(known:Q04)(f:Fc):Bool:=l.any fun t=>(t.a.toList==f.a.toList&&t.b.toList==f.b.toList&&t.r.toList==f.r.toList)&&(if t.s.toList.isEmpty then t.c.toList==f.c.toList&&t.d.toList==f.d.toList else df known ⟨t.c,t.d,t.s,f.c,f.d⟩)
def fQ(l:Q05)(known:Q04)(over name:ByteArray)(f:Fc):Bool:=l.any fun t=>(t.a.toList==f.a.toList&&t.b.toList==f.b.toList&&t.r.toList==over.toList)&&df known ⟨t.c,t.d,name,f.c,f.d⟩
def dK(l:Q05)(es:Q09)(truth:Q04)(f:Fc):Nat->List Fc->Nat->Bool
 | 0,_,_=>false
 | k+1,known,n=>match es[n]? with
  | none=>false
  | some x =>
   if x.kind=1 then eG l known f
   else if x.kind=2 then df known ⟨f.a,f.b,x.name,f.c,f.d⟩
   else if x.kind=3 then fQ l known x.over x.name f
   else if x.kind=4 then x.kids.any fun i=>dK l es truth f k known i.toNat
   else if x.kind=5 then x.kids.all fun i=>dK l es truth f k known i.toNat
   else if x.kind=6 then dK l es truth f k known (x.kids.getD 0 0).toNat && !dK l es truth f k truth (x.kids.getD 1 0).toNat
   else false
theorem JE{l:Q05}{x y:Q04}{f:Fc}(h:GL f.u x y):eG l x f=eG l y f:=by
 unfold eG;congr 1
 funext t
 rw[xg (x:=x) (y:=y) (f:=⟨t.c,t.d,t.s,f.c,f.d⟩) h]
theorem JF{l:Q05}{x y:Q04}{ov nm:ByteArray}{f:Fc}(h:GL f.u x y):fQ l x ov nm f=fQ l y ov nm f:=by
 unfold fQ;congr 1
 funext t
 rw[xg (x:=x) (y:=y) (f:=⟨t.c,t.d,nm,f.c,f.d⟩) h]
theorem uy{l:Q05}{es:Q09}{f:Fc}{t1 t2:Q04}(ht:GL f.u t1 t2):∀(k:Nat) (x y:Q04) (n:Nat),GL f.u x y->dK l es t1 f k x n=dK l es t2 f k y n
 | 0,_,_,_,_=>rfl
 | k+1,x,y,n,h=>by
  unfold dK;cases es[n]? with
  | none=>rfl
  | some e =>
   simp only[JE h,xg (x:=x) (y:=y) (f:=⟨f.a,f.b,e.name,f.c,f.d⟩) h,JF h,uy ht k x y _ h,uy ht k t1 t2 _ ht]
def fu(ts:Q0b)(l:Q05)(out:Q04)(f:Fc):Bool:=dK l (az ts f.a f.r) out f (az ts f.a f.r).length out ((az ts f.a f.r).length-1)
theorem Dn(ts:Q0b)(l:Q05):Loc Fc.u (fu ts l):=fun x y f h=>uy h _ x y _ h
def Ar(ts:Q0b)(st:Q00)(n:Int)(o:Al):List (ByteArray×ByteArray):=(ak ts).filter fun k=>k.1.toList==o.t.toList&&decide (st k=n)
def jc(o:Al)(rel:ByteArray)(xu:Q0a):List Fc:=xu.map fun u=>⟨o.t,o.s,rel,u.t,u.s⟩
def vC(ts:Q0b)(st:Q00)(xu:Q0a)(n:Int)(o:Al):List Fc:=(Ar ts st n o).flatMap fun k=>jc o k.2 xu
def bF(ts:Q0b)(st:Q00)(xo xu:Q0a)(n:Int):List Fc:=xo.flatMap (vC ts st xu n)
theorem JG{ts:Q0b}{st:Q00}{xo xu:Q0a}{n:Int}{f:Fc}(h:f∈bF ts st xo xu n):f.u∈xu.map fun u=>(u.t,u.s):=by
 unfold bF vC jc at h;obtain⟨o,-,h⟩:=VJ.1 h;obtain⟨k,-,h⟩:=VJ.1 h;obtain⟨u,hu,rfl⟩:=VG.1 h;exact VG.2 ⟨u,hu,rfl⟩
theorem GM(ts:Q0b)(st:Q00)(xo xu:Q0a)(n:Int)(p:ByteArray×ByteArray->Bool):(bF ts st xo xu n).filter (fun f=>p f.u)=bF ts st xo (xu.filter fun u=>p (u.t,u.s)) n:=by
 unfold bF vC jc;rw[List.filter_flatMap];congr 1
 funext o
 rw[List.filter_flatMap];congr 1
 funext k
 rw[List.filter_map];rfl
theorem JH{ts:Q0b}{st:Q00}{xo xu:Q0a}{n:Int}(h:∀k∈ak ts,st k≠n):bF ts st xo xu n=[]:=by
 have:∀o,Ar ts st n o=[]:=fun o=>by
  unfold Ar;rw[List.filter_eq_nil_iff];intro k hk;simp[h k hk]
 unfold bF vC;simp[this]
section
variable  [DecidableEq Fc]
def kV(ts:Q0b)(l:Q05)(st:Q00)(xo xu:Q0a)(N:Nat):List Fc:=(List.range N).foldl (fun out (n:Nat)=>kz (fu ts l) (bF ts st xo xu (n:Int)) out) []
theorem iw(ts:Q0b)(l:Q05)(st:Q00)(xo xu:Q0a)(N:Nat):kV ts l st xo xu (N+1)=kz (fu ts l) (bF ts st xo xu (N:Int)) (kV ts l st xo xu N):=by
 unfold kV;rw[List.range_succ,List.foldl_append];rfl
theorem MN{ts:Q0b}{l:Q05}{st:Q00}{xo xu:Q0a}{N:Nat}(h:∀k∈ak ts,st k<(N:Int)):∀M,N<=M->kV ts l st xo xu M=kV ts l st xo xu N:=by
 intro M hM;obtain⟨d,rfl⟩:∃d,M=N+d:=⟨M-N,by omega⟩
 induction d with
 | zero=>rfl
 | succ d ih =>
  rw[Nat.add_succ,iw,ih (by omega),JH fun k hk=>by have:=h k hk;omega];exact OV _
theorem Dq(ts:Q0b)(l:Q05)(st:Q00)(xo xu:Q0a):∀N,(kV ts l st xo xu N).Nodup
 | 0=>List.nodup_nil
 | N+1=>by rw[iw];exact Mf _ (Dq ts l st xo xu N)
end
open Maps
def MO(w:World)(b off:Nat)(t:Fc):Prop :=
 w.cell? ⟨b,off,none⟩=some (.string t.a)/\w.cell? ⟨b,off+1,none⟩=some (.string t.b)/\w.cell? ⟨b,off+2,none⟩=some (.string t.r)/\w.cell? ⟨b,off+3,none⟩=some (.string t.c)/\w.cell? ⟨b,off+4,none⟩=some (.string t.d)
def Vm(w:World)(b off:Nat)(ts:Q04):Prop:=∀(i:Nat) (h:i<ts.length),MO w b (off+i*5) ts[i]
def Au(w:World)(ad:Q02)(ts:Q04):Prop:=ts=[] \/ ∃b off,ad=some ⟨b,off,none⟩/\b<w.heap.size/\Vm w b off ts
theorem MO.same{w w':ae}{b off:Nat}{t:Fc}(h:MO w b off t)(hc:∀o,w'.cell? ⟨b,o,none⟩=w.cell? ⟨b,o,none⟩):MO w' b off t:=by
 obtain⟨h0,h1,h2,h3,h4⟩:=h;exact⟨(hc _).trans h0,(hc _).trans h1,(hc _).trans h2,(hc _).trans h3,(hc _).trans h4⟩
theorem Au.below{w w':ae}{ad:Q02}{ts:Q04}(h:Au w ad ts)(hB:ag w w'):Au w' ad ts:=by
 rcases h with h|⟨b,off,e,hb,hr⟩
 ·exact .inl h
 exact .inr ⟨b,off,e,Vq hb hB.size,fun i hi=>(hr i hi).same fun o=>hB.cell (p:=⟨b,o,none⟩) hb⟩
def Fc.row(t:Fc):List Value:=[.string t.a,.string t.b,.string t.r,.string t.c,.string t.d]
theorem JI(x y:Fc){v:Bool}(h:xe x y=v)(w:ae):
  (binOp .eql 52 (.agg #[.string x.a,.string x.b,.string x.r,.string x.c,.string x.d]) (.agg #[.string y.a,.string y.b,.string y.r,.string y.c,.string y.d])).run prog w=.ok (.bool v) w:=by
 subst h;go_simp;unfold xe
 (repeat' split)<;>simp_all
theorem Dr{ts:Q04}{k:Nat}(h:k<ts.length){t:Fc}:df (ts.drop k) t=(xe ts[k] t || df (ts.drop (k+1)) t):=by
 unfold df;rw[VZ h];rfl
theorem vD{x y:Al}:jV x y=true↔x=y:=by
 unfold jV;simp only[Vt,beq_iff_eq];constructor
 ·rintro⟨h0,h1⟩;obtain⟨xa,xb⟩:=x;obtain⟨ya,yb⟩:=y;simp only at h0 h1;rw[jK h0,jK h1]
 rintro rfl;simp
theorem Dt(x y:Al):jV x y=jV y x:=by
 rw[VL,vD,vD];exact⟨Eq.symm,Eq.symm⟩
theorem PS(x y:Al){v:Bool}(h:jV x y=v)(w:ae):
  (binOp .eql 27 (.agg #[.string x.t,.string x.s]) (.agg #[.string y.t,.string y.s])).run prog w=.ok (.bool v) w:=by
 subst h;go_simp;unfold jV
 (repeat' split)<;>simp_all
def mR(xs:Q0a)(o:Al):Bool:=xs.any fun x=>jV x o
theorem PT{xs:Q0a}{o:Al}:mR xs o=true↔o∈xs:=by
 unfold mR;rw[VT];constructor
 ·rintro⟨x,hx,e⟩;rw[<-vD.1 e];exact hx
 intro h;exact⟨o,h,vD.2 rfl⟩
theorem MP{xs:Q0a}{o:Al}{k:Nat}(h:k<xs.length):mR (xs.take (k+1)) o=(mR (xs.take k) o || jV xs[k] o):=by
 rw[Vu h];unfold mR;rw[List.any_append];simp only[List.any_cons,List.any_nil,Bool.or_false]
theorem PU{xs:Q0a}{o:Al}{k:Nat}(h:k<xs.length)(he:jV xs[k] o=true):mR xs o=true:=VT.2 ⟨xs[k],Vp h,he⟩
theorem JJ(ad:Q02)(cap:Nat)(ts:Q0a)(t:Al)(w:ae)(hlen:ts.length<=1048576)(hs:lu w ad ts):
  Calls prog 308 #[.slice ad ts.length cap,.agg #[.string t.t,.string t.s]] w fun e w'=>(∃r:Int,e=.returned (.int .i64 r)/\decide (0<=r)=mR ts t)/\ag w w':=by
 obtain⟨W,hW⟩:∃W,W=w.alloc (.cells #[.string t.t,.string t.s] 27):=⟨_,rfl⟩;have HB0:Hid (ag w W):=by show Below _ _ _;rw[hW];exact(Vs w.heap.size w).alloc (Vr _) _
 have hz:w.heap.size<W.heap.size:=by rw[hW];simp
 have b0:W.cell? ⟨w.heap.size,0,none⟩=some (.string t.t):=by rw[hW];simp
 have b1:W.cell? ⟨w.heap.size,1,none⟩=some (.string t.s):=by rw[hW];simp
 have HS:=aC (hs.below HB0.out);clear hs;go_enter func308,ntmps308;go_wp2_with fail;rw[<-hW];clear hW;go_loopw[8] (fun i wr=>∃k:Nat,k<=ts.length/\i=.int .i64 k/\Hid (mR (ts.take k) t=false)/\ag W wr) (fun i _=>ts.length-(intOf i).toNat);case atStart=>exact⟨0,Vv _,rfl,rfl,Vs _ _⟩
 obtain⟨k,hk,rfl,HP,hB⟩:=hrel;have a0:=bW hB hz b0;have a1:=bW hB hz b1;by_cases hlt:k<ts.length
 ·rcases HS.out.below hB with hnil|⟨b,off,rfl,hb,hr⟩
  ·rw[hnil]at hlt;simp at hlt
  obtain⟨t0,t1⟩:=hr k hlt;have hk1:=bC k;have hk2:(k:Int)<(ts.length:Int):=by omega
  clear hr;cases hq:jV t ts[k];case true=>
   have HE:=PS t ts[k] hq;have HN:Hid (mR ts t=true):=PU hlt (by rw[Dt];exact hq);go_wp2_with fail;go_quiet (fail);go_wp2;go_ret;exact⟨⟨_,rfl,by rw[HN.out];simp⟩,HB0.out.trans (below_drewN (hB.mono HB0.out.size) _)⟩
  have HE:=PS t ts[k] hq;have WQ:Hid (mR (ts.take (k+1)) t=false):=by show _=_;rw[MP hlt,HP.out,Dt,hq];rfl
  go_wp2_with fail;go_quiet (fail);go_wp2;go_roundw;case rel=>exact⟨k+1,by omega,by go_num,WQ,below_drewN hB _⟩
  simp[intOf]<;>omega
 obtain rfl:k=ts.length:=by omega
 have HN:Hid (mR ts t=false):=by have:=HP.out;rw[VI]at this;exact this
 go_wp2;go_ret;exact⟨⟨-1,rfl,by rw[HN.out];rfl⟩,HB0.out.trans (hB.mono HB0.out.size)⟩
theorem Cs(ad:Q02)(cap:Nat)(ts:Q0a)(t:Al)(w:ae)(hlen:ts.length<=1048576)(hs:lu w ad ts):
  Calls prog 268 #[.slice ad ts.length cap,.agg #[.string t.t,.string t.s]] w fun e w'=>e=.returned (.bool (mR ts t))/\ag w w':=by
 have HB0:Hid (ag w (w.alloc (.cells #[.string t.t,.string t.s] 27))):=(Vs w.heap.size w).alloc (Vr _) _;have HS:=aD hs;clear hs;go_enter func268,ntmps268;go_wp2_with fail;refine(JJ ad cap ts t _ hlen (HS.out.below HB0.out)).mono ?_;rintro e w1 ⟨⟨r,rfl,hr⟩,hb1⟩;have HR:=aD hr;have HB1:=aD (HB0.out.trans (hb1.mono HB0.out.size));clear hr hb1;go_wp2;go_ret;exact⟨ah HR.out,HB1.out⟩
def eu(xs:Q0a)(o:Al):List Al:=if mR xs o then xs else xs++[o]
theorem Av:∃i,prog.info? 27=some i/\i.zero=some (.agg #[.string ⟨#[]⟩,.string ⟨#[]⟩])/\i.size=2/\i.bytes=32 :=
 info_parts (P:=prog) (e:=27) (z:=.agg #[.string ⟨#[]⟩,.string ⟨#[]⟩]) (size:=2) (bytes:=32) (by kernel_rfl)
theorem mh{w:ae}{base:Nat}{v:Value}{xs:Q0a}(h:w.ownsRow base 27 2 v xs.length (pairs xs)):∃ad cap,v=.slice ad xs.length cap/\lu w ad xs:=by
 rcases h.2 with⟨rfl,h0⟩|⟨g,cap,cur,rfl,hbg,hg,hnc,-⟩
 ·exact⟨none,0,by rw[h0],.inl (VM.1 h0)⟩
 refine⟨_,cap,rfl,.inr ⟨g,0,rfl,(h.lt g rfl).2,fun i hi=>?_⟩⟩;obtain⟨h0,h1⟩:=uP xs i hi;have hl:=rJ xs;refine⟨?_,?_⟩
 ·rw[h.cellAt (0+i*2) (by omega),VQ];exact h0
 rw[h.cellAt (0+i*2+1) (by omega),VQ];exact h1
theorem mi(B:Nat)(v:Value)(xs:Q0a)(o:Al)(w:ae)(hlen:xs.length<=1000)(hB:B<=w.heap.size)(hown:w.ownsRow B 27 2 v xs.length (pairs xs)):
  Calls prog 200 #[v,.agg #[.string o.t,.string o.s]] w fun e w'=>∃v',e=.returned v'/\w'.ownsRow B 27 2 v' (eu xs o).length (pairs (eu xs o))/\Aside w v w' v'/\∀B',(∀g,v.ownBlock=some g->B'<=g)->B'<=w.heap.size->Below B' w w':=by
 obtain⟨iO,h0,h1,h2,h3⟩:=Av;have Zq:=aD (And.intro h0 (And.intro h1 (And.intro h2 h3)));obtain⟨ad,cap,rfl,hsl⟩:=mh hown;obtain⟨W,hW⟩:∃W,W=w.alloc (.cells #[.string o.t,.string o.s] 27):=⟨_,rfl⟩;have HB0:Hid (ag w W):=by show Below _ _ _;rw[hW];exact(Vs w.heap.size w).alloc (Vr _) _
 have hz:w.heap.size<W.heap.size:=by rw[hW];simp
 have b0:W.cell? ⟨w.heap.size,0,none⟩=some (.string o.t):=by rw[hW];simp
 have b1:W.cell? ⟨w.heap.size,1,none⟩=some (.string o.s):=by rw[hW];simp
 have Zc:=aD hsl;have HO:=aD hown;clear hsl hown h0 h1 h2 h3;go_enter func200,ntmps200;go_wp2_with fail;rw[<-hW];clear hW;refine(Cs ad cap xs o _ (by omega) (Zc.out.below HB0.out)).mono ?_;rintro e w1 ⟨rfl,hb1⟩;have HB1:=aD (HB0.out.trans (hb1.mono HB0.out.size));have c0:=bW hb1 hz b0;have c1:=bW hb1 hz b1;have Xb:=aD (dw HO.out HB1.out);have HA1:Hid (Aside w (.slice ad xs.length cap) w1 (.slice ad xs.length cap)):=Aside.below HB1.out;clear hb1 b0 b1;cases hh:mR xs o;case true=>
  have HW:Hid (eu xs o=xs):=by show _=_;unfold eu;rw[hh];rfl
  go_wp2;go_ret;exact⟨_,rfl,by rw[HW.out];exact Xb.out,HA1.out,fun B' _ hB'=>HB1.out.mono hB'⟩
 have HW:Hid (eu xs o=xs++[o]):=by show _=_;unfold eu;rw[hh];rfl
 obtain⟨W2,hW2⟩:∃W2,W2=w1.alloc (.cells #[.string o.t,.string o.s] 27):=⟨_,rfl⟩;have WL:Hid (W2.ownsRow B 27 2 (.slice ad xs.length cap) xs.length (pairs xs)):=by show World.ownsRow _ _ _ _ _ _ _;rw[hW2];exact Xb.out.alloc _
 have HA2:Hid (Aside w (.slice ad xs.length cap) W2 (.slice ad xs.length cap)):=by show Aside _ _ _ _;rw[hW2];exact HA1.out.trans (Aside.below ((Vs _ _).alloc (Vr _) _))
 have HBW2:Hid (ag w W2):=by show Below _ _ _;rw[hW2];exact HB1.out.alloc HB1.out.size _
 have Yn:Hid (∀j u,[Value.string o.t,.string o.s][j]?=some u->W2.cell? ((⟨w1.heap.size,0,none⟩:Addr).add j)=some u):=fun j u hu=>by
  rw[hW2]
  match j,hu with
  | 0,hu=>simp at hu;subst hu;simp[Addr.add]
  | 1,hu=>simp at hu;subst hu;simp[Addr.add]
 have hsz2:B<=W2.heap.size:=by have:=HB1.out.size;rw[hW2];simp;omega
 clear hh;go_wp2_with(at_builtin;rw[<-hW2];clear hW2;refine wpList_append_own_at _ rfl _ _ 192 rfl B 27 iO (.agg #[.string ⟨#[]⟩,.string ⟨#[]⟩]) 2 32 underlying192 Zq.out.1 Zq.out.2.1 Zq.out.2.2.1 Zq.out.2.2.2 rfl (by decide) _ xs.length (pairs xs) rfl WL.out ⟨w1.heap.size,0,none⟩ 1 1 [.string o.t,.string o.s] rfl rfl Yn.out (by simp[Value.oneCell']) (by unfold maxLen;omega) (by omega) hsz2 ?_);intro v' w3 hown hgr _ hat;have HE:Hid (w3.ownsRow B 27 2 v' (eu xs o).length (pairs (eu xs o))):=by
  show World.ownsRow _ _ _ _ _ _ _;rw[HW.out,Vx];have:pairs (xs++[o])=pairs xs++[.string o.t,.string o.s]:=by simp[pairs]
  rw[this];exact hown
 have HA3:Hid (Aside w (.slice ad xs.length cap) w3 v'):=HA2.out.trans (Aside.app hgr hat);have HBL:Hid (∀B',(∀g,(Value.slice ad xs.length cap).ownBlock=some g->B'<=g)->B'<=w.heap.size->Below B' w w3):=fun B' hv hB'=>(HBW2.out.mono hB').grown hgr (Vz hB' HBW2.out.size) hv;clear hown hgr hat;go_wp2;go_ret;exact⟨_,rfl,HE.out,HA3.out,HBL.out⟩
def fM(xs:Q0a)(t:Tp):List Al:=eu (eu xs ⟨t.a,t.b⟩) ⟨t.c,t.d⟩
def cu(xs:Q0a)(t:Tp):List Al:=if t.s.toList==[] then eu xs ⟨t.c,t.d⟩ else xs
def dW(ts:Q05):List Al:=ts.foldl fM []
def bH(ts:Q05):List Al:=ts.foldl cu []
theorem Aw(ts:Q05)(t:Tp):dW (ts++[t])=fM (dW ts) t:=by simp[dW]
theorem xZ(ts:Q05)(t:Tp):bH (ts++[t])=cu (bH ts) t:=by simp[bH]
theorem og(xs:Q0a)(o:Al):(eu xs o).length<=xs.length+1:=by
 unfold eu;split
 ·omega
 simp
theorem qU(xs:Q0a)(t:Tp):(fM xs t).length<=xs.length+2:=by
 unfold fM;have h1:=og (eu xs ⟨t.a,t.b⟩) ⟨t.c,t.d⟩;have h2:=og xs ⟨t.a,t.b⟩;omega
theorem qV(xs:Q0a)(t:Tp):(cu xs t).length<=xs.length+1:=by
 unfold cu;split
 ·exact og _ _
 omega
def MQ(t:Tp):K3:=(t.a,t.b,t.r)
def dN(ts:Q05):List (K3×Tp):=ts.map fun t=>(MQ t,t)
theorem JK(ts:Q05)(t:Tp):dN (ts++[t])=dN ts++[(MQ t,t)]:=by simp[dN]
structure DatT(w:World)(D br bp:Nat)(tab:Value)(n1:Int)(E:List (K3×Tp))(xo xu:Q0a)(np:Nat)(Mp:K3->Option Value)(vo vu:Value):Prop where
 gt:bp<D
 lt:D<w.heap.size
 kind:∃cur,w.heap[D]?=some (.cells cur 194 (0,0))
 c0:w.cell? ⟨D,0,none⟩=some tab
 c1:w.cell? ⟨D,1,none⟩=some (.int .i64 n1)
 c2:w.cell? ⟨D,2,none⟩=some (.map (some br))
 c3:w.cell? ⟨D,3,none⟩=some (.map (some bp))
 c4:w.cell? ⟨D,4,none⟩=some vo
 c5:w.cell? ⟨D,5,none⟩=some vu
 told:G.Grp qy prog 273 29 6 Tp.row w bp np Mp E
 objs:w.ownsRow (bp+1) 27 2 vo xo.length (pairs xo)
 users:w.ownsRow (bp+1) 27 2 vu xu.length (pairs xu)
 apart:∀g,vo.ownBlock=some g->vu.ownBlock≠some g
theorem eH{w:ae}{base size n g:Nat}{e e':TypeId}{v:Value}{xs:Q03}{cur:Array Value}(h:w.ownsRow base e size v n xs)(hg:v.ownBlock=some g)(hc:w.heap[g]?=some (.cells cur e' (0,0))):e=e':=by
 rcases h.2 with⟨rfl,-⟩|⟨g',cap,cur',rfl,-,hg',-⟩
 ·simp[Value.ownBlock]at hg
 have e1:g'=g:=by simpa[Value.ownBlock] using hg
 rw[e1,hc]at hg';injection hg' with hg';injection hg' with _ h2;exact h2.symm
theorem EX{w:ae}{base size n g:Nat}{e:TypeId}{v:Value}{xs:Q03}{es:Array MapEntry}{c:Nat}(h:w.ownsRow base e size v n xs)(hg:v.ownBlock=some g)(hc:w.heap[g]?=some (.map es c)):False:=by
 rcases h.2 with⟨rfl,-⟩|⟨g',cap,cur',rfl,-,hg',-⟩
 ·simp[Value.ownBlock]at hg
 have e1:g'=g:=by simpa[Value.ownBlock] using hg
 rw[e1,hc]at hg';cases hg'
theorem eB{w w':ae}{base size n:Nat}{e:TypeId}{v:Value}{xs:Q03}(h:w.ownsRow base e size v n xs)(hb:∀g,v.ownBlock=some g->w'.heap[g]?=w.heap[g]?):w'.ownsRow base e size v n xs:=by
 refine⟨h.1,?_⟩;rcases h.2 with h0|⟨g,cap,cur,rfl,h1,h2,h3⟩
 ·exact .inl h0
 exact .inr ⟨g,cap,cur,rfl,h1,(hb g rfl).trans h2,h3⟩
theorem jL{w:ae}{base size n g:Nat}{e:TypeId}{v:Value}{xs:Q03}(h:w.ownsRow base e size v n xs)(hg:v.ownBlock=some g):∃cur,w.heap[g]?=some (.cells cur e (0,0)):=by
 rcases h.2 with⟨rfl,-⟩|⟨g',cap,cur',rfl,-,hg',-⟩
 ·simp[Value.ownBlock]at hg
 have e1:g'=g:=by simpa[Value.ownBlock] using hg
 exact⟨cur',by rw[<-e1];exact hg'⟩
theorem vF{w:ae}{bp np:Nat}{Mp:K3->Option Value}{E:List (K3×Tp)}(h:G.Grp qy prog 273 29 6 Tp.row w bp np Mp E){k:K3}{v:Value}(hk:Mp k=some v):∃n xs,w.ownsRow (bp+1) 29 6 v n xs:=by
 rcases h.row k with⟨e,-⟩|⟨v',e,ho⟩
 ·rw[e]at hk;cases hk
 rw[e]at hk;injection hk with hk;subst hk;exact⟨_,_,ho⟩
theorem GN{w:ae}{bp np g:Nat}{Mp:K3->Option Value}{E:List (K3×Tp)}{e:TypeId}{cur:Array Value}(h:G.Grp qy prog 273 29 6 Tp.row w bp np Mp E)(hc:w.heap[g]?=some (.cells cur e (0,0)))(hne:(29:TypeId)≠e):G.FreeB Mp g:=fun k v hk hg=>by
 obtain⟨n,xs,ho⟩:=vF h hk;exact hne (eH ho hg hc)
theorem vG{w w':ae}{bp np:Nat}{Mp:K3->Option Value}{E:List (K3×Tp)}(h:G.Grp qy prog 273 29 6 Tp.row w bp np Mp E)(hm:w'.heap[bp]?=w.heap[bp]?)(hr:∀k v g,Mp k=some v->v.ownBlock=some g->w'.heap[g]?=w.heap[g]?):G.Grp qy prog 273 29 6 Tp.row w' bp np Mp E where
 map:=h.map.of_block hm
 row k:=by
  rcases h.row k with e|⟨v,e,ho⟩
  ·exact .inl e
  exact .inr ⟨v,e,eB ho fun g hg=>hr k v g e hg⟩
 apart:=h.apart
section
variable  {w w':World}{D br bp:Nat}{tab:Value}{n1:Int}{E:List (K3×Tp)}{xo xu:Q0a}{np:Nat}{Mp:K3->Option Value}{vo vu:Value}
theorem DatT.below(h:DatT w D br bp tab n1 E xo xu np Mp vo vu)(hb:ag w w'):DatT w' D br bp tab n1 E xo xu np Mp vo vu where
 gt:=h.gt
 lt:=Vq h.lt hb.size
 kind:=by obtain⟨cur,e⟩:=h.kind;exact⟨cur,(hb.block D h.lt).trans e⟩
 c0:=(hb.cell (p:=⟨D,0,none⟩) h.lt).trans h.c0
 c1:=(hb.cell (p:=⟨D,1,none⟩) h.lt).trans h.c1
 c2:=(hb.cell (p:=⟨D,2,none⟩) h.lt).trans h.c2
 c3:=(hb.cell (p:=⟨D,3,none⟩) h.lt).trans h.c3
 c4:=(hb.cell (p:=⟨D,4,none⟩) h.lt).trans h.c4
 c5:=(hb.cell (p:=⟨D,5,none⟩) h.lt).trans h.c5
 told:=h.told.below hb
 objs:=dw h.objs hb
 users:=dw h.users hb
 apart:=h.apart
theorem DatT.tell(h:DatT w D br bp tab n1 E xo xu np Mp vo vu){Mp':K3->Option Value}{E':List (K3×Tp)}{np':Nat}(hg:G.Grp qy prog 273 29 6 Tp.row w' bp np' Mp' E')(hs:G.Stl w Mp w' Mp' bp):DatT w' D br bp tab n1 E' xo xu np' Mp' vo vu:=by
 have hD:w'.heap[D]?=w.heap[D]?:=by
  obtain⟨cur,e⟩:=h.kind;exact hs.block D h.lt (by have:=h.gt;omega) (GN h.told e (by decide))
 have hc:∀o,w'.cell? ⟨D,o,none⟩=w.cell? ⟨D,o,none⟩:=fun o=>VR (w:=w) (a:=⟨D,o,none⟩) hD;have hO:∀{v:Value} {n:Nat} {xs:Q03},w.ownsRow (bp+1) 27 2 v n xs->w'.ownsRow (bp+1) 27 2 v n xs:=fun {v n xs} ho=>eB ho fun g hg=>by
  obtain⟨cur,e⟩:=jL ho hg;have:=ho.lt g hg;exact hs.block g this.2 (by omega) (GN h.told e (by decide))
 exact⟨h.gt,Vq h.lt hs.size,by obtain⟨cur,e⟩:=h.kind;exact⟨cur,hD.trans e⟩,(hc _).trans h.c0,(hc _).trans h.c1,(hc _).trans h.c2,(hc _).trans h.c3,(hc _).trans h.c4,(hc _).trans h.c5,hg,hO h.objs,hO h.users,h.apart⟩
theorem DatT.newO(h:DatT w D br bp tab n1 E xo xu np Mp vo vu){Zr:Value}{xo':Q0a}(ho:w'.ownsRow (bp+1) 27 2 Zr xo'.length (pairs xo'))(ha:Aside w vo w' Zr):DatT (w'.setCell ⟨D,4,none⟩ Zr) D br bp tab n1 E xo' xu np Mp Zr vu:=by
 obtain⟨cur,hk⟩:=h.kind;have hDo:vo.ownBlock≠some D:=fun e=>absurd (eH h.objs e hk) (by decide);have hD:w'.heap[D]?=w.heap[D]?:=ha.block D h.lt hDo;have hc:∀o,w'.cell? ⟨D,o,none⟩=w.cell? ⟨D,o,none⟩:=fun o=>VR (w:=w) (a:=⟨D,o,none⟩) hD;have hc2:∀o,o≠4->(w'.setCell ⟨D,4,none⟩ Zr).cell? ⟨D,o,none⟩=w.cell? ⟨D,o,none⟩:=fun o ne=>(kU (by omega)).trans (hc o);have hDn:Zr.ownBlock≠some D:=ha.apart h.lt hDo;have hne:∀g,g≠D->(w'.setCell ⟨D,4,none⟩ Zr).heap[g]?=w'.heap[g]?:=fun g e=>heap_setCell_other w' ⟨D,4,none⟩ g Zr e;have hbp:bp<w.heap.size:=by have:=h.gt;have:=h.lt;omega
 have hrow:∀k v g,Mp k=some v->v.ownBlock=some g->(w'.setCell ⟨D,4,none⟩ Zr).heap[g]?=w.heap[g]?:=fun k v g hm hg=>by
  obtain⟨n,xs,hr⟩:=vF h.told hm;obtain⟨cr,er⟩:=jL hr hg;rw[hne g (fun e=>absurd (eH hr (e ▸ hg) hk) (by decide))];exact ha.block g (hr.lt g hg).2 (fun e=>absurd (eH h.objs e er) (by decide))
 refine⟨h.gt,by simpa using Vq h.lt ha.size,⟨_,heap_setCell_same w' D 4 cur _ Zr (hD.trans hk)⟩,(hc2 0 (by omega)).trans h.c0,(hc2 1 (by omega)).trans h.c1,(hc2 2 (by omega)).trans h.c2,(hc2 3 (by omega)).trans h.c3,PM ((hc 4).trans h.c4),(hc2 5 (by omega)).trans h.c5,vG h.told ?_ hrow,eB ho fun g hg=>hne g fun e=>hDn (e ▸ hg),eB h.users fun g hg=>?_,fun g hg hu=>?_⟩
 ·rw[hne bp (by have:=h.gt;omega)];exact ha.block bp hbp fun e=>by have:=(h.objs.lt bp e).1;omega
 ·rw[hne g (fun e=>absurd (eH h.users (e ▸ hg) hk) (by decide))];exact ha.block g (h.users.lt g hg).2 fun e=>h.apart g e hg
 rcases ha.own with e|⟨g',e,hg'⟩
 ·exact h.apart g (e ▸ hg) hu
 rw[hg]at e;injection e with e;have:=(h.users.lt g hu).2;omega
theorem DatT.newU(h:DatT w D br bp tab n1 E xo xu np Mp vo vu){Zt:Value}{xu':Q0a}(ho:w'.ownsRow (bp+1) 27 2 Zt xu'.length (pairs xu'))(ha:Aside w vu w' Zt):DatT (w'.setCell ⟨D,5,none⟩ Zt) D br bp tab n1 E xo xu' np Mp vo Zt:=by
 obtain⟨cur,hk⟩:=h.kind;have hDo:vu.ownBlock≠some D:=fun e=>absurd (eH h.users e hk) (by decide);have hD:w'.heap[D]?=w.heap[D]?:=ha.block D h.lt hDo;have hc:∀o,w'.cell? ⟨D,o,none⟩=w.cell? ⟨D,o,none⟩:=fun o=>VR (w:=w) (a:=⟨D,o,none⟩) hD;have hc2:∀o,o≠5->(w'.setCell ⟨D,5,none⟩ Zt).cell? ⟨D,o,none⟩=w.cell? ⟨D,o,none⟩:=fun o ne=>(kU (by omega)).trans (hc o);have hDn:Zt.ownBlock≠some D:=ha.apart h.lt hDo;have hne:∀g,g≠D->(w'.setCell ⟨D,5,none⟩ Zt).heap[g]?=w'.heap[g]?:=fun g e=>heap_setCell_other w' ⟨D,5,none⟩ g Zt e;have hbp:bp<w.heap.size:=by have:=h.gt;have:=h.lt;omega
 have hrow:∀k v g,Mp k=some v->v.ownBlock=some g->(w'.setCell ⟨D,5,none⟩ Zt).heap[g]?=w.heap[g]?:=fun k v g hm hg=>by
  obtain⟨n,xs,hr⟩:=vF h.told hm;obtain⟨cr,er⟩:=jL hr hg;rw[hne g (fun e=>absurd (eH hr (e ▸ hg) hk) (by decide))];exact ha.block g (hr.lt g hg).2 (fun e=>absurd (eH h.users e er) (by decide))
 refine⟨h.gt,by simpa using Vq h.lt ha.size,⟨_,heap_setCell_same w' D 5 cur _ Zt (hD.trans hk)⟩,(hc2 0 (by omega)).trans h.c0,(hc2 1 (by omega)).trans h.c1,(hc2 2 (by omega)).trans h.c2,(hc2 3 (by omega)).trans h.c3,(hc2 4 (by omega)).trans h.c4,PM ((hc 5).trans h.c5),vG h.told ?_ hrow,eB h.objs fun g hg=>?_,eB ho fun g hg=>hne g fun e=>hDn (e ▸ hg),fun g hg hu=>?_⟩
 ·rw[hne bp (by have:=h.gt;omega)];exact ha.block bp hbp fun e=>by have:=(h.users.lt bp e).1;omega
 ·rw[hne g (fun e=>absurd (eH h.objs (e ▸ hg) hk) (by decide))];exact ha.block g (h.objs.lt g hg).2 fun e=>h.apart g hg e
 rcases ha.own with e|⟨g',e,hg'⟩
 ·exact h.apart g hg (e ▸ hu)
 rw[hu]at e;injection e with e;have:=(h.objs.lt g hg).2;omega
end
set_option maxRecDepth 8000 in
theorem rV(ad:Q02)(cap:Nat)(ts:Q04)(t:Fc)(w:ae)(hlen:ts.length<=1048576)(hs:Au w ad ts):
  Calls prog 145 #[.slice ad ts.length cap,.agg #[.string t.a,.string t.b,.string t.r,.string t.c,.string t.d]] w fun e w'=>e=.returned (.bool (df ts t))/\ag w w':=by
 have HS:=aC hs;clear hs;obtain⟨W0,hW0⟩:∃W0,W0=w.alloc (.cells #[.string t.a,.string t.b,.string t.r,.string t.c,.string t.d] 52):=⟨_,rfl⟩;have HB0:=sH hW0;have HX0:Hid (W0.cell? ⟨w.heap.size,0,none⟩=some (.string t.a)/\W0.cell? ⟨w.heap.size,1,none⟩=some (.string t.b)/\W0.cell? ⟨w.heap.size,2,none⟩=some (.string t.r)/\W0.cell? ⟨w.heap.size,3,none⟩=some (.string t.c)/\W0.cell? ⟨w.heap.size,4,none⟩=some (.string t.d)/\w.heap.size<W0.heap.size):=by show _/\_;rw[hW0];refine⟨?_,?_,?_,?_,?_,?_⟩<;>simp
 go_enter func145,ntmps145;go_wp2;rw[<-hW0];clear hW0;go_loopw[5] (fun i wr=>∃k:Nat,k<=ts.length/\i=.int .i64 k/\Hid (df (ts.drop k) t=df ts t)/\Hid (ag W0 wr)) (fun i _=>ts.length-(intOf i).toNat);case atStart=>exact⟨0,Vv _,rfl,rfl,Vs _ _⟩
 obtain⟨k,hk,rfl,HP,HB⟩:=hrel;have WP:Hid (ag w wr):=HB0.out.trans (HB.out.mono HB0.out.size);by_cases hlt:k<ts.length
 ·rcases HS.out.below WP.out with hnil|⟨b,off,rfl,hb,hr⟩
  ·rw[hnil]at hlt;simp at hlt
  obtain⟨t0,t1,t2,t3,t4⟩:=hr k hlt;have x0:=mK HB.out HX0.out.2.2.2.2.2 HX0.out.1;have x1:=mK HB.out HX0.out.2.2.2.2.2 HX0.out.2.1;have x2:=mK HB.out HX0.out.2.2.2.2.2 HX0.out.2.2.1;have x3:=mK HB.out HX0.out.2.2.2.2.2 HX0.out.2.2.2.1;have x4:=mK HB.out HX0.out.2.2.2.2.2 HX0.out.2.2.2.2.1;have hk1:=bC k;have hk2:(k:Int)<(ts.length:Int):=by omega
  have HD:Hid (df ts t=(xe ts[k] t || df (ts.drop (k+1)) t)):=by show _=_;rw[<-HP.out];exact Dr hlt
  clear hr;cases hq:xe ts[k] t;case true=>
   have heq:=JI ts[k] t hq;have HN:Hid (df ts t=true):=by show _=_;rw[HD.out,hq];rfl
   clear hq;go_wp2_with fail;go_region_held3 (fun w'=>w'.cell? ⟨b,off+k*5,none⟩=some (.string ts[k].a)/\w'.cell? ⟨b,off+k*5+1,none⟩=some (.string ts[k].b)/\w'.cell? ⟨b,off+k*5+2,none⟩=some (.string ts[k].r)/\w'.cell? ⟨b,off+k*5+3,none⟩=some (.string ts[k].c)/\w'.cell? ⟨b,off+k*5+4,none⟩=some (.string ts[k].d)/\w'.cell? ⟨w.heap.size,0,none⟩=some (.string t.a)/\w'.cell? ⟨w.heap.size,1,none⟩=some (.string t.b)/\w'.cell? ⟨w.heap.size,2,none⟩=some (.string t.r)/\w'.cell? ⟨w.heap.size,3,none⟩=some (.string t.c)/\w'.cell? ⟨w.heap.size,4,none⟩=some (.string t.d)/\ag wr w') (first|assumption|exact⟨t0,t1,t2,t3,t4,x0,x1,x2,x3,x4,(Vs _ _).drew⟩) (fail);rename_i hH;have HG:Hid (ag wr _):=hH.2.2.2.2.2.2.2.2.2.2;clear hH t0 t1 t2 t3 t4 x0 x1 x2 x3 x4 heq;go_wp2;go_ret;exact⟨by rw[HN.out];rfl,WP.out.trans (HG.out.mono WP.out.size)⟩
  have heq:=JI ts[k] t hq;have WQ:Hid (df (ts.drop (k+1)) t=df ts t):=by show _=_;rw[HD.out,hq];rfl
  clear hq;go_wp2_with fail;go_region_held3 (fun w'=>w'.cell? ⟨b,off+k*5,none⟩=some (.string ts[k].a)/\w'.cell? ⟨b,off+k*5+1,none⟩=some (.string ts[k].b)/\w'.cell? ⟨b,off+k*5+2,none⟩=some (.string ts[k].r)/\w'.cell? ⟨b,off+k*5+3,none⟩=some (.string ts[k].c)/\w'.cell? ⟨b,off+k*5+4,none⟩=some (.string ts[k].d)/\w'.cell? ⟨w.heap.size,0,none⟩=some (.string t.a)/\w'.cell? ⟨w.heap.size,1,none⟩=some (.string t.b)/\w'.cell? ⟨w.heap.size,2,none⟩=some (.string t.r)/\w'.cell? ⟨w.heap.size,3,none⟩=some (.string t.c)/\w'.cell? ⟨w.heap.size,4,none⟩=some (.string t.d)/\ag wr w') (first|assumption|exact⟨t0,t1,t2,t3,t4,x0,x1,x2,x3,x4,(Vs _ _).drew⟩) (fail);rename_i hH;have HG:Hid (ag W0 _):=HB.out.trans (hH.2.2.2.2.2.2.2.2.2.2.mono HB.out.size);clear hH t0 t1 t2 t3 t4 x0 x1 x2 x3 x4 heq;go_wp2;go_roundw;case rel=>exact⟨k+1,by omega,by go_num,WQ,HG⟩
  simp[intOf]<;>omega
 have HN:Hid (df ts t=false):=by show _=_;rw[<-HP.out,VN (by omega)];rfl
 go_wp2;go_ret;exact⟨by rw[HN.out];rfl,WP.out⟩
theorem aF{p:Prop}(h:p):Hid p:=h
structure HW(w:World)(Yq:Q02)(ts:Q05)(WM:Q02)(rows:Q08)(adK:Q02)(known:Q04)(Yr:Q02)(truth:Q04):Prop where
 tup:Sl w Yq ts
 ex:jw w WM rows
 kn:Au w adK known
 tr:Au w Yr truth
theorem HW.below{w w':ae}{Yq:Q02}{ts:Q05}{WM:Q02}{rows:Q08}{adK:Q02}{known:Q04}{Yr:Q02}{truth:Q04}(h:HW w Yq ts WM rows adK known Yr truth)(hB:ag w w'):HW w' Yq ts WM rows adK known Yr truth :=
 ⟨h.tup.below hB,h.ex.below hB,h.kn.below hB,h.tr.below hB⟩
def Ay(a b c d:ByteArray):Bool:=a.toList==c.toList&&b.toList==d.toList
theorem jM(a b c d:bQ){v:Bool}(h:Ay a b c d=v)(w:ae):
  (binOp .eql 27 (.agg #[.string a,.string b]) (.agg #[.string c,.string d])).run prog w=.ok (.bool v) w:=by
 subst h;go_simp;unfold Ay
 (repeat' split)<;>simp_all
theorem GQ(a b c d:bQ){v:Bool}(h:Ay a b c d=v)(w:ae):
  (binOp .neq 27 (.agg #[.string a,.string b]) (.agg #[.string c,.string d])).run prog w=.ok (.bool (!v)) w:=by
 subst h;go_simp;unfold Ay
 (repeat' split)<;>simp_all
theorem jw.at0{w:ae}{ad:Q02}{rs:Q08}(h:jw w ad rs){k:Nat}(hk:k<rs.length):∃b off,ad=some ⟨b,off,none⟩/\yz w b (off+k*5) rs[k]/\b<w.heap.size/\rs[k].ok w:=by
 rcases h with h|⟨b',off',e,hb,hr,hok⟩
 ·rw[h]at hk;simp at hk
 exact⟨b',off',e,hr k hk,hb,hok _ (Vp hk)⟩
theorem Sl.at0{w:ae}{ad:Q02}{ts:Q05}(h:Sl w ad ts){k:Nat}(hk:k<ts.length):∃b off,ad=some ⟨b,off,none⟩/\TA w b (off+k*6) ts[k]/\b<w.heap.size:=by
 rcases h with h|⟨b',off',e,hb,hr⟩
 ·rw[h]at hk;simp at hk
 exact⟨b',off',e,hr k hk,hb⟩
theorem wL.at0{w:ae}{ad:Q02}{zs:List Int}(h:wL w ad zs){k:Nat}(hk:k<zs.length):∃b off,ad=some ⟨b,off,none⟩/\w.cell? ⟨b,off+k,none⟩=some (.int .i64 zs[k])/\b<w.heap.size:=by
 rcases h with h|⟨b',off',e,hb,hr⟩
 ·rw[h]at hk;simp at hk
 exact⟨b',off',e,hr k hk,hb⟩
def GR(w:World)(f:Fc)(x:ER):World:=(w.alloc (.cells #[.string f.a,.string f.b,.string f.r,.string f.c,.string f.d] 52)).alloc (.cells #[.int .i64 x.e.kind,.slice x.adA x.e.allow.length x.capA,.string x.e.over,.string x.e.name,.slice x.adK x.e.kids.length x.capK] 43)
theorem jW(w:ae)(f:Fc)(x:ER):ag w (GR w f x):=by
 unfold GR;exact((Vs _ _).alloc (Vr _) _).alloc (by simp) _
structure EnB(w:World)(B:Nat)(f:Fc)(x:ER):Prop where
 lt:B+1<w.heap.size
 f0:w.cell? ⟨B,0,none⟩=some (.string f.a)
 f1:w.cell? ⟨B,1,none⟩=some (.string f.b)
 f2:w.cell? ⟨B,2,none⟩=some (.string f.r)
 f3:w.cell? ⟨B,3,none⟩=some (.string f.c)
 f4:w.cell? ⟨B,4,none⟩=some (.string f.d)
 x0:w.cell? ⟨B+1,0,none⟩=some (.int .i64 x.e.kind)
 x1:w.cell? ⟨B+1,1,none⟩=some (.slice x.adA x.e.allow.length x.capA)
 x2:w.cell? ⟨B+1,2,none⟩=some (.string x.e.over)
 x3:w.cell? ⟨B+1,3,none⟩=some (.string x.e.name)
 x4:w.cell? ⟨B+1,4,none⟩=some (.slice x.adK x.e.kids.length x.capK)
theorem EnB.below{w w':ae}{B:Nat}{f:Fc}{x:ER}(h:EnB w B f x)(hB:ag w w'):EnB w' B f x:=by
 have h0:B<w.heap.size:=by have:=h.lt;omega
 have c0:∀o,w'.cell? ⟨B,o,none⟩=w.cell? ⟨B,o,none⟩:=fun o=>hB.cell (p:=⟨B,o,none⟩) h0;have c1:∀o,w'.cell? ⟨B+1,o,none⟩=w.cell? ⟨B+1,o,none⟩:=fun o=>hB.cell (p:=⟨B+1,o,none⟩) h.lt;exact⟨Vq h.lt hB.size,(c0 _).trans h.f0,(c0 _).trans h.f1,(c0 _).trans h.f2,(c0 _).trans h.f3,(c0 _).trans h.f4,(c1 _).trans h.x0,(c1 _).trans h.x1,(c1 _).trans h.x2,(c1 _).trans h.x3,(c1 _).trans h.x4⟩
theorem oh(w:ae)(f:Fc)(x:ER):EnB (GR w f x) w.heap.size f x:=by
 unfold GR;constructor<;>simp
def Az(known:Q04)(f:Fc)(t:Tp):Bool:=(t.a.toList==f.a.toList&&t.b.toList==f.b.toList&&t.r.toList==f.r.toList)&&(if t.s.toList.isEmpty then t.c.toList==f.c.toList&&t.d.toList==f.d.toList else df known ⟨t.c,t.d,t.s,f.c,f.d⟩)
theorem JL{ts:Q05}{k:Nat}(h:k<ts.length)(known:Q04)(f:Fc):eG (ts.drop k) known f=(Az known f ts[k] || eG (ts.drop (k+1)) known f):=by
 unfold eG;rw[VZ h];rfl
def Du(known:Q04)(over name:ByteArray)(f:Fc)(t:Tp):Bool:=(t.a.toList==f.a.toList&&t.b.toList==f.b.toList&&t.r.toList==over.toList)&&df known ⟨t.c,t.d,name,f.c,f.d⟩
theorem JM{ts:Q05}{k:Nat}(h:k<ts.length)(known:Q04)(over name:bQ)(f:Fc):fQ (ts.drop k) known over name f=(Du known over name f ts[k] || fQ (ts.drop (k+1)) known over name f):=by
 unfold fQ;rw[VZ h];rfl
theorem rW{s:ByteArray}:(s.toList==[])=s.toList.isEmpty:=by cases s.toList<;>rfl
end Go.Proofs.YtojjoblnpldniaaGreat
namespace Go.Proofs.YtojjoblnpldniaaGreat
open ChangeShapes WideShapes ChangeAt RowKit
open Pl
attribute [local go_sem ↓] Go.wp_at_zero Go.wp_at_succ
structure BelowD(B:Nat)(w w':World):Prop where
 b:Below B w w'
 d:w.drawn<=w'.drawn
theorem BelowD.size{B:Nat}{w w':ae}(h:BelowD B w w'):w.heap.size<=w'.heap.size:=h.b.size
theorem BelowD.refl(B:Nat)(w:ae):BelowD B w w:=⟨Vs B w,Vr _⟩
theorem BelowD.trans{B:Nat}{a b c:ae}(h:BelowD B a b)(k:BelowD B b c):BelowD B a c:=⟨h.b.trans k.b,Vz h.d k.d⟩
theorem BelowD.mono{B B':Nat}{w w':ae}(h:BelowD B w w')(hB:B'<=B):BelowD B' w w':=⟨h.b.mono hB,h.d⟩
theorem BelowD.drew{B:Nat}{a w:ae}(h:BelowD B a w):BelowD B a w.drew:=⟨h.b.drew,Vz h.d (Nat.le_succ _)⟩
theorem BelowD.alloc{B:Nat}{a w:ae}(h:BelowD B a w)(hB:B<=w.heap.size)(o:Obj):BelowD B a (w.alloc o):=⟨h.b.alloc hB o,h.d⟩
theorem BelowD.cell{B:Nat}{w w':ae}(h:BelowD B w w'){p:Addr}(hp:p.block<B):w'.cell? p=w.cell? p:=h.b.cell hp
theorem BelowD.frozen{B:Nat}{w w':ae}(h:BelowD B w w'){p:Addr}(hp:p.block<B):w'.frozen? p=w.frozen? p:=h.b.frozen hp
theorem BelowD.grew{w w':ae}(h:BelowD w.heap.size w w'):∃q os,w'=Go.Sort.grow (w.drewN q) os:=by
 obtain⟨⟨h1,h2,h3,h4,h5⟩,h6⟩:=h;refine⟨w'.drawn-w.drawn,w'.heap.extract w.heap.size w'.heap.size,?_⟩;obtain⟨hp,tp,dr,os,ou⟩:=w';simp only at h1 h2 h3 h4 h5 h6;subst h1 h2 h3;simp only[Go.Sort.grow,World.drewN,World.mk.injEq,true_and,and_true];refine⟨?_,by omega⟩;apply Array.ext
 ·simp;omega
 intro i hi hj;by_cases hlt:i<w.heap.size
 ·have:=h5 i hlt;rw[Wn hi,Wn hlt]at this;injection this with this;rw[this,Array.getElem_append_left hlt]
 rw[Array.getElem_append_right (by omega)];simp;congr 1;omega
theorem uz{W w1:ae}(hb:BelowD W.heap.size W w1):(∀b o,b<W.heap.size->w1.cell? ⟨b,o,none⟩=W.cell? ⟨b,o,none⟩)/\(∀b o,b<W.heap.size->w1.frozen? ⟨b,o,none⟩=W.frozen? ⟨b,o,none⟩) :=
 ⟨fun b o h=>hb.cell (p:=⟨b,o,none⟩) h,fun b o h=>hb.frozen (p:=⟨b,o,none⟩) h⟩
theorem fE(t i:bQ)(w:ae)(ht:t.size<=maxLen)(hi:i.size<=maxLen):
  Calls prog 147 #[.agg #[.string t,.string i]] w fun e w'=>e=.returned (.bool (eZ t i))/\BelowD w.heap.size w w':=by
 by_cases hn:aP t=true
 all_goals
  go_enter func147,ntmps147;go_wp2_with(first|(go_at_call 122;refine(aL _ _ ht).mono ?_;rintro e w' ⟨rfl,rfl⟩)|(go_at_call 220;refine(zJ _ _ hi).mono ?_;rintro e w' ⟨rfl,rfl⟩));go_ret;exact⟨ah (by simp[eZ,hn]),(BelowD.refl _ _).alloc (Vr _) _⟩
theorem xh(t i:bQ)(w:ae)(ht:t.size<=maxLen)(hi:i.size<=maxLen):
  Calls prog 276 #[.agg #[.string t,.string i]] w fun e w'=>e=.returned (.string (aB t i))/\BelowD w.heap.size w w':=by
 by_cases hn:eZ t i=true
 ·obtain⟨h1,h2⟩:=rG hn;have HT:Hid (aB t i=t++⟨#[58]⟩++i):=mU hn;go_enter func276,ntmps276;go_wp2_with(go_at_call 147;refine(fE _ _ _ ht hi).mono ?_;rintro e w' ⟨rfl,hb⟩;obtain⟨hc,hf⟩:=uz hb);go_ret;exact⟨fV HT.out.symm,((BelowD.refl _ _).alloc (Vr _) _).trans (hb.mono (by simp))⟩
 have hn':eZ t i=false:=by simpa using hn
 have HT:Hid (aB t i=⟨#[]⟩):=tQ hn';clear hn;go_enter func276,ntmps276;go_wp2_with(go_at_call 147;refine(fE _ _ _ ht hi).mono ?_;rintro e w' ⟨rfl,hb⟩;obtain⟨hc,hf⟩:=uz hb);go_ret;exact⟨fV HT.out.symm,((BelowD.refl _ _).alloc (Vr _) _).trans (hb.mono (by simp))⟩
theorem vH(a b r c d s:bQ)(w:ae)(ha:a.size<=maxLen)(hb:b.size<=maxLen)(hr:r.size<=maxLen)(hc:c.size<=maxLen)(hd:d.size<=maxLen)(hs:s.size<=maxLen):
  Calls prog 62 #[.agg #[.string a,.string b,.string r,.string c,.string d,.string s]] w fun e w'=>e=.returned (.bool (bz a b r c d s))/\BelowD w.heap.size w w':=by
 by_cases h1:eZ a b=true
 ·by_cases h2:aP r=true
  ·by_cases h3:eZ c d=true
   ·have HT:Hid (bz a b r c d s=uL s):=zm h1 h2 h3;go_enter func62,ntmps62;go_wp2_with fail;refine(fE _ _ _ ha hb).mono ?_;rintro e w1 ⟨rfl,hb1⟩;obtain⟨hc1,hf1⟩:=uz hb1;have hz1:w.heap.size<w1.heap.size:=by have:=hb1.size;simp at this;omega
    go_wp2_with fail;refine(aL _ _ hr).mono ?_;rintro e w1' ⟨rfl,rfl⟩;go_wp2_with fail;refine(fE _ _ _ hc hd).mono ?_;rintro e w2 ⟨rfl,hb2⟩;obtain⟨hc2,hf2⟩:=uz hb2;have hz2:w.heap.size<w2.heap.size:=by have:=hb2.size;omega
    go_wp2_with(go_at_call 148;refine(C9 _ _ hs).mono ?_;rintro e w3 ⟨rfl,rfl⟩)
    all_goals go_ret
    all_goals exact⟨ah (HT.out.trans (by simp[uL, *])).symm,((BelowD.refl _ _).alloc (Vr _) _).trans ((hb1.mono (by simp)).trans (hb2.mono (by omega)))⟩
   have h3':eZ c d=false:=by simpa using h3
   have HT:Hid (bz a b r c d s=false):=zl h3';clear h3;go_enter func62,ntmps62;go_wp2_with fail;refine(fE _ _ _ ha hb).mono ?_;rintro e w1 ⟨rfl,hb1⟩;obtain⟨hc1,hf1⟩:=uz hb1;have hz1:w.heap.size<w1.heap.size:=by have:=hb1.size;simp at this;omega
   go_wp2_with fail;refine(aL _ _ hr).mono ?_;rintro e w1' ⟨rfl,rfl⟩;go_wp2_with fail;refine(fE _ _ _ hc hd).mono ?_;rintro e w2 ⟨rfl,hb2⟩;go_wp2;go_ret;exact⟨ah HT.out.symm,((BelowD.refl _ _).alloc (Vr _) _).trans ((hb1.mono (by simp)).trans (hb2.mono (by omega)))⟩
  have h2':aP r=false:=by simpa using h2
  have HT:Hid (bz a b r c d s=false):=zk h2';clear h2;go_enter func62,ntmps62;go_wp2_with fail;refine(fE _ _ _ ha hb).mono ?_;rintro e w1 ⟨rfl,hb1⟩;obtain⟨hc1,hf1⟩:=uz hb1;go_wp2_with fail;refine(aL _ _ hr).mono ?_;rintro e w1' ⟨rfl,rfl⟩;go_wp2;go_ret;exact⟨ah HT.out.symm,((BelowD.refl _ _).alloc (Vr _) _).trans (hb1.mono (by simp))⟩
 have h1':eZ a b=false:=by simpa using h1
 have HT:Hid (bz a b r c d s=false):=zi h1';clear h1;go_enter func62,ntmps62;go_wp2_with fail;refine(fE _ _ _ ha hb).mono ?_;rintro e w1 ⟨rfl,hb1⟩;go_wp2;go_ret;exact⟨ah HT.out.symm,((BelowD.refl _ _).alloc (Vr _) _).trans (hb1.mono (by simp))⟩
theorem Uc{w W w':ae}{n:Nat}{x0 x1 x2 x3 x4 x5:Value}(h:W.cell? ⟨n,0,none⟩=some x0/\W.cell? ⟨n,1,none⟩=some x1/\W.cell? ⟨n,2,none⟩=some x2/\W.cell? ⟨n,3,none⟩=some x3/\W.cell? ⟨n,4,none⟩=some x4/\W.cell? ⟨n,5,none⟩=some x5/\n<W.heap.size/\BelowD n w W)(hb:BelowD W.heap.size W w'):w'.cell? ⟨n,0,none⟩=some x0/\w'.cell? ⟨n,1,none⟩=some x1/\w'.cell? ⟨n,2,none⟩=some x2/\w'.cell? ⟨n,3,none⟩=some x3/\w'.cell? ⟨n,4,none⟩=some x4/\w'.cell? ⟨n,5,none⟩=some x5/\n<w'.heap.size/\BelowD n w w':=by
 obtain⟨h0,h1,h2,h3,h4,h5,hn,hB⟩:=h;have hc:∀o,w'.cell? ⟨n,o,none⟩=W.cell? ⟨n,o,none⟩:=fun o=>hb.cell (p:=⟨n,o,none⟩) hn;refine⟨by rw[hc];exact h0,by rw[hc];exact h1,by rw[hc];exact h2,by rw[hc];exact h3,by rw[hc];exact h4,by rw[hc];exact h5,Vq hn hb.size,hB.trans (hb.mono (WH hn))⟩
theorem xk(a b r c d s:bQ)(w:ae)(ha:a.size<=maxLen)(hb:b.size<=maxLen)(hr:r.size<=maxLen)(hc:c.size<=maxLen)(hd:d.size<=maxLen)(hs:s.size<=maxLen):
  Calls prog 216 #[.agg #[.string a,.string b,.string r,.string c,.string d,.string s]] w fun e w'=>e=.returned (.string (aV a b r c d s))/\BelowD w.heap.size w w':=by
 by_cases hn:bz a b r c d s=true
 ·obtain⟨h1,h2,h3,h4⟩:=iZ hn;have hx:=ik a b;have hy:=ik c d;have YX:=(lX h2).2;have hs12:=yS h4;clear h1 h2 h3 h4;go_enter func216,ntmps216;go_wp2_with fail;refine(vH _ _ _ _ _ _ _ ha hb hr hc hd hs).mono ?_;rintro e w1 ⟨rfl,hb1⟩;obtain⟨hc1,hf1⟩:=uz hb1;have hz1:w.heap.size<w1.heap.size:=by have:=hb1.size;simp at this;omega
  have k:∀o v,(w.alloc (.cells #[.string a,.string b,.string r,.string c,.string d,.string s] 29)).cell? ⟨w.heap.size,o,none⟩=some v->w1.cell? ⟨w.heap.size,o,none⟩=some v:=fun o v h=>by rw[hc1 _ _ (by simp)];exact h
  have k0:=k 0 (.string a) (by simp);have k1:=k 1 (.string b) (by simp);have k2:=k 2 (.string r) (by simp);have k3:=k 3 (.string c) (by simp);have k4:=k 4 (.string d) (by simp);have k5:=k 5 (.string s) (by simp);have HB1:BelowD w.heap.size w w1:=((BelowD.refl _ _).alloc (Vr _) _).trans (hb1.mono (by simp));clear k hb1 hc1 hf1;have q1:(9223372036854775807<(aB a b).size+1)=False:=by simp;omega
  have q2:(9223372036854775807<(aB a b).size+1+r.size)=False:=by simp;omega
  have q3:(9223372036854775807<(aB a b).size+1+r.size+1)=False:=by simp;omega
  have q4:(9223372036854775807<(aB a b).size+1+r.size+1+(aB c d).size)=False:=by simp;omega
  go_wp2_with fail
  go_region_held3 (fun w'=>w'.cell? ⟨w.heap.size,0,none⟩=some (.string a)/\w'.cell? ⟨w.heap.size,1,none⟩=some (.string b)/\w'.cell? ⟨w.heap.size,2,none⟩=some (.string r)/\w'.cell? ⟨w.heap.size,3,none⟩=some (.string c)/\w'.cell? ⟨w.heap.size,4,none⟩=some (.string d)/\w'.cell? ⟨w.heap.size,5,none⟩=some (.string s)/\w.heap.size<w'.heap.size/\BelowD w.heap.size w w')
   (first|exact Uc (by assumption) hbx|exact⟨k0,k1,k2,k3,k4,k5,hz1,HB1.drew⟩)
   (first|(go_at_call 276;refine(xh _ _ _ (by assumption) (by assumption)).mono ?_;rintro e w' ⟨rfl,hbx⟩))
  rename_i hH;obtain⟨g0,g1,g2,g3,g4,g5,gz,gB⟩:=hH;clear k0 k1 k2 k3 k4 k5 hbx q1 q2 q3 q4 HB1;by_cases he:s.toList.isEmpty=true
  ·have HT:Hid (aV a b r c d s=_):=mV hn he;go_wp2;go_ret;exact⟨fV HT.out.symm,gB⟩
  have he':s.toList.isEmpty=false:=by simpa using he
  have HT:Hid (aV a b r c d s=_):=mW hn he';clear he;go_wp2;go_ret;exact⟨fV (HT.out.trans (by simp only[Wm])).symm,gB⟩
 have hn':bz a b r c d s=false:=by simpa using hn
 have HT:Hid (aV a b r c d s=⟨#[]⟩):=tT hn';clear hn;go_enter func216,ntmps216;go_wp2_with fail;refine(vH _ _ _ _ _ _ _ ha hb hr hc hd hs).mono ?_;rintro e w1 ⟨rfl,hb1⟩;go_wp2;go_ret;exact⟨fV HT.out.symm,((BelowD.refl _ _).alloc (Vr _) _).trans (hb1.mono (by simp))⟩
theorem RV{w W w':ae}{n m k:Nat}{x0 x1 x2 x3 x4 x5 y0 y1 y2 y3 y4 y5:Value}(hk:k<=n)(h:W.cell? ⟨n,0,none⟩=some x0/\W.cell? ⟨n,1,none⟩=some x1/\W.cell? ⟨n,2,none⟩=some x2/\W.cell? ⟨n,3,none⟩=some x3/\W.cell? ⟨n,4,none⟩=some x4/\W.cell? ⟨n,5,none⟩=some x5/\W.cell? ⟨m,0,none⟩=some y0/\W.cell? ⟨m,1,none⟩=some y1/\W.cell? ⟨m,2,none⟩=some y2/\W.cell? ⟨m,3,none⟩=some y3/\W.cell? ⟨m,4,none⟩=some y4/\W.cell? ⟨m,5,none⟩=some y5/\n<W.heap.size/\m<W.heap.size/\BelowD k w W)(hb:BelowD W.heap.size W w'):w'.cell? ⟨n,0,none⟩=some x0/\w'.cell? ⟨n,1,none⟩=some x1/\w'.cell? ⟨n,2,none⟩=some x2/\w'.cell? ⟨n,3,none⟩=some x3/\w'.cell? ⟨n,4,none⟩=some x4/\w'.cell? ⟨n,5,none⟩=some x5/\w'.cell? ⟨m,0,none⟩=some y0/\w'.cell? ⟨m,1,none⟩=some y1/\w'.cell? ⟨m,2,none⟩=some y2/\w'.cell? ⟨m,3,none⟩=some y3/\w'.cell? ⟨m,4,none⟩=some y4/\w'.cell? ⟨m,5,none⟩=some y5/\n<w'.heap.size/\m<w'.heap.size/\BelowD k w w':=by
 obtain⟨h0,h1,h2,h3,h4,h5,h6,h7,h8,h9,h10,h11,hn,hm,hB⟩:=h;have hc:∀o,w'.cell? ⟨n,o,none⟩=W.cell? ⟨n,o,none⟩:=fun o=>hb.cell (p:=⟨n,o,none⟩) hn;have hd:∀o,w'.cell? ⟨m,o,none⟩=W.cell? ⟨m,o,none⟩:=fun o=>hb.cell (p:=⟨m,o,none⟩) hm;exact⟨by rw[hc];exact h0,by rw[hc];exact h1,by rw[hc];exact h2,by rw[hc];exact h3,by rw[hc];exact h4,by rw[hc];exact h5,by rw[hd];exact h6,by rw[hd];exact h7,by rw[hd];exact h8,by rw[hd];exact h9,by rw[hd];exact h10,by rw[hd];exact h11,Vq hn hb.size,Vq hm hb.size,hB.trans (hb.mono (by omega))⟩
theorem Lt(w:ae)(o1 o2:Obj):BelowD w.heap.size w ((w.alloc o1).alloc o2) :=
 ((BelowD.refl _ _).alloc (Vr _) _).alloc (by simp) _
theorem mo(a b r c d s a' b' r' c' d' s':bQ)(w:ae)(ha:a.size<=maxLen)(hb:b.size<=maxLen)(hr:r.size<=maxLen)(hc:c.size<=maxLen)(hd:d.size<=maxLen)(hs:s.size<=maxLen)(ga:a'.size<=maxLen)(gb:b'.size<=maxLen)(gr:r'.size<=maxLen)(gc:c'.size<=maxLen)(gd:d'.size<=maxLen)(gs:s'.size<=maxLen):
  Calls prog 139 #[.agg #[.string a,.string b,.string r,.string c,.string d,.string s],.agg #[.string a',.string b',.string r',.string c',.string d',.string s']] w fun e w'=>e=.returned (.int .i64 (Ev a b r c d s a' b' r' c' d' s'))/\BelowD w.heap.size w w':=by
 have H0:((w.alloc (.cells #[.string a,.string b,.string r,.string c,.string d,.string s] 29)).alloc (.cells #[.string a',.string b',.string r',.string c',.string d',.string s'] 29)).drew.cell? ⟨w.heap.size,0,none⟩=some (.string a)/\((w.alloc (.cells #[.string a,.string b,.string r,.string c,.string d,.string s] 29)).alloc (.cells #[.string a',.string b',.string r',.string c',.string d',.string s'] 29)).drew.cell? ⟨w.heap.size,1,none⟩=some (.string b)/\((w.alloc (.cells #[.string a,.string b,.string r,.string c,.string d,.string s] 29)).alloc (.cells #[.string a',.string b',.string r',.string c',.string d',.string s'] 29)).drew.cell? ⟨w.heap.size,2,none⟩=some (.string r)/\((w.alloc (.cells #[.string a,.string b,.string r,.string c,.string d,.string s] 29)).alloc (.cells #[.string a',.string b',.string r',.string c',.string d',.string s'] 29)).drew.cell? ⟨w.heap.size,3,none⟩=some (.string c)/\((w.alloc (.cells #[.string a,.string b,.string r,.string c,.string d,.string s] 29)).alloc (.cells #[.string a',.string b',.string r',.string c',.string d',.string s'] 29)).drew.cell? ⟨w.heap.size,4,none⟩=some (.string d)/\((w.alloc (.cells #[.string a,.string b,.string r,.string c,.string d,.string s] 29)).alloc (.cells #[.string a',.string b',.string r',.string c',.string d',.string s'] 29)).drew.cell? ⟨w.heap.size,5,none⟩=some (.string s)/\((w.alloc (.cells #[.string a,.string b,.string r,.string c,.string d,.string s] 29)).alloc (.cells #[.string a',.string b',.string r',.string c',.string d',.string s'] 29)).drew.cell? ⟨w.heap.size+1,0,none⟩=some (.string a')/\((w.alloc (.cells #[.string a,.string b,.string r,.string c,.string d,.string s] 29)).alloc (.cells #[.string a',.string b',.string r',.string c',.string d',.string s'] 29)).drew.cell? ⟨w.heap.size+1,1,none⟩=some (.string b')/\((w.alloc (.cells #[.string a,.string b,.string r,.string c,.string d,.string s] 29)).alloc (.cells #[.string a',.string b',.string r',.string c',.string d',.string s'] 29)).drew.cell? ⟨w.heap.size+1,2,none⟩=some (.string r')/\((w.alloc (.cells #[.string a,.string b,.string r,.string c,.string d,.string s] 29)).alloc (.cells #[.string a',.string b',.string r',.string c',.string d',.string s'] 29)).drew.cell? ⟨w.heap.size+1,3,none⟩=some (.string c')/\((w.alloc (.cells #[.string a,.string b,.string r,.string c,.string d,.string s] 29)).alloc (.cells #[.string a',.string b',.string r',.string c',.string d',.string s'] 29)).drew.cell? ⟨w.heap.size+1,4,none⟩=some (.string d')/\((w.alloc (.cells #[.string a,.string b,.string r,.string c,.string d,.string s] 29)).alloc (.cells #[.string a',.string b',.string r',.string c',.string d',.string s'] 29)).drew.cell? ⟨w.heap.size+1,5,none⟩=some (.string s')/\w.heap.size<((w.alloc (.cells #[.string a,.string b,.string r,.string c,.string d,.string s] 29)).alloc (.cells #[.string a',.string b',.string r',.string c',.string d',.string s'] 29)).drew.heap.size/\w.heap.size+1<((w.alloc (.cells #[.string a,.string b,.string r,.string c,.string d,.string s] 29)).alloc (.cells #[.string a',.string b',.string r',.string c',.string d',.string s'] 29)).drew.heap.size/\BelowD w.heap.size w (((w.alloc (.cells #[.string a,.string b,.string r,.string c,.string d,.string s] 29)).alloc (.cells #[.string a',.string b',.string r',.string c',.string d',.string s'] 29)).drew):=by
  refine⟨?_,?_,?_,?_,?_,?_,?_,?_,?_,?_,?_,?_,?_,?_,?_⟩
  all_goals first|exact(Lt _ _ _).drew|(simp;done)|(simp;omega)
 go_enter func139,ntmps139;go_wp2_with fail
 go_region_held3 (fun w'=>w'.cell? ⟨w.heap.size,0,none⟩=some (.string a)/\w'.cell? ⟨w.heap.size,1,none⟩=some (.string b)/\w'.cell? ⟨w.heap.size,2,none⟩=some (.string r)/\w'.cell? ⟨w.heap.size,3,none⟩=some (.string c)/\w'.cell? ⟨w.heap.size,4,none⟩=some (.string d)/\w'.cell? ⟨w.heap.size,5,none⟩=some (.string s)/\w'.cell? ⟨w.heap.size+1,0,none⟩=some (.string a')/\w'.cell? ⟨w.heap.size+1,1,none⟩=some (.string b')/\w'.cell? ⟨w.heap.size+1,2,none⟩=some (.string r')/\w'.cell? ⟨w.heap.size+1,3,none⟩=some (.string c')/\w'.cell? ⟨w.heap.size+1,4,none⟩=some (.string d')/\w'.cell? ⟨w.heap.size+1,5,none⟩=some (.string s')/\w.heap.size<w'.heap.size/\w.heap.size+1<w'.heap.size/\BelowD w.heap.size w w')
  (first|assumption|exact RV (Vr _) (by assumption) hbx|exact H0)
  (first|(go_at_call 216;refine(xk _ _ _ _ _ _ _ (by assumption) (by assumption) (by assumption) (by assumption) (by assumption) (by assumption)).mono ?_;rintro e w' ⟨rfl,hbx⟩)|(go_at_call 197;refine(Tryz.strings_Compare _ _ _).mono ?_;rintro e w' ⟨rfl,rfl⟩))
 rename_i hH;obtain⟨-,-,-,-,-,-,-,-,-,-,-,-,-,-,gB⟩:=hH;go_wp2;go_ret;exact⟨rfl,gB⟩
end Go.Proofs.YtojjoblnpldniaaGreat
namespace Go.Proofs.YtojjoblnpldniaaGreat
open ChangeShapes WideShapes ChangeAt RowKit
open Pl
attribute [local go_sem ↓] Go.wp_at_zero Go.wp_at_succ
theorem MR(a b r c d:bQ)(w:ae):
  Calls prog 217 #[.agg #[.string a,.string b,.string r,.string c,.string d]] w fun e w'=>e=.returned (.agg #[.string a,.string b,.string r,.string c,.string d,.string ⟨#[]⟩])/\ag w w':=by
 go_enter func217,ntmps217;go_wp2;exact bodyPost_ret (v:=.agg #[.string a,.string b,.string r,.string c,.string d,.string ⟨#[]⟩]) (by simp[results,Tryz.results217,go_sem, *]) rfl ⟨rfl,by
  repeat(first|exact Vs _ _|refine Below.setCell ?_ (by first|(simp;done)|(simp;omega)) _|refine Below.alloc ?_ (by first|(simp;done)|(simp;omega)) _)⟩
theorem RX{w W w':ae}{n m k:Nat}{x0 x1 x2 x3 x4 y0 y1 y2 y3 y4:Value}(hk:k<=n)(h:W.cell? ⟨n,0,none⟩=some x0/\W.cell? ⟨n,1,none⟩=some x1/\W.cell? ⟨n,2,none⟩=some x2/\W.cell? ⟨n,3,none⟩=some x3/\W.cell? ⟨n,4,none⟩=some x4/\W.cell? ⟨m,0,none⟩=some y0/\W.cell? ⟨m,1,none⟩=some y1/\W.cell? ⟨m,2,none⟩=some y2/\W.cell? ⟨m,3,none⟩=some y3/\W.cell? ⟨m,4,none⟩=some y4/\n<W.heap.size/\m<W.heap.size/\Below k w W)(hb:ag W w'):w'.cell? ⟨n,0,none⟩=some x0/\w'.cell? ⟨n,1,none⟩=some x1/\w'.cell? ⟨n,2,none⟩=some x2/\w'.cell? ⟨n,3,none⟩=some x3/\w'.cell? ⟨n,4,none⟩=some x4/\w'.cell? ⟨m,0,none⟩=some y0/\w'.cell? ⟨m,1,none⟩=some y1/\w'.cell? ⟨m,2,none⟩=some y2/\w'.cell? ⟨m,3,none⟩=some y3/\w'.cell? ⟨m,4,none⟩=some y4/\n<w'.heap.size/\m<w'.heap.size/\Below k w w':=by
 obtain⟨h0,h1,h2,h3,h4,h5,h6,h7,h8,h9,hn,hm,hB⟩:=h;have hc:∀o,w'.cell? ⟨n,o,none⟩=W.cell? ⟨n,o,none⟩:=fun o=>hb.cell (p:=⟨n,o,none⟩) hn;have hd:∀o,w'.cell? ⟨m,o,none⟩=W.cell? ⟨m,o,none⟩:=fun o=>hb.cell (p:=⟨m,o,none⟩) hm;exact⟨by rw[hc];exact h0,by rw[hc];exact h1,by rw[hc];exact h2,by rw[hc];exact h3,by rw[hc];exact h4,by rw[hd];exact h5,by rw[hd];exact h6,by rw[hd];exact h7,by rw[hd];exact h8,by rw[hd];exact h9,Vq hn hb.size,Vq hm hb.size,hB.trans (hb.mono (by omega))⟩
theorem UY(a b r c d a' b' r' c' d':bQ)(w W:ae)(hW:W=((w.alloc (.cells #[.string a,.string b,.string r,.string c,.string d] 52)).alloc (.cells #[.string a',.string b',.string r',.string c',.string d'] 52))):W.drew.cell? ⟨w.heap.size,0,none⟩=some (.string a)/\W.drew.cell? ⟨w.heap.size,1,none⟩=some (.string b)/\W.drew.cell? ⟨w.heap.size,2,none⟩=some (.string r)/\W.drew.cell? ⟨w.heap.size,3,none⟩=some (.string c)/\W.drew.cell? ⟨w.heap.size,4,none⟩=some (.string d)/\W.drew.cell? ⟨w.heap.size+1,0,none⟩=some (.string a')/\W.drew.cell? ⟨w.heap.size+1,1,none⟩=some (.string b')/\W.drew.cell? ⟨w.heap.size+1,2,none⟩=some (.string r')/\W.drew.cell? ⟨w.heap.size+1,3,none⟩=some (.string c')/\W.drew.cell? ⟨w.heap.size+1,4,none⟩=some (.string d')/\w.heap.size<W.drew.heap.size/\w.heap.size+1<W.drew.heap.size/\ag w W.drew:=by
 subst hW;refine⟨?_,?_,?_,?_,?_,?_,?_,?_,?_,?_,?_,?_,?_⟩
 all_goals first|exact(zL _ _ _).drew|(simp;done)|(simp;omega)
theorem vI(a b r c d a' b' r' c' d':bQ)(w:ae)(ha:a.size<=maxLen)(hb:b.size<=maxLen)(hr:r.size<=maxLen)(hc:c.size<=maxLen)(hd:d.size<=maxLen)(ga:a'.size<=maxLen)(gb:b'.size<=maxLen)(gr:r'.size<=maxLen)(gc:c'.size<=maxLen)(gd:d'.size<=maxLen):
  Calls prog 142 #[.agg #[.string a,.string b,.string r,.string c,.string d],.agg #[.string a',.string b',.string r',.string c',.string d']] w fun e w'=>e=.returned (.bool (fO a b r c d ⟨#[]⟩ a' b' r' c' d' ⟨#[]⟩))/\ag w w':=by
 have he0:(⟨#[]⟩:ByteArray).size<=maxLen:=by decide
 have H0:=UY a b r c d a' b' r' c' d' w _ rfl;go_enter func142,ntmps142;go_wp2_with fail
 go_region_held3 (fun w'=>w'.cell? ⟨w.heap.size,0,none⟩=some (.string a)/\w'.cell? ⟨w.heap.size,1,none⟩=some (.string b)/\w'.cell? ⟨w.heap.size,2,none⟩=some (.string r)/\w'.cell? ⟨w.heap.size,3,none⟩=some (.string c)/\w'.cell? ⟨w.heap.size,4,none⟩=some (.string d)/\w'.cell? ⟨w.heap.size+1,0,none⟩=some (.string a')/\w'.cell? ⟨w.heap.size+1,1,none⟩=some (.string b')/\w'.cell? ⟨w.heap.size+1,2,none⟩=some (.string r')/\w'.cell? ⟨w.heap.size+1,3,none⟩=some (.string c')/\w'.cell? ⟨w.heap.size+1,4,none⟩=some (.string d')/\w.heap.size<w'.heap.size/\w.heap.size+1<w'.heap.size/\ag w w')
  (first|assumption|exact RX (Vr _) (by assumption) hbx|exact H0)
  (first|(go_at_call 217;refine(MR _ _ _ _ _ _).mono ?_;rintro e w' ⟨rfl,hbx⟩)|(go_at_call 199;refine(nH _ _ _ _ _ _ _ _ _ _ _ _ _ (by assumption) (by assumption) (by assumption) (by assumption) (by assumption) (by assumption) (by assumption) (by assumption) (by assumption) (by assumption) (by assumption) (by assumption)).mono ?_;rintro e w' ⟨rfl,hbx⟩))
 rename_i hJ;obtain⟨-,-,-,-,-,-,-,-,-,-,-,-,gB⟩:=hJ;go_wp2;go_ret;exact⟨rfl,gB⟩
end Go.Proofs.YtojjoblnpldniaaGreat
