/- Lists in memory whose elements hold lists again, each in a row and in a block of its own: one more at the end, another last one. Expressions, relations and types as such lists. -/
import Derived.Test.YtajkkeikihhejaaGreatSq
import Derived.Test.YtajkkeikihhejaaGreatJ6
import Derived.Sort.Grow
open Go.Proofs.Tryz
set_option maxHeartbeats 80000000
namespace Go.Proofs.YtajkkeikihhejaaGreat
set_option maxRecDepth 100000
set_option linter.unusedVariables false
open ChangeShapes WideShapes ChangeAt RowKit
open Pl
structure Kid{α:Type}(K:World->Nat->α->Prop)(I:α->Nat->Prop):Prop where
 heap:∀(w w':World) (base:Nat) (q:α),K w base q->w.heap.size<=w'.heap.size->(∀g,I q g->w'.heap[g]?=w.heap[g]?)->K w' base q
 lt:∀(w:World) (base:Nat) (q:α),K w base q->∀g,I q g->base<=g/\g<w.heap.size
def GZ{α:Type}(I:α->Nat->Prop)(v:Value)(rs:List α)(g:Nat):Prop:=v.ownBlock=some g \/ ∃q∈rs,I q g
structure WL{α:Type}(T:TypeId)(size:Nat)(cells:α->List Value)(K:World->Nat->α->Prop)(I:α->Nat->Prop)(w:World)(base:Nat)(v:Value)(rs:List α):Prop where
 own:w.ownsRow base T size v rs.length (rs.flatMap cells)
 kid:∀q∈rs,K w base q
 head:∀q∈rs,∀g,I q g->v.ownBlock≠some g
 two:∀(x y:Nat) (hx:x<rs.length) (hy:y<rs.length),x≠y->∀g,I rs[x] g->¬I rs[y] g
section
variable  {α:Type}{T:TypeId}{size:Nat}{cells:α->List Value}{K:World->Nat->α->Prop}{I:α->Nat->Prop}{w w':World}{base:Nat}{v:Value}{rs:List α}
theorem WL.lt(kd:Kid K I)(h:WL T size cells K I w base v rs){g:Nat}(hg:GZ I v rs g):base<=g/\g<w.heap.size:=by
 rcases hg with hg|⟨q,hq,hg⟩
 ·exact h.own.lt g hg
 exact kd.lt w base q (h.kid q hq) g hg
theorem WL.heap(kd:Kid K I)(h:WL T size cells K I w base v rs)(hs:w.heap.size<=w'.heap.size)(hh:∀g,GZ I v rs g->w'.heap[g]?=w.heap[g]?):WL T size cells K I w' base v rs where
 own:=jM h.own fun g hg=>hh g (.inl hg)
 kid q hq:=kd.heap w w' base q (h.kid q hq) hs fun g hg=>hh g (.inr ⟨q,hq,hg⟩)
 head:=h.head
 two:=h.two
theorem WL.below(kd:Kid K I)(h:WL T size cells K I w base v rs)(hb:ae w w'):WL T size cells K I w' base v rs :=
 h.heap kd hb.size fun g hg=>hb.block g (h.lt kd hg).2
theorem Pn(w:af)(base:Nat):WL T size cells K I w base (.slice none 0 0) [] :=
 ⟨World.ownsRow_nil _ _ _ _,fun q hq=>(by cases hq),fun q hq=>(by cases hq),fun x y hx=>absurd hx (by simp)⟩
theorem G5{rs:List α}{q:α}(h:∀(x y:Nat) (hx:x<rs.length) (hy:y<rs.length),x≠y->∀g,I rs[x] g->¬I rs[y] g)(hq:∀p∈rs,∀g,I p g->¬I q g):
  ∀(x y:Nat) (hx:x<(rs++[q]).length) (hy:y<(rs++[q]).length),x≠y->∀g,I (rs++[q])[x] g->¬I (rs++[q])[y] g:=by
 intro x y hx hy hxy g h1 h2;rw[Vh,VL]at hx hy;by_cases ex:x<rs.length
 ·rw[Vw ex]at h1;by_cases ey:y<rs.length
  ·rw[Vw ey]at h2;exact h x y ex ey hxy g h1 h2
  have:y=rs.length:=by omega
  subst this;rw[VM (Va _)]at h2;simp at h2;exact hq _ (U8 ex) g h1 h2
 have:x=rs.length:=by omega
 subst this;rw[VM (Va _)]at h1;simp at h1;have ey:y<rs.length:=by omega
 rw[Vw ey]at h2;exact hq _ (U8 ey) g h2 h1
theorem Po{rs:List α}{q:α}(h:∀(x y:Nat) (hx:x<(rs++[q]).length) (hy:y<(rs++[q]).length),x≠y->∀g,I (rs++[q])[x] g->¬I (rs++[q])[y] g):
  (∀(x y:Nat) (hx:x<rs.length) (hy:y<rs.length),x≠y->∀g,I rs[x] g->¬I rs[y] g)/\∀p∈rs,∀g,I p g->¬I q g:=by
 refine⟨fun x y hx hy hxy g h1 h2=>?_,fun p hp g h1 h2=>?_⟩
 ·exact h x y (by simp;omega) (by simp;omega) hxy g (by rw[Vw hx];exact h1) (by rw[Vw hy];exact h2)
 obtain⟨x,hx,rfl⟩:=VV hp;exact h x rs.length (by simp;omega) (by simp) (by omega) g (by rw[Vw hx];exact h1) (by rw[VM (Va _)];simpa using h2)
theorem WL.snoc(kd:Kid K I)(h:WL T size cells K I w base v rs){q:α}{v':Value}(hown:w'.ownsRow base T size v' (rs.length+1) (rs.flatMap cells++cells q))(hg:w.grownBy w' v.ownBlock)(hat:v'.ownBlock=v.ownBlock \/ ∃g,v'.ownBlock=some g/\w.heap.size<=g)
  (hq:K w base q) (hv:∀g,I q g->v.ownBlock≠some g) (hr:∀p∈rs,∀g,I p g->¬I q g):WL T size cells K I w' base v' (rs++[q]):=by
 have keep:∀(p:α),K w base p->(∀g,I p g->v.ownBlock≠some g)->K w' base p:=fun p hp hn=>kd.heap w w' base p hp hg.size fun g hi=>hg.block g (kd.lt w base p hp g hi).2 (fun e=>hn g hi e.symm);have apart:∀(p:α),K w base p->(∀g,I p g->v.ownBlock≠some g)->∀g,I p g->v'.ownBlock≠some g:=fun p hp hn g hi=>by
  rcases hat with e|⟨g',e,hge⟩
  ·rw[e];exact hn g hi
  rw[e];intro e2;injection e2 with e2;have:=(kd.lt w base p hp g hi).2;omega
 refine⟨by simpa using hown,fun p hp=>?_,fun p hp=>?_,G5 h.two hr⟩
 ·rcases Vn.1 hp with hp|hp
  ·exact keep p (h.kid p hp) (h.head p hp)
  rw[Vl]at hp;subst hp;exact keep _ hq hv
 rcases Vn.1 hp with hp|hp
 ·exact apart p (h.kid p hp) (h.head p hp)
 rw[Vl]at hp;subst hp;exact apart _ hq hv
theorem WL.last(kd:Kid K I){xs:List α}{q q':α}{b n cap j:Nat}{u:Value}{w1:af}{row:Option Nat}(h:WL T size cells K I w base (.slice (some ⟨b,0,none⟩) n cap) (xs++[q]))(hn:n=xs.length+1)
  (hg:w.grownBy w1 row) (hrow:∀r,row=some r->I q r) (hq':K w1 base q') (hI:∀g,I q' g->I q g\/(g≠b/\∀p∈xs,¬I p g)) (hset:((xs++[q]).flatMap cells).set j u=(xs++[q']).flatMap cells) :
  WL T size cells K I (w1.setCell ⟨b,j,none⟩ u) base (.slice (some ⟨b,0,none⟩) n cap) (xs++[q']):=by
 have hbl:b<w.heap.size:=(h.own.lt b rfl).2;have hq:=h.kid q (by simp);have hqb:∀g,I q g->g≠b:=fun g hi e=>h.head q (by simp) g hi (by rw[e];rfl);have hq'b:∀g,I q' g->g≠b:=fun g hi e=>by
  rcases hI g hi with h2|h2
  ·exact hqb g h2 e
  exact h2.1 e
 have hb1:w1.heap[b]?=w.heap[b]?:=hg.block b hbl (fun e=>hqb b (hrow b e.symm) rfl);have own1:w1.ownsRow base T size (.slice (some ⟨b,0,none⟩) n cap) (xs++[q]).length ((xs++[q]).flatMap cells):=jM h.own fun g hgo=>by
  have e:b=g:=by simpa[Value.ownBlock] using hgo
  rw[<-e];exact hb1
 have hlen:(xs++[q]).length=n:=by simp[hn]
 rw[hlen]at own1;obtain⟨ZH,hg2⟩:=own1.stored j u;rw[hset]at ZH;obtain⟨ht1,ht2⟩:=Po h.two;have h2s:∀g,g≠b->(w1.setCell ⟨b,j,none⟩ u).heap[g]?=w1.heap[g]?:=fun g hne=>Below.heap_setCell w1 _ u g hne;refine⟨by simpa[hn] using ZH,fun p hp=>?_,fun p hp g hi=>?_,G5 ht1 fun p hp g hi hi'=>?_⟩
 ·rcases Vn.1 hp with hp|hp
  ·have hkp:=h.kid p (by simp[hp]);refine kd.heap w _ base p hkp (Vj hg.size hg2.size) fun g hi=>?_;have hl:=(kd.lt w base p hkp g hi).2;rw[h2s g (fun e=>h.head p (by simp[hp]) g hi (by rw[e];rfl))];exact hg.block g hl (fun e=>ht2 p hp g hi (hrow g e.symm))
  rw[Vl]at hp;subst hp;exact kd.heap w1 _ base _ hq' hg2.size fun g hi=>h2s g (hq'b g hi)
 ·intro e;have e:b=g:=by simpa[Value.ownBlock] using e
  rcases Vn.1 hp with hp|hp
  ·exact h.head p (by simp[hp]) g hi (by rw[<-e];rfl)
  rw[Vl]at hp;subst hp;exact hq'b g hi e.symm
 rcases hI g hi' with h2|h2
 ·exact ht2 p hp g hi h2
 exact h2.2 p hp hi
end
structure NodM(w:World)(base:Nat)(v:Value)(qs:Q08):Prop where
 own:w.ownsRow base 39 5 v qs.length (jW qs)
 zA:∀q∈qs,q.e.allow≠[]->∃g,q.adA=some ⟨g,0,none⟩
 zK:∀q∈qs,q.e.kids≠[]->∃g,q.adK=some ⟨g,0,none⟩
 ok:∀q∈qs,q.ok w
 lie:∀q∈qs,∀g,qw q g->base<=g/\g<w.heap.size/\jZ w g/\v.ownBlock≠some g
 one:∀q∈qs,∀g,bA q g->¬bK q g
 two:∀(x y:Nat) (hx:x<qs.length) (hy:y<qs.length),x≠y->∀g,qw qs[x] g->¬qw qs[y] g
 cA:∀q∈qs,q.e.allow.length<=q.capA
theorem NodM.mono{w:af}{base base':Nat}{v:Value}{qs:Q08}(h:NodM w base v qs)(hb:base'<=base):NodM w base' v qs :=
 ⟨⟨h.own.1,by
  rcases h.own.2 with hl|⟨g,cap,cur,e,h1,h2⟩
  ·exact .inl hl
  exact .inr ⟨g,cap,cur,e,Vj hb h1,h2⟩⟩,h.zA,h.zK,h.ok,fun q hq g hg=>⟨Vj hb (h.lie q hq g hg).1,(h.lie q hq g hg).2⟩,h.one,h.two,h.cA⟩
def RR.vs(q:RR):Value:=.slice q.ad q.rows.length q.cap
def TR.vs(q:TR):Value:=.slice q.ad q.rows.length q.cap
def kR(w:World)(base:Nat)(q:RR):Prop:=NodM w base q.vs q.rows
def iR(q:RR):Nat->Prop:=GZ qw q.vs q.rows
theorem JI:Kid kR iR where
 heap w w' base q h hs hh:={
  own:=jM h.own fun g hg=>hh g (.inl hg)
  zA:=h.zA
  zK:=h.zK
  ok:=fun x hx=>rT (h.ok x hx) hs (h.zA x hx) (h.zK x hx) fun g hg=>hh g (.inr ⟨x,hx,hg⟩)
  lie:=fun x hx g hg=>by
   obtain⟨a1,a2,a3,a4⟩:=h.lie x hx g hg;exact⟨a1,U9 a2 hs,dx a3 (hh g (.inr ⟨x,hx,hg⟩)),a4⟩
  one:=h.one
  two:=h.two
  cA:=h.cA }
 lt w base q h g hg:=by
  rcases hg with hg|⟨x,hx,hg⟩
  ·exact h.own.lt g hg
  exact⟨(h.lie x hx g hg).1,(h.lie x hx g hg).2.1⟩
def RR.cells(q:RR):List Value:=[.string q.name,q.vs]
def TR.cells(q:TR):List Value:=[.string q.name,q.vs]
abbrev Cx:=WL 147 2 RR.cells kR iR
def kT(w:World)(base:Nat)(q:TR):Prop:=Cx w base q.vs q.rows
def iT(q:TR):Nat->Prop:=GZ iR q.vs q.rows
theorem nk:Kid kT iT where
 heap w w' base q h hs hh:=WL.heap JI h hs hh
 lt w base q h g hg:=WL.lt JI h hg
abbrev iZ:=WL 127 2 TR.cells kT iT
theorem rZ{α:Type}{cells:α->List Value}(h2:∀q,(cells q).length=2):∀(rs:List α) (i:Nat) (h:i<rs.length) (j:Nat),j<2->(rs.flatMap cells)[i*2+j]?=(cells rs[i])[j]?
 | [],i,h,_,_=>by simp at h
 | r::rs,0,_,j,hj=>by
  simp only[VJ,Nat.zero_mul,VC,List.getElem_cons_zero];rw[V9 (by rw[h2];exact hj)]
 | r::rs,i+1,h,j,hj=>by
  have:=rZ h2 rs i (by simpa using h) j hj;simp only[VJ,List.getElem_cons_succ];rw[V7 (by rw[h2];omega),h2,<-this];congr 1;omega
theorem pG{α:Type}{cells:α->List Value}(h2:∀q,(cells q).length=2):∀(rs:List α),(rs.flatMap cells).length=rs.length*2
 | []=>rfl
 | r::rs=>by simp only[VJ,Vh,h2,pG h2 rs,VI];omega
theorem TM{w:af}{base:Nat}{q:TR}(h:kT w base q):Od w q.ad q.rows:=by
 by_cases hz:q.rows=[]
 ·exact .inl hz
 rcases h.own.2 with⟨-,h0⟩|⟨g,cap,cur,e,-⟩
 ·exact absurd (Vr.1 h0) hz
 have h3:=h.own;unfold TR.vs at e h3;injection e with e1 e2 e3;rw[e1]at h3;refine .inr ⟨g,0,e1,(h3.lt g rfl).2,fun i hi=>?_,fun r hr=>?_⟩
 ·have hl:(q.rows.flatMap RR.cells).length=q.rows.length*2:=pG (fun _=>rfl) _;have key:∀j,j<2->w.cell? ⟨g,0+i*2+j,none⟩=(RR.cells q.rows[i])[j]?:=fun j hj=>by
   rw[h3.cellAt (0+i*2+j) (by omega),<-rZ (fun _=>rfl) q.rows i hi j hj,VC]
  exact⟨key 0 (by omega),key 1 (by omega)⟩
 have hk:=h.kid r hr;obtain⟨ad,cap',e4,hsl⟩:=SY hk.own rfl hk.ok;unfold RR.vs at e4;injection e4 with e5 e6 e7;show ik w r.ad r.rows;rw[e5];exact hsl
theorem Pp{w:af}{base size n cap:Nat}{e:TypeId}{ad:Q02}{xs:Q03}(h:w.ownsRow base e size (.slice ad n cap) n xs):n<=cap:=by
 rcases h.2 with⟨e1,h0⟩|⟨g,cap',cur,e1,-,-,hnc,-⟩
 ·injection e1 with _ e2 e3;omega
 injection e1 with _ e2 e3;omega
theorem iZ.read{w:af}{base:Nat}{v:Value}{rs:Q06}(h:iZ w base v rs):∃ad cap,v=.slice ad rs.length cap/\j5 w ad rs/\∀r∈rs,r.caps:=by
 have hc:∀r∈rs,r.caps:=fun r hr=>⟨Pp (h.kid r hr).own,fun q hq=>⟨Pp ((h.kid r hr).kid q hq).own,((h.kid r hr).kid q hq).cA⟩⟩;rcases h.own.2 with⟨rfl,h0⟩|⟨g,cap,cur,rfl,-⟩
 ·exact⟨none,0,by rw[h0],.inl (Vr.1 h0),hc⟩
 have h3:=h.own;refine⟨some ⟨g,0,none⟩,cap,rfl,.inr ⟨g,0,rfl,(h3.lt g rfl).2,fun i hi=>?_,fun r hr=>TM (h.kid r hr)⟩,hc⟩;have hl:(rs.flatMap TR.cells).length=rs.length*2:=pG (fun _=>rfl) _;have key:∀j,j<2->w.cell? ⟨g,0+i*2+j,none⟩=(TR.cells rs[i])[j]?:=fun j hj=>by
  rw[h3.cellAt (0+i*2+j) (by omega),<-rZ (fun _=>rfl) rs i hi j hj,VC]
 exact⟨key 0 (by omega),key 1 (by omega)⟩
section
variable  {α:Type}{T:TypeId}{size:Nat}{cells:α->List Value}{K:World->Nat->α->Prop}{I:α->Nat->Prop}{w w':World}{base:Nat}{v:Value}
theorem A9{q q':α}{rs:List α}(hI:∀g,I q' g->I q g)(h:∀(x y:Nat) (hx:x<(q::rs).length) (hy:y<(q::rs).length),x≠y->∀g,I (q::rs)[x] g->¬I (q::rs)[y] g):
  ∀(x y:Nat) (hx:x<(q'::rs).length) (hy:y<(q'::rs).length),x≠y->∀g,I (q'::rs)[x] g->¬I (q'::rs)[y] g:=by
 intro x y hx hy hxy g h1 h2;cases x with
 | zero =>
  cases y with
  | zero=>exact hxy rfl
  | succ y=>exact h 0 (y+1) (by simp) (by simpa using hy) (by omega) g (hI g h1) h2
 | succ x =>
  cases y with
  | zero=>exact h (x+1) 0 (by simpa using hx) (by simp) (by omega) g h1 (hI g h2)
  | succ y=>exact h (x+1) (y+1) (by simpa using hx) (by simpa using hy) hxy g h1 h2
theorem WL.first(kd:Kid K I){q q':α}{rs:List α}{b n cap j:Nat}{u:Value}(h:WL T size cells K I w base (.slice (some ⟨b,0,none⟩) n cap) (q::rs))(hn:n=rs.length+1)
  (hq':∀w,K w base q->K w base q') (hI:∀g,I q' g->I q g) (hset:((q::rs).flatMap cells).set j u=(q'::rs).flatMap cells) :
  WL T size cells K I (w.setCell ⟨b,j,none⟩ u) base (.slice (some ⟨b,0,none⟩) n cap) (q'::rs):=by
 have own1:w.ownsRow base T size (.slice (some ⟨b,0,none⟩) n cap) n ((q::rs).flatMap cells):=by have:=h.own;rwa [show(q::rs).length=n by simp[hn]]at this
 obtain⟨ZH,hg2⟩:=own1.stored j u;rw[hset]at ZH;have hne:∀p∈q::rs,∀g,I p g->g≠b:=fun p hp g hi e=>h.head p hp g hi (by rw[e];rfl);have keep:∀p∈q::rs,K (w.setCell ⟨b,j,none⟩ u) base p:=fun p hp=>kd.heap w _ base p (h.kid p hp) hg2.size fun g hi=>Below.heap_setCell w _ u g (hne p hp g hi);refine⟨by simpa[hn] using ZH,fun p hp=>?_,fun p hp g hi=>?_,A9 hI h.two⟩
 ·rcases Vq.1 hp with rfl|hp
  ·exact hq' _ (keep q (by simp))
  exact keep p (by simp[hp])
 rcases Vq.1 hp with rfl|hp
 ·exact h.head q (by simp) g (hI g hi)
 exact h.head p (by simp[hp]) g hi
theorem WL.firstIn(kd:Kid K I){q q':α}{rs:List α}(h:WL T size cells K I w base v (q::rs))(hs:w.heap.size<=w'.heap.size)(hh:∀g,¬I q g->w'.heap[g]?=w.heap[g]?)(hc:cells q'=cells q)(hk:K w' base q')(hI:∀g,I q' g->I q g):
  WL T size cells K I w' base v (q'::rs):=by
 refine⟨?_,fun p hp=>?_,fun p hp g hi=>?_,A9 hI h.two⟩
 ·have h1:=jM (w':=w') h.own fun g hg=>hh g fun hi=>h.head q (by simp) g hi hg;simpa[List.flatMap_cons,hc] using h1
 ·rcases Vq.1 hp with rfl|hp
  ·exact hk
  refine kd.heap w w' base p (h.kid p (by simp[hp])) hs fun g hi=>hh g fun hq=>?_;obtain⟨i,hi2,rfl⟩:=VV hp;exact h.two 0 (i+1) (by simp) (by simp;omega) (by omega) g hq hi
 rcases Vq.1 hp with rfl|hp
 ·exact h.head q (by simp) g (hI g hi)
 exact h.head p (by simp[hp]) g hi
end
def ER.asK(x:ER)(k:Int):ER:={ x with e:={ x.e with kind:=k } }
theorem NodM.kind{w:af}{base b n cap:Nat}{x:ER}{xs:Q08}(k:Int)(h:NodM w base (.slice (some ⟨b,0,none⟩) n cap) (x::xs))(hn:n=xs.length+1):NodM (w.setCell ⟨b,0,none⟩ (.int .i64 k)) base (.slice (some ⟨b,0,none⟩) n cap) (x.asK k::xs):=by
 have own1:w.ownsRow base 39 5 (.slice (some ⟨b,0,none⟩) n cap) n (jW (x::xs)):=by have:=h.own;rwa [show(x::xs).length=n by simp[hn]]at this
 obtain⟨ZH,hg2⟩:=own1.stored 0 (.int .i64 k);have hset:(jW (x::xs)).set 0 (.int .i64 k)=jW (x.asK k::xs):=by simp[jW,ER.row,ER.asK]
 rw[hset]at ZH;have hb:∀q∈x::xs,∀g,qw q g->g≠b:=fun q hq g hg e=>(h.lie q hq g hg).2.2.2 (by rw[e];rfl);have hsame:∀g,g≠b->(w.setCell ⟨b,0,none⟩ (.int .i64 k)).heap[g]?=w.heap[g]?:=fun g hg=>Below.heap_setCell w _ _ g hg;have hall:∀{P:ER->Prop},(∀q∈x::xs,P q)->(P x->P (x.asK k))->∀q∈x.asK k::xs,P q:=fun hP hx q hq=>by
  rcases Vq.1 hq with rfl|hq
  ·exact hx (hP x (by simp))
  exact hP q (by simp[hq])
 refine ⟨by simpa [hn] using ZH,hall h.zA id,hall h.zK id,hall (P:=fun q=>q.ok _) (fun q hq=>rT (h.ok q hq) hg2.size (h.zA q hq) (h.zK q hq) fun g hg=>hsame g (hb q hq g hg)) id,hall (P:=fun q=>∀ g,qw q g->base<=g/\g<(w.setCell ⟨b,0,none⟩ (.int .i64 k)).heap.size/\jZ (w.setCell ⟨b,0,none⟩ (.int .i64 k)) g/\_) (fun q hq g hg=>by
  obtain⟨a1,a2,a3,a4⟩:=h.lie q hq g hg;exact⟨a1,U9 a2 hg2.size,dx a3 (hsame g (hb q hq g hg)),a4⟩) id,hall h.one id,?_,hall h.cA id⟩
 exact A9 (I:=qw) (q:=x) (q':=x.asK k) (fun g hg=>hg) h.two
theorem iZ.named{w:af}{base b n cap:Nat}{t:TR}{ts:Q06}(nm:bW)(h:iZ w base (.slice (some ⟨b,0,none⟩) n cap) (t::ts))(hn:n=ts.length+1):iZ (w.setCell ⟨b,0,none⟩ (.string nm)) base (.slice (some ⟨b,0,none⟩) n cap) (({ t with name:=nm }:TR)::ts) :=
 WL.first nk h hn (fun w hk=>hk) (fun g hg=>hg) (by simp[TR.cells,TR.vs])
def TR.asK(t:TR)(q:RR)(qs:Q07)(x:ER)(xs:Q08)(k:Int):TR:={ t with rows:={ q with rows:=x.asK k::xs }::qs }
theorem iZ.kind{w:af}{base b:Nat}{v:Value}{t:TR}{ts:Q06}{q:RR}{qs:Q07}{x:ER}{xs:Q08}(k:Int)(h:iZ w base v (t::ts))(ht:t.rows=q::qs)(hq:q.rows=x::xs)(hb:q.ad=some ⟨b,0,none⟩):
  iZ (w.setCell ⟨b,0,none⟩ (.int .i64 k)) base v (t.asK q qs x xs k::ts):=by
 have hkt:=h.kid t (by simp);have hR:Cx w base t.vs (q::qs):=by have:=hkt;unfold kT at this;rwa [ht]at this
 have hkq:=hR.kid q (by simp);have hN:NodM w base q.vs (x::xs):=by have:=hkq;unfold kR at this;rwa [hq]at this
 have hvq:q.vs=.slice (some ⟨b,0,none⟩) (xs.length+1) q.cap:=by unfold RR.vs;rw[hb,hq];rfl
 rw[hvq]at hN;have hN2:=hN.kind k rfl;have hsz:w.heap.size<=(w.setCell ⟨b,0,none⟩ (.int .i64 k)).heap.size:=by simp
 have hsame:∀g,g≠b->(w.setCell ⟨b,0,none⟩ (.int .i64 k)).heap[g]?=w.heap[g]?:=fun g hg=>Below.heap_setCell w _ _ g hg;have hib:iR q b:=.inl (by rw[hvq];rfl);have hvq2:({ q with rows:=x.asK k::xs }:RR).vs=q.vs:=by unfold RR.vs;rw[hq];rfl
 have hiR:∀g,iR { q with rows:=x.asK k::xs } g->iR q g:=fun g hg=>by
  rcases hg with hg|⟨y,hy,hg⟩
  ·exact .inl (by rw[<-hvq2];exact hg)
  rcases Vq.1 hy with rfl|hy
  ·exact .inr ⟨x,by rw[hq];simp,hg⟩
  exact .inr ⟨y,by rw[hq];simp[hy],hg⟩
 have hR2:Cx (w.setCell ⟨b,0,none⟩ (.int .i64 k)) base t.vs ({ q with rows:=x.asK k::xs }::qs):=WL.firstIn JI hR hsz (fun g hg=>hsame g fun e=>hg (by rw[e];exact hib)) (by unfold RR.cells;rw[hvq2]) (by show NodM _ _ _ _;rw[hvq2,hvq];exact hN2) hiR;have hvt:(t.asK q qs x xs k).vs=t.vs:=by unfold TR.vs TR.asK;rw[ht];rfl
 have hit:iT t b:=.inr ⟨q,by rw[ht];simp,hib⟩;refine WL.firstIn nk h hsz (fun g hg=>hsame g fun e=>hg (by rw[e];exact hit)) (by unfold TR.cells;rw[hvt];rfl) (by show Cx _ _ _ _;rw[hvt];exact hR2) fun g hg=>?_;rcases hg with hg|⟨y,hy,hg⟩
 ·exact .inl (by rw[<-hvt];exact hg)
 rcases Vq.1 hy with rfl|hy
 ·exact .inr ⟨q,by rw[ht];simp,hiR g hg⟩
 exact .inr ⟨y,by rw[ht];simp[hy],hg⟩
open Maps
set_option maxRecDepth 8000 in
theorem MC(ad:Q02)(cap:Nat)(ts:Q05)(t:Tp)(w:af)(hlen:ts.length<=1048576)(hs:Sl w ad ts):
  Calls prog 128 #[.slice ad ts.length cap,.agg #[.string t.a,.string t.b,.string t.r,.string t.c,.string t.d,.string t.s]] w fun e w'=>e=.returned (.bool (xw ts t))/\ae w w':=by
 have HS:=aD hs;clear hs;obtain⟨W0,hW0⟩:∃W0,W0=w.alloc (.cells #[.string t.a,.string t.b,.string t.r,.string t.c,.string t.d,.string t.s] 46):=⟨_,rfl⟩;have HB0:=mi hW0;have HX0:Hid (W0.cell? ⟨w.heap.size,0,none⟩=some (.string t.a)/\W0.cell? ⟨w.heap.size,1,none⟩=some (.string t.b)/\W0.cell? ⟨w.heap.size,2,none⟩=some (.string t.r)/\W0.cell? ⟨w.heap.size,3,none⟩=some (.string t.c)/\W0.cell? ⟨w.heap.size,4,none⟩=some (.string t.d)/\W0.cell? ⟨w.heap.size,5,none⟩=some (.string t.s)/\w.heap.size<W0.heap.size):=by show _/\_;rw[hW0];refine⟨?_,?_,?_,?_,?_,?_,?_⟩<;>simp
 go_enter func128,ntmps128;go_wp2;rw[<-hW0];clear hW0;go_loopw[5] (fun i wr=>∃k:Nat,k<=ts.length/\i=.int .i64 k/\Hid (xw (ts.drop k) t=xw ts t)/\Hid (ae W0 wr)) (fun i _=>ts.length-(intOf i).toNat);case atStart=>exact⟨0,Vf _,rfl,rfl,Vb _ _⟩
 obtain⟨k,hk,rfl,HP,HB⟩:=hrel;have Wx:Hid (ae w wr):=HB0.out.trans (HB.out.mono HB0.out.size);by_cases hlt:k<ts.length
 ·rcases HS.out.below Wx.out with hnil|⟨b,off,rfl,hb,hr⟩
  ·rw[hnil]at hlt;simp at hlt
  obtain⟨t0,t1,t2,t3,t4,t5⟩:=hr k hlt;have x0:=mK HB.out HX0.out.2.2.2.2.2.2 HX0.out.1;have x1:=mK HB.out HX0.out.2.2.2.2.2.2 HX0.out.2.1;have x2:=mK HB.out HX0.out.2.2.2.2.2.2 HX0.out.2.2.1;have x3:=mK HB.out HX0.out.2.2.2.2.2.2 HX0.out.2.2.2.1;have x4:=mK HB.out HX0.out.2.2.2.2.2.2 HX0.out.2.2.2.2.1;have x5:=mK HB.out HX0.out.2.2.2.2.2.2 HX0.out.2.2.2.2.2.1;have hk1:=bC k;have hk2:(k:Int)<(ts.length:Int):=by omega
  have HD:Hid (xw ts t=(LY ts[k] t || xw (ts.drop (k+1)) t)):=by show _=_;rw[<-HP.out];exact LZ hlt
  clear hr;cases hq:LY ts[k] t;case true=>
   have heq:=Oz ts[k] t hq;have HN:Hid (xw ts t=true):=by show _=_;rw[HD.out,hq];rfl
   clear hq;go_wp2_with fail;go_region_held3 (fun w'=>w'.cell? ⟨b,off+k*6,none⟩=some (.string ts[k].a)/\w'.cell? ⟨b,off+k*6+1,none⟩=some (.string ts[k].b)/\w'.cell? ⟨b,off+k*6+2,none⟩=some (.string ts[k].r)/\w'.cell? ⟨b,off+k*6+3,none⟩=some (.string ts[k].c)/\w'.cell? ⟨b,off+k*6+4,none⟩=some (.string ts[k].d)/\w'.cell? ⟨b,off+k*6+5,none⟩=some (.string ts[k].s)/\w'.cell? ⟨w.heap.size,0,none⟩=some (.string t.a)/\w'.cell? ⟨w.heap.size,1,none⟩=some (.string t.b)/\w'.cell? ⟨w.heap.size,2,none⟩=some (.string t.r)/\w'.cell? ⟨w.heap.size,3,none⟩=some (.string t.c)/\w'.cell? ⟨w.heap.size,4,none⟩=some (.string t.d)/\w'.cell? ⟨w.heap.size,5,none⟩=some (.string t.s)/\ae wr w') (first|assumption|exact⟨t0,t1,t2,t3,t4,t5,x0,x1,x2,x3,x4,x5,(Vb _ _).drew⟩) (fail);rename_i hH;have HG:Hid (ae wr _):=hH.2.2.2.2.2.2.2.2.2.2.2.2;clear hH t0 t1 t2 t3 t4 t5 x0 x1 x2 x3 x4 x5 heq;go_wp2;go_ret;exact⟨by rw[HN.out];rfl,Wx.out.trans (HG.out.mono Wx.out.size)⟩
  have heq:=Oz ts[k] t hq;have WB:Hid (xw (ts.drop (k+1)) t=xw ts t):=by show _=_;rw[HD.out,hq];rfl
  clear hq;go_wp2_with fail;go_region_held3 (fun w'=>w'.cell? ⟨b,off+k*6,none⟩=some (.string ts[k].a)/\w'.cell? ⟨b,off+k*6+1,none⟩=some (.string ts[k].b)/\w'.cell? ⟨b,off+k*6+2,none⟩=some (.string ts[k].r)/\w'.cell? ⟨b,off+k*6+3,none⟩=some (.string ts[k].c)/\w'.cell? ⟨b,off+k*6+4,none⟩=some (.string ts[k].d)/\w'.cell? ⟨b,off+k*6+5,none⟩=some (.string ts[k].s)/\w'.cell? ⟨w.heap.size,0,none⟩=some (.string t.a)/\w'.cell? ⟨w.heap.size,1,none⟩=some (.string t.b)/\w'.cell? ⟨w.heap.size,2,none⟩=some (.string t.r)/\w'.cell? ⟨w.heap.size,3,none⟩=some (.string t.c)/\w'.cell? ⟨w.heap.size,4,none⟩=some (.string t.d)/\w'.cell? ⟨w.heap.size,5,none⟩=some (.string t.s)/\ae wr w') (first|assumption|exact⟨t0,t1,t2,t3,t4,t5,x0,x1,x2,x3,x4,x5,(Vb _ _).drew⟩) (fail);rename_i hH;have HG:Hid (ae W0 _):=HB.out.trans (hH.2.2.2.2.2.2.2.2.2.2.2.2.mono HB.out.size);clear hH t0 t1 t2 t3 t4 t5 x0 x1 x2 x3 x4 x5 heq;go_wp2;go_roundw;case rel=>exact⟨k+1,by omega,by go_num,WB,HG⟩
  simp[intOf]<;>omega
 have HN:Hid (xw ts t=false):=by show _=_;rw[<-HP.out,Vt (by omega)];rfl
 go_wp2;go_ret;exact⟨by rw[HN.out];rfl,Wx.out⟩
end Go.Proofs.YtajkkeikihhejaaGreat
namespace Go.Proofs.YtajkkeikihhejaaGreat
open Go.Sort
open ChangeShapes WideShapes ChangeAt RowKit
open Pl
attribute [local go_sem ↓] Go.wp_at_zero Go.wp_at_succ
theorem xL(b off cap:Nat)(ts:Q05)(w:af)(hlen:ts.length<=maxLen)(hr:lq w b off ts)(hb:b<w.heap.size)(hf:∀t∈ts,t.fits):
    Calls prog 99 #[.slice (some ⟨b,off,none⟩) ts.length cap] w fun e w'=>e=.returned (.bool (dI ts))/\ae w w':=by
  unfold maxLen at hlen;by_cases hbig:40<ts.length
  · have HT:Hid (dI ts=false):=by show _=_;simp[dI];omega
    go_enter func99,ntmps99;go_wp2;go_ret;exact⟨ah HT.out.symm,Vb _ _⟩
  · go_enter func99,ntmps99;go_wp2;go_loopw[10] (fun i wr=>∃k:Nat,k<=ts.length/\i=.int .i64 k/\Hid (vJ ts k=true)/\ae w wr) (fun i _=>ts.length-(intOf i).toNat);case atStart=>exact⟨0,Vf _,rfl,rfl,Vb _ _⟩
    obtain⟨k,hk,rfl,hu,hB⟩:=hrel;by_cases hlt:k<ts.length
    · have ZE:=qC (hr.below hB hb);have WE:=qC hf;obtain⟨t0,t1,t2,t3,t4,t5⟩:=ZE.out k hlt;have hk1:=bC k;have hk2:(k:Int)<(ts.length:Int):=by omega
      clear hr hf;obtain⟨W1,hW1⟩:∃W1,W1=wr.alloc (.cells #[.string ts[k].a,.string ts[k].b,.string ts[k].r,.string ts[k].c,.string ts[k].d,.string ts[k].s] 46):=⟨_,rfl⟩;have hal:ae wr W1:=by rw[hW1];exact(Vb _ _).alloc (Va _) _
      have c0:∀d os,(grow (redrawn W1 d) os).cell? ⟨wr.heap.size,0,none⟩=some (.string ts[k].a):=cell_regrown (by rw[hW1];simp);have c1:∀d os,(grow (redrawn W1 d) os).cell? ⟨wr.heap.size,1,none⟩=some (.string ts[k].b):=cell_regrown (by rw[hW1];simp);have c2:∀d os,(grow (redrawn W1 d) os).cell? ⟨wr.heap.size,2,none⟩=some (.string ts[k].r):=cell_regrown (by rw[hW1];simp);have c3:∀d os,(grow (redrawn W1 d) os).cell? ⟨wr.heap.size,3,none⟩=some (.string ts[k].c):=cell_regrown (by rw[hW1];simp);have c4:∀d os,(grow (redrawn W1 d) os).cell? ⟨wr.heap.size,4,none⟩=some (.string ts[k].d):=cell_regrown (by rw[hW1];simp);have c5:∀d os,(grow (redrawn W1 d) os).cell? ⟨wr.heap.size,5,none⟩=some (.string ts[k].s):=cell_regrown (by rw[hW1];simp);have Xv:Hid (∀d os,ae w (grow (redrawn W1 d) os)):=fun d os=>hB.trans ((hal.mono hB.size).trans ((below_regrown W1 d os).mono (Vj hB.size hal.size)));have HK:Hid (∀p v,wr.cell? p=some v->W1.cell? p=some v):=fun p v h=>cell_later hal h;clear hal;go_wp2_with fail;rw[<-hW1];clear hW1 t0 t1 t2 t3 t4 t5;have Zc:Hid (∀d os,Calls prog 108 #[.agg #[.string ts[k].a,.string ts[k].b,.string ts[k].r,.string ts[k].c,.string ts[k].d,.string ts[k].s]] (grow (redrawn W1 d) os) fun e w''=>e=.returned (.bool ts[k].ok)/\∃p:Regrown,w''=grow (redrawn W1 p.d) p.os):=by
        obtain⟨f0,f1,f2,f3,f4,f5⟩:=WE.out ts[k] (U8 hlt);exact dA fun W' _=>fF _ _ _ _ _ _ _ f0 f1 f2 f3 f4 f5
      cases hok:ts[k].ok;case false=>
        have HT:Hid (dI ts=false):=vL hlt (K9 hlt hok);rw[hok]at Zc;clear hok;refine wp_region_quiet_below (by kernel_rfl) (by kernel_rfl) ?_
        repeat(go_big_quiet_step (exact Zc.out _ _))
        refine wpQuiet_nil ?_;rintro _ ⟨⟨dq,osq⟩,rfl⟩;go_wp2;go_ret;exact⟨ah HT.out.symm,Xv.out dq osq⟩
      rw[hok]at Zc;by_cases hz:k=0
      · have HU:Hid (vJ ts (k+1)=true):=by show _=_;rw[rX,hu.out];subst hz;rw[xy hlt,hok];rfl
        have hk8:decide ((0:Int)<(k:Int))=false:=by simp;omega
        have hk9:decide (0<k)=false:=by simp;omega
        clear hok hz;refine wp_region_quiet_below (by kernel_rfl) (by kernel_rfl) ?_
        repeat(go_big_quiet_step (exact Zc.out _ _))
        refine wpQuiet_nil ?_;rintro _ ⟨⟨dq,osq⟩,rfl⟩;go_wp2;go_roundw;case rel=>exact⟨k+1,by omega,by go_num,HU,Xv.out dq osq⟩
        simp[intOf];omega
      · obtain⟨m,hm⟩:∃m:Nat,k=m+1:=⟨k-1,by omega⟩;have Xd:m<ts.length:=by omega
        obtain⟨q0,q1,q2,q3,q4,q5⟩:=ZE.out m Xd;replace q0:=cell_regrown (HK.out _ _ q0);replace q1:=cell_regrown (HK.out _ _ q1);replace q2:=cell_regrown (HK.out _ _ q2);replace q3:=cell_regrown (HK.out _ _ q3);replace q4:=cell_regrown (HK.out _ _ q4);replace q5:=cell_regrown (HK.out _ _ q5);have hkm:(k:Int)-1=(m:Int):=by omega
        have hm1:=bC m;have hm2:(m:Int)<(ts.length:Int):=by omega
        have hpos:(0:Int)<(k:Int):=by omega
        have hposN:0<k:=by omega
        have hwm:IntKind.i64.wrap (m:Int)=(m:Int):=by rw[IntKind.wrap_i64];omega
        have HA:Hid (xx ts k=ts[m].ahead ts[k]):=by show _=_;subst hm;rw[rY hlt,hok];rfl
        have HCA:Hid (∀d os,Calls prog 141 #[.agg #[.string ts[m].a,.string ts[m].b,.string ts[m].r,.string ts[m].c,.string ts[m].d,.string ts[m].s],.agg #[.string ts[k].a,.string ts[k].b,.string ts[k].r,.string ts[k].c,.string ts[k].d,.string ts[k].s]] (grow (redrawn W1 d) os) fun e w''=>e=.returned (.bool (ts[m].ahead ts[k]))/\∃p:Regrown,w''=grow (redrawn W1 p.d) p.os):=by
          obtain⟨f0,f1,f2,f3,f4,f5⟩:=WE.out ts[k] (U8 hlt);obtain⟨g0,g1,g2,g3,g4,g5⟩:=WE.out ts[m] (U8 Xd);exact dA fun W' _=>Ct _ _ _ _ _ _ _ _ _ _ _ _ _ g0 g1 g2 g3 g4 g5 f0 f1 f2 f3 f4 f5
        clear hm hz hok;cases ha:ts[m].ahead ts[k];case false=>
          have HT:Hid (dI ts=false):=vL hlt (by rw[HA.out,ha]);rw[ha]at HCA;clear ha HA;refine wp_region_quiet_below (by kernel_rfl) (by kernel_rfl) ?_
          repeat(go_big_quiet_step (first|exact Zc.out _ _|exact HCA.out _ _))
          refine wpQuiet_nil ?_;rintro _ ⟨⟨dq,osq⟩,rfl⟩;go_wp2;go_ret;exact⟨ah HT.out.symm,Xv.out dq osq⟩
        have HU:Hid (vJ ts (k+1)=true):=by show _=_;rw[rX,hu.out,HA.out,ha];rfl
        rw[ha]at HCA;clear ha HA;refine wp_region_quiet_below (by kernel_rfl) (by kernel_rfl) ?_
        repeat(go_big_quiet_step (first|exact Zc.out _ _|exact HCA.out _ _))
        refine wpQuiet_nil ?_;rintro _ ⟨⟨dq,osq⟩,rfl⟩;go_wp2;go_roundw;case rel=>exact⟨k+1,by omega,by go_num,HU,Xv.out dq osq⟩
        simp[intOf];omega
    · go_wp2;go_ret;exact⟨ah (by have e:k=ts.length:=(by omega);subst e;simp[dI,hu.out];omega),hB⟩
end Go.Proofs.YtajkkeikihhejaaGreat
namespace Go.Proofs.YtajkkeikihhejaaGreat
open Go.Sort
open ChangeShapes WideShapes ChangeAt RowKit
open Pl
attribute [local go_sem ↓] Go.wp_at_zero Go.wp_at_succ
theorem xM(ad:Q02)(cap:Nat)(w:af):
  Calls prog 93 #[.slice ad 0 cap] w fun e w'=>e=.returned (.bool (dI []))/\ae w w':=by
 go_enter func93,ntmps93;go_wp2;go_loopw[3] (fun i wr=>∃k:Nat,k=0/\i=.int .i64 k/\ae w wr) (fun i _=>(intOf i).toNat);case atStart=>exact⟨0,rfl,rfl,Vb _ _⟩
 obtain⟨k,rfl,rfl,hB⟩:=hrel;go_wp2;go_ret;exact⟨rfl,hB⟩
theorem xN(ad:Q02)(cap:Nat)(w:af):
  Calls prog 99 #[.slice ad 0 cap] w fun e w'=>e=.returned (.bool (dI []))/\ae w w':=by
 go_enter func99,ntmps99;go_wp2;go_loopw[10] (fun i wr=>∃k:Nat,k=0/\i=.int .i64 k/\ae w wr) (fun i _=>(intOf i).toNat);case atStart=>exact⟨0,rfl,rfl,Vb _ _⟩
 obtain⟨k,rfl,rfl,hB⟩:=hrel;go_wp2;go_ret;exact⟨rfl,hB⟩
theorem oD(ad:Q02)(cap:Nat)(ts:Q05)(w:af)(hlen:ts.length<=maxLen)(hs:Sl w ad ts)(hf:∀t∈ts,t.fits):
  Calls prog 93 #[.slice ad ts.length cap] w fun e w'=>e=.returned (.bool (dI ts))/\ae w w':=by
 rcases hs with rfl|⟨b,off,rfl,hb,hr⟩
 ·exact xM ad cap w
 exact xz b off cap ts w hlen hr hb hf
theorem xO(ad:Q02)(cap:Nat)(ts:Q05)(w:af)(hlen:ts.length<=maxLen)(hs:Sl w ad ts)(hf:∀t∈ts,t.fits):
  Calls prog 99 #[.slice ad ts.length cap] w fun e w'=>e=.returned (.bool (dI ts))/\ae w w':=by
 rcases hs with rfl|⟨b,off,rfl,hb,hr⟩
 ·exact xN ad cap w
 exact xL b off cap ts w hlen hr hb hf
end Go.Proofs.YtajkkeikihhejaaGreat
namespace Go.Proofs.YtajkkeikihhejaaGreat
open ChangeShapes WideShapes ChangeAt RowKit
open Pl
attribute [local go_sem ↓] Go.wp_at_zero Go.wp_at_succ
structure BelowD(B:Nat)(w w':World):Prop where
 b:Below B w w'
 d:w.drawn<=w'.drawn
theorem BelowD.size{B:Nat}{w w':af}(h:BelowD B w w'):w.heap.size<=w'.heap.size:=h.b.size
theorem BelowD.refl(B:Nat)(w:af):BelowD B w w:=⟨Vb B w,Va _⟩
theorem BelowD.trans{B:Nat}{a b c:af}(h:BelowD B a b)(k:BelowD B b c):BelowD B a c:=⟨h.b.trans k.b,Vj h.d k.d⟩
theorem BelowD.mono{B B':Nat}{w w':af}(h:BelowD B w w')(hB:B'<=B):BelowD B' w w':=⟨h.b.mono hB,h.d⟩
theorem BelowD.drew{B:Nat}{a w:af}(h:BelowD B a w):BelowD B a w.drew:=⟨h.b.drew,Vj h.d (Nat.le_succ _)⟩
theorem BelowD.alloc{B:Nat}{a w:af}(h:BelowD B a w)(hB:B<=w.heap.size)(o:Obj):BelowD B a (w.alloc o):=⟨h.b.alloc hB o,h.d⟩
theorem BelowD.cell{B:Nat}{w w':af}(h:BelowD B w w'){p:Addr}(hp:p.block<B):w'.cell? p=w.cell? p:=h.b.cell hp
theorem BelowD.frozen{B:Nat}{w w':af}(h:BelowD B w w'){p:Addr}(hp:p.block<B):w'.frozen? p=w.frozen? p:=h.b.frozen hp
theorem BelowD.grew{w w':af}(h:BelowD w.heap.size w w'):∃q os,w'=Go.Sort.grow (w.drewN q) os:=by
 obtain⟨⟨h1,h2,h3,h4,h5⟩,h6⟩:=h;refine⟨w'.drawn-w.drawn,w'.heap.extract w.heap.size w'.heap.size,?_⟩;obtain⟨hp,tp,dr,os,ou⟩:=w';simp only at h1 h2 h3 h4 h5 h6;subst h1 h2 h3;simp only[Go.Sort.grow,World.drewN,World.mk.injEq,true_and,and_true];refine⟨?_,by omega⟩;apply Array.ext
 ·simp;omega
 intro i hi hj;by_cases hlt:i<w.heap.size
 ·have:=h5 i hlt;rw[VY hi,VY hlt]at this;injection this with this;rw[this,Array.getElem_append_left hlt]
 rw[Array.getElem_append_right (by omega)];simp;congr 1;omega
theorem uE{W w1:af}(hb:BelowD W.heap.size W w1):(∀b o,b<W.heap.size->w1.cell? ⟨b,o,none⟩=W.cell? ⟨b,o,none⟩)/\(∀b o,b<W.heap.size->w1.frozen? ⟨b,o,none⟩=W.frozen? ⟨b,o,none⟩) :=
 ⟨fun b o h=>hb.cell (p:=⟨b,o,none⟩) h,fun b o h=>hb.frozen (p:=⟨b,o,none⟩) h⟩
theorem fH(t i:bW)(w:af)(ht:t.size<=maxLen)(hi:i.size<=maxLen):
  Calls prog 161 #[.agg #[.string t,.string i]] w fun e w'=>e=.returned (.bool (fu t i))/\BelowD w.heap.size w w':=by
 by_cases hn:aU t=true
 all_goals
  go_enter func161,ntmps161;go_wp2_with(first|(go_at_call 162;refine(aQ _ _ ht).mono ?_;rintro e w' ⟨rfl,rfl⟩)|(go_at_call 208;refine(Ag _ _ hi).mono ?_;rintro e w' ⟨rfl,rfl⟩));go_ret;exact⟨ah (by simp[fu,hn]),(BelowD.refl _ _).alloc (Va _) _⟩
theorem xP(t i:bW)(w:af)(ht:t.size<=maxLen)(hi:i.size<=maxLen):
  Calls prog 207 #[.agg #[.string t,.string i]] w fun e w'=>e=.returned (.string (aF t i))/\BelowD w.heap.size w w':=by
 by_cases hn:fu t i=true
 ·obtain⟨h1,h2⟩:=zu hn;have HT:Hid (aF t i=t++⟨#[58]⟩++i):=nA hn;go_enter func207,ntmps207;go_wp2_with(go_at_call 161;refine(fH _ _ _ ht hi).mono ?_;rintro e w' ⟨rfl,hb⟩;obtain⟨hc,hf⟩:=uE hb);go_ret;exact⟨gJ HT.out.symm,((BelowD.refl _ _).alloc (Va _) _).trans (hb.mono (by simp))⟩
 have hn':fu t i=false:=by simpa using hn
 have HT:Hid (aF t i=⟨#[]⟩):=uh hn';clear hn;go_enter func207,ntmps207;go_wp2_with(go_at_call 161;refine(fH _ _ _ ht hi).mono ?_;rintro e w' ⟨rfl,hb⟩;obtain⟨hc,hf⟩:=uE hb);go_ret;exact⟨gJ HT.out.symm,((BelowD.refl _ _).alloc (Va _) _).trans (hb.mono (by simp))⟩
theorem wm(a b r c d s:bW)(w:af)(ha:a.size<=maxLen)(hb:b.size<=maxLen)(hr:r.size<=maxLen)(hc:c.size<=maxLen)(hd:d.size<=maxLen)(hs:s.size<=maxLen):
  Calls prog 108 #[.agg #[.string a,.string b,.string r,.string c,.string d,.string s]] w fun e w'=>e=.returned (.bool (cO a b r c d s))/\BelowD w.heap.size w w':=by
 by_cases h1:fu a b=true
 ·by_cases h2:aU r=true
  ·by_cases h3:fu c d=true
   ·have HT:Hid (cO a b r c d s=ui s):=Ad h1 h2 h3;go_enter func108,ntmps108;go_wp2_with fail;refine(fH _ _ _ ha hb).mono ?_;rintro e w1 ⟨rfl,hb1⟩;obtain⟨hc1,hf1⟩:=uE hb1;have hz1:w.heap.size<w1.heap.size:=by have:=hb1.size;simp at this;omega
    go_wp2_with fail;refine(aQ _ _ hr).mono ?_;rintro e w1' ⟨rfl,rfl⟩;go_wp2_with fail;refine(fH _ _ _ hc hd).mono ?_;rintro e w2 ⟨rfl,hb2⟩;obtain⟨hc2,hf2⟩:=uE hb2;have hz2:w.heap.size<w2.heap.size:=by have:=hb2.size;omega
    go_wp2_with(go_at_call 163;refine(Dh _ _ hs).mono ?_;rintro e w3 ⟨rfl,rfl⟩)
    all_goals go_ret
    all_goals exact⟨ah (HT.out.trans (by simp[ui, *])).symm,((BelowD.refl _ _).alloc (Va _) _).trans ((hb1.mono (by simp)).trans (hb2.mono (by omega)))⟩
   have h3':fu c d=false:=by simpa using h3
   have HT:Hid (cO a b r c d s=false):=Ac h3';clear h3;go_enter func108,ntmps108;go_wp2_with fail;refine(fH _ _ _ ha hb).mono ?_;rintro e w1 ⟨rfl,hb1⟩;obtain⟨hc1,hf1⟩:=uE hb1;have hz1:w.heap.size<w1.heap.size:=by have:=hb1.size;simp at this;omega
   go_wp2_with fail;refine(aQ _ _ hr).mono ?_;rintro e w1' ⟨rfl,rfl⟩;go_wp2_with fail;refine(fH _ _ _ hc hd).mono ?_;rintro e w2 ⟨rfl,hb2⟩;go_wp2;go_ret;exact⟨ah HT.out.symm,((BelowD.refl _ _).alloc (Va _) _).trans ((hb1.mono (by simp)).trans (hb2.mono (by omega)))⟩
  have h2':aU r=false:=by simpa using h2
  have HT:Hid (cO a b r c d s=false):=Ab h2';clear h2;go_enter func108,ntmps108;go_wp2_with fail;refine(fH _ _ _ ha hb).mono ?_;rintro e w1 ⟨rfl,hb1⟩;obtain⟨hc1,hf1⟩:=uE hb1;go_wp2_with fail;refine(aQ _ _ hr).mono ?_;rintro e w1' ⟨rfl,rfl⟩;go_wp2;go_ret;exact⟨ah HT.out.symm,((BelowD.refl _ _).alloc (Va _) _).trans (hb1.mono (by simp))⟩
 have h1':fu a b=false:=by simpa using h1
 have HT:Hid (cO a b r c d s=false):=Aa h1';clear h1;go_enter func108,ntmps108;go_wp2_with fail;refine(fH _ _ _ ha hb).mono ?_;rintro e w1 ⟨rfl,hb1⟩;go_wp2;go_ret;exact⟨ah HT.out.symm,((BelowD.refl _ _).alloc (Va _) _).trans (hb1.mono (by simp))⟩
theorem TN{w W w':af}{n:Nat}{x0 x1 x2 x3 x4 x5:Value}(h:W.cell? ⟨n,0,none⟩=some x0/\W.cell? ⟨n,1,none⟩=some x1/\W.cell? ⟨n,2,none⟩=some x2/\W.cell? ⟨n,3,none⟩=some x3/\W.cell? ⟨n,4,none⟩=some x4/\W.cell? ⟨n,5,none⟩=some x5/\n<W.heap.size/\BelowD n w W)(hb:BelowD W.heap.size W w'):w'.cell? ⟨n,0,none⟩=some x0/\w'.cell? ⟨n,1,none⟩=some x1/\w'.cell? ⟨n,2,none⟩=some x2/\w'.cell? ⟨n,3,none⟩=some x3/\w'.cell? ⟨n,4,none⟩=some x4/\w'.cell? ⟨n,5,none⟩=some x5/\n<w'.heap.size/\BelowD n w w':=by
 obtain⟨h0,h1,h2,h3,h4,h5,hn,hB⟩:=h;have hc:∀o,w'.cell? ⟨n,o,none⟩=W.cell? ⟨n,o,none⟩:=fun o=>hb.cell (p:=⟨n,o,none⟩) hn;refine⟨by rw[hc];exact h0,by rw[hc];exact h1,by rw[hc];exact h2,by rw[hc];exact h3,by rw[hc];exact h4,by rw[hc];exact h5,U9 hn hb.size,hB.trans (hb.mono (Nat.le_of_lt hn))⟩
theorem xQ(a b r c d s:bW)(w:af)(ha:a.size<=maxLen)(hb:b.size<=maxLen)(hr:r.size<=maxLen)(hc:c.size<=maxLen)(hd:d.size<=maxLen)(hs:s.size<=maxLen):
  Calls prog 160 #[.agg #[.string a,.string b,.string r,.string c,.string d,.string s]] w fun e w'=>e=.returned (.string (bi a b r c d s))/\BelowD w.heap.size w w':=by
 by_cases hn:cO a b r c d s=true
 ·obtain⟨h1,h2,h3,h4⟩:=ku hn;have hx:=iN a b;have hy:=iN c d;have Zb:=(ol h2).2;have hs12:=ES h4;clear h1 h2 h3 h4;go_enter func160,ntmps160;go_wp2_with fail;refine(wm _ _ _ _ _ _ _ ha hb hr hc hd hs).mono ?_;rintro e w1 ⟨rfl,hb1⟩;obtain⟨hc1,hf1⟩:=uE hb1;have hz1:w.heap.size<w1.heap.size:=by have:=hb1.size;simp at this;omega
  have k:∀o v,(w.alloc (.cells #[.string a,.string b,.string r,.string c,.string d,.string s] 46)).cell? ⟨w.heap.size,o,none⟩=some v->w1.cell? ⟨w.heap.size,o,none⟩=some v:=fun o v h=>by rw[hc1 _ _ (by simp)];exact h
  have k0:=k 0 (.string a) (by simp);have k1:=k 1 (.string b) (by simp);have k2:=k 2 (.string r) (by simp);have k3:=k 3 (.string c) (by simp);have k4:=k 4 (.string d) (by simp);have k5:=k 5 (.string s) (by simp);have HB1:BelowD w.heap.size w w1:=((BelowD.refl _ _).alloc (Va _) _).trans (hb1.mono (by simp));clear k hb1 hc1 hf1;have q1:(9223372036854775807<(aF a b).size+1)=False:=by simp;omega
  have q2:(9223372036854775807<(aF a b).size+1+r.size)=False:=by simp;omega
  have q3:(9223372036854775807<(aF a b).size+1+r.size+1)=False:=by simp;omega
  have q4:(9223372036854775807<(aF a b).size+1+r.size+1+(aF c d).size)=False:=by simp;omega
  go_wp2_with fail
  go_region_held3 (fun w'=>w'.cell? ⟨w.heap.size,0,none⟩=some (.string a)/\w'.cell? ⟨w.heap.size,1,none⟩=some (.string b)/\w'.cell? ⟨w.heap.size,2,none⟩=some (.string r)/\w'.cell? ⟨w.heap.size,3,none⟩=some (.string c)/\w'.cell? ⟨w.heap.size,4,none⟩=some (.string d)/\w'.cell? ⟨w.heap.size,5,none⟩=some (.string s)/\w.heap.size<w'.heap.size/\BelowD w.heap.size w w')
   (first|exact TN (by assumption) hbx|exact⟨k0,k1,k2,k3,k4,k5,hz1,HB1.drew⟩)
   (first|(go_at_call 207;refine(xP _ _ _ (by assumption) (by assumption)).mono ?_;rintro e w' ⟨rfl,hbx⟩))
  rename_i hH;obtain⟨g0,g1,g2,g3,g4,g5,gz,gB⟩:=hH;clear k0 k1 k2 k3 k4 k5 hbx q1 q2 q3 q4 HB1;by_cases he:s.toList.isEmpty=true
  ·have HT:Hid (bi a b r c d s=_):=nC hn he;go_wp2;go_ret;exact⟨gJ HT.out.symm,gB⟩
  have he':s.toList.isEmpty=false:=by simpa using he
  have HT:Hid (bi a b r c d s=_):=nD hn he';clear he;go_wp2;go_ret;exact⟨gJ (HT.out.trans (by simp only[VW])).symm,gB⟩
 have hn':cO a b r c d s=false:=by simpa using hn
 have HT:Hid (bi a b r c d s=⟨#[]⟩):=uj hn';clear hn;go_enter func160,ntmps160;go_wp2_with fail;refine(wm _ _ _ _ _ _ _ ha hb hr hc hd hs).mono ?_;rintro e w1 ⟨rfl,hb1⟩;go_wp2;go_ret;exact⟨gJ HT.out.symm,((BelowD.refl _ _).alloc (Va _) _).trans (hb1.mono (by simp))⟩
theorem RJ{w W w':af}{n m k:Nat}{x0 x1 x2 x3 x4 x5 y0 y1 y2 y3 y4 y5:Value}(hk:k<=n)(h:W.cell? ⟨n,0,none⟩=some x0/\W.cell? ⟨n,1,none⟩=some x1/\W.cell? ⟨n,2,none⟩=some x2/\W.cell? ⟨n,3,none⟩=some x3/\W.cell? ⟨n,4,none⟩=some x4/\W.cell? ⟨n,5,none⟩=some x5/\W.cell? ⟨m,0,none⟩=some y0/\W.cell? ⟨m,1,none⟩=some y1/\W.cell? ⟨m,2,none⟩=some y2/\W.cell? ⟨m,3,none⟩=some y3/\W.cell? ⟨m,4,none⟩=some y4/\W.cell? ⟨m,5,none⟩=some y5/\n<W.heap.size/\m<W.heap.size/\BelowD k w W)(hb:BelowD W.heap.size W w'):w'.cell? ⟨n,0,none⟩=some x0/\w'.cell? ⟨n,1,none⟩=some x1/\w'.cell? ⟨n,2,none⟩=some x2/\w'.cell? ⟨n,3,none⟩=some x3/\w'.cell? ⟨n,4,none⟩=some x4/\w'.cell? ⟨n,5,none⟩=some x5/\w'.cell? ⟨m,0,none⟩=some y0/\w'.cell? ⟨m,1,none⟩=some y1/\w'.cell? ⟨m,2,none⟩=some y2/\w'.cell? ⟨m,3,none⟩=some y3/\w'.cell? ⟨m,4,none⟩=some y4/\w'.cell? ⟨m,5,none⟩=some y5/\n<w'.heap.size/\m<w'.heap.size/\BelowD k w w':=by
 obtain⟨h0,h1,h2,h3,h4,h5,h6,h7,h8,h9,h10,h11,hn,hm,hB⟩:=h;have hc:∀o,w'.cell? ⟨n,o,none⟩=W.cell? ⟨n,o,none⟩:=fun o=>hb.cell (p:=⟨n,o,none⟩) hn;have hd:∀o,w'.cell? ⟨m,o,none⟩=W.cell? ⟨m,o,none⟩:=fun o=>hb.cell (p:=⟨m,o,none⟩) hm;exact⟨by rw[hc];exact h0,by rw[hc];exact h1,by rw[hc];exact h2,by rw[hc];exact h3,by rw[hc];exact h4,by rw[hc];exact h5,by rw[hd];exact h6,by rw[hd];exact h7,by rw[hd];exact h8,by rw[hd];exact h9,by rw[hd];exact h10,by rw[hd];exact h11,U9 hn hb.size,U9 hm hb.size,hB.trans (hb.mono (by omega))⟩
theorem Ll(w:af)(o1 o2:Obj):BelowD w.heap.size w ((w.alloc o1).alloc o2) :=
 ((BelowD.refl _ _).alloc (Va _) _).alloc (by simp) _
theorem uF(a b r c d s a' b' r' c' d' s':bW)(w:af)(ha:a.size<=maxLen)(hb:b.size<=maxLen)(hr:r.size<=maxLen)(hc:c.size<=maxLen)(hd:d.size<=maxLen)(hs:s.size<=maxLen)(ga:a'.size<=maxLen)(gb:b'.size<=maxLen)(gr:r'.size<=maxLen)(gc:c'.size<=maxLen)(gd:d'.size<=maxLen)(gs:s'.size<=maxLen):
  Calls prog 106 #[.agg #[.string a,.string b,.string r,.string c,.string d,.string s],.agg #[.string a',.string b',.string r',.string c',.string d',.string s']] w fun e w'=>e=.returned (.int .i64 (Je a b r c d s a' b' r' c' d' s'))/\BelowD w.heap.size w w':=by
 have H0:((w.alloc (.cells #[.string a,.string b,.string r,.string c,.string d,.string s] 46)).alloc (.cells #[.string a',.string b',.string r',.string c',.string d',.string s'] 46)).drew.cell? ⟨w.heap.size,0,none⟩=some (.string a)/\((w.alloc (.cells #[.string a,.string b,.string r,.string c,.string d,.string s] 46)).alloc (.cells #[.string a',.string b',.string r',.string c',.string d',.string s'] 46)).drew.cell? ⟨w.heap.size,1,none⟩=some (.string b)/\((w.alloc (.cells #[.string a,.string b,.string r,.string c,.string d,.string s] 46)).alloc (.cells #[.string a',.string b',.string r',.string c',.string d',.string s'] 46)).drew.cell? ⟨w.heap.size,2,none⟩=some (.string r)/\((w.alloc (.cells #[.string a,.string b,.string r,.string c,.string d,.string s] 46)).alloc (.cells #[.string a',.string b',.string r',.string c',.string d',.string s'] 46)).drew.cell? ⟨w.heap.size,3,none⟩=some (.string c)/\((w.alloc (.cells #[.string a,.string b,.string r,.string c,.string d,.string s] 46)).alloc (.cells #[.string a',.string b',.string r',.string c',.string d',.string s'] 46)).drew.cell? ⟨w.heap.size,4,none⟩=some (.string d)/\((w.alloc (.cells #[.string a,.string b,.string r,.string c,.string d,.string s] 46)).alloc (.cells #[.string a',.string b',.string r',.string c',.string d',.string s'] 46)).drew.cell? ⟨w.heap.size,5,none⟩=some (.string s)/\((w.alloc (.cells #[.string a,.string b,.string r,.string c,.string d,.string s] 46)).alloc (.cells #[.string a',.string b',.string r',.string c',.string d',.string s'] 46)).drew.cell? ⟨w.heap.size+1,0,none⟩=some (.string a')/\((w.alloc (.cells #[.string a,.string b,.string r,.string c,.string d,.string s] 46)).alloc (.cells #[.string a',.string b',.string r',.string c',.string d',.string s'] 46)).drew.cell? ⟨w.heap.size+1,1,none⟩=some (.string b')/\((w.alloc (.cells #[.string a,.string b,.string r,.string c,.string d,.string s] 46)).alloc (.cells #[.string a',.string b',.string r',.string c',.string d',.string s'] 46)).drew.cell? ⟨w.heap.size+1,2,none⟩=some (.string r')/\((w.alloc (.cells #[.string a,.string b,.string r,.string c,.string d,.string s] 46)).alloc (.cells #[.string a',.string b',.string r',.string c',.string d',.string s'] 46)).drew.cell? ⟨w.heap.size+1,3,none⟩=some (.string c')/\((w.alloc (.cells #[.string a,.string b,.string r,.string c,.string d,.string s] 46)).alloc (.cells #[.string a',.string b',.string r',.string c',.string d',.string s'] 46)).drew.cell? ⟨w.heap.size+1,4,none⟩=some (.string d')/\((w.alloc (.cells #[.string a,.string b,.string r,.string c,.string d,.string s] 46)).alloc (.cells #[.string a',.string b',.string r',.string c',.string d',.string s'] 46)).drew.cell? ⟨w.heap.size+1,5,none⟩=some (.string s')/\w.heap.size<((w.alloc (.cells #[.string a,.string b,.string r,.string c,.string d,.string s] 46)).alloc (.cells #[.string a',.string b',.string r',.string c',.string d',.string s'] 46)).drew.heap.size/\w.heap.size+1<((w.alloc (.cells #[.string a,.string b,.string r,.string c,.string d,.string s] 46)).alloc (.cells #[.string a',.string b',.string r',.string c',.string d',.string s'] 46)).drew.heap.size/\BelowD w.heap.size w (((w.alloc (.cells #[.string a,.string b,.string r,.string c,.string d,.string s] 46)).alloc (.cells #[.string a',.string b',.string r',.string c',.string d',.string s'] 46)).drew):=by
  refine⟨?_,?_,?_,?_,?_,?_,?_,?_,?_,?_,?_,?_,?_,?_,?_⟩
  all_goals first|exact(Ll _ _ _).drew|(simp;done)|(simp;omega)
 go_enter func106,ntmps106;go_wp2_with fail
 go_region_held3 (fun w'=>w'.cell? ⟨w.heap.size,0,none⟩=some (.string a)/\w'.cell? ⟨w.heap.size,1,none⟩=some (.string b)/\w'.cell? ⟨w.heap.size,2,none⟩=some (.string r)/\w'.cell? ⟨w.heap.size,3,none⟩=some (.string c)/\w'.cell? ⟨w.heap.size,4,none⟩=some (.string d)/\w'.cell? ⟨w.heap.size,5,none⟩=some (.string s)/\w'.cell? ⟨w.heap.size+1,0,none⟩=some (.string a')/\w'.cell? ⟨w.heap.size+1,1,none⟩=some (.string b')/\w'.cell? ⟨w.heap.size+1,2,none⟩=some (.string r')/\w'.cell? ⟨w.heap.size+1,3,none⟩=some (.string c')/\w'.cell? ⟨w.heap.size+1,4,none⟩=some (.string d')/\w'.cell? ⟨w.heap.size+1,5,none⟩=some (.string s')/\w.heap.size<w'.heap.size/\w.heap.size+1<w'.heap.size/\BelowD w.heap.size w w')
  (first|assumption|exact RJ (Va _) (by assumption) hbx|exact H0)
  (first|(go_at_call 160;refine(xQ _ _ _ _ _ _ _ (by assumption) (by assumption) (by assumption) (by assumption) (by assumption) (by assumption)).mono ?_;rintro e w' ⟨rfl,hbx⟩)|(go_at_call 159;refine(Tryz.strings_Compare _ _ _).mono ?_;rintro e w' ⟨rfl,rfl⟩))
 rename_i hH;obtain⟨-,-,-,-,-,-,-,-,-,-,-,-,-,-,gB⟩:=hH;go_wp2;go_ret;exact⟨rfl,gB⟩
end Go.Proofs.YtajkkeikihhejaaGreat
namespace Go.Proofs.YtajkkeikihhejaaGreat
open ChangeShapes WideShapes ChangeAt RowKit
open Pl
attribute [local go_sem ↓] Go.wp_at_zero Go.wp_at_succ
theorem ME(a b r c d:bW)(w:af):
  Calls prog 181 #[.agg #[.string a,.string b,.string r,.string c,.string d]] w fun e w'=>e=.returned (.agg #[.string a,.string b,.string r,.string c,.string d,.string ⟨#[]⟩])/\ae w w':=by
 go_enter func181,ntmps181;go_wp2;exact bodyPost_ret (v:=.agg #[.string a,.string b,.string r,.string c,.string d,.string ⟨#[]⟩]) (by simp[results,Tryz.results181,go_sem, *]) rfl ⟨rfl,by
  repeat(first|exact Vb _ _|refine Below.setCell ?_ (by first|(simp;done)|(simp;omega)) _|refine Below.alloc ?_ (by first|(simp;done)|(simp;omega)) _)⟩
theorem RL{w W w':af}{n m k:Nat}{x0 x1 x2 x3 x4 y0 y1 y2 y3 y4:Value}(hk:k<=n)(h:W.cell? ⟨n,0,none⟩=some x0/\W.cell? ⟨n,1,none⟩=some x1/\W.cell? ⟨n,2,none⟩=some x2/\W.cell? ⟨n,3,none⟩=some x3/\W.cell? ⟨n,4,none⟩=some x4/\W.cell? ⟨m,0,none⟩=some y0/\W.cell? ⟨m,1,none⟩=some y1/\W.cell? ⟨m,2,none⟩=some y2/\W.cell? ⟨m,3,none⟩=some y3/\W.cell? ⟨m,4,none⟩=some y4/\n<W.heap.size/\m<W.heap.size/\Below k w W)(hb:ae W w'):w'.cell? ⟨n,0,none⟩=some x0/\w'.cell? ⟨n,1,none⟩=some x1/\w'.cell? ⟨n,2,none⟩=some x2/\w'.cell? ⟨n,3,none⟩=some x3/\w'.cell? ⟨n,4,none⟩=some x4/\w'.cell? ⟨m,0,none⟩=some y0/\w'.cell? ⟨m,1,none⟩=some y1/\w'.cell? ⟨m,2,none⟩=some y2/\w'.cell? ⟨m,3,none⟩=some y3/\w'.cell? ⟨m,4,none⟩=some y4/\n<w'.heap.size/\m<w'.heap.size/\Below k w w':=by
 obtain⟨h0,h1,h2,h3,h4,h5,h6,h7,h8,h9,hn,hm,hB⟩:=h;have hc:∀o,w'.cell? ⟨n,o,none⟩=W.cell? ⟨n,o,none⟩:=fun o=>hb.cell (p:=⟨n,o,none⟩) hn;have hd:∀o,w'.cell? ⟨m,o,none⟩=W.cell? ⟨m,o,none⟩:=fun o=>hb.cell (p:=⟨m,o,none⟩) hm;exact⟨by rw[hc];exact h0,by rw[hc];exact h1,by rw[hc];exact h2,by rw[hc];exact h3,by rw[hc];exact h4,by rw[hd];exact h5,by rw[hd];exact h6,by rw[hd];exact h7,by rw[hd];exact h8,by rw[hd];exact h9,U9 hn hb.size,U9 hm hb.size,hB.trans (hb.mono (by omega))⟩
theorem UJ(a b r c d a' b' r' c' d':bW)(w W:af)(hW:W=((w.alloc (.cells #[.string a,.string b,.string r,.string c,.string d] 29)).alloc (.cells #[.string a',.string b',.string r',.string c',.string d'] 29))):W.drew.cell? ⟨w.heap.size,0,none⟩=some (.string a)/\W.drew.cell? ⟨w.heap.size,1,none⟩=some (.string b)/\W.drew.cell? ⟨w.heap.size,2,none⟩=some (.string r)/\W.drew.cell? ⟨w.heap.size,3,none⟩=some (.string c)/\W.drew.cell? ⟨w.heap.size,4,none⟩=some (.string d)/\W.drew.cell? ⟨w.heap.size+1,0,none⟩=some (.string a')/\W.drew.cell? ⟨w.heap.size+1,1,none⟩=some (.string b')/\W.drew.cell? ⟨w.heap.size+1,2,none⟩=some (.string r')/\W.drew.cell? ⟨w.heap.size+1,3,none⟩=some (.string c')/\W.drew.cell? ⟨w.heap.size+1,4,none⟩=some (.string d')/\w.heap.size<W.drew.heap.size/\w.heap.size+1<W.drew.heap.size/\ae w W.drew:=by
 subst hW;refine⟨?_,?_,?_,?_,?_,?_,?_,?_,?_,?_,?_,?_,?_⟩
 all_goals first|exact(Ak _ _ _).drew|(simp;done)|(simp;omega)
theorem wu(a b r c d a' b' r' c' d':bW)(w:af)(ha:a.size<=maxLen)(hb:b.size<=maxLen)(hr:r.size<=maxLen)(hc:c.size<=maxLen)(hd:d.size<=maxLen)(ga:a'.size<=maxLen)(gb:b'.size<=maxLen)(gr:r'.size<=maxLen)(gc:c'.size<=maxLen)(gd:d'.size<=maxLen):
  Calls prog 130 #[.agg #[.string a,.string b,.string r,.string c,.string d],.agg #[.string a',.string b',.string r',.string c',.string d']] w fun e w'=>e=.returned (.bool (gM a b r c d ⟨#[]⟩ a' b' r' c' d' ⟨#[]⟩))/\ae w w':=by
 have he0:(⟨#[]⟩:ByteArray).size<=maxLen:=by decide
 have H0:=UJ a b r c d a' b' r' c' d' w _ rfl;go_enter func130,ntmps130;go_wp2_with fail
 go_region_held3 (fun w'=>w'.cell? ⟨w.heap.size,0,none⟩=some (.string a)/\w'.cell? ⟨w.heap.size,1,none⟩=some (.string b)/\w'.cell? ⟨w.heap.size,2,none⟩=some (.string r)/\w'.cell? ⟨w.heap.size,3,none⟩=some (.string c)/\w'.cell? ⟨w.heap.size,4,none⟩=some (.string d)/\w'.cell? ⟨w.heap.size+1,0,none⟩=some (.string a')/\w'.cell? ⟨w.heap.size+1,1,none⟩=some (.string b')/\w'.cell? ⟨w.heap.size+1,2,none⟩=some (.string r')/\w'.cell? ⟨w.heap.size+1,3,none⟩=some (.string c')/\w'.cell? ⟨w.heap.size+1,4,none⟩=some (.string d')/\w.heap.size<w'.heap.size/\w.heap.size+1<w'.heap.size/\ae w w')
  (first|assumption|exact RL (Va _) (by assumption) hbx|exact H0)
  (first|(go_at_call 181;refine(ME _ _ _ _ _ _).mono ?_;rintro e w' ⟨rfl,hbx⟩)|(go_at_call 137;refine(nQ _ _ _ _ _ _ _ _ _ _ _ _ _ (by assumption) (by assumption) (by assumption) (by assumption) (by assumption) (by assumption) (by assumption) (by assumption) (by assumption) (by assumption) (by assumption) (by assumption)).mono ?_;rintro e w' ⟨rfl,hbx⟩))
 rename_i hJ;obtain⟨-,-,-,-,-,-,-,-,-,-,-,-,gB⟩:=hJ;go_wp2;go_ret;exact⟨rfl,gB⟩
end Go.Proofs.YtajkkeikihhejaaGreat
