/- Lists in memory whose elements hold lists again, each in a row and in a block of its own: one more at the end, another last one. Expressions, relations and types as such lists. -/
import Derived.Test.YtojjoblnpldniaaGreatSq
import Derived.Test.YtojjoblnpldniaaGreatJ8
import Derived.Test.YtojjoblnpldniaaGreatJ4
import Derived.Sort.Grow
import Derived.Test.YtojjoblnpldniaaGreatShelfR
import Derived.Shelf.SlSortCmp.InsertionK
open Go.Proofs.Tryz
set_option maxHeartbeats 80000000
set_option linter.defProp false
namespace Go.Proofs.YtojjoblnpldniaaGreat
set_option maxRecDepth 100000
set_option linter.unusedVariables false
open ChangeShapes WideShapes ChangeAt RowKit
open Pl
structure Kid{α:Type}(K:World->Nat->α->Prop)(I:α->Nat->Prop):Prop where
 heap:∀(w w':World) (base:Nat) (q:α),K w base q->w.heap.size<=w'.heap.size->(∀g,I q g->w'.heap[g]?=w.heap[g]?)->K w' base q
 lt:∀(w:World) (base:Nat) (q:α),K w base q->∀g,I q g->base<=g/\g<w.heap.size
def Jv{α:Type}(I:α->Nat->Prop)(v:Value)(rs:List α)(g:Nat):Prop:=v.ownBlock=some g \/ ∃q∈rs,I q g
structure Zi{α:Type}(T:TypeId)(size:Nat)(cells:α->List Value)(K:World->Nat->α->Prop)(I:α->Nat->Prop)(w:World)(base:Nat)(v:Value)(rs:List α):Prop where
 own:w.ownsRow base T size v rs.length (rs.flatMap cells)
 kid:∀q∈rs,K w base q
 head:∀q∈rs,∀g,I q g->v.ownBlock≠some g
 two:∀(x y:Nat) (hx:x<rs.length) (hy:y<rs.length),x≠y->∀g,I rs[x] g->¬I rs[y] g
section
variable  {α:Type}{T:TypeId}{size:Nat}{cells:α->List Value}{K:World->Nat->α->Prop}{I:α->Nat->Prop}{w w':World}{base:Nat}{v:Value}{rs:List α}
def Zi.lt(kd:Kid K I)(h:Zi T size cells K I w base v rs){g:Nat}(hg:Jv I v rs g):base<=g/\g<w.heap.size:=by
 rcases hg with hg|⟨q,hq,hg⟩
 ·exact h.own.lt g hg
 exact kd.lt w base q (h.kid q hq) g hg
def Zi.heap(kd:Kid K I)(h:Zi T size cells K I w base v rs)(hs:cY w w')(hh:∀g,Jv I v rs g->w'.heap[g]?=w.heap[g]?):Zi T size cells K I w' base v rs where
 own:=ku h.own fun g hg=>hh g<|.inl hg
 kid q hq:=kd.heap w w' base q (h.kid q hq) hs fun g hg=>hh g<|.inr ⟨q,hq,hg⟩
 head:=h.head
 two:=h.two
def Zi.below(kd:Kid K I)(h:Zi T size cells K I w base v rs)(hb:ae w w'):Zi T size cells K I w' base v rs :=
 h.heap kd hb.size fun g hg=>hb.block g (h.lt kd hg).2
def R7(w:ag)(base:Nat):Zi T size cells K I w base (.slice none 0 0) [] :=
 ⟨World.ownsRow_nil _ _ _ _,fun q hq=>(by cases hq),fun q hq=>(by cases hq),fun x y hx=>absurd hx ct⟩
def Jw{rs:List α}{q:α}(h:∀(x y:Nat) (hx:x<rs.length) (hy:y<rs.length),x≠y->∀g,I rs[x] g->¬I rs[y] g)(hq:∀p∈rs,∀g,I p g->¬I q g):
  ∀(x y:Nat) (hx:x<(rs++[q]).length) (hy:y<(rs++[q]).length),x≠y->∀g,I (rs++[q])[x] g->¬I (rs++[q])[y] g:=by
 intro x y hx hy hxy g h1 h2;rw[XT,Yr]at hx hy;by_cases ex:x<rs.length
 ·rw[Yo ex]at h1;by_cases ey:y<rs.length
  ·rw[Yo ey]at h2;exact h x y ex ey hxy g h1 h2
  have:y=rs.length:=cq;subst this;rw[YC (XK _)]at h2;simp at h2;exact hq _ (XI ex) g h1 h2
 have:x=rs.length:=cq;subst this;rw[YC (XK _)]at h1;simp at h1;have ey:y<rs.length:=cq;rw[Yo ey]at h2;exact hq _ (XI ey) g h2 h1
def R8{rs:List α}{q:α}(h:∀(x y:Nat) (hx:x<(rs++[q]).length) (hy:y<(rs++[q]).length),x≠y->∀g,I (rs++[q])[x] g->¬I (rs++[q])[y] g):
  (∀(x y:Nat) (hx:x<rs.length) (hy:y<rs.length),x≠y->∀g,I rs[x] g->¬I rs[y] g)/\∀p∈rs,∀g,I p g->¬I q g:=by
 refine⟨fun x y hx hy hxy g h1 h2=>?_,fun p hp g h1 h2=>?_⟩
 ·exact h x y (by simp;omega) (by simp;omega) hxy g (by rw[Yo hx];exact h1) (by rw[Yo hy];exact h2)
 obtain⟨x,hx,rfl⟩:=Yk hp;exact h x rs.length (by simp;omega) ct cq g (by rw[Yo hx];exact h1) (by rw[YC (XK _)];simpa using h2)
def Zi.snoc(kd:Kid K I)(h:Zi T size cells K I w base v rs){q:α}{v':Value}(hown:w'.ownsRow base T size v' (rs.length+1)<|rs.flatMap cells++cells q)(hg:w.grownBy w' v.ownBlock)(hat:v'.ownBlock=v.ownBlock \/ ∃g,v'.ownBlock=some g/\w.heap.size<=g)
  (hq:K w base q) (hv:∀g,I q g->v.ownBlock≠some g) (hr:∀p∈rs,∀g,I p g->¬I q g):Zi T size cells K I w' base v' (rs++[q]):=by
 have keep:∀(p:α),K w base p->(∀g,I p g->v.ownBlock≠some g)->K w' base p:=fun p hp hn=>kd.heap w w' base p hp hg.size fun g hi=>hg.block g (kd.lt w base p hp g hi).2 fun e=>hn g hi e.symm;have apart:∀(p:α),K w base p->(∀g,I p g->v.ownBlock≠some g)->∀g,I p g->v'.ownBlock≠some g:=fun p hp hn g hi=>by
  rcases hat with e|⟨g',e,hge⟩
  ·rw[e];exact hn g hi
  rw[e];intro e2;injection e2 with e2;have:=(kd.lt w base p hp g hi).2;omega
 refine⟨by simpa using hown,fun p hp=>?_,fun p hp=>?_,Jw h.two hr⟩
 ·rcases XV.1 hp with hp|hp
  ·exact keep p (h.kid p hp)<|h.head p hp
  rw[XX]at hp;subst hp;exact keep _ hq hv
 rcases XV.1 hp with hp|hp
 ·exact apart p (h.kid p hp)<|h.head p hp
 rw[XX]at hp;subst hp;exact apart _ hq hv
def Zi.last(kd:Kid K I){xs:List α}{q q':α}{b n cap j:Nat}{u:Value}{w1:ag}{row:Option Nat}(h:Zi T size cells K I w base (.slice (some<|am b) n cap)<|xs++[q])(hn:n=xs.length+1)
  (hg:w.grownBy w1 row) (hrow:∀r,row=some r->I q r) (hq':K w1 base q') (hI:∀g,I q' g->I q g\/(g≠b/\∀p∈xs,¬I p g)) (hset:((xs++[q]).flatMap cells).set j u=(xs++[q']).flatMap cells) :
  Zi T size cells K I (w1.setCell (ap b j) u) base (.slice (some<|am b) n cap) (xs++[q']):=by
 have hbl:cW b w:=(h.own.lt b rfl).2;have hq:=h.kid q ct;have hqb:∀g,I q g->g≠b:=fun g hi e=>h.head q ct g hi (by rw[e];rfl);have hq'b:∀g,I q' g->g≠b:=fun g hi e=>by
  rcases hI g hi with h2|h2
  ·exact hqb g h2 e
  exact h2.1 e
 have hb1:w1.heap[b]?=w.heap[b]?:=hg.block b hbl fun e=>hqb b (hrow b e.symm) rfl;have own1:w1.ownsRow base T size (.slice (some<|am b) n cap) (xs++[q]).length ((xs++[q]).flatMap cells):=ku h.own fun g hgo=>by
  have e:b=g:=by simpa[Value.ownBlock] using hgo
  rw[<-e];exact hb1
 have hlen:(xs++[q]).length=n:=by simp[hn]
 rw[hlen]at own1;obtain⟨own2,hg2⟩:=own1.stored j u;rw[hset]at own2;obtain⟨ht1,ht2⟩:=R8 h.two;have h2s:∀g,g≠b->(w1.setCell (ap b j) u).heap[g]?=w1.heap[g]?:=fun g hne=>Below.heap_setCell w1 _ u g hne;refine⟨by simpa[hn] using own2,fun p hp=>?_,fun p hp g hi=>?_,Jw ht1 fun p hp g hi hi'=>?_⟩
 ·rcases XV.1 hp with hp|hp
  ·have hkp:=h.kid p (by simp[hp]);refine kd.heap w _ base p hkp (XR hg.size hg2.size) fun g hi=>?_;have hl:=(kd.lt w base p hkp g hi).2;rw[h2s g (fun e=>h.head p (by simp[hp]) g hi (by rw[e];rfl))];exact hg.block g hl fun e=>ht2 p hp g hi<|hrow g e.symm
  rw[XX]at hp;subst hp;exact kd.heap w1 _ base _ hq' hg2.size fun g hi=>h2s g<|hq'b g hi
 ·intro e;have e:b=g:=by simpa[Value.ownBlock] using e
  rcases XV.1 hp with hp|hp
  ·exact h.head p (by simp[hp]) g hi (by rw[<-e];rfl)
  rw[XX]at hp;subst hp;exact hq'b g hi e.symm
 rcases hI g hi' with h2|h2
 ·exact ht2 p hp g hi h2
 exact h2.2 p hp hi
end
structure NodM(w:World)(base:Nat)(v:Value)(qs:Q08):Prop where
 own:w.ownsRow base 43 5 v qs.length (kH qs)
 zA:∀q∈qs,q.e.allow≠[]->∃g,q.adA=some ⟨g,0,none⟩
 zK:∀q∈qs,q.e.kids≠[]->∃g,q.adK=some ⟨g,0,none⟩
 ok:∀q∈qs,q.ok w
 lie:∀q∈qs,∀g,si q g->base<=g/\g<w.heap.size/\nu w g/\v.ownBlock≠some g
 one:∀q∈qs,∀g,bA q g->¬bK q g
 two:∀(x y:Nat) (hx:x<qs.length) (hy:y<qs.length),x≠y->∀g,si qs[x] g->¬si qs[y] g
 cA:∀q∈qs,q.e.allow.length<=q.capA
def NodM.mono{w:ag}{base base':Nat}{v:Value}{qs:Q08}(h:NodM w base v qs)(hb:base'<=base):NodM w base' v qs :=
 ⟨⟨h.own.1,by
  rcases h.own.2 with hl|⟨g,cap,cur,e,h1,h2⟩
  ·exact .inl hl
  exact .inr ⟨g,cap,cur,e,XR hb h1,h2⟩⟩,h.zA,h.zK,h.ok,fun q hq g hg=>⟨XR hb (h.lie q hq g hg).1,(h.lie q hq g hg).2⟩,h.one,h.two,h.cA⟩
def RR.vs(q:RR):Value:=.slice q.ad q.rows.length q.cap
def TR.vs(q:TR):Value:=.slice q.ad q.rows.length q.cap
def kR(w:World)(base:Nat)(q:RR):Prop:=NodM w base q.vs q.rows
def iR(q:RR):Nat->Prop:=Jv si q.vs q.rows
def Mc:Kid kR iR where
 heap w w' base q h hs hh:={
  own:=ku h.own fun g hg=>hh g<|.inl hg
  zA:=h.zA
  zK:=h.zK
  ok:=fun x hx=>tX (h.ok x hx) hs (h.zA x hx) (h.zK x hx) fun g hg=>hh g<|.inr ⟨x,hx,hg⟩
  lie:=fun x hx g hg=>by
   obtain⟨a1,a2,a3,a4⟩:=h.lie x hx g hg;exact⟨a1,XJ a2 hs,dD a3<|hh g<|.inr ⟨x,hx,hg⟩,a4⟩
  one:=h.one
  two:=h.two
  cA:=h.cA }
 lt w base q h g hg:=by
  rcases hg with hg|⟨x,hx,hg⟩
  ·exact h.own.lt g hg
  exact⟨(h.lie x hx g hg).1,(h.lie x hx g hg).2.1⟩
def RR.cells(q:RR):List Value:=[.string q.name,q.vs]
def TR.cells(q:TR):List Value:=[.string q.name,q.vs]
abbrev Ed:=Zi 39 2 RR.cells kR iR
def kT(w:World)(base:Nat)(q:TR):Prop:=Ed w base q.vs q.rows
def iT(q:TR):Nat->Prop:=Jv iR q.vs q.rows
def nZ:Kid kT iT where
 heap w w' base q h hs hh:=Zi.heap Mc h hs hh
 lt w base q h g hg:=Zi.lt Mc h hg
abbrev jq:=Zi 36 2 TR.cells kT iT
def uh{α:Type}{cells:α->List Value}(h2:∀q,(cells q).length=2):∀(rs:List α) (i:Nat) (h:i<rs.length) (j:Nat),j<2->(rs.flatMap cells)[i*2+j]?=(cells rs[i])[j]?
 | [],i,h,_,_=>by simp at h
 | r::rs,0,_,j,hj=>by
  simp only[Ym,Nat.zero_mul,Yg,List.getElem_cons_zero];rw[YK (by rw[h2];exact hj)]
 | r::rs,i+1,h,j,hj=>by
  have:=uh h2 rs i (by simpa using h) j hj;simp only[Ym,List.getElem_cons_succ];rw[YA (by rw[h2];omega),h2,<-this];congr 1;omega
def qO{α:Type}{cells:α->List Value}(h2:∀q,(cells q).length=2):∀(rs:List α),(rs.flatMap cells).length=rs.length*2
 | []=>rfl
 | r::rs=>by simp only[Ym,XT,h2,qO h2 rs,Yh];omega
def We{w:ag}{base:Nat}{q:TR}(h:kT w base q):Qb w q.ad q.rows:=by
 by_cases hz:q.rows=[]
 ·exact .inl hz
 rcases h.own.2 with⟨-,h0⟩|⟨g,cap,cur,e,-⟩
 ·exact absurd (X0.1 h0) hz
 have h3:=h.own;unfold TR.vs at e h3;injection e with e1 e2 e3;rw[e1]at h3;refine .inr ⟨g,0,e1,(h3.lt g rfl).2,fun i hi=>?_,fun r hr=>?_⟩
 ·have hl:(q.rows.flatMap RR.cells).length=q.rows.length*2:=qO (fun _=>rfl) _;have key:∀j,j<2->w.cell? (ap g<|0+i*2+j)=(RR.cells q.rows[i])[j]?:=fun j hj=>by
   rw[h3.cellAt (0+i*2+j) cq,<-uh (fun _=>rfl) q.rows i hi j hj,Yg]
  exact⟨key 0 cq,key 1 cq⟩
 have hk:=h.kid r hr;obtain⟨ad,cap',e4,hsl⟩:=Vq hk.own rfl hk.ok;unfold RR.vs at e4;injection e4 with e5 e6 e7;show iE w r.ad r.rows;rw[e5];exact hsl
def R9{w:ag}{base size n cap:Nat}{e:TypeId}{ad:Q02}{xs:Q03}(h:w.ownsRow base e size (.slice ad n cap) n xs):n<=cap:=by
 rcases h.2 with⟨e1,h0⟩|⟨g,cap',cur,e1,-,-,hnc,-⟩
 ·injection e1 with _ e2 e3;omega
 injection e1 with _ e2 e3;omega
def jq.read{w:ag}{base:Nat}{v:Value}{rs:Q06}(h:jq w base v rs):∃ad cap,v=.slice ad rs.length cap/\kI w ad rs/\∀r∈rs,r.caps:=by
 have hc:∀r∈rs,r.caps:=fun r hr=>⟨R9 (h.kid r hr).own,fun q hq=>⟨R9 ((h.kid r hr).kid q hq).own,((h.kid r hr).kid q hq).cA⟩⟩;rcases h.own.2 with⟨rfl,h0⟩|⟨g,cap,cur,rfl,-⟩
 ·exact⟨none,0,by rw[h0],.inl<|X0.1 h0,hc⟩
 have h3:=h.own;refine⟨some<|am g,cap,rfl,.inr ⟨g,0,rfl,(h3.lt g rfl).2,fun i hi=>?_,fun r hr=>We<|h.kid r hr⟩,hc⟩;have hl:(rs.flatMap TR.cells).length=rs.length*2:=qO (fun _=>rfl) _;have key:∀j,j<2->w.cell? (ap g<|0+i*2+j)=(TR.cells rs[i])[j]?:=fun j hj=>by
  rw[h3.cellAt (0+i*2+j) cq,<-uh (fun _=>rfl) rs i hi j hj,Yg]
 exact⟨key 0 cq,key 1 cq⟩
def Onl.at_new{R:Nat}{v:Value}{w w':ag}(h:Onl R v w w'){X:Nat}(hX:w.heap.size<=X)(o:Nat)(u:Value):Onl R v w (w'.setCell (ap X o) u) :=
 ⟨h.os,h.tape,h.output,by simpa using h.size,fun k hk h1 h2=>(Below.heap_setCell w' _ _ k<|by show k≠X;omega).trans (h.block k hk h1 h2)⟩
def RdC.other{w:ag}{R:Nat}{s:ByteArray}{p:Nat}{bad:Bool}{v:Value}(h:RdC w R s p bad v){X:Nat}(hX:X≠R)(o:Nat)(u:Value):RdC (w.setCell (ap X o) u) R s p bad v :=
 ⟨by simpa using h.lt,by rw[Yf (w:=w) (Below.heap_setCell w _ _ R<|Ne.symm hX)];exact h.c0,by rw[Yf (w:=w) (Below.heap_setCell w _ _ R<|Ne.symm hX)];exact h.c1,by rw[Yf (w:=w) (Below.heap_setCell w _ _ R<|Ne.symm hX)];exact h.c2,by rw[Yf (w:=w) (Below.heap_setCell w _ _ R<|Ne.symm hX)];exact h.c3,fun j=>by simpa using h.fr j⟩
def RdC.below{w w':ag}{R:Nat}{s:ByteArray}{p:Nat}{bad:Bool}{v:Value}(h:RdC w R s p bad v)(hb:ae w w'):RdC w' R s p bad v :=
 h.grown (row:=none) ⟨hb.os,hb.tape,hb.output,hb.size,fun k hk _=>hb.block k hk⟩ ct
def Ah.below{w w':ag}{g:Nat}{q:ER}(h:Ah w g q)(hb:ae w w'):Ah w' g q :=
 h.grown (row:=none) ⟨hb.os,hb.tape,hb.output,hb.size,fun k hk _=>hb.block k hk⟩ ct
def bare(k:Int)(o n:ByteArray):ER:=⟨⟨k,[],o,n,[]⟩,none,0,none,0⟩
def lq(k:Int)(o n:dw)(g:Nat):¬si (bare k o n) g:=by
 rintro(⟨h,-⟩|⟨h,-⟩)<;>exact h rfl
def xN(k:Int)(o n:dw)(X:Nat)(w:ag):NewQ X w (bare k o n) :=
 ⟨fun h=>absurd rfl h,fun h=>absurd rfl h,⟨.inl rfl,.inl rfl⟩,fun g h=>absurd h<|lq k o n g,fun g h=>absurd (Or.inl h)<|lq k o n g,XK _⟩
def Sa(w:ag)(k:Int)(o n:dw):Ah (w.alloc<|.cells #[.int .i64 k,.slice none 0 0,.string o,.string n,.slice none 0 0] 43) w.heap.size (bare k o n):=by
 refine⟨?_,?_,?_,?_,?_,?_⟩<;>simp[bare]
def Sb{w:ag}{X:Nat}{a0 a1 a2 a3 a4:Value}(h0:w.cell? (am X)=some a0)(h1:w.cell? (ap X 1)=some a1)(h2:w.cell? (ap X 2)=some a2)(h3:w.cell? (ap X 3)=some a3)(h4:w.cell? (ap X 4)=some a4)(hl:cW X w)(k:Int)(o n:dw):
  Ah (((((w.setCell (am X)<|.int .i64 k).setCell (ap X 1)<|.slice none 0 0).setCell (ap X 2)<|.string o).setCell (ap X 3)<|.string n).setCell (ap X 4)<|.slice none 0 0) X (bare k o n):=by
 refine⟨?_,?_,?_,?_,?_,by simpa using hl⟩
 ·rw[mO cq,mO cq,mO cq,mO cq];exact mS h0
 ·rw[mO cq,mO cq,mO cq];exact mS (by rw[mO cq];exact h1)
 ·rw[mO cq,mO cq];exact mS (by rw[mO cq,mO cq];exact h2)
 ·rw[mO cq];exact mS (by rw[mO cq,mO cq,mO cq];exact h3)
 exact mS (by rw[mO cq,mO cq,mO cq,mO cq];exact h4)
def VB(l:Q03)(R:Nat)(s:ByteArray)(p:Nat)(bad:Bool)(v:Value)(k:Nat)(u:Value)(w':World):Prop:=u=l.getD k undef/\(k=3->RdC w' R s p bad v)
structure GB(R:Nat)(s:ByteArray)(p:Nat)(bad:Bool)(v:Value)(X:Nat)(q:ER)(w:World)(listed:Array Bool)(w':World):Prop where
 rd:listed.getD 3 false=false->RdC w' R s p bad v
 box:Ah w' X q
 onl:Onl R pK w w'
 fr:nu w' X
def GB.step{R:Nat}{s:ByteArray}{p:Nat}{bad:Bool}{v:Value}{X:Nat}{q:ER}{w w':ag}{listed:Array Bool}(h:GB R s p bad v X q w listed w'){i:Nat}(hls:listed.size=6)(h3:i≠3):GB R s p bad v X q w (listed.setIfInBounds i true) w' :=
 ⟨fun k=>h.rd (by
  by_cases hi:i<6
  ·rw[aV _ _ _ cq,if_neg<|Ne.symm h3]at k;exact k
  rw[show listed.setIfInBounds i true=listed by rw[Array.setIfInBounds_eq_of_size_le cq]]at k;exact k),h.box,h.onl,h.fr⟩
def GB.called{R:Nat}{s:ByteArray}{p:Nat}{bad:Bool}{v:Value}{X:Nat}{q:ER}{w w' w'':ag}{listed:Array Bool}(h:GB R s p bad v X q w listed w')(hls:listed.size=6)(hg:w'.grownBy w''<|some R)(hX:X≠R):GB R s p bad v X q w (listed.setIfInBounds 3 true) w'' :=
 ⟨fun k=>(by rw[aV _ _ _ cq,if_pos rfl]at k;cases k),h.box.grown hg<|by intro e;injection e with e;exact hX e,h.onl.trans0<|Onl.of_grown hg,dD h.fr<|hg.block X h.box.2.2.2.2.2<|by intro e;injection e with e;exact hX e⟩
def Sc{s:ByteArray}{st:RS}(h:ow s qx (st.p+aB s st.p) st.bad=false):fK s st=⟨2,[],⟨#[]⟩,aF s st.p,[]⟩/\aO s st=⟨st.p+aB s st.p,st.bad,st.out⟩:=by
 have e:mH s qx (bR s st)=false:=h;exact⟨by unfold fK;rw[e];rfl,by unfold aO;rw[e];rfl⟩
def O5{s:ByteArray}{st:RS}(h:ow s qx (st.p+aB s st.p) st.bad=true):fK s st=⟨3,[],aF s st.p,aF s<|st.p+aB s st.p+2,[]⟩/\aO s st=⟨st.p+aB s st.p+2+aB s (st.p+aB s st.p+2),st.bad,st.out⟩:=by
 have e:mH s qx (bR s st)=true:=h;exact⟨by unfold fK;rw[e];rfl,by unfold aO;rw[e];rfl⟩
def O6(R:Nat)(s:dw)(st:RS)(base:Nat)(v:Value)(qs:Q08)(w:ag)(h:RdF w R s st base v qs)(hR:R<base)(hB:cV base w)(hs:s.size<=1000)(hp:st.p<=s.size)(hn:qs.length<=100000)
  (h0:ow s gQ st.p st.bad=false) (h1:ow s ko st.p st.bad=false) :
  Calls prog 324 #[.pointer (some<|am R)] w (xk R s base v qs w ((st.out.length:Int),uz (fK s st)<|judged (fK s st)<|aO s st)):=by
 have H:=ak h;have HP:=ak hp;clear h hp;go_enter func324,ntmps324;go_wp2_with fail;refine(nD R s gQ st.p st.bad v w H.rd hs HP cv).mono ?_;rintro e w1 ⟨rfl,hr1,hg1⟩;have Z8:=ak<|H.is_no hR h0 hr1 hg1;have Zj:=ak<|Onl.of_grown hg1;rw[h0];clear hr1 hg1 h0;go_wp2_with fail;refine(nD R s ko st.p st.bad v w1 Z8.rd hs HP cv).mono ?_;rintro e w2 ⟨rfl,hr2,hg2⟩;have HF2:=ak<|Z8.is_no hR h1 hr2 hg2;have YZ:=ak<|Zj.trans0<|Onl.of_grown hg2;rw[h1];clear hr2 hg2 h1 Z8 Zj;go_wp2_with fail;refine(wR R s st.p st.bad v w2 HF2.rd hs HP).mono ?_;rintro e w3 ⟨rfl,hr3,hg3⟩;have HF3:=ak<|HF2.over hR (Onl.of_grown hg3) hr3;have Zq:=ak<|YZ.trans0<|Onl.of_grown hg3;have HP3:=ak<|lI s st.p HP;have HSZ:=ak<|BJ s st.p HP;clear hr3 hg3 HF2 YZ;obtain⟨W4,Zw⟩:=eQx<|w3.alloc<|.cells #[.int .i64 2,.slice none 0 0,.string ⟨#[]⟩,.string<|aF s st.p,.slice none 0 0] 43;have HV4:O (Ah W4 w3.heap.size<|bare 2 ⟨#[]⟩<|aF s st.p):=by rw[Zw];exact Sa w3 2 ⟨#[]⟩<|aF s st.p
 have HO4a:O (Onl R pK w3 W4):=by rw[Zw];exact Onl.of_below<|(XL _ _).alloc (XK _) _
 have HF4:O (RdF W4 R s ⟨st.p+aB s st.p,st.bad,st.out⟩ base v qs):=HF3.over hR HO4a (by rw[Zw];exact HF3.rd.below<|(XL _ _).alloc (XK _) _);have Zg:=ak<|Zq.trans0 HO4a;have HFR4:O (nu W4 w3.heap.size):=fun y=>by rw[Zw];simp
 have HXR:O (w3.heap.size≠R):=by have:=HF3.rd.lt;show _≠_;omega
 have HX0:O (w.heap.size<=w3.heap.size):=Zq.size;have HX3:O (w3.heap.size<=w3.heap.size):=XK _;go_wp2_with fail;rw[<-Zw];clear Zw;obtain⟨X,hX⟩:=eQx w3.heap.size;rw[<-hX]at HV4 HFR4 HXR HX0;replace HX3:O (w3.heap.size<=X):=Nat.le_of_eq hX.symm;rw[<-hX];clear hX;refine(nD R s qx (st.p+aB s st.p) st.bad v W4 HF4.rd hs HP3 cv).mono ?_;rintro e w5 ⟨rfl,hr5,hg5⟩;have HV5:=ak (HV4.grown hg5<|by intro e;injection e with e;exact HXR e);have HFR5:=ak (dD HFR4<|hg5.block X HV4.2.2.2.2.2<|by intro e;injection e with e;exact HXR e);have Ze:=ak<|Zg.trans0<|Onl.of_grown hg5;have HO35:=ak<|HO4a.trans0<|Onl.of_grown hg5;cases hc:ow s qx (st.p+aB s st.p) st.bad;case false=>
  have HF5:=ak<|HF4.is_no hR hc hr5 hg5;have EQ:=ak<|Sc hc;clear hr5 hg5 hc HF4 Zg HV4 HFR4;obtain⟨x0,x1,x2,x3,x4,xl⟩:=HV5.out;replace x0:ab w5 X (.int .i64 2):=x0;replace x1:ac w5 X 1 (.slice none 0 0):=x1;replace x2:ac w5 X 2 (.string ⟨#[]⟩):=x2;replace x3:ac w5 X 3 (.string<|aF s st.p):=x3;replace x4:ac w5 X 4 (.slice none 0 0):=x4;go_wp2_with fail;refine(mY (bare 2 ⟨#[]⟩<|aF s st.p) w5 ⟨fun a ha=>(by cases ha),XP _,by show(aF s st.p).size<=maxLen;rw[HSZ];have:=HP3.out;unfold maxLen;omega,XP _,XP _⟩ (by show(2:Int)≠1;decide)).mono ?_;rintro e w6 ⟨rfl,hB6⟩;have ZI:=ak<|Ze.trans0<|Onl.of_below hB6;have HF6:=ak<|HF5.over hR (Onl.of_below hB6)<|HF5.rd.below hB6;obtain⟨y0,y1,y2,y3,y4,yl⟩:=HV5.below hB6;replace y0:ab w6 X (.int .i64 2):=y0;replace y1:ac w6 X 1 (.slice none 0 0):=y1;replace y2:ac w6 X 2 (.string ⟨#[]⟩):=y2;replace y3:ac w6 X 3 (.string<|aF s st.p):=y3;replace y4:ac w6 X 4 (.slice none 0 0):=y4;clear x0 x1 x2 x3 x4 xl hB6 HV5 HF5 Ze;cases hb:aD (bare 2 ⟨#[]⟩<|aF s st.p).e;case true=>
   have HE:O (fK s st=(bare 2 ⟨#[]⟩<|aF s st.p).e/\judged (fK s st) (aO s st)=(⟨st.p+aB s st.p,st.bad,st.out⟩:RS)):=by
    refine⟨EQ.1,?_⟩;rw[EQ.1,EQ.2];exact if_pos hb
   clear hb;go_wp2_with fail;refine(OA R s ((⟨st.p+aB s st.p,st.bad,st.out⟩:RS)) base v qs (bare 2 ⟨#[]⟩<|aF s st.p) w6 HF6 hR (XR hB ZI.size) hn (xN _ _ _ _ _) (.inl ⟨rfl,rfl,rfl⟩) (fun g hg=>absurd hg<|lq _ _ _ g)).mono ?_;rintro e w7 ⟨v7,rfl,hF7,hW7⟩;have HF7:=ak hF7;have HW7:=ak<|(ZI.any v).trans hW7;clear hF7 hW7;go_wp2;exact bodyPost_ret (v:=.int .i64 (st.out.length:Int)) (by simp[results,Tryz.results324,go_sem]) rfl (by rw[HE.1,<-HE.1,HE.2,HE.1];exact⟨v7,[bare 2 ⟨#[]⟩ (aF s st.p)],rfl,HF7,HW7,fun q hq g hg=>by rw[XX]at hq;subst hq;exact absurd hg<|lq _ _ _ g⟩)
  have HE:O (fK s st=(bare 2 ⟨#[]⟩<|aF s st.p).e/\judged (fK s st) (aO s st)=wP ((⟨st.p+aB s st.p,st.bad,st.out⟩:RS))):=by
   refine⟨EQ.1,?_⟩;rw[EQ.1,EQ.2];exact if_neg (fun e=>by have:=e.symm.trans hb;cases this)
  clear hb;have c2:=HF6.rd.c2;have f2:=HF6.rd.fr 2;have hl:=HF6.rd.lt;have hxr:=HXR.out;have hrx:=Ne.symm HXR;have HO7:O (Onl R pK w<|w6.setCell (ap R 2)<|.bool true):=ZI.at_own _ _;have HF7:O (RdF (w6.setCell (ap R 2)<|.bool true) R s (wP<|(⟨st.p+aB s st.p,st.bad,st.out⟩:RS)) base v qs):=HF6.over hR ((Onl.refl R pK w6).at_own _ _) HF6.rd.hurt;go_wp2_with fail;refine(OA R s (wP<|(⟨st.p+aB s st.p,st.bad,st.out⟩:RS)) base v qs (bare 2 ⟨#[]⟩<|aF s st.p) _ HF7 hR (XR hB HO7.size) hn (xN _ _ _ _ _) (.inl ⟨rfl,rfl,rfl⟩) (fun g hg=>absurd hg<|lq _ _ _ g)).mono ?_;rintro e w8 ⟨v8,rfl,hF8,hW8⟩;have HF8:=ak hF8;have HW8:=ak<|(HO7.any v).trans hW8;clear hF8 hW8;go_wp2;exact bodyPost_ret (v:=.int .i64 (st.out.length:Int)) (by simp[results,Tryz.results324,go_sem,wP]) rfl (by rw[HE.1,<-HE.1,HE.2,HE.1];exact⟨v8,[bare 2 ⟨#[]⟩ (aF s st.p)],rfl,HF8,HW8,fun q hq g hg=>by rw[XX]at hq;subst hq;exact absurd hg<|lq _ _ _ g⟩)
 have HF5:=ak<|HF4.is_yes hR hc hr5 hg5;have EQ:=ak<|O5 hc;have HP5:O (st.p+aB s st.p+2<=s.size):=Cr hc;clear hr5 hg5 hc HF4 Zg HV4 HFR4;go_wp2_with fail;refine mX 5 _ _ (VB (Value.pointer (some<|ap X 3)::.string (aF s st.p)::.pointer (some<|am R)::.string (aF s<|st.p+aB s st.p+2)::.agg #[.int .i64 3,.slice none 0 0,.string<|aF s st.p,.string<|aF s<|st.p+aB s st.p+2,.slice none 0 0]::[]) R s ((st.p+aB s st.p+2)+aB s (st.p+aB s st.p+2)) st.bad v) (GB R s (st.p+aB s st.p+2) st.bad v X (bare 2 ⟨#[]⟩<|aF s st.p) w3) cw rfl (by decide +kernel) (by decide +kernel) (H7 [(56,[0,1,2,3,4])]) ⟨fun _=>HF5.rd.drewN 1,HV5,⟨HO35.os,HO35.tape,HO35.output,HO35.size,HO35.block⟩,HFR5⟩ ?zI ?finB<;>dsimp only[Et];case zI =>
  rintro i hi o ho listed f w' hls hli hG hpre;have HG:=ak hG;have HM:O (∀e∈o.after,Region.binds .any e=true->_):=hpre;clear hG hpre;have hc:i=0\/i=1\/i=2\/i=3\/i=4:=cq;clear hi
  repeat' rcases hc with rfl|hc
  ·cases ho;have HS:=ak<|HG.step (i:=0) hls cv;refine af rfl fun K HK=>?_;clear HM;dsimp only;go_simp;exact HK _ _ ⟨Value.pointer<|some ⟨X,3,none⟩,by simp[upd],HS,⟨rfl,fun e=>absurd e cv⟩,fun k u _ hu=>hu⟩
  ·cases ho;have e0:f 0=Value.pointer (some<|ap X 3):=(HM ⟨0,.data⟩ ct rfl).1;have x3:ac w' X 3 (.string<|aF s st.p):=HG.box.2.2.2.1;have HS:=ak<|HG.step (i:=1) hls cv;refine af rfl fun K HK=>?_;clear HM;simp only[e0];go_simp;exact HK _ _ ⟨Value.string<|aF s st.p,by simp[upd,e0],HS,⟨rfl,fun e=>absurd e cv⟩,fun k u _ hu=>hu⟩
  ·cases ho;have HS:=ak<|HG.step (i:=2) hls cv;refine af rfl fun K HK=>?_;clear HM;dsimp only;go_simp;exact HK _ _ ⟨Value.pointer<|some ⟨R,0,none⟩,by simp[upd],HS,⟨rfl,fun e=>absurd e cv⟩,fun k u _ hu=>hu⟩
  ·cases ho;have e2:f 2=Value.pointer (some<|am R):=(HM ⟨2,.data⟩ ct rfl).1;have hrd:=ak<|HG.rd<|Lp hli hls cq;refine af rfl fun K HK=>?_;clear HM;simp only[e2];go_simp;refine(wR R s (st.p+aB s st.p+2) st.bad v w' hrd hs HP5).mono ?_;rintro e w7 ⟨rfl,hr7,hg7⟩;have HS:=ak<|HG.called hls hg7 HXR;have HR7:=ak hr7;clear hr7 hg7;go_wp2_with fail;exact HK _ _ ⟨Value.string<|aF s<|st.p+aB s st.p+2,by simp[upd,e2],HS,⟨rfl,fun _=>HR7⟩,fun k u hk hu=>⟨hu.1,fun e=>absurd e hk⟩⟩
  cases ho;have e1:f 1=Value.string (aF s st.p):=(HM ⟨1,.data⟩ ct rfl).1;have e3:f 3=Value.string (aF s<|st.p+aB s st.p+2):=(HM ⟨3,.data⟩ ct rfl).1;have HS:=ak<|HG.step (i:=4) hls cv;refine af rfl fun K HK=>?_;clear HM;simp only[e1,e3];go_simp;exact HK _ _ ⟨Value.agg #[.int .i64 3,.slice none 0 0,.string<|aF s st.p,.string<|aF s<|st.p+aB s st.p+2,.slice none 0 0],by simp[upd,e1,e3],HS,⟨rfl,fun e=>absurd e cv⟩,fun k u _ hu=>hu⟩
 case finB =>
  rintro o ho listed f w' hG hall;obtain rfl:=Option.some.inj ho;have e4:f 4=Value.agg #[.int .i64 3,.slice none 0 0,.string<|aF s st.p,.string<|aF s<|st.p+aB s st.p+2,.slice none 0 0]:=(hall 4 cq).1;have HRD:=ak<|(hall 3 cq).2 rfl;have HG:=ak hG;obtain⟨x0,x1,x2,x3,x4,xl⟩:=hG.box;have f0:=hG.fr 0;have f1:=hG.fr 1;have f2:=hG.fr 2;have f3:=hG.fr 3;have f4:=hG.fr 4;clear ho hall hG;refine wpOp_step rfl (fun K hK=>?_);have HK:O (∀a w,_->K a w):=hK;clear hK;simp only[e4];go_simp;refine HK _ _ ?_;clear HK;obtain⟨wz,hwz⟩:=eQx<|(((((w'.setCell (am X)<|.int .i64 3).setCell (ap X 1)<|.slice none 0 0).setCell (ap X 2)<|.string<|aF s st.p).setCell (ap X 3)<|.string<|aF s<|st.p+aB s st.p+2).setCell (ap X 4)<|.slice none 0 0);have HO3z:O (Onl R pK w3 wz):=by rw[hwz];exact((((HG.onl.at_new HX3 _ _).at_new HX3 _ _).at_new HX3 _ _).at_new HX3 _ _).at_new HX3 _ _
  have HRz:O (RdC wz R s (st.p+aB s st.p+2+aB s (st.p+aB s st.p+2)) st.bad v):=by rw[hwz];exact((((HRD.other HXR _ _).other HXR _ _).other HXR _ _).other HXR _ _).other HXR _ _
  have HVz:O (Ah wz X<|bare 3 (aF s st.p)<|aF s<|st.p+aB s st.p+2):=by rw[hwz];exact Sb x0 x1 x2 x3 x4 xl _ _ _
  clear HV5 HF5 Ze HO35 HFR5;have HF5:=ak<|HF3.over hR HO3z HRz;have Ze:=ak<|Zq.trans0 HO3z;rw[<-hwz];clear hwz x0 x1 x2 x3 x4 xl f0 f1 f2 f3 f4 e4 HRz HO3z HG HRD;obtain⟨x0,x1,x2,x3,x4,xl⟩:=HVz.out;replace x0:ab wz X (.int .i64 3):=x0;replace x1:ac wz X 1 (.slice none 0 0):=x1;replace x2:ac wz X 2 (.string<|aF s st.p):=x2;replace x3:ac wz X 3 (.string<|aF s<|st.p+aB s st.p+2):=x3;replace x4:ac wz X 4 (.slice none 0 0):=x4;go_wp2_with fail;refine(mY (bare 3 (aF s st.p)<|aF s<|st.p+aB s st.p+2) wz ⟨fun a ha=>(by cases ha),by show(aF s st.p).size<=maxLen;rw[HSZ];have:=HP3.out;unfold maxLen;omega,by show(aF s<|st.p+aB s st.p+2).size<=maxLen;rw[BJ s _ HP5];have:=lI s _ HP5;unfold maxLen;omega,XP _,XP _⟩ (by show(3:Int)≠1;decide)).mono ?_;rintro e w6 ⟨rfl,hB6⟩;have ZI:=ak<|Ze.trans0<|Onl.of_below hB6;have HF6:=ak<|HF5.over hR (Onl.of_below hB6)<|HF5.rd.below hB6;obtain⟨y0,y1,y2,y3,y4,yl⟩:=HVz.below hB6;replace y0:ab w6 X (.int .i64 3):=y0;replace y1:ac w6 X 1 (.slice none 0 0):=y1;replace y2:ac w6 X 2 (.string<|aF s st.p):=y2;replace y3:ac w6 X 3 (.string<|aF s<|st.p+aB s st.p+2):=y3;replace y4:ac w6 X 4 (.slice none 0 0):=y4;clear x0 x1 x2 x3 x4 xl hB6 HVz HF5 Ze;cases hb:aD (bare 3 (aF s st.p)<|aF s<|st.p+aB s st.p+2).e;case true=>
   have HE:O (fK s st=(bare 3 (aF s st.p)<|aF s<|st.p+aB s st.p+2).e/\judged (fK s st) (aO s st)=(⟨st.p+aB s st.p+2+aB s (st.p+aB s st.p+2),st.bad,st.out⟩:RS)):=by
    refine⟨EQ.1,?_⟩;rw[EQ.1,EQ.2];exact if_pos hb
   clear hb;go_wp2_with fail;refine(OA R s ((⟨st.p+aB s st.p+2+aB s (st.p+aB s st.p+2),st.bad,st.out⟩:RS)) base v qs (bare 3 (aF s st.p)<|aF s<|st.p+aB s st.p+2) w6 HF6 hR (XR hB ZI.size) hn (xN _ _ _ _ _) (.inl ⟨rfl,rfl,rfl⟩) (fun g hg=>absurd hg<|lq _ _ _ g)).mono ?_;rintro e w7 ⟨v7,rfl,hF7,hW7⟩;have HF7:=ak hF7;have HW7:=ak<|(ZI.any v).trans hW7;clear hF7 hW7;go_wp2;exact bodyPost_ret (v:=.int .i64 (st.out.length:Int)) (by simp[results,Tryz.results324,go_sem]) rfl (by rw[HE.1,<-HE.1,HE.2,HE.1];exact⟨v7,[bare 3 (aF s st.p) (aF s<|st.p+aB s st.p+2)],rfl,HF7,HW7,fun q hq g hg=>by rw[XX]at hq;subst hq;exact absurd hg<|lq _ _ _ g⟩)
  have HE:O (fK s st=(bare 3 (aF s st.p)<|aF s<|st.p+aB s st.p+2).e/\judged (fK s st) (aO s st)=wP ((⟨st.p+aB s st.p+2+aB s (st.p+aB s st.p+2),st.bad,st.out⟩:RS))):=by
   refine⟨EQ.1,?_⟩;rw[EQ.1,EQ.2];exact if_neg (fun e=>by have:=e.symm.trans hb;cases this)
  clear hb;have c2:=HF6.rd.c2;have f2:=HF6.rd.fr 2;have hl:=HF6.rd.lt;have hxr:=HXR.out;have hrx:=Ne.symm HXR;have HO7:O (Onl R pK w<|w6.setCell (ap R 2)<|.bool true):=ZI.at_own _ _;have HF7:O (RdF (w6.setCell (ap R 2)<|.bool true) R s (wP<|(⟨st.p+aB s st.p+2+aB s (st.p+aB s st.p+2),st.bad,st.out⟩:RS)) base v qs):=HF6.over hR ((Onl.refl R pK w6).at_own _ _) HF6.rd.hurt;go_wp2_with fail;refine(OA R s (wP<|(⟨st.p+aB s st.p+2+aB s (st.p+aB s st.p+2),st.bad,st.out⟩:RS)) base v qs (bare 3 (aF s st.p)<|aF s<|st.p+aB s st.p+2) _ HF7 hR (XR hB HO7.size) hn (xN _ _ _ _ _) (.inl ⟨rfl,rfl,rfl⟩) (fun g hg=>absurd hg<|lq _ _ _ g)).mono ?_;rintro e w8 ⟨v8,rfl,hF8,hW8⟩;have HF8:=ak hF8;have HW8:=ak<|(HO7.any v).trans hW8;clear hF8 hW8;go_wp2;exact bodyPost_ret (v:=.int .i64 (st.out.length:Int)) (by simp[results,Tryz.results324,go_sem,wP]) rfl (by rw[HE.1,<-HE.1,HE.2,HE.1];exact⟨v8,[bare 3 (aF s st.p) (aF s<|st.p+aB s st.p+2)],rfl,HF8,HW8,fun q hq g hg=>by rw[XX]at hq;subst hq;exact absurd hg<|lq _ _ _ g⟩)
structure PL(w1 wr:World)(R X:Nat)(s:ByteArray)(xs:Q0a)(p:Nat)(bad:Bool)(v vA:Value):Prop where
 rd:RdC wr R s p bad v
 onl:Onl R pK w1 wr
 c0:wr.cell? ⟨X,0,none⟩=some (.int .i64 1)
 c1:wr.cell? ⟨X,1,none⟩=some vA
 c2:wr.cell? ⟨X,2,none⟩=some (.string ⟨#[]⟩)
 c3:wr.cell? ⟨X,3,none⟩=some (.string ⟨#[]⟩)
 c4:wr.cell? ⟨X,4,none⟩=some (.slice none 0 0)
 fr:nu wr X
 lt:X<wr.heap.size
 own:wr.ownsRow (X+1) 216 2 vA xs.length (pairs xs)
def PL.moved{w1 wr w':ag}{R X:Nat}{s:ByteArray}{xs:Q0a}{p p':Nat}{bad bad':Bool}{v vA:Value}(h:PL w1 wr R X s xs p bad v vA)(hRX:R<X)(hg:wr.grownBy w'<|some R)(hr:RdC w' R s p' bad' v):PL w1 w' R X s xs p' bad' v vA:=by
 have hne:some X≠some R:=by intro e;injection e with e;omega
 refine⟨hr,h.onl.trans0<|Onl.of_grown hg,hg.cell h.c0 hne,hg.cell h.c1 hne,hg.cell h.c2 hne,hg.cell h.c3 hne,hg.cell h.c4 hne,dD h.fr<|hg.block X h.lt hne,XJ h.lt hg.size,h.own.kept hg<|.inr ?_⟩;intro e;have:=(h.own.lt R e).1;omega
def PL.made{w1 wr:ag}{R X:Nat}{s:ByteArray}{xs:Q0a}{p:Nat}{bad:Bool}{v vA:Value}(h:PL w1 wr R X s xs p bad v vA)(o:Obj):PL w1 (wr.alloc o) R X s xs p bad v vA:=by
 have hg:=World.grownBy_alloc wr o none;exact⟨h.rd.grown hg ct,h.onl.trans0<|Onl.of_below<|(XL _ _).alloc (XK _) _,hg.cell h.c0 ct,hg.cell h.c1 ct,hg.cell h.c2 ct,hg.cell h.c3 ct,hg.cell h.c4 ct,dD h.fr<|hg.block X h.lt ct,XJ h.lt hg.size,h.own.alloc o⟩
def PL.aset{w1 wr:ag}{R X:Nat}{s:ByteArray}{xs:Q0a}{p:Nat}{bad:Bool}{v vA:Value}(h:PL w1 wr R X s xs p bad v vA)(hRX:R<X)(h1:w1.heap.size<=X){A:Nat}(hA:X<A)(hv:vA.ownBlock≠some A)(o:Nat)(u:Value):PL w1 (wr.setCell (ap A o) u) R X s xs p bad v vA:=by
 have hb:∀k,k≠A->(wr.setCell (ap A o) u).heap[k]?=wr.heap[k]?:=fun k hk=>Below.heap_setCell wr _ _ k hk;refine⟨h.rd.other cq _ _,h.onl.at_new cq _ _,?_,?_,?_,?_,?_,dD h.fr<|hb X cq,by simpa using h.lt,ku h.own fun g hg=>hb g fun e=>hv<|by rw[hg,e]⟩
 all_goals rw[Yf (w:=wr) (hb X cq)]
 ·exact h.c0
 ·exact h.c1
 ·exact h.c2
 ·exact h.c3
 exact h.c4
def O7(xs:Q0a)(a:Al):pairs (xs++[a])=pairs xs++[.string a.t,.string a.s]:=by simp[pairs]
def PL.app{w1 wr w':ag}{R X:Nat}{s:ByteArray}{xs:Q0a}{p:Nat}{bad:Bool}{v vA vB:Value}(h:PL w1 wr R X s xs p bad v vA)(hRX:R<X)(h1:w1.heap.size<=X)(a:Al)(hown:w'.ownsRow (X+1) 216 2 vB (xs.length+1)<|pairs xs++[.string a.t,.string a.s])(hg:wr.grownBy w' vA.ownBlock):PL w1 (w'.setCell (ap X 1) vB) R X s (xs++[a]) p bad v vB:=by
 have hX:some X≠vA.ownBlock:=fun e=>by have:=(h.own.lt X e.symm).1;omega
 have hR:some R≠vA.ownBlock:=fun e=>by have:=(h.own.lt R e.symm).1;omega
 have ho:Onl R pK w1 w':=⟨hg.os.trans h.onl.os,hg.tape.trans h.onl.tape,hg.output.trans h.onl.output,XR h.onl.size hg.size,fun k hk h2 h3=>(hg.block k (XJ hk h.onl.size) (fun e=>by have:=(h.own.lt k e.symm).1;omega)).trans (h.onl.block k hk h2 h3)⟩;refine⟨(h.rd.grown hg hR).other cq _ _,ho.at_new h1 _ _,?_,mS<|hg.cell h.c1 hX,?_,?_,?_,fun j=>?_,?_,?_⟩
 ·rw[mO cq];exact hg.cell h.c0 hX
 ·rw[mO cq];exact hg.cell h.c2 hX
 ·rw[mO cq];exact hg.cell h.c3 hX
 ·rw[mO cq];exact hg.cell h.c4 hX
 ·simpa using dD h.fr (hg.block X h.lt hX) j
 ·simpa using XJ h.lt hg.size
 rw[O7,XT,Yr];exact ownsRow_setCell_below hown (by show X<X+1;omega) _
def wbad(R:Nat)(w:World):Nat:=match w.cell? ⟨R,2,none⟩ with
 | some (.bool true)=>0
 | _=>1
def RdC.wbad0{w:ag}{R:Nat}{s:ByteArray}{p:Nat}{v:Value}(h:RdC w R s p true v):wbad R w=0:=by
 simp[Go.Proofs.YtojjoblnpldniaaGreat.wbad,h.c2]
def RdC.wbad1{w:ag}{R:Nat}{s:ByteArray}{p:Nat}{v:Value}(h:RdC w R s p false v):wbad R w=1:=by
 simp[Go.Proofs.YtojjoblnpldniaaGreat.wbad,h.c2]
def CU(w:ag)(a b:dw)(g:Nat)(hg:w.heap.size=g):∀j u,[Value.string a,.string b][j]?=some u->(w.alloc<|.cells #[.string a,.string b] 216).cell? ((⟨g,0,none⟩:Addr).add j)=some u:=by
 intro j u hu;subst hg;rw[show(⟨w.heap.size,0,none⟩:Addr).add j=⟨w.heap.size,0+j,none⟩ by simp[Addr.add];omega,Yg];have:=World.cell?_alloc_mark w #[.string a,.string b] 216 (0,0) j;rw[this];simpa using hu
def sJ(s:ByteArray)(st:RS):Int×RS:=match dN s (s.size+1) [] (lH gQ st) with
 | (some xs,st')=>((st'.out.length:Int),uz ⟨1,xs,⟨#[]⟩,⟨#[]⟩,[]⟩ st')
 | (none,st')=>(0,st')
def Md{s:ByteArray}{st st':RS}{xs:Q0a}(h:dN s (s.size+1) [] (lH gQ st)=(some xs,st')):sJ s st=((st'.out.length:Int),uz ⟨1,xs,⟨#[]⟩,⟨#[]⟩,[]⟩ st'):=by simp only[sJ,h]
def Me{s:ByteArray}{st st':RS}(h:dN s (s.size+1) [] (lH gQ st)=(none,st')):sJ s st=(0,st'):=by simp only[sJ,h]
def Mf(s:dw)(n:Nat)(xs:Q0a)(p:Nat)(o:Q09):dN s n xs ⟨p,true,o⟩=(none,⟨p,true,o⟩):=by
 cases n with
 | zero=>rfl
 | succ n=>rfl
structure PairIs(s:ByteArray)(p:Nat)(o:Q09)(a:Al)(pb:Nat):Prop where
 a:(⟨aF s p,Ad s<|bR s ⟨p,false,o⟩⟩:Al)=a
 b:bq s (bR s ⟨p,false,o⟩)=⟨pb,false,o⟩
def O8{s:ByteArray}{p:Nat}{o:Q09}(h:ow s wO (p+aB s p) false=false):PairIs s p o ⟨aF s p,⟨#[]⟩⟩ (p+aB s p):=by
 have e:mH s wO (bR s ⟨p,false,o⟩)=false:=h;exact⟨by unfold Ad;rw[e];rfl,by unfold bq;rw[e];rfl⟩
def Mg{s:ByteArray}{p:Nat}{o:Q09}(h:ow s wO (p+aB s p) false=true):PairIs s p o ⟨aF s p,aF s<|p+aB s p+1⟩ (p+aB s p+1+aB s (p+aB s p+1)):=by
 have e:mH s wO (bR s ⟨p,false,o⟩)=true:=h;exact⟨by unfold Ad;rw[e];rfl,by unfold bq;rw[e];rfl⟩
def Jy{s:ByteArray}{p pb n:Nat}{o:Q09}{a:Al}{xs:Q0a}(h:PairIs s p o a pb)(h1:ow s fQ pb false=true):dN s (n+1) xs ⟨p,false,o⟩=(some<|xs++[a],⟨pb+1,false,o⟩):=by
 have e:mH s fQ ⟨pb,false,o⟩=true:=h1;unfold dN;rw[h.a,h.b,e];rfl
def Jz{s:ByteArray}{p pb n:Nat}{o:Q09}{a:Al}{xs:Q0a}(h:PairIs s p o a pb)(h1:ow s fQ pb false=false)(h2:ow s nC pb false=true):dN s (n+1) xs ⟨p,false,o⟩=dN s n (xs++[a]) ⟨pb+1,false,o⟩:=by
 have e:mH s fQ ⟨pb,false,o⟩=false:=h1;have e2:mH s nC ⟨pb,false,o⟩=true:=h2
 conv=>lhs;unfold dN
 rw[h.a,h.b,e,e2];rfl
def O9{s:ByteArray}{p pb n:Nat}{o:Q09}{a:Al}{xs:Q0a}(h:PairIs s p o a pb)(h1:ow s fQ pb false=false)(h2:ow s nC pb false=false):dN s (n+1) xs ⟨p,false,o⟩=dN s n (xs++[a]) ⟨pb,true,o⟩:=by
 have e:mH s fQ ⟨pb,false,o⟩=false:=h1;have e2:mH s nC ⟨pb,false,o⟩=false:=h2
 conv=>lhs;unfold dN
 rw[h.a,h.b,e,e2];rfl
def capOf{w:ag}{base size n m cap:Nat}{e:TypeId}{ad:Q02}{xs:Q03}(h:w.ownsRow base e size (.slice ad n cap) m xs)(hm:m=n:=by rfl):n<=cap:=by
 rcases h.2 with⟨e1,h0⟩|⟨g,cap',cur,e1,-,-,hnc,-⟩
 ·injection e1 with _ e2 e3;omega
 injection e1 with _ e2 e3;omega
def PL.node{w1 wr:ag}{R X:Nat}{s:ByteArray}{xs:Q0a}{p:Nat}{bad:Bool}{v vA:Value}(h:PL w1 wr R X s xs p bad v vA)(h1:w1.heap.size<=X){base:Nat}(hb:cV base w1):∃ad cap,vA=.slice ad xs.length cap/\NewQ base wr ⟨⟨1,xs,⟨#[]⟩,⟨#[]⟩,[]⟩,ad,cap,none,0⟩/\∀g,si ⟨⟨1,xs,⟨#[]⟩,⟨#[]⟩,[]⟩,ad,cap,none,0⟩ g->X<g:=by
 obtain⟨ad,cap,e,h2,h3,h4⟩:=Xc h.own rfl;have hK:∀g,¬bK ⟨⟨1,xs,⟨#[]⟩,⟨#[]⟩,[]⟩,ad,cap,none,0⟩ g:=fun g hg=>hg.1 rfl;have hA:∀g,si ⟨⟨1,xs,⟨#[]⟩,⟨#[]⟩,[]⟩,ad,cap,none,0⟩ g->X+1<=g/\g<wr.heap.size/\nu wr g:=by
  rintro g (hg|hg)
  ·exact h4 g hg.1 hg.2
  exact absurd hg<|hK g
 refine⟨ad,cap,e,⟨h3,fun h=>absurd rfl h,⟨h2,.inl rfl⟩,fun g hg=>⟨?_,(hA g hg).2⟩,fun g _ hg=>hK g hg,capOf<|e ▸ h.own⟩,fun g hg=>(hA g hg).1⟩;have:=(hA g hg).1;omega
theorem Pb(R:Nat)(s:dw)(st:RS)(base:Nat)(v:Value)(qs:Q08)(w:ag)(h:RdF w R s st base v qs)(hR:R<base)(hB:base<=w.heap.size)(hs:s.size<=1000)(hp:st.p<=s.size)(hn:qs.length<=100000)
  (h0:ow s gQ st.p st.bad=true) :
  Calls prog 324 #[.pointer (some ⟨R,0,none⟩)] w (xk R s base v qs w<|sJ s st):=by
 obtain⟨iA,hiA,zA0,zA1,zA2⟩:=info_parts (P:=prog) (e:=216) (z:=.agg #[.string ⟨#[]⟩,.string ⟨#[]⟩]) (size:=2) (bytes:=32) cw;have HIA:O (prog.info? 216=some iA/\iA.zero=some (.agg #[.string ⟨#[]⟩,.string ⟨#[]⟩])/\iA.size=2/\iA.bytes=32):=⟨hiA,zA0,zA1,zA2⟩;have H:=ak h;have HP:=ak hp
 have hbad:st.bad=false:=by cases e:st.bad with
  | false=>rfl
  | true=>rw[e]at h0;cases h0
 have HBD:=ak hbad;have HP1:O (st.p+5<=s.size):=Cr h0;clear h hp hiA zA0 zA1 zA2 hbad;go_enter func324,ntmps324;go_wp2_with fail;refine(nD R s gQ st.p st.bad v w H.out.rd hs HP.out cv).mono ?_;rintro e w1 ⟨rfl,hr1,hg1⟩;have Z8:=ak<|H.out.is_yes hR h0 hr1 hg1;have Zj:=ak<|Onl.of_grown hg1;rw[h0];clear hr1 hg1 h0;obtain⟨W2,hW2⟩:=eQx<|w1.alloc<|.cells #[.int .i64 1,.slice none 0 0,.string ⟨#[]⟩,.string ⟨#[]⟩,.slice none 0 0] 43;have HL2:O (PL w1 W2 R w1.heap.size s [] (st.p+5) false v<|.slice none 0 0):=by
  rw[hW2];have hrd:RdC w1 R s (st.p+5) false v:=by have:=Z8.out.rd;rw[show(lH gQ st).bad=false from HBD.out]at this;exact this
  refine⟨hrd.below<|(XL _ _).alloc (XK _) _,Onl.of_below<|(XL _ _).alloc (XK _) _,ct,ct,ct,ct,ct,fun j=>ct,ct,World.ownsRow_nil _ _ _ _⟩
 have HX0:O (w.heap.size<=w1.heap.size):=Zj.out.size;have HRX:O (R<w1.heap.size):=Z8.out.rd.lt;have HX1:O (w1.heap.size<=w1.heap.size):=XK _;go_wp2_with fail;rw[<-hW2];clear hW2;obtain⟨X,hX⟩:=eQx w1.heap.size;replace HL2:O (PL w1 W2 R X s [] (st.p+5) false v<|.slice none 0 0):=by rw[hX];exact HL2
 replace HX0:O (w.heap.size<=X):=by rw[hX];exact HX0
 replace HRX:O (R<X):=by rw[hX];exact HRX
 replace HX1:O (w1.heap.size<=X):=by rw[hX];exact HX1
 rw[<-hX];clear hX;go_loopw[14] (fun _ wr=>∃(n p:Nat) (bad:Bool) (xs:Q0a) (vA:Value),O (p<=s.size)/\O (dN s n xs ⟨p,bad,st.out⟩=dN s (s.size+1) [] (lH gQ st))/\O (bad=false->s.size-p<n/\xs.length+5<=p)/\O (PL w1 wr R X s xs p bad v vA)) (fun _ wr=>s.size-wat R wr+wbad R wr);case atStart=>exact⟨s.size+1,st.p+5,false,[],.slice none 0 0,HP1.out,by show _=_;unfold lH;rw[HBD.out];rfl,fun _=>⟨cq,ct⟩,HL2.out⟩
 obtain⟨n,p,bad,xs,vA,HPL,HPP,HLN,HL⟩:=hrel;clear HL2;have r2:=HL.out.rd.c2;have rl:=HL.out.rd.lt;cases bad;case true=>
  have EQ:=ak<|Me<|HPP.out.symm.trans<|Mf s n xs p st.out;have HF:=ak<|Z8.out.over hR HL.out.onl HL.out.rd;have HO:=ak<|Zj.out.trans0 HL.out.onl;go_wp2;exact bodyPost_ret (v:=.int .i64 0) (by simp[results,Tryz.results324,go_sem]) rfl (by rw[EQ.out];exact⟨v,[],rfl,by rw[YB];exact HF.out,HO.out.any v,fun q hq=>by cases hq⟩)
 obtain⟨m,hm⟩:∃m,n=m+1:=⟨n-1,by have:=(HLN.out rfl).1;omega⟩;subst hm;have HPW:=ak<|lI s p HPL.out;have HLN1:=ak (HLN.out rfl).1;have HLN2:=ak (HLN.out rfl).2;clear HLN;go_wp2_with fail;refine(wR R s p false v wr HL.out.rd hs HPL.out).mono ?_;rintro e w4 ⟨rfl,hr4,hg4⟩;have HL4:=ak<|HL.out.moved HRX.out hg4 hr4;have HPLC:=ak HL.out.rd.place;have HPLB:=ak HL.out.rd.wbad1;clear hr4 hg4 HL r2 rl;obtain⟨W5,ZZ⟩:∃W5,W5=w4.alloc (.cells #[.string (aF s p),.string ⟨#[]⟩] 216):=⟨_,rfl⟩;have HL5:O (PL w1 W5 R X s xs (p+aB s p) false v vA):=by rw[ZZ];exact HL4.out.made _
 have HA0:O (W5.cell? ⟨w4.heap.size,0,none⟩=some (.string<|aF s p)):=by show _=_;rw[ZZ];simp
 have HA1:O (W5.cell? ⟨w4.heap.size,1,none⟩=some (.string ⟨#[]⟩)):=by show _=_;rw[ZZ];simp
 have HAF:O (nu W5 w4.heap.size):=fun j=>by rw[ZZ];simp
 have Zl:O (w4.heap.size<W5.heap.size):=by show _<_;rw[ZZ];simp
 have HAX:O (X<w4.heap.size):=HL4.out.lt;have HAV:O (vA.ownBlock≠some w4.heap.size):=fun e=>by have:=(HL4.out.own.lt _ e).2;omega
 go_wp2_with fail;rw[<-ZZ];clear ZZ;obtain⟨A,hA⟩:=eQx w4.heap.size;rw[<-hA]at HA0 HA1 HAF Zl HAX HAV;rw[<-hA];clear hA HL4;refine(nD R s wO (p+aB s p) false v W5 HL5.out.rd hs HPW.out cv).mono ?_;rintro e w6 ⟨rfl,hr6,hg6⟩;have HAR:O (some A≠some R):=by intro e;injection e with e;have:=HRX.out;have:=HAX.out;omega
 have HB0:=ak<|hg6.cell HA0.out HAR.out;have HB1:=ak<|hg6.cell HA1.out HAR.out;have HBF:=ak<|dD HAF.out<|hg6.block A Zl.out HAR.out;have HBL:=ak<|XJ Zl.out hg6.size;cases hc:ow s wO (p+aB s p) false
 case' false =>
  rw[BL hc]at hr6;have HL6:=ak<|HL5.out.moved HRX.out hg6 hr6;have PI:=ak<|O8 (o:=st.out) hc;have HPB:=HPW;have HPG:O (p<=p+aB s p):=Nat.le_add_right _ _;clear hr6 hg6 hc HL5 HA0 HA1 HAF Zl;have a0:=HB0.out;have a1:=HB1.out;have k1:=HL6.out.c1;obtain⟨W9,hW9⟩:=eQx<|w6.alloc<|.cells #[.string (aF s p),.string<|(⟨#[]⟩:ByteArray)] 216;have HL9:O (PL w1 W9 R X s xs (p+aB s p) false v vA):=by rw[hW9];exact HL6.out.made _
  have HNW:O (∀j u,[Value.string (aF s p),.string<|(⟨#[]⟩:ByteArray)][j]?=some u->W9.cell? ((⟨w6.heap.size,0,none⟩:Addr).add j)=some u):=by rw[hW9];exact CU w6 _ _ _<|rfl
  have HSZ9:O (X+1<=W9.heap.size):=HL9.out.lt;have hxs:xs.length<=1000:=by have:=HLN2.out;have:=HPL.out;omega
  go_wp2_with(at_builtin;rw[<-hW9];clear hW9;refine wpList_append_own _ rfl _ _ 40 rfl (X+1) 216 iA (.agg #[.string ⟨#[]⟩,.string ⟨#[]⟩]) 2 32 underlying40 HIA.out.1 HIA.out.2.1 HIA.out.2.2.1 HIA.out.2.2.2 rfl cv vA xs.length (pairs xs) rfl HL9.out.own ⟨w6.heap.size,0,none⟩ 1 1 [Value.string (aF s p),.string<|(⟨#[]⟩:ByteArray)] rfl rfl HNW.out (by intro u hu;simp at hu;rcases hu with rfl|rfl<;>rfl) cy cq HSZ9.out ?_);intro vB w10 hown10 hgr10 _;obtain⟨gB,cB,rfl⟩:=gG hown10;have hX10:some X≠vA.ownBlock:=fun e=>by have:=(HL9.out.own.lt X e.symm).1;omega
  have k10:=hgr10.cell HL9.out.c1 hX10;have f10:=dD HL9.out.fr (hgr10.block X HL9.out.lt hX10) 1;have l10:=XJ HL9.out.lt hgr10.size;have HL11:=ak<|HL9.out.app HRX.out HX1.out ⟨aF s p,(⟨#[]⟩:ByteArray)⟩ hown10 hgr10;clear hown10 hgr10 a0 a1 k1 HL9 hX10 HNW HSZ9 HL6;obtain⟨P,hP⟩:=eQx<|p+aB s p;obtain⟨S2,hS2⟩:∃S2:ByteArray,S2=⟨#[]⟩:=⟨_,rfl⟩;rw[<-hP]at HL11 PI HPB HPG;rw[<-hS2]at HL11 PI;clear hP hS2
 case' true =>
  rw[wQ hc]at hr6;have HL6:=ak<|HL5.out.moved HRX.out hg6 hr6;have PI:=ak<|Mg (o:=st.out) hc;have HPH:O (p+aB s p+1<=s.size):=Cr hc;have HPB:=ak<|lI s _ HPH.out;have HPG:O (p<=p+aB s p+1+aB s (p+aB s p+1)):=by show _<=_;omega
  clear hr6 hg6 hc HL5 HA0 HA1 HAF Zl;go_wp2_with fail;refine(wR R s (p+aB s p+1) false v w6 HL6.out.rd hs HPH.out).mono ?_;rintro e w7 ⟨rfl,hr7,hg7⟩;have HL7:=ak<|HL6.out.moved HRX.out hg7 hr7;have HC0:=ak<|hg7.cell HB0.out HAR.out;have a1:=hg7.cell HB1.out HAR.out;have hcf:=dD HBF.out<|hg7.block A HBL.out HAR.out;have f1:=hcf 1;have hcl:=XJ HBL.out hg7.size;obtain⟨W8,hW8⟩:=eQx<|w7.setCell ⟨A,1,none⟩<|.string<|aF s<|p+aB s p+1;have HL8:O (PL w1 W8 R X s xs (p+aB s p+1+aB s (p+aB s p+1)) false v vA):=by rw[hW8];exact HL7.out.aset HRX.out HX1.out HAX.out HAV.out _ _
  have HD0:O (W8.cell? ⟨A,0,none⟩=some (.string<|aF s p)):=by show _=_;rw[hW8,mO cq];exact HC0.out
  have HD1:O (W8.cell? ⟨A,1,none⟩=some (.string<|aF s<|p+aB s p+1)):=by show _=_;rw[hW8];exact mS a1
  clear hr7 hg7 HL6 HB0 HB1 HBF HBL;have a0:=HC0.out;have k1:=HL7.out.c1;have hxa:X≠A:=by have:=HAX.out;omega
  have hax:A≠X:=by have:=HAX.out;omega
  obtain⟨W9,hW9⟩:=eQx<|W8.alloc<|.cells #[.string (aF s p),.string<|aF s<|p+aB s p+1] 216;have HL9:O (PL w1 W9 R X s xs (p+aB s p+1+aB s (p+aB s p+1)) false v vA):=by rw[hW9];exact HL8.out.made _
  have HNW:O (∀j u,[Value.string (aF s p),.string<|aF s<|p+aB s p+1][j]?=some u->W9.cell? ((⟨w7.heap.size,0,none⟩:Addr).add j)=some u):=by rw[hW9];exact CU W8 _ _ _ (by rw[hW8];simp)
  have HSZ9:O (X+1<=W9.heap.size):=HL9.out.lt;have hxs:xs.length<=1000:=by have:=HLN2.out;have:=HPL.out;omega
  go_wp2_with(at_builtin;rw[<-hW8];clear hW8;rw[<-hW9];clear hW9;refine wpList_append_own _ rfl _ _ 40 rfl (X+1) 216 iA (.agg #[.string ⟨#[]⟩,.string ⟨#[]⟩]) 2 32 underlying40 HIA.out.1 HIA.out.2.1 HIA.out.2.2.1 HIA.out.2.2.2 rfl cv vA xs.length (pairs xs) rfl HL9.out.own ⟨w7.heap.size,0,none⟩ 1 1 [Value.string (aF s p),.string<|aF s<|p+aB s p+1] rfl rfl HNW.out (by intro u hu;simp at hu;rcases hu with rfl|rfl<;>rfl) cy cq HSZ9.out ?_);intro vB w10 hown10 hgr10 _;obtain⟨gB,cB,rfl⟩:=gG hown10;have hX10:some X≠vA.ownBlock:=fun e=>by have:=(HL9.out.own.lt X e.symm).1;omega
  have k10:=hgr10.cell HL9.out.c1 hX10;have f10:=dD HL9.out.fr (hgr10.block X HL9.out.lt hX10) 1;have l10:=XJ HL9.out.lt hgr10.size;have HL11:=ak<|HL9.out.app HRX.out HX1.out ⟨aF s p,aF s<|p+aB s p+1⟩ hown10 hgr10;clear hown10 hgr10 a0 a1 k1 HL9 hX10 HNW HSZ9 HL8 hxa hax f1 hcl hcf;obtain⟨P,hP⟩:=eQx<|p+aB s p+1+aB s (p+aB s p+1);obtain⟨S2,hS2⟩:∃S2:ByteArray,S2=aF s (p+aB s p+1):=⟨_,rfl⟩;rw[<-hP]at HL11 PI HPB HPG;rw[<-hS2]at HL11 PI;clear hP hS2
 all_goals
  go_wp2_with fail;obtain⟨W11,hW11⟩:=eQx<|w10.setCell ⟨X,1,none⟩<|.slice (some ⟨gB,0,none⟩) (xs.length+1) cB;rw[<-hW11]at HL11 ⊢;clear hW11 k10 f10 l10;refine(nD R s fQ P false v W11 HL11.out.rd hs HPB.out cv).mono ?_;rintro e w12 ⟨rfl,hr12,hg12⟩;cases hcl:ow s fQ P false;case true=>
   rw[wQ hcl]at hr12;have HL12:=ak<|HL11.out.moved HRX.out hg12 hr12;have EQ:=ak<|Md<|HPP.out.symm.trans<|Jy (xs:=xs) (n:=m) PI.out hcl;obtain⟨ad,cap,hva,hnq,hin⟩:=HL12.out.node HX1.out (base:=base)<|XR hB Zj.out.size;injection hva with hva1 hva2 hva3;subst hva1;subst hva3;clear hva2;have HNQ:=ak hnq;have HIN:=ak hin;have k0:=HL12.out.c0;have k1:=HL12.out.c1;have k2:=HL12.out.c2;have k3:=HL12.out.c3;have k4:=HL12.out.c4;have HF:=ak<|Z8.out.over hR HL12.out.onl HL12.out.rd;have HO:=ak<|Zj.out.trans0 HL12.out.onl;clear hr12 hg12 hcl hnq hin HL11 HL12;go_wp2_with fail;have HADD:=OA R s ⟨P+1,false,st.out⟩ base v qs ⟨⟨1,xs++[⟨aF s p,S2⟩],⟨#[]⟩,⟨#[]⟩,[]⟩,some ⟨gB,0,none⟩,cB,none,0⟩ w12 HF.out hR (XR hB HO.out.size) hn HNQ.out (.inl ⟨rfl,rfl,rfl⟩) (fun g hg=>⟨fun e=>by have:=(Z8.out.own.lt g e).2;have:=HIN.out g hg;have:=HX1.out;omega,fun q' hq' hg'=>by have:=(Z8.out.lie q' hq' g hg').2.1;have:=HIN.out g hg;have:=HX1.out;omega⟩);rw[show(⟨⟨1,xs++[⟨aF s p,S2⟩],⟨#[]⟩,⟨#[]⟩,[]⟩,some ⟨gB,0,none⟩,cB,none,0⟩:ER).val=.agg #[.int .i64 1,.slice (some ⟨gB,0,none⟩) (xs.length+1) cB,.string ⟨#[]⟩,.string ⟨#[]⟩,.slice none 0 0] by simp[ER.val]]at HADD;refine HADD.mono ?_;rintro e w13 ⟨v13,rfl,hF13,hW13⟩;have HF13:=ak hF13;have HW13:=ak<|(HO.out.any v).trans hW13;clear hF13 hW13;go_wp2;exact bodyPost_ret (v:=.int .i64 (st.out.length:Int)) (by simp[results,Tryz.results324,go_sem]) rfl (by rw[EQ.out];exact⟨v13,_,rfl,HF13.out,HW13.out,fun q hq g hg=>by rw[XX]at hq;subst hq;have:=HIN.out g hg;have:=HX0.out;omega⟩)
  rw[BL hcl]at hr12;have HL12:=ak<|HL11.out.moved HRX.out hg12 hr12;have HCL:=ak hcl;clear hr12 hg12 hcl HL11;go_wp2_with fail;refine(nD R s nC P false v w12 HL12.out.rd hs HPB.out cv).mono ?_;rintro e w13 ⟨rfl,hr13,hg13⟩;cases hcm:ow s nC P false;case true=>
   rw[wQ hcm]at hr13;have HL13:=ak<|HL12.out.moved HRX.out hg13 hr13;have HQ13:O (P+1<=s.size):=Cr hcm;have EQ:=ak<|(Jz (xs:=xs) (n:=m) PI.out HCL.out hcm).symm.trans HPP.out;have HM:O (s.size-wat R w13+wbad R w13<s.size-wat R wr+wbad R wr):=by
    show _<_;rw[HL13.out.rd.wbad1,HPLB.out,show wat R w13=P+1 from HL13.out.rd.place,HPLC.out];have:=HQ13.out;have:=HPG.out;omega
   clear hr13 hg13 hcm HL12;go_wp2;go_roundw;case rel=>exact⟨m,P+1,false,xs++[(⟨aF s p,S2⟩:Al)],.slice (some ⟨gB,0,none⟩) (xs.length+1) cB,HQ13.out,EQ.out,fun _=>⟨by have:=HLN1.out;have:=HPG.out;have:=HQ13.out;omega,by have:=HLN2.out;have:=HPG.out;rw[XT,Yr];omega⟩,HL13.out⟩
   exact HM.out
  rw[BL hcm]at hr13;have HL13:=ak<|HL12.out.moved HRX.out hg13 hr13;have EQ:=ak<|(O9 (xs:=xs) (n:=m) PI.out HCL.out hcm).symm.trans HPP.out;have c2:=HL13.out.rd.c2;have f2:=HL13.out.rd.fr 2;have hl13:=HL13.out.rd.lt;have HL14:O (PL w1 (w13.setCell ⟨R,2,none⟩<|.bool true) R X s (xs++[⟨aF s p,S2⟩]) P true v<|.slice (some ⟨gB,0,none⟩) (xs.length+1) cB):=HL13.out.moved HRX.out (by have:=IE w13 R 2 (.bool true) 0;exact this) HL13.out.rd.hurt;have HM:O (s.size-wat R (w13.setCell ⟨R,2,none⟩<|.bool true)+wbad R (w13.setCell ⟨R,2,none⟩<|.bool true)<s.size-wat R wr+wbad R wr):=by
   show _<_;rw[HL14.out.rd.wbad0,HPLB.out,show wat R (w13.setCell ⟨R,2,none⟩<|.bool true)=P from HL14.out.rd.place,HPLC.out];have:=HPG.out;omega
  clear hr13 hg13 hcm HL12 HL13;go_wp2;go_roundw;case rel=>exact⟨m,P,true,xs++[(⟨aF s p,S2⟩:Al)],.slice (some ⟨gB,0,none⟩) (xs.length+1) cB,HPB.out,EQ.out,fun h=>(by cases h),HL14.out⟩
  exact HM.out
def sK{a b:ByteArray}(h:a=b):Ending.returned (.string a)=.returned (.string b):=by rw[h]
def ui(a:dw):(⟨#[]⟩:ByteArray)++a=a:=by apply jM;simp[ByteArray.data_append]
def zL(a:Al)(w:ag)(h1:a.t.size<=12)(h2:a.s.size<=12):
  Calls prog 293 #[.agg #[.string a.t,.string a.s]] w (a8 w<|.string<|gF a):=by
 have hB:=(XL w.heap.size w).alloc (XK _)<|.cells #[.string a.t,.string a.s] 216;cases he:a.s.toList.isEmpty;case true=>
  go_enter func293,ntmps293;go_wp2;go_ret;exact⟨sK<|by simp[gF,he],hB⟩
 go_enter func293,ntmps293;go_wp2;go_ret;exact⟨sK<|by simp[gF,he],hB⟩
def nN(k:Int)(w:ag):
  Calls prog 294 #[.int .i64 k] w (bh w<|.string<|iB k):=by
 by_cases h4:k=4
 ·subst h4;go_enter func294,ntmps294;go_wp2;go_ret;exact⟨rfl,rfl⟩
 by_cases h5:k=5
 ·subst h5;go_enter func294,ntmps294;go_wp2;go_ret;exact⟨rfl,rfl⟩
 have HS:O (iB k=⟨#[32,45,32]⟩):=by show _=_;simp[iB,h4,h5]
 go_enter func294,ntmps294;go_wp2;go_ret;exact⟨by rw[HS];rfl,rfl⟩
def G6{α:Type}{xs:List α}{k:Nat}(h:k<=xs.length):xs.take k=[]↔k=0:=by
 constructor
 ·intro e;have:=congrArg List.length e;rw[Yc,YO]at this;omega
 rintro rfl;simp
def oG(sep:dw)(xs:List ByteArray):gp sep (xs.take 0)=⟨#[]⟩:=by simp[ES]
def CV(sep:dw)(xs:List ByteArray)(h:0<xs.length):gp sep (xs.take 1)=⟨#[]⟩++xs[0]:=by
 rw[show(1:Nat)=0+1 from rfl,XM h,qp,if_pos ct,ui]
def zM(sep:dw)(xs:List ByteArray)(k:Nat)(h:k<xs.length)(hk:0<k):gp sep (xs.take<|k+1)=gp sep (xs.take k)++sep++xs[k]:=by
 rw[XM h,qp,if_neg];rw[G6 cq];omega
def zP(sep:dw)(xs:List ByteArray)(b k:Nat)(hx:∀x∈xs,x.size<=b):(gp sep<|xs.take k).size<=k*(b+sep.size):=by
 have h1:=qw sep b _ (xs.take k) rfl (fun x h=>hx x<|List.mem_of_mem_take h);have h2:(xs.take k).length*(b+sep.size)<=k*(b+sep.size):=Nat.mul_le_mul_right _ (by simp;omega);omega
def FO{es:Q09}(hes:Vj es)(n:Nat)(hn:n<es.length)(i:Bool):(jB es n i).size<=20000000000000 :=
 XR (KG hes n hn i) (XR (ET (by have:=hes.1;omega)) TZ)
set_option maxRecDepth 4000 in
def Mh(b off cap:Nat)(rs:Q08)(hes:Vj<|au rs)(hl:∀r∈rs,r.e.light)(n:Nat):∀(inside:Bool) (w:ag),n<rs.length->b<w.heap.size->(∀(i:Nat) (h:i<rs.length),zY w b (off+i*5) rs[i])->(∀r∈rs,r.ok w) ->
  Calls prog 255 #[.slice (some<|ap b off) rs.length cap,.int .i64 (n:Int),.bool inside] w (a8 w<|.string<|jB (au rs) n inside):=by
 have HES:=aK hes;have HL:=aK hl;have h15:rs.length<=15:=by have:=hes.1;rw[aX]at this;exact this
 clear hes hl
 induction n using Nat.strongRecOn with
 | ind n ih =>
  intro inside w hn hb hr hok
  have IH:O (∀ m,m<n->∀ (inside:Bool) (w:World),m<rs.length->b<w.heap.size->(∀ (i:Nat) (h:i<rs.length),zY w b (off+i*5) rs[i])->(∀ r∈rs,r.ok w) ->
   Calls prog 255 #[.slice (some<|ap b off) rs.length cap,.int .i64 (m:Int),.bool inside] w (a8 w<|.string<|jB (au rs) m inside)):=ih
  have HR:O (∀(i:Nat) (h:i<rs.length),zY w b (off+i*5) rs[i]):=hr;have HO:=aK hok;obtain⟨t0,t1,t2,t3,t4⟩:=hr n hn;have hnE:n<(au rs).length:=by rw[aX];exact hn
  have heE:(au rs)[n]=rs[n].e:=by simp[au]
  have YX:aD rs[n].e=true:=by rw[<-heE];exact HES.2.1 n hnE
  have hkl:=wN HES hnE;rw[heE]at hkl;obtain⟨hk5,hkind⟩:=rP YX;have HT:O (jB (au rs) n inside=inT rs[n].e inside (nz (j6 (au rs) n) rs[n].e)):=by show _=_;unfold jB;rw[Gv hnE,heE]
  have HN:O (aD rs[n].e=true):=YX;have ZY:O (∀k∈rs[n].e.kids,0<=k/\k.toNat<n):=hkl;have hn1:=bG n;have hn2:(n:Int)<(rs.length:Int):=cq;clear ih hr hok YX hkl heE;by_cases k1:rs[n].e.kind=1
  ·skip
   obtain⟨W,hW⟩:=eQx<|w.alloc<|.cells #[.int .i64 1,.slice rs[n].adA rs[n].e.allow.length rs[n].capA,.string rs[n].e.over,.string rs[n].e.name,.slice rs[n].adK rs[n].e.kids.length rs[n].capK] 43;have hB0:ae w W:=by rw[hW];exact(XL _ _).alloc (XK _) _
   have hgl:w.heap.size<W.heap.size:=by rw[hW];simp
   have g0:W.cell? (aE w)=some (.int .i64 1):=by rw[hW];simp
   have g1:W.cell? (a6 w 1)=some (.slice rs[n].adA rs[n].e.allow.length rs[n].capA):=by rw[hW];simp
   have g2:W.cell? (a6 w 2)=some (.string rs[n].e.over):=by rw[hW];simp
   have g3:W.cell? (a6 w 3)=some (.string rs[n].e.name):=by rw[hW];simp
   have g4:W.cell? (a6 w 4)=some (.slice rs[n].adK rs[n].e.kids.length rs[n].capK):=by rw[hW];simp
   have HB0:=aK hB0;clear hB0;have hal:fo rs[n].e.allow=true:=by
    have:=HN.out;unfold aD at this;rw[if_pos k1]at this;simp only[XN]at this;exact this.1.1.1
   have hts:=lm hal;have Zl:O (fo rs[n].e.allow=true):=hal;have HT1:O (jB (au rs) n inside=wM rs[n].e.allow):=by show _=_;rw[HT];simp[inT,nz,k1]
   have hl6:rs[n].e.allow.length<=6:=by unfold fo at hal;simp at hal;exact hal.1.2
   have HAS:O (∀x∈rs[n].e.allow.map gF,x.size<=25):=fun x hx=>by
    obtain⟨a,ha,rfl⟩:=XW.1 hx;obtain⟨i,hi,rfl⟩:=Yk ha;unfold fo at hal;simp only[XN]at hal;exact rO<|AL hal.2 i hi hi
   clear hal HT;go_enter func255,ntmps255;go_wp2_with fail;rw[<-hW];clear hW t0 t1 t2 t3 t4;go_loopw[8,9] (fun s i wr=>∃k:Nat,k<=rs[n].e.allow.length/\i=.int .i64 k/\s=.string (gp ⟨#[44]⟩<|(rs[n].e.allow.map gF).take k)/\ae W wr) (fun _ i _=>rs[n].e.allow.length-(intOf i).toNat);case atStart=>exact⟨0,XP _,rfl,by rw[oG],XL _ _⟩
   obtain⟨k,hk,rfl,rfl,hB⟩:=hrel;have hBw:ae w wr:=HB0.trans<|hB.mono HB0.size;have a1:=kept hB hgl g1;have hsj:(gp ⟨#[44]⟩<|(rs[n].e.allow.map gF).take k).size<=200:=by
    have h:=zP ⟨#[44]⟩ (rs[n].e.allow.map gF) 25 k HAS;have e1:(⟨#[44]⟩:ByteArray).size=1:=rfl;rw[e1]at h;omega
   by_cases hlt:k<rs[n].e.allow.length
   ·rcases (HO.out rs[n]<|XI hn).1.below hBw with hnil|⟨ba,offa,hadA,hba,hra⟩
    ·rw[hnil]at hlt;simp at hlt
    rw[hadA]at a1;obtain⟨q0,q1⟩:=hra k hlt;have hab:Ic rs[n].e.allow[k]=true:=by
     have:=Zl.out;unfold fo at this;simp only[XN]at this;exact AL this.2 k hlt hlt
    have z2:=rO hab;unfold Ic at hab;rw[XN]at hab;have z0:=cu hab.1;have z1:=BG hab.2;have hk1:=bG k;have hk2:(k:Int)<(rs[n].e.allow.length:Int):=cq;clear hra hadA hab;by_cases hk0:0<k
    ·have hk3:(0:Int)<(k:Int):=cq;have HJ:O (gp ⟨#[44]⟩ ((rs[n].e.allow.map gF).take<|k+1)=gp ⟨#[44]⟩ ((rs[n].e.allow.map gF).take k)++⟨#[44]⟩++gF rs[n].e.allow[k]):=by show _=_;rw[zM _ _ _ (by simpa using hlt) hk0,List.getElem_map]
     go_wp2_with fail;refine(zL rs[n].e.allow[k] _ z0 z1).mono ?_;rintro e w1 ⟨rfl,hb1⟩;have hB1:ae W w1:=hB.trans<|hb1.mono hB.size;clear hb1;go_wp2;go_roundw;case rel=>exact⟨k+1,cq,cx,by rw[HJ],hB1⟩
     simp[intOf]<;>omega
    skip
    have hk3:¬(0:Int)<(k:Int):=cq;have HJ:O (gp ⟨#[44]⟩ ((rs[n].e.allow.map gF).take<|k+1)=gp ⟨#[44]⟩ ((rs[n].e.allow.map gF).take k)++gF rs[n].e.allow[k]):=by
     show _=_;obtain rfl:k=0:=cq;rw[oG,CV _ _<|by simpa using hlt,List.getElem_map]
    go_wp2_with fail;refine(zL rs[n].e.allow[k] _ z0 z1).mono ?_;rintro e w1 ⟨rfl,hb1⟩;have hB1:ae W w1:=hB.trans<|hb1.mono hB.size;clear hb1;go_wp2;go_roundw;case rel=>exact⟨k+1,cq,cx,by rw[HJ],hB1⟩
    simp[intOf]<;>omega
   obtain rfl:k=rs[n].e.allow.length:=cq;have HE:O ((rs[n].e.allow.map gF).take rs[n].e.allow.length=rs[n].e.allow.map gF):=by show _=_;rw[Yj ct]
   go_wp2;go_ret;exact⟨by rw[HT1];exact sK<|by rw[HE];rfl,hBw⟩
  by_cases k2:rs[n].e.kind=2
  ·have HT1:O (jB (au rs) n inside=rs[n].e.name):=by show _=_;rw[HT];simp[inT,nz,k2]
   clear HT;go_enter func255,ntmps255;go_wp2;go_ret;exact⟨by rw[HT1];rfl,(XL _ _).alloc (XK _) _⟩
  by_cases k3:rs[n].e.kind=3
  ·have HT1:O (jB (au rs) n inside=rs[n].e.over++⟨#[45,62]⟩++rs[n].e.name):=by show _=_;rw[HT];simp[inT,nz,k3]
   have hsz:rs[n].e.over.size<=12/\rs[n].e.name.size<=12:=by
    have:=HN.out;unfold aD at this;rw[if_neg k1,if_neg k2,if_pos k3]at this;simp only[XN]at this;exact⟨cu this.1.1.1,cu this.1.1.2⟩
   obtain⟨z0,z1⟩:=hsz;clear HT;go_enter func255,ntmps255;go_wp2;go_ret;exact⟨by rw[HT1];rfl,(XL _ _).alloc (XK _) _⟩
  skip
  obtain⟨W,hW⟩:=eQx<|w.alloc<|.cells (cU rs[n]) 43;have hB0:ae w W:=by rw[hW];exact(XL _ _).alloc (XK _) _
  have hgl:w.heap.size<W.heap.size:=by rw[hW];simp
  have g0:W.cell? (aE w)=some (.int .i64 rs[n].e.kind):=by rw[hW];simp
  have g1:W.cell? (a6 w 1)=some (.slice rs[n].adA rs[n].e.allow.length rs[n].capA):=by rw[hW];simp
  have g2:W.cell? (a6 w 2)=some (.string rs[n].e.over):=by rw[hW];simp
  have g3:W.cell? (a6 w 3)=some (.string rs[n].e.name):=by rw[hW];simp
  have g4:W.cell? (a6 w 4)=some (.slice rs[n].adK rs[n].e.kids.length rs[n].capK):=by rw[hW];simp
  have HB0:=aK hB0;clear hB0;have HT1:O (jB (au rs) n inside=if inside then ⟨#[40]⟩++gp (iB rs[n].e.kind) (rs[n].e.kids.map<|j6 (au rs) n)++⟨#[41]⟩ else gp (iB rs[n].e.kind) (rs[n].e.kids.map<|j6 (au rs) n)):=by
   show _=_;rw[HT];simp[inT,nz,k1,k2,k3]
  have HTS:O (∀x∈rs[n].e.kids.map (j6 (au rs) n),x.size<=20000000000000):=fun x hx=>by
   obtain⟨k,hk,rfl⟩:=XW.1 hx;have hlt:=ZY k hk;unfold j6;rw[if_pos hlt.2,Gu];exact FO HES _ (by rw[aX];omega) true
  have kb1:(rs[n].e.kind==1)=false:=by simpa using k1
  have kb2:(rs[n].e.kind==2)=false:=by simpa using k2
  have kb3:(rs[n].e.kind==3)=false:=by simpa using k3
  clear HT hkind;go_enter func255,ntmps255;go_wp2_with fail;rw[<-hW];clear hW t0 t1 t2 t3 t4;go_loopw[8,10] (fun s i wr=>∃k:Nat,k<=rs[n].e.kids.length/\i=.int .i64 k/\s=.string (gp (iB rs[n].e.kind)<|(rs[n].e.kids.map<|j6 (au rs) n).take k)/\ae W wr) (fun _ i _=>rs[n].e.kids.length-(intOf i).toNat);case atStart=>exact⟨0,XP _,rfl,by rw[oG],XL _ _⟩
  obtain⟨k,hk,rfl,rfl,hB⟩:=hrel;have hBw:ae w wr:=HB0.trans<|hB.mono HB0.size;have hbw:cW b wr:=XJ hb hBw.size;have a0:=kept hB hgl g0;have a4:=kept hB hgl g4;have hsg:=ny rs[n].e.kind;have hsj:(gp (iB rs[n].e.kind)<|(rs[n].e.kids.map<|j6 (au rs) n).take k).size<=100000000000100:=by
   have h:=zP (iB rs[n].e.kind) (rs[n].e.kids.map<|j6 (au rs) n) 20000000000000 k HTS;rw[hsg]at h;omega
  by_cases hlt:k<rs[n].e.kids.length
  ·rcases (HO.out rs[n]<|XI hn).2.below hBw with hnil|⟨bk,offk,ZC,hbk,hrk⟩
   ·rw[hnil]at hlt;simp at hlt
   rw[ZC]at a4;have q0:=hrk k hlt;obtain⟨hz0,hz1⟩:=ZY rs[n].e.kids[k]<|XI hlt;obtain⟨m,hm⟩:∃m:Nat,rs[n].e.kids[k]=(m:Int):=⟨rs[n].e.kids[k].toNat,cq⟩;rw[hm]at q0 hz1;have hmn:m<n:=by simpa using hz1
   have hmr:m<rs.length:=cq;have HFm:O (j6 (au rs) n rs[n].e.kids[k]=jB (au rs) m true):=by show _=_;rw[hm];unfold j6;rw[if_pos (by simpa using hmn),Gu];simp
   have hsm:=FO HES m (by rw[aX];exact hmr) true;have hk1:=bG k;have hk2:(k:Int)<(rs[n].e.kids.length:Int):=cq
   clear hrk ZC hz0 hz1 hm;by_cases hk0:0<k
   ·have hk3:(0:Int)<(k:Int):=cq;have HJ:O (gp (iB rs[n].e.kind) ((rs[n].e.kids.map<|j6 (au rs) n).take<|k+1)=gp (iB rs[n].e.kind) ((rs[n].e.kids.map<|j6 (au rs) n).take k)++iB rs[n].e.kind++jB (au rs) m true):=by show _=_;rw[zM _ _ _ (by simpa using hlt) hk0,List.getElem_map,HFm]
    go_wp2_with fail;refine(nN _ _).mono ?_;rintro e w' ⟨rfl,rfl⟩;go_wp2_with fail;refine(IH m hmn true _ hmr hbw (fun i hi=>(HR i hi).later hb hBw) (fun r hr=>(HO r hr).below hBw)).mono ?_;rintro e w1 ⟨rfl,hb1⟩;have hB1:ae W w1:=hB.trans<|hb1.mono hB.size;clear hb1;go_wp2;go_roundw;case rel=>exact⟨k+1,cq,cx,by rw[HJ],hB1⟩
    simp[intOf]<;>omega
   skip
   have hk3:¬(0:Int)<(k:Int):=cq;have HJ:O (gp (iB rs[n].e.kind) ((rs[n].e.kids.map<|j6 (au rs) n).take<|k+1)=gp (iB rs[n].e.kind) ((rs[n].e.kids.map<|j6 (au rs) n).take k)++jB (au rs) m true):=by
    have h0:=HFm.out;show _=_;obtain rfl:k=0:=cq;rw[oG,CV _ _<|by simpa using hlt,List.getElem_map,h0]
   go_wp2_with fail;refine(IH m hmn true _ hmr hbw (fun i hi=>(HR i hi).later hb hBw) (fun r hr=>(HO r hr).below hBw)).mono ?_;rintro e w1 ⟨rfl,hb1⟩;have hB1:ae W w1:=hB.trans<|hb1.mono hB.size;clear hb1;go_wp2;go_roundw;case rel=>exact⟨k+1,cq,cx,by rw[HJ],hB1⟩
   simp[intOf]<;>omega
  obtain rfl:k=rs[n].e.kids.length:=cq;have HE:O ((rs[n].e.kids.map<|j6 (au rs) n).take rs[n].e.kids.length=rs[n].e.kids.map (j6 (au rs) n)):=by show _=_;rw[Yj ct]
  cases inside;case true=>
   go_wp2;go_ret;exact⟨by rw[HT1];exact sK<|by rw[HE];rfl,hBw⟩
  go_wp2;go_ret;exact⟨by rw[HT1];exact sK<|by rw[HE];rfl,hBw⟩
def iH(es:Q09):ByteArray:=if aS es then jB es (es.length-1) false else ⟨#[]⟩
def FP{es:Q09}(h:aS es=false):iH es=⟨#[]⟩:=by simp[iH,h]
def CW{es:Q09}(h:aS es=true):iH es=jB es (es.length-1) false:=by simp[iH,h]
def pW(ad:Q02)(cap:Nat)(rs:Q08)(w:ag)(hlen:a7 rs)(hl:∀r∈rs,r.e.light)(hf:∀r∈rs,r.e.fits)(hs:iE w ad rs):
  Calls prog 180 #[.slice ad rs.length cap] w (a8 w<|.string<|iH<|au rs):=by
 have HS:=aK hs;have HL:=aK hl;have HF:=aK hf;clear hs hl hf;go_enter func180,ntmps180;go_wp2_with fail;refine(mZ ad cap rs _ hlen HL HF HS).mono ?_;rintro e w1 ⟨he,hb1⟩;have HB1:=aK hb1;clear hb1;cases hE:aS (au rs);case false=>
  rw[hE]at he;subst he;have HX:O (iH (au rs)=⟨#[]⟩):=FP hE;go_wp2;go_ret;exact⟨by rw[HX];rfl,HB1⟩
 rw[hE]at he;subst he;have h1:1<=rs.length:=by
  have:=hE;unfold aS at this;simp only[XN,XU,aX]at this;exact this.1.1.1.1.1
 rcases HS.out.below HB1.out with rfl|⟨b,off,rfl,hb,hr,hok⟩
 ·simp at h1
 have HR:O (∀(i:Nat) (h:i<rs.length),zY w1 b (off+i*5) rs[i]):=hr;have HO:=aK hok;have HOK:O (Vj<|au rs):=QI hE;have HX:O (iH (au rs)=jB (au rs) (rs.length-1) false):=by show _=_;rw[CW hE,aX]
 have HCA:O (((rs.length:Int)-1)=((rs.length-1:Nat):Int)):=by show _=_;omega
 clear hr hok;go_wp2_with fail;rw[HCA];refine(Mh b off cap rs HOK HL (rs.length-1) false _ cq hb HR HO).mono ?_;rintro e w2 ⟨rfl,hb2⟩;have HB2:=jr HB1 hb2;clear hb2;go_wp2;go_ret;exact⟨by rw[HX];rfl,HB2⟩
def xO(k:Int):iB k=bu k:=by
 unfold iB bu;rfl
def iJ(s:ByteArray)(p:Nat)(j:Nat):Int :=
 if 4<j/\eT s (bu 4) p=true then 4 else if 5<j/\eT s (bu 5) p=true then 5 else if 6<j/\eT s (bu 6) p=true then 6 else 0
def Sd(s:dw)(p:Nat):iJ s p 4=0:=by simp[iJ]
def Sg(s:dw)(p:Nat):iJ s p 7=dO s p:=by simp[iJ,dO]
def JA{s:ByteArray}{p j:Nat}(h4:4<=j)(h7:j<7)(h:iJ s p j≠0):iJ s p (j+1)=iJ s p j:=by
 have hj:j=4\/j=5\/j=6:=cq;unfold iJ at h⊢;rcases hj with rfl|rfl|rfl<;>cases h1:eT s (bu 4) p<;>cases h2:eT s (bu 5) p<;>cases h3:eT s (bu 6) p<;>simp_all
def FQ{s:ByteArray}{p j:Nat}(h4:4<=j)(h7:j<7)(h:iJ s p j=0)(hl:eT s (bu j) p=false):iJ s p (j+1)=0:=by
 have hj:j=4\/j=5\/j=6:=cq;unfold iJ at h⊢;rcases hj with rfl|rfl|rfl<;>cases h1:eT s (bu 4) p<;>cases h2:eT s (bu 5) p<;>cases h3:eT s (bu 6) p<;>simp_all
def Mi{s:ByteArray}{p j:Nat}(h4:4<=j)(h7:j<7)(h:iJ s p j=0)(hl:eT s (bu j) p=true):iJ s p (j+1)=(j:Int):=by
 have hj:j=4\/j=5\/j=6:=cq;unfold iJ at h⊢;rcases hj with rfl|rfl|rfl<;>cases h1:eT s (bu 4) p<;>cases h2:eT s (bu 5) p<;>cases h3:eT s (bu 6) p<;>simp_all
def nO(k:Int):(bu k).size=3:=by
 unfold bu;split
 ·rfl
 split<;>rfl
def CX{s:ByteArray}{p:Nat}(k:Int)(h:p+3<=s.size):eT s (bu k) p=((s.extract p<|p+3).toList==(iB k).toList):=by
 unfold eT;rw[nO,xO];simp[h]
def Pd{s:ByteArray}{p:Nat}(k:Int)(h:¬p+3<=s.size):eT s (bu k) p=false:=by
 unfold eT;rw[nO];simp[h]
def rowP(s:ByteArray)(it:RS->Int×RS)(x:Int×RS):Int×RS :=
 if dO s x.2.p=0\/x.2.bad=true then x
 else (((iM s it (dO s x.2.p) (s.size+1) [x.1] x.2).2.out.length:Int),uz ⟨dO s x.2.p,[],⟨#[]⟩,⟨#[]⟩,(iM s it (dO s x.2.p) (s.size+1) [x.1] x.2).1⟩ (iM s it (dO s x.2.p) (s.size+1) [x.1] x.2).2)
def CY{s:ByteArray}{it:RS->Int×RS}{x:Int×RS}(h:dO s x.2.p=0\/x.2.bad=true):rowP s it x=x:=if_pos h
def Pe{s:ByteArray}{it:RS->Int×RS}{x:Int×RS}(h:¬(dO s x.2.p=0\/x.2.bad=true)){zs:List Int}{st:RS}(hk:iM s it (dO s x.2.p) (s.size+1) [x.1] x.2=(zs,st)):rowP s it x=((st.out.length:Int),uz ⟨dO s x.2.p,[],⟨#[]⟩,⟨#[]⟩,zs⟩ st):=by
 unfold rowP;rw[if_neg h,hk]
def Si{s:ByteArray}{it:RS->Int×RS}{k:Int}{n:Nat}{zs:List Int}{st:RS}(h:ow s (bu k) st.p st.bad=false):iM s it k n zs st=(zs,st):=by
 have e:mH s (bu k) st=false:=h;cases n with
 | zero=>rfl
 | succ n=>unfold iM;rw[e];rfl
def Pf{s:ByteArray}{it:RS->Int×RS}{k:Int}{n:Nat}{zs:List Int}{st:RS}(h:ow s (bu k) st.p st.bad=true):iM s it k (n+1) zs st=iM s it k n (zs++[(it<|lH (bu k) st).1]) (it<|lH (bu k) st).2:=by
 have e:mH s (bu k) st=true:=h
 conv=>lhs;unfold iM
 rw[e];rfl
def RdC.heap{w w':ag}{R:Nat}{s:ByteArray}{p:Nat}{bad:Bool}{v:Value}(h:RdC w R s p bad v)(hs:cY w w')(hh:w'.heap[R]?=w.heap[R]?):RdC w' R s p bad v :=
 ⟨XJ h.lt hs,(Yf (w:=w) (a:=⟨R,0,none⟩) hh).trans h.c0,(Yf (w:=w) (a:=⟨R,1,none⟩) hh).trans h.c1,(Yf (w:=w) (a:=⟨R,2,none⟩) hh).trans h.c2,(Yf (w:=w) (a:=⟨R,3,none⟩) hh).trans h.c3,dD h.fr hh⟩
theorem RdF.heap{w w':ag}{R:Nat}{s:ByteArray}{st:RS}{base:Nat}{v:Value}{qs:Q08}(h:RdF w R s st base v qs)(hs:w.heap.size<=w'.heap.size)(h1:w'.heap[R]?=w.heap[R]?)(h2:∀g,v.ownBlock=some g->w'.heap[g]?=w.heap[g]?)(h3:∀q∈qs,∀g,si q g->w'.heap[g]?=w.heap[g]?):RdF w' R s st base v qs where
 rd:=h.rd.heap hs h1
 own:=ku h.own h2
 out:=h.out
 zA:=h.zA
 zK:=h.zK
 ok q hq:=tX (h.ok q hq) hs (h.zA q hq) (h.zK q hq)<|h3 q hq
 lie q hq g hg:=by
  obtain⟨a1,a2,a3,a4⟩:=h.lie q hq g hg;exact⟨a1,XJ a2 hs,dD a3<|h3 q hq g hg,a4⟩
 one:=h.one
 two:=h.two
 cA:=h.cA
 cK q hq:=(h.cK q hq).heap (h.zK q hq)<|h3 q hq
structure KLr(w wr:World)(R:Nat)(s:ByteArray)(st:RS)(base:Nat)(v v':Value)(qs ns:Q08)(zs:List Int)(vK:Value):Prop where
 rd:RdF wr R s st base v' (qs++ns)
 went:Went R v w v' wr
 new:∀q∈ns,∀g,si q g->w.heap.size<=g
 own:wr.ownsRow w.heap.size 2 1 vK zs.length (ints zs)
 far:∀g,vK.ownBlock=some g->v'.ownBlock≠some g/\∀q∈qs++ns,¬si q g
 ne:zs≠[]
def KLr.is{w wr w':ag}{R:Nat}{s:ByteArray}{st st':RS}{base:Nat}{v v':Value}{qs ns:Q08}{zs:List Int}{vK:Value}(h:KLr w wr R s st base v v' qs ns zs vK)(hR:cW R w)(hg:wr.grownBy w'<|some R)(hF:RdF w' R s st' base v'<|qs++ns):KLr w w' R s st' base v v' qs ns zs vK :=
 ⟨hF,h.went.trans<|(Onl.of_grown hg).any v',h.new,h.own.kept hg<|.inr (fun e=>by have:=(h.own.lt R e).1;omega),h.far,h.ne⟩
def KLr.more{w wr w':ag}{R:Nat}{s:ByteArray}{st st':RS}{base:Nat}{v v' v2:Value}{qs ns ms:Q08}{zs:List Int}{vK:Value}(h:KLr w wr R s st base v v' qs ns zs vK)(hR:cW R w)(hF:RdF w' R s st' base v2<|(qs++ns)++ms)(hW:Went R v' wr v2 w')(hm:∀q∈ms,∀g,si q g->wr.heap.size<=g):KLr w w' R s st' base v v2 qs (ns++ms) zs vK:=by
 have hl:∀g,vK.ownBlock=some g->w.heap.size<=g/\g<wr.heap.size:=fun g hg=>h.own.lt g hg;refine⟨by rw[<-Ye];exact hF,h.went.trans hW,fun q hq g hg=>?_,ku h.own fun g hg=>hW.onl.block g (hl g hg).2 (by have:=(hl g hg).1;omega) (h.far g hg).1,fun g hg=>⟨hW.apart (hl g hg).2 (h.far g hg).1,fun q hq hi=>?_⟩,h.ne⟩
 ·rcases XV.1 hq with h1|h1
  ·exact h.new q h1 g hg
  exact XR h.went.onl.size<|hm q h1 g hg
 rw[<-Ye]at hq;rcases XV.1 hq with h1|h1
 ·exact(h.far g hg).2 q h1 hi
 have:=hm q h1 g hi;have:=(hl g hg).2;omega
def Sj(zs:List Int)(z:Int):ints (zs++[z])=ints zs++[.int .i64 z]:=by simp[ints]
def KLr.app{w wr w':ag}{R:Nat}{s:ByteArray}{st:RS}{base:Nat}{v v':Value}{qs ns:Q08}{zs:List Int}{vK vN:Value}(h:KLr w wr R s st base v v' qs ns zs vK)(hR:cW R w)(z:Int)(o:Obj)(hown:bj w w' 2 1 vN (zs.length+1)<|ints zs++[.int .i64 z])(hg:(wr.alloc o).grownBy w' vK.ownBlock)(hat:vN.ownBlock=vK.ownBlock\/vN.ownBlock=some (wr.alloc o).heap.size):KLr w w' R s st base v v' qs ns (zs++[z]) vN:=by
 have hg0:=World.grownBy_alloc wr o none;have keep:∀k,k<wr.heap.size->vK.ownBlock≠some k->w'.heap[k]?=wr.heap[k]?:=fun k hk hne=>(hg.block k (XJ hk hg0.size)<|Ne.symm hne).trans<|hg0.block k hk ct;have hl:∀g,vK.ownBlock=some g->w.heap.size<=g/\g<wr.heap.size:=fun g hg=>h.own.lt g hg;have hs:cY wr w':=XR hg0.size hg.size;refine⟨h.rd.heap hs (keep R h.rd.rd.lt (fun e=>by have:=(hl R e).1;omega)) (fun g hg=>keep g (h.rd.own.lt g hg).2 fun e=>(h.far g e).1 hg) (fun q hq g hi=>keep g (h.rd.lie q hq g hi).2.1 fun e=>(h.far g e).2 q hq hi),?_,h.new,by rw[Sj,XT,Yr];exact hown,fun g hgn=>?_,ct⟩
 ·refine⟨⟨hg.os.trans<|hg0.os.trans h.went.onl.os,hg.tape.trans<|hg0.tape.trans h.went.onl.tape,hg.output.trans<|hg0.output.trans h.went.onl.output,XR h.went.onl.size hs,fun k hk h1 h2=>(keep k (XJ hk h.went.onl.size) (fun e=>by have:=(hl k e).1;omega)).trans (h.went.onl.block k hk h1 h2)⟩,h.went.own⟩
 rcases hat with e|e
 ·exact h.far g (by rw[<-e];exact hgn)
 rw[e]at hgn;injection hgn with hgn;have hsz:wr.heap.size<=g:=by rw[<-hgn];exact hg0.size
 exact⟨fun e2=>by have:=(h.rd.own.lt g e2).2;omega,fun q hq hi=>by have:=(h.rd.lie q hq g hi).2.1;omega⟩
def KLr.node{w wr:ag}{R:Nat}{s:ByteArray}{st:RS}{base:Nat}{v v':Value}{qs ns:Q08}{zs:List Int}{vK:Value}(h:KLr w wr R s st base v v' qs ns zs vK)(hb:cV base w)(k:Int):∃ad cap,vK=.slice ad zs.length cap/\NewQ base wr ⟨⟨k,[],⟨#[]⟩,⟨#[]⟩,zs⟩,none,0,ad,cap⟩/\∀g,si ⟨⟨k,[],⟨#[]⟩,⟨#[]⟩,zs⟩,none,0,ad,cap⟩ g->w.heap.size<=g/\v'.ownBlock≠some g/\∀q∈qs++ns,¬si q g:=by
 obtain⟨ad,cap,e,h2,h3,h4⟩:=Xd h.own rfl;have hA:∀g,¬bA ⟨⟨k,[],⟨#[]⟩,⟨#[]⟩,zs⟩,none,0,ad,cap⟩ g:=fun g hg=>hg.1 rfl;have hK:∀g,si ⟨⟨k,[],⟨#[]⟩,⟨#[]⟩,zs⟩,none,0,ad,cap⟩ g->(w.heap.size<=g/\g<wr.heap.size/\nu wr g)/\vK.ownBlock=some g:=by
  rintro g (hg|hg)
  ·exact absurd hg<|hA g
  exact⟨h4 g hg.1 hg.2,by rw[e,show ad=some (am g) from hg.2];rfl⟩
 refine⟨ad,cap,e,⟨fun h=>absurd rfl h,h3,⟨.inl rfl,h2⟩,fun g hg=>⟨XR hb (hK g hg).1.1,(hK g hg).1.2⟩,fun g hg=>absurd hg<|hA g,XP _⟩,fun g hg=>⟨(hK g hg).1.1,h.far g (hK g hg).2⟩⟩
def KLr.kid{w wr:ag}{R:Nat}{s:ByteArray}{st:RS}{base:Nat}{v v':Value}{qs ns:Q08}{zs:List Int}{ad:Q02}{cap:Nat}(h:KLr w wr R s st base v v' qs ns zs<|.slice ad zs.length cap)(hb:cV base w)(k:Int):D7 wr base ⟨⟨k,[],⟨#[]⟩,⟨#[]⟩,zs⟩,none,0,ad,cap⟩:=D7.mono (base:=w.heap.size) (.inr ⟨h.ne,h.own⟩) hb
def Sk(w:ag)(z:Int)(g:Nat)(hg:w.heap.size=g):∀j u,[Value.int .i64 z][j]?=some u->(w.alloc<|.cells #[.int .i64 z] 2).cell? ((⟨g,0,none⟩:Addr).add j)=some u:=by
 intro j u hu;subst hg;rw[show(⟨w.heap.size,0,none⟩:Addr).add j=⟨w.heap.size,0+j,none⟩ by simp[Addr.add];omega,Yg];have:=World.cell?_alloc_mark w #[.int .i64 z] 2 (0,0) j;rw[this];simpa using hu
def UF(R:Nat)(s:dw)(st:RS)(base:Nat)(v:Value)(qs:Q08)(w:ag)(h:RdF w R s st base v qs)(hR:R<base)(hB:cV base w)(hs:s.size<=1000)(x:Int×RS)(hx:x.2.p<=s.size)
  (hfirst:Calls prog 324 #[.pointer (some<|am R)] w<|xk R s base v qs w x)
  (it:RS->Int×RS) (hlen:x.2.out.length+(s.size-x.2.p)<=5001)
  (hit:∀(st':RS) (v':Value) (qs':Q08) (w':World),RdF w' R s st' base v' qs'->base<=w'.heap.size->x.2.p+3<=st'.p->st'.p<=s.size->st'.out.length+(s.size-st'.p)<=5000->Calls prog 324 #[.pointer (some<|am R)] w' (xk R s base v' qs' w'<|it st'))
  (hmono:∀st':RS,x.2.p+3<=st'.p->st'.p<=s.size->st'.p<=(it st').2.p/\(it st').2.p<=s.size/\(it st').2.out.length+st'.p<=st'.out.length+1+(it st').2.p) :
  Calls prog 297 #[.pointer (some<|am R)] w (xk R s base v qs w<|rowP s it x):=by
 obtain⟨iI,hiI,zI0,zI1,zI2⟩:=info_parts (P:=prog) (e:=2) (z:=.int .i64 0) (size:=1) (bytes:=8) cw;have HII:O (prog.info? 2=some iI/\iI.zero=some (.int .i64 0)/\iI.size=1/\iI.bytes=8):=⟨hiI,zI0,zI1,zI2⟩;have HLEN:=ak hlen;have HITM:=ak hit;have HMONO:=ak hmono;clear hiI zI0 zI1 zI2 hlen hit hmono;have H:=ak h;have HX:=ak hx;have HIT:=ak hfirst;clear h hx hfirst;go_enter func297,ntmps297;go_wp2_with fail;refine HIT.mono ?_;rintro e w1 ⟨v1,ns,rfl,hF1,hW1,hns⟩;have Z8:=ak hF1;have HW1:=ak hW1;have HNS:=ak hns;clear hF1 hW1 hns HIT;go_wp2_with fail;go_loopw[4,5] (fun kd k wr=>∃(j nn:Nat),4<=j/\j<=7/\k=.int .i64 j/\kd=.int .i64 (iJ s x.2.p j)/\O (wr=w1.drewN nn)) (fun _ k _=>7-(intOf k).toNat);case atStart=>exact⟨4,0,cq,cq,rfl,by rw[Sd],rfl⟩
 obtain⟨j,nn,hj4,hj7,rfl,rfl,HWR⟩:=hrel;have hrd:RdC wr R s x.2.p x.2.bad v1:=by rw[HWR];exact Z8.rd.drewN nn
 have HRD:=ak hrd;have c0:=HRD.c0;have c1:=HRD.c1;have c2:=HRD.c2;clear hrd;by_cases hlt:j<7
 ·have hle:decide ((j:Int)<=6)=true:=by simp;omega
  have hle2:(j:Int)<=6:=cq;have hwr:IntKind.i64.wrap ((x.2.p:Int)+3)=(x.2.p:Int)+3:=by have:=HX.out;simp[IntKind.wrap,IntKind.bits,IntKind.signed];omega
  by_cases hK:iJ s x.2.p j=0
  ·have hK0:(iJ s x.2.p j==0)=true:=by simp[hK]
   by_cases hfar:x.2.p+3<=s.size
   ·have hd:decide ((x.2.p:Int)+3<=(s.size:Int))=true:=by simp;omega
    have hd2:(x.2.p:Int)+3<=(s.size:Int):=cq;have hnn:(0:Int)<=(x.2.p:Int):=cq;have hp1:(x.2.p:Int)<=(x.2.p:Int)+3:=cq;rw[hK];cases he:(s.extract x.2.p<|x.2.p+3).toList==(iB j).toList
    case' true =>
     have EQ:=ak (Mi hj4 hlt hK<|by rw[CX _ hfar];exact he)
    case' false =>
     have EQ:=ak (FQ hj4 hlt hK<|by rw[CX _ hfar];exact he)
    all_goals
     clear hK hK0;go_wp2_with fail;go_quiet ((go_at_call 294;exact Calls.quiet_of_same<|nN _ _));go_wp2;go_roundw;case rel=>exact⟨j+1,nn+nq,cq,cq,cx,by rw[EQ],by show _=_;rw[HWR,World.drewN_drewN]⟩
     simp[intOf]<;>omega
   have hd:decide ((x.2.p:Int)+3<=(s.size:Int))=false:=by simp;omega
   have EQ:=ak<|FQ hj4 hlt hK<|Pd _ hfar;rw[hK];clear hK hK0;go_wp2_with fail;go_quiet ((go_at_call 294;exact Calls.quiet_of_same<|nN _ _));go_wp2;go_roundw;case rel=>exact⟨j+1,nn+nq,cq,cq,cx,by rw[EQ],by show _=_;rw[HWR,World.drewN_drewN]⟩
   simp[intOf]<;>omega
  have hK0:(iJ s x.2.p j==0)=false:=by simp[hK]
  have EQ:=ak<|JA hj4 hlt hK;clear hK;go_wp2_with fail;go_quiet ((go_at_call 294;exact Calls.quiet_of_same<|nN _ _));go_wp2;go_roundw;case rel=>exact⟨j+1,nn+nq,cq,cq,cx,by rw[EQ],by show _=_;rw[HWR,World.drewN_drewN]⟩
  simp[intOf]<;>omega
 obtain rfl:j=7:=cq;rw[Sg,show((7:Nat):Int)=(7:Int) from rfl];have hle:decide ((7:Int)<=6)=false:=cv;obtain⟨kd,hkd⟩:=eQx<|dO s x.2.p;have HKD:=ak hkd;rw[<-hkd];clear hkd;by_cases hk:kd=0
 ·have hk0:(kd==0)=true:=by simp[hk]
  have EQ:=ak<|CY (it:=it)<|.inl<|HKD.symm.trans hk;subst hk;have HF:=ak (Z8.heap (w':=wr) (by rw[HWR];exact XK _) (by rw[HWR];rfl) (fun g _=>by rw[HWR];rfl) (fun q _ g _=>by rw[HWR];rfl));have HW:O (Went R v w v1 wr):=by rw[HWR];exact⟨⟨HW1.onl.os,HW1.onl.tape,HW1.onl.output,HW1.onl.size,HW1.onl.block⟩,HW1.own⟩
  go_wp2;exact bodyPost_ret (v:=.int .i64 x.1) (by simp[results,Tryz.results297,go_sem]) rfl (by rw[EQ];exact⟨v1,ns,rfl,HF,HW,HNS⟩)
 have hk0:(kd==0)=false:=by simp[hk]
 cases hb:x.2.bad;case true=>
  have EQ:=ak<|CY (it:=it) (x:=x) (s:=s)<|.inr hb;rw[hb]at c2;have HF:=ak (Z8.heap (w':=wr) (by rw[HWR];exact XK _) (by rw[HWR];rfl) (fun g _=>by rw[HWR];rfl) (fun q _ g _=>by rw[HWR];rfl));have HW:O (Went R v w v1 wr):=by rw[HWR];exact⟨⟨HW1.onl.os,HW1.onl.tape,HW1.onl.output,HW1.onl.size,HW1.onl.block⟩,HW1.own⟩
  go_wp2;exact bodyPost_ret (v:=.int .i64 x.1) (by simp[results,Tryz.results297,go_sem]) rfl (by rw[EQ];exact⟨v1,ns,rfl,HF,HW,HNS⟩)
 rw[hb]at c2;have ZQ:O (¬(dO s x.2.p=0\/x.2.bad=true)):=by
  rintro(e|e)
  ·exact hk<|HKD.trans e
  rw[hb]at e;cases e
 have HF:=ak (Z8.heap (w':=wr) (by rw[HWR];exact XK _) (by rw[HWR];rfl) (fun g _=>by rw[HWR];rfl) (fun q _ g _=>by rw[HWR];rfl));have HW:O (Went R v w v1 wr):=by rw[HWR];exact⟨⟨HW1.onl.os,HW1.onl.tape,HW1.onl.output,HW1.onl.size,HW1.onl.block⟩,HW1.own⟩
 have HWB:O (R<w.heap.size):=H.rd.lt;have HKL0:O (KLr w (wr.alloc<|.cells #[.int .i64 x.1] 2) R s x.2 base v v1 qs ns [x.1]<|.slice (some<|aE wr) 1 1):=by
  have hg0:=World.grownBy_alloc wr (.cells #[.int .i64 x.1] 2) none;refine⟨HF.heap hg0.size (hg0.block R HF.rd.lt ct) (fun g hg=>hg0.block g (HF.own.lt g hg).2 ct) (fun q hq g hi=>hg0.block g (HF.lie q hq g hi).2.1 ct),HW.trans<|(Onl.of_below<|(XL _ _).alloc (XK _) _).any v1,HNS,World.ownsRow_lit wr #[.int .i64 x.1] 1 HW.onl.size cy ct,fun g hg=>?_,ct⟩;simp[Value.ownBlock]at hg;subst hg;exact⟨fun e=>by have:=(HF.own.lt _ e).2;omega,fun q hq hi=>by have:=(HF.lie q hq _ hi).2.1;omega⟩
 clear HF HW HRD HWR Z8 HW1 HNS;go_wp2_with fail;clear c0 c1 c2;go_loopw[6] (fun vK wq=>∃(n:Nat) (zs:List Int) (st':RS) (v':Value) (ms:Q08),O (st'.p<=s.size/\x.2.p<=st'.p/\s.size-st'.p<n/\zs.length<=st'.p+1/\st'.out.length+(s.size-st'.p)<=5001)/\O (iM s it kd n zs st'=iM s it kd (s.size+1) [x.1] x.2)/\O (KLr w wq R s st' base v v' qs ms zs vK)) (fun _ wq=>s.size-wat R wq);case atStart=>exact⟨s.size+1,[x.1],x.2,v1,ns,⟨HX,XK _,cq,ct,HLEN⟩,rfl,HKL0⟩
 obtain⟨n,zs,st',v',ms,HB,HQ,ZY⟩:=hrel;clear HKL0;go_wp2_with fail;refine(nN _ _).mono ?_;rintro e w' ⟨rfl,rfl⟩;go_wp2_with fail;refine(nD R s (iB kd) st'.p st'.bad v' _ ZY.rd.rd hs HB.1<|by simp[ny]).mono ?_;rintro e w5 ⟨rfl,hr5,hg5⟩;cases hc:ow s (iB kd) st'.p st'.bad;case false=>
  have HK5:=ak<|ZY.is HWB hg5<|ZY.rd.is_no hR hc hr5 hg5;rw[xO]at hc;have EQ:=ak (Pe (zs:=zs) (st:=st') ZQ<|by rw[<-HKD];exact HQ.symm.trans<|Si hc);obtain⟨ad,cap,rfl,hnq,hin⟩:=HK5.node hB kd;have HNQ:=ak hnq;have HIN:=ak hin;have hql:(qs++ms).length<=100000:=by have h1:=HK5.rd.out;have h2:=congrArg List.length h1;simp only[au,Yp]at h2;have:=HB.2.2.2.2;omega
  clear hr5 hg5 hc hnq hin ZY;go_wp2_with fail;refine(OA R s st' base v' (qs++ms) ⟨⟨kd,[],⟨#[]⟩,⟨#[]⟩,zs⟩,none,0,ad,cap⟩ w5 HK5.rd hR (XR hB HK5.went.onl.size) hql HNQ (HK5.kid hB kd) fun g hg=>(HIN g hg).2).mono ?_;rintro e w6 ⟨v6,rfl,hF6,hW6⟩;have HF6:=ak hF6;have HW6:=ak<|HK5.went.trans hW6;clear hF6 hW6;have HNEW:O (∀q∈ms++[(⟨⟨kd,[],⟨#[]⟩,⟨#[]⟩,zs⟩,none,0,ad,cap⟩:ER)],∀g,si q g->w.heap.size<=g):=by
   intro q hq g hg;rcases XV.1 hq with h1|h1
   ·exact HK5.new q h1 g hg
   rw[XX]at h1;subst h1;exact(HIN g hg).1
  replace HF6:O (RdF w6 R s (uz ⟨kd,[],⟨#[]⟩,⟨#[]⟩,zs⟩ st') base v6<|qs++(ms++[(⟨⟨kd,[],⟨#[]⟩,⟨#[]⟩,zs⟩,none,0,ad,cap⟩:ER)])):=by rw[<-Ye];exact HF6
  go_wp2;exact bodyPost_ret (v:=.int .i64 (st'.out.length:Int)) (by simp[results,Tryz.results297,go_sem]) rfl (by rw[EQ,<-HKD];exact⟨v6,_,rfl,HF6,HW6,HNEW⟩)
 have hk5:=ZY.is HWB hg5<|ZY.rd.is_yes hR hc hr5 hg5;rw[xO]at hk5;have HK5:=ak hk5;have HPS:O (st'.p+3<=s.size):=by have:=Cr hc;rw[ny]at this;exact this
 have HPL:=ak ZY.rd.rd.place;obtain⟨m,hm⟩:∃m,n=m+1:=⟨n-1,by have:=HB.2.2.1;omega⟩;subst hm;rw[xO]at hc;have EQ:=ak<|(Pf (it:=it) (n:=m) (zs:=zs) hc).symm.trans HQ;have eP:(lH (bu kd) st').p=st'.p+3:=by unfold lH;rw[nO]
 have eO:(lH (bu kd) st').out=st'.out:=rfl;have a1:x.2.p+3<=(lH (bu kd) st').p:=by rw[eP];have:=HB.2.1;omega
 have a2:(lH (bu kd) st').p<=s.size:=by rw[eP];exact HPS
 have a3:(lH (bu kd) st').out.length+(s.size-(lH (bu kd) st').p)<=5000:=by rw[eP,eO];have:=HB.2.2.2.2;have:=HPS.out;omega
 have hmo:=HMONO (lH (bu kd) st') a1 a2;rw[eP,eO]at hmo;have hcall:=HITM (lH (bu kd) st') v' (qs++ms) w5 HK5.rd (XR hB HK5.went.onl.size) a1 a2 a3;obtain⟨y,hy⟩:=eQx<|it<|lH (bu kd) st';rw[<-hy]at hmo hcall EQ;have HMO:=ak hmo;have ZW:=ak hcall;clear hr5 hg5 hk5 hc ZY eP eO a1 a2 a3 hmo hcall hy;go_wp2_with fail;refine ZW.mono ?_;rintro e w6 ⟨v6,ns6,rfl,hF6,hW6,hn6⟩;have HK6:=ak<|HK5.more HWB hF6 hW6 hn6;clear hF6 hW6 hn6 ZW HK5;obtain⟨W7,hW7⟩:=eQx<|w6.alloc<|.cells #[.int .i64 y.1] 2;have HO7:O (bj w W7 2 1 u6 zs.length<|ints zs):=by rw[hW7];exact HK6.own.alloc _
 have HN7:O (∀j u,[Value.int .i64 y.1][j]?=some u->W7.cell? ((⟨w6.heap.size,0,none⟩:Addr).add j)=some u):=by rw[hW7];exact Sk w6 _ _ rfl
 have HS7:O (w.heap.size<=W7.heap.size):=by show _<=_;rw[hW7];exact XR HK6.went.onl.size (World.grownBy_alloc w6 _ none).size
 have HW7:=ak hW7;have hzl:zs.length<=1001:=by have:=HB.2.2.2.1;have:=HB.1;omega
 go_wp2_with(at_builtin;rw[<-hW7];clear hW7;refine wpList_append_own_at _ rfl _ _ 41 rfl w.heap.size 2 iI (.int .i64 0) 1 8 underlying41 HII.1 HII.2.1 HII.2.2.1 HII.2.2.2 rfl cv u6 zs.length (ints zs) rfl HO7 ⟨w6.heap.size,0,none⟩ 1 1 [Value.int .i64 y.1] rfl rfl HN7 (by intro u hu;simp at hu;subst hu;rfl) cy cq HS7 ?_);intro vN w8 Zy hgr8 _ hat8;have HK8:O (KLr w w8 R s y.2 base v v6 qs (ms++ns6) (zs++[y.1]) vN):=by
  rw[HW7]at hgr8 hat8;exact HK6.app HWB y.1 _ Zy hgr8 hat8
 have HM:O (s.size-wat R w8<s.size-wat R w'):=by
  show _<_;rw[HK8.rd.rd.place,HPL];have:=HMO.1;have:=HMO.2.1;have:=HPS.out;omega
 clear Zy hgr8 hat8 HO7 HN7 HS7 HW7 HK6;go_wp2;go_roundw;case rel=>exact⟨m,zs++[y.1],y.2,v6,ms++ns6,⟨HMO.2.1,by have:=HMO.1;have:=HB.2.1;omega,by have:=HB.2.2.1;have:=HMO.1;have:=HMO.2.1;omega,by have:=HB.2.2.2.1;have:=HMO.1;rw[XT,Yr];omega,by have:=HB.2.2.2.2;have:=HMO.out;omega⟩,EQ,HK8⟩
 exact HM
def FR{s:ByteArray}{st:RS}(h:st.p<=s.size):st.p<=(bR s st).p/\(bR s st).p<=s.size:=⟨Nat.le_add_right _ _,lI s st.p h⟩
def G7{s:ByteArray}{st:RS}(h:st.p<=s.size):st.p<=(bq s st).p/\(bq s st).p<=s.size/\(bq s st).out=st.out:=by
 unfold bq;cases e:mH s wO st;case false=>exact⟨XK _,h,rfl⟩
 have h1:st.p+1<=s.size:=l5 e;have:=lI s (st.p+1) h1;exact⟨by show st.p<=st.p+1+aB s (st.p+1);omega,this,rfl⟩
def FT{s:ByteArray}:∀(n:Nat) (xs:Q0a) (st:RS),st.p<=s.size->st.p<=(dN s n xs st).2.p/\(dN s n xs st).2.p<=s.size/\(dN s n xs st).2.out=st.out:=by
 intro n
 induction n with
 | zero=>intro xs st h;exact⟨XK _,h,rfl⟩
 | succ n ih =>
  intro xs st h;have h1:=FR h;have h2:=G7 h1.2;have h3:(bq s<|bR s st).out=st.out:=h2.2.2;unfold dN;by_cases hb:st.bad=true
  ·rw[if_pos hb];exact⟨XK _,h,rfl⟩
  rw[if_neg hb];by_cases hc:mH s fQ (bq s<|bR s st)=true
  ·rw[if_pos hc];have h4:(bq s<|bR s st).p+1<=s.size:=l5 hc;exact⟨by show st.p<=(bq s<|bR s st).p+1;omega,h4,h3⟩
  rw[if_neg hc];by_cases hm:mH s nC (bq s<|bR s st)=true
  ·rw[if_pos hm];have h4:(bq s<|bR s st).p+1<=s.size:=l5 hm;obtain⟨a,b,c⟩:=ih (xs++[⟨aF s st.p,Ad s<|bR s st⟩]) (lH nC<|bq s<|bR s st) h4;have a':(bq s<|bR s st).p+1<=_:=a;exact⟨cq,b,c.trans h3⟩
  rw[if_neg hm];obtain⟨a,b,c⟩:=ih (xs++[⟨aF s st.p,Ad s<|bR s st⟩]) (wP<|bq s<|bR s st) h2.2.1;have a':(bq s<|bR s st).p<=_:=a;exact⟨cq,b,c.trans h3⟩
def CZ(s:ByteArray)(k:Nat)(st st':RS):Prop:=st.p<=st'.p/\st'.p<=s.size/\st'.out.length+st.p<=st.out.length+k+st'.p
def Pg{s:ByteArray}{st:RS}(h:mH s gQ st=true):CZ s 1 st (sJ s st).2:=by
 have h1:(lH gQ st).p<=s.size:=l5 h;obtain⟨a,b,c⟩:=FT (s:=s) (s.size+1) [] (lH gQ st) h1;have a':st.p+5<=_:=a;have c':_=st.out:=c;unfold sJ CZ;cases e:dN s (s.size+1) [] (lH gQ st) with
 | mk o st' =>
  rw[e]at a' b c';replace a':st.p+5<=st'.p:=a';replace b:st'.p<=s.size:=b;replace c':st'.out=st.out:=c';cases o with
  | none=>exact⟨by show st.p<=st'.p;omega,b,by show st'.out.length+_<=_+_+st'.p;rw[c'];omega⟩
  | some xs=>exact⟨by show st.p<=st'.p;omega,b,by show(st'.out++_).length+_<=_+_+st'.p;rw[c',XT,Yr];omega⟩
def Sm{s:ByteArray}{st:RS}(h:st.p<=s.size):CZ s 1 st (uz (fK s st)<|judged (fK s st)<|aO s st):=by
 have h1:=FR h;have key:st.p<=(aO s st).p/\(aO s st).p<=s.size/\(aO s st).out=st.out:=by
  unfold aO;cases e:mH s qx (bR s st);case false=>exact⟨h1.1,h1.2,rfl⟩
  have h2:st.p+aB s st.p+2<=s.size:=l5 e;have:=lI s _ h2;exact⟨by show st.p<=st.p+aB s st.p+2+aB s (st.p+aB s st.p+2);omega,this,rfl⟩
 have key2:(judged (fK s st)<|aO s st).p=(aO s st).p/\(judged (fK s st)<|aO s st).out=st.out:=by
  unfold judged;split
  ·exact⟨rfl,key.2.2⟩
  exact⟨rfl,key.2.2⟩
 refine⟨?_,?_,?_⟩
 ·show st.p<=(judged (fK s st)<|aO s st).p;rw[key2.1];exact key.1
 ·show(judged (fK s st)<|aO s st).p<=_;rw[key2.1];exact key.2.1
 show((judged (fK s st)<|aO s st).out++_).length+_<=_+1+(judged (fK s st)<|aO s st).p;rw[key2.1,key2.2,XT,Yr];have:=key.1;omega
def Ph{s:ByteArray}{st:RS}{x:Int×RS}(h:CZ s 1 (lH ko st) x.2):CZ s 1 st (vP s x).2:=by
 obtain⟨a,b,c⟩:=h;replace a:st.p+1<=x.2.p:=a;replace c:x.2.out.length+(st.p+1)<=st.out.length+1+x.2.p:=c;unfold vP;cases e:mH s fQ x.2;case false=>exact⟨by show st.p<=x.2.p;omega,b,by show x.2.out.length+st.p<=_+1+x.2.p;omega⟩
 have h2:x.2.p+1<=s.size:=l5 e;exact⟨by show st.p<=x.2.p+1;omega,h2,by show x.2.out.length+st.p<=_+1+(x.2.p+1);omega⟩
def Pi{s:ByteArray}{it:RS->Int×RS}{k:Int}(hit:∀st,st.p<=s.size->CZ s 1 st (it st).2):∀(n:Nat) (zs:List Int) (st:RS),st.p<=s.size->CZ s 0 st (iM s it k n zs st).2/\(0<n->mH s (bu k) st=true->(iM s it k n zs st).2.out.length+st.p+2<=st.out.length+(iM s it k n zs st).2.p):=by
 intro n
 induction n with
 | zero=>intro zs st h;exact⟨⟨XK _,h,XK _⟩,fun h=>absurd h cq⟩
 | succ n ih =>
  intro zs st h;unfold iM;cases e:mH s (bu k) st;case false=>exact⟨⟨XK _,h,XK _⟩,fun _ h=>by cases h⟩
  have h1:st.p+3<=s.size:=by have:=l5 e;rw[nO]at this;exact this
  have eP:(lH (bu k) st).p=st.p+3:=by unfold lH;rw[nO]
  have eO:(lH (bu k) st).out=st.out:=rfl;obtain⟨a,b,c⟩:=hit (lH (bu k) st) (by rw[eP];exact h1);rw[eP]at a c;rw[eO]at c;obtain⟨⟨a2,b2,c2⟩,-⟩:=ih (zs++[(it<|lH (bu k) st).1]) (it<|lH (bu k) st).2 b;simp only[if_true];exact⟨⟨cq,b2,cq⟩,fun _ _=>cq⟩
def Mj{s:ByteArray}{p:Nat}(h:dO s p≠0):eT s (bu<|dO s p) p=true:=by
 unfold dO at h⊢;cases h1:eT s (bu 4) p;case true=>simpa using h1
 cases h2:eT s (bu 5) p;case true=>simpa[h1] using h2
 cases h3:eT s (bu 6) p;case true=>simpa[h1,h2] using h3
 simp[h1,h2,h3]at h
def UG{s:ByteArray}{it:RS->Int×RS}(hit:∀st,st.p<=s.size->CZ s 1 st (it st).2){st:RS}{x:Int×RS}(h:CZ s 1 st x.2):CZ s 1 st (rowP s it x).2:=by
 unfold rowP;by_cases hc:dO s x.2.p=0\/x.2.bad=true
 ·rw[if_pos hc];exact h
 rw[if_neg hc];have hsg:dO s x.2.p≠0:=fun e=>hc<|.inl e
 have hbd:x.2.bad=false:=by cases e:x.2.bad with
  | false=>rfl
  | true=>exact absurd (.inr e) hc
 have hyes:mH s (bu<|dO s x.2.p) x.2=true:=by unfold mH;rw[hbd,Mj hsg];rfl
 obtain⟨⟨a,b,c⟩,d⟩:=Pi hit (k:=dO s x.2.p) (s.size+1) [x.1] x.2 h.2.1;have d:=d cq hyes;obtain⟨a1,b1,c1⟩:=h;refine⟨?_,b,?_⟩
 ·show st.p<=(iM s it (dO s x.2.p) (s.size+1) [x.1] x.2).2.p;omega
 show((iM s it (dO s x.2.p) (s.size+1) [x.1] x.2).2.out++_).length+_<=_+1+(iM s it (dO s x.2.p) (s.size+1) [x.1] x.2).2.p;rw[XT,Yr];omega
def C8{s:ByteArray}{n:Nat}{st:RS}(h:mH s gQ st=true):BI s (n+1) false st=sJ s st:=by
 unfold BI sJ;rw[if_pos h]
 try(rcases dN s (s.size+1) [] (lH gQ st) with⟨_|_,st'⟩<;>rfl)
def C9{s:ByteArray}{n:Nat}{st:RS}(h:mH s gQ st=false)(h2:mH s ko st=true):BI s (n+1) false st=vP s (BI s n true<|lH ko st):=by
 conv=>lhs;unfold BI
 rw[if_neg (by rw[h];decide),if_pos h2];rfl
def Da{s:ByteArray}{n:Nat}{st:RS}(h:mH s gQ st=false)(h2:mH s ko st=false):BI s (n+1) false st=((st.out.length:Int),uz (fK s st)<|judged (fK s st)<|aO s st):=by
 unfold BI;rw[if_neg (by rw[h];decide),if_neg<|by rw[h2];decide]
def G8{s:ByteArray}{n:Nat}{st:RS}:BI s (n+1) true st=rowP s (BI s n false) (BI s n false st):=by
 conv=>lhs;unfold BI
 rfl
def uj{s:ByteArray}:∀(n:Nat) (b:Bool) (st:RS),st.p<=s.size->CZ s 1 st (BI s n b st).2:=by
 intro n
 induction n with
 | zero=>intro b st h;cases b<;>exact⟨XK _,h,by show st.out.length+st.p<=st.out.length+1+st.p;omega⟩
 | succ n ih =>
  intro b st h;cases b;case true=>rw[G8];exact UG (fun st' h'=>ih false st' h') (ih false st h)
  cases h1:mH s gQ st;case true=>rw[C8 h1];exact Pg h1
  cases h2:mH s ko st;case true=>rw[C9 h1 h2];exact Ph<|ih true (lH ko st)<|l5 h2
  rw[Da h1 h2];exact Sm h
theorem Sn(R:Nat)(s:dw)(base:Nat)(hR:R<base)(hs:s.size<=1000):∀n:Nat,
  (∀ (st:RS) (v:Value) (qs:Q08) (w:World),RdF w R s st base v qs->base<=w.heap.size->st.p<=s.size->st.out.length+(s.size-st.p)<=5000->2*(s.size-st.p)<n ->
   Calls prog 324 #[.pointer (some ⟨R,0,none⟩)] w (xk R s base v qs w<|BI s n false st)) /\
  (∀ (st:RS) (v:Value) (qs:Q08) (w:World),RdF w R s st base v qs->base<=w.heap.size->st.p<=s.size->st.out.length+(s.size-st.p)<=5000->2*(s.size-st.p)+1<n ->
   Calls prog 297 #[.pointer (some ⟨R,0,none⟩)] w (xk R s base v qs w<|BI s n true st)):=by
 intro n
 induction n with
 | zero=>exact⟨fun _ _ _ _ _ _ _ _ h=>absurd h cq,fun _ _ _ _ _ _ _ _ h=>absurd h cq⟩
 | succ n ih =>
  refine⟨fun st v qs w h hB hp hb hn=>?_,fun st v qs w h hB hp hb hn=>?_⟩
  ·have hlen:qs.length=st.out.length:=by rw[<-h.out];simp[au]
   cases h1:mH s gQ st;case true=>rw[C8 h1];exact Pb R s st base v qs w h hR hB hs hp cq h1
   cases h2:mH s ko st;case true=>
    rw[C9 h1 h2];have h3:st.p+1<=s.size:=l5 h2;have h4:(lH ko st).p=st.p+1:=rfl;exact Rj R s st base v qs w h hR hs hp h1 h2 _ (uj n true (lH ko st) h3).2.1 fun w1 hw1 hsz=>ih.2 (lH ko st) v qs w1 hw1 (XR hB hsz) h3 (by rw[h4];show st.out.length+_<=_;omega) (by rw[h4];omega)
   rw[Da h1 h2];exact O6 R s st base v qs w h hR hB hs hp cq h1 h2
  rw[G8];obtain⟨a,b,c⟩:=uj (s:=s) n false st hp;refine UF R s st base v qs w h hR hB hs _ b (ih.1 st v qs w h hB hp hb cq) _ cq (fun st' v' qs' w' h' hB' h1 h2 h3=>ih.1 st' v' qs' w' h' hB' h2 h3 cq) (fun st' h1 h2=>?_);obtain⟨a2,b2,c2⟩:=uj (s:=s) n false st' h2;exact⟨a2,b2,c2⟩
def Xh(s:ByteArray)(a:Al):Prop:=a.t.size<=s.size/\a.s.size<=s.size
def Kb(s:ByteArray)(e:Ex):Prop:=e.allow.length<=s.size+1/\(∀a∈e.allow,Xh s a)/\e.over.size<=s.size/\e.name.size<=s.size/\e.kids.length<=s.size+2
def sM(s:dw)(p:Nat):(aF s p).size<=s.size:=by
 unfold aF;rw[ByteArray.size_extract];omega
def UH(s:dw)(st:RS):(Ad s st).size<=s.size:=by
 unfold Ad;split
 ·exact sM s _
 exact XP _
def Pj{s:ByteArray}:∀(n:Nat) (xs:Q0a) (st:RS) (ys:Q0a),(∀a∈xs,Xh s a)->(dN s n xs st).1=some ys->ys.length<=xs.length+n/\∀a∈ys,Xh s a:=by
 intro n
 induction n with
 | zero=>intro xs st ys _ h;cases h
 | succ n ih =>
  intro xs st ys hx h;have hx2:∀a∈xs++[(⟨aF s st.p,Ad s<|bR s st⟩:Al)],Xh s a:=by
   intro a ha;rcases XV.1 ha with h1|h1
   ·exact hx a h1
   rw[XX]at h1;subst h1;exact⟨sM s _,UH s _⟩
  unfold dN at h;by_cases hb:st.bad=true
  ·rw[if_pos hb]at h;cases h
  rw[if_neg hb]at h;by_cases hc:mH s fQ (bq s<|bR s st)=true
  ·rw[if_pos hc]at h;injection h with h;subst h;exact⟨by rw[XT,Yr];omega,hx2⟩
  rw[if_neg hc]at h;have fin:∀st',(dN s n (xs++[⟨aF s st.p,Ad s<|bR s st⟩]) st').1=some ys->ys.length<=xs.length+(n+1)/\∀a∈ys,Xh s a:=fun st' h'=>by
   obtain⟨a,b⟩:=ih _ st' ys hx2 h';rw[XT,Yr]at a;exact⟨cq,b⟩
  by_cases hm:mH s nC (bq s<|bR s st)=true
  ·rw[if_pos hm]at h;exact fin _ h
  rw[if_neg hm]at h;exact fin _ h
def G9{s:ByteArray}{x:Ex}{st:RS}(h:∀e∈st.out,Kb s e)(hx:Kb s x):∀e∈(uz x st).out,Kb s e:=by
 intro e he;rcases XV.1 he with h1|h1
 ·exact h e h1
 rw[XX]at h1;subst h1;exact hx
def Sq{s:ByteArray}{st:RS}(hp:st.p+5<=s.size)(h:∀e∈st.out,Kb s e):∀e∈(sJ s st).2.out,Kb s e:=by
 have hc:=(FT (s:=s) (s.size+1) [] (lH gQ st) hp).2.2;have hs:=Pj (s:=s) (s.size+1) []<|lH gQ st;unfold sJ;cases e:dN s (s.size+1) [] (lH gQ st) with
 | mk o st' =>
  rw[e]at hc hs;have hc':st'.out=st.out:=hc;cases o with
  | none=>show ∀e∈st'.out,Kb s e;rw[hc'];exact h
  | some xs =>
   obtain⟨a,b⟩:=hs xs (fun a ha=>by cases ha) rfl;exact G9 (by rw[hc'];exact h) ⟨by simpa using a,b,XP _,XP _,XP _⟩
def UI{s:ByteArray}{st:RS}(h:∀e∈st.out,Kb s e):∀e∈(uz (fK s st)<|judged (fK s st)<|aO s st).out,Kb s e:=by
 have h1:(judged (fK s st)<|aO s st).out=st.out:=by
  have h2:(aO s st).out=st.out:=by unfold aO;split<;>rfl
  unfold judged;split<;>exact h2
 refine G9 (by rw[h1];exact h) ?_;unfold fK;split
 ·exact⟨XP _,fun a ha=>(by cases ha),sM s _,sM s _,XP _⟩
 exact⟨XP _,fun a ha=>(by cases ha),XP _,sM s _,XP _⟩
def Sr{s:ByteArray}{it:RS->Int×RS}{k:Int}(hit:∀st,(∀e∈st.out,Kb s e)->st.p<=s.size->(∀e∈(it st).2.out,Kb s e)/\(it st).2.p<=s.size):∀(n:Nat) (zs:List Int) (st:RS),(∀e∈st.out,Kb s e)->st.p<=s.size->(∀e∈(iM s it k n zs st).2.out,Kb s e)/\(iM s it k n zs st).1.length<=zs.length+n:=by
 intro n
 induction n with
 | zero=>intro zs st h _;exact⟨h,XK _⟩
 | succ n ih =>
  intro zs st h hp;unfold iM;cases e:mH s (bu k) st;case false=>exact⟨h,Nat.le_add_right _ _⟩
  have h1:(lH (bu k) st).p<=s.size:=l5 e;obtain⟨a,b⟩:=hit (lH (bu k) st) h h1;obtain⟨a2,b2⟩:=ih (zs++[(it<|lH (bu k) st).1]) _ a b;rw[XT,Yr]at b2;exact⟨a2,by simp only[if_true];omega⟩
def Su{s:ByteArray}:∀(n:Nat) (b:Bool) (st:RS),st.p<=s.size->(∀e∈st.out,Kb s e)->∀e∈(BI s n b st).2.out,Kb s e:=by
 intro n
 induction n with
 | zero=>intro b st _ h;cases b<;>exact h
 | succ n ih =>
  intro b st hp h;cases b;case true=>
   rw[G8];unfold rowP;have hx:=ih false st hp h;have hxp:=(uj (s:=s) n false st hp).2.1;split
   ·exact hx
   obtain⟨a,b⟩:=Sr (s:=s) (it:=BI s n false) (k:=dO s (BI s n false st).2.p) (fun st' h1 h2=>⟨ih false st' h2 h1,(uj (s:=s) n false st' h2).2.1⟩) (s.size+1) [(BI s n false st).1] (BI s n false st).2 hx hxp;exact G9 a ⟨XP _,fun a ha=>(by cases ha),XP _,XP _,XR b<|by simp only[Yr];omega⟩
  cases h1:mH s gQ st;case true=>rw[C8 h1];exact Sq (l5 h1) h
  cases h2:mH s ko st;case true=>
   rw[C9 h1 h2];have hx:=ih true (lH ko st) (l5 h2) h;unfold vP;split
   ·exact hx
   exact hx
  rw[Da h1 h2];exact UI h
def Kb.light{s:ByteArray}{e:Ex}(h:Kb s e)(hs:s.size<=1000):e.light/\e.fits:=by
 obtain⟨h1,h2,h3,h4,h5⟩:=h;refine⟨⟨cq,cq⟩,⟨fun a ha=>⟨?_,?_⟩,?_,?_,?_,?_⟩⟩<;>unfold maxLen
 ·have:=(h2 a ha).1;omega
 ·have:=(h2 a ha).2;omega
 all_goals omega
def lV(s:ByteArray):RS:=(BI s (2*s.size+2) true ⟨0,false,[]⟩).2
def nQ(s:ByteArray):Bool:=decide (s.size<=1000) && !(lV s).bad && !decide ((lV s).p<s.size)&&aS (lV s).out&&((iH (lV s).out).toList==s.toList)
def Xi(s:ByteArray)(w:World)(e:Ending)(w':World):Prop :=
 ae w w'/\((nQ s=false/\e=.returned (.tuple #[.slice none 0 0,.bool false]))\/(nQ s=true/\∃(v:Value) (R:Nat) (qs:Q08),e=.returned (.tuple #[v,.bool true])/\RdF w' R s (lV s) (w.heap.size+1) v qs))
def Sv(w:ag)(s:dw):RdF (w.alloc<|.cells #[.string s,.int .i64 0,.bool false,.slice none 0 0] 372) w.heap.size s ⟨0,false,[]⟩ (w.heap.size+1) (.slice none 0 0) []:=by
 refine⟨⟨ct,ct,ct,ct,ct,fun j=>ct⟩,World.ownsRow_nil _ _ _ _,rfl,?_,?_,?_,?_,?_,?_,?_,?_⟩
 ·intro q hq;cases hq
 ·intro q hq;cases hq
 ·intro q hq;cases hq
 ·intro q hq;cases hq
 ·intro q hq;cases hq
 ·intro x y hx;exact absurd hx ct
 ·intro q hq;cases hq
 intro q hq;cases hq
def RdF.slE{w:ag}{R:Nat}{s:ByteArray}{st:RS}{base:Nat}{v:Value}{qs:Q08}(h:RdF w R s st base v qs):∃ad cap,v=.slice ad qs.length cap/\iE w ad qs:=Vq h.own rfl h.ok
def RdF.later{w w':ag}{R:Nat}{s:ByteArray}{st:RS}{base:Nat}{v:Value}{qs:Q08}(h:RdF w R s st base v qs)(hb:ae w w'):RdF w' R s st base v qs :=
 h.heap hb.size (hb.block R h.rd.lt) (fun g hg=>hb.block g (h.own.lt g hg).2) (fun q hq g hi=>hb.block g (h.lie q hq g hi).2.1)
theorem yV(s:dw)(w:ag):Calls prog 263 #[.string s] w (Xi s w):=by
 by_cases hs:s.size<=1000
 ·have hd0:decide ((1000:Int)<(s.size:Int))=false:=by simp;omega
  have HRD:=ak<|Sv w s;have ZW:=ak ((Sn w.heap.size s (w.heap.size+1) cq hs<|2*s.size+2).2 ⟨0,false,[]⟩ (.slice none 0 0) [] _ HRD.out ct (XP _) (by simp;omega) ct);have HSM:O (∀e∈(lV s).out,e.light/\e.fits):=fun e he=>(Su (s:=s) _ true ⟨0,false,[]⟩ (XP _) (fun e he=>by cases he) e he).light hs;have HFEW:=ak<|uj (s:=s) (2*s.size+2) true ⟨0,false,[]⟩<|XP _;go_enter func263,ntmps263;go_wp2_with fail;refine ZW.out.mono ?_;rintro e w1 ⟨v1,qs,rfl,hF1,hW1,-⟩;replace hF1:RdF w1 w.heap.size s (lV s) (w.heap.size+1) v1 qs:=hF1;have Z8:=ak hF1;have HB1:O (ae w w1):=⟨hW1.onl.os,hW1.onl.tape,hW1.onl.output,by have:=hW1.onl.size;simp at this;omega,fun k hk=>(hW1.onl.block k (by simp;omega) cq (by simp[Value.ownBlock])).trans ((World.grownBy_alloc w _ none).block k hk ct)⟩;obtain⟨ad,cap,rfl,hsl⟩:=hF1.slE;have HSL:=ak hsl;have HOUT:=ak hF1.out;have hql:qs.length<=1048576:=by
   have h2:=congrArg List.length hF1.out;simp only[au,Yp]at h2;have h3:(lV s).out.length+0<=0+1+(lV s).p:=HFEW.out.2.2;have h4:(lV s).p<=s.size:=HFEW.out.2.1;omega
  have HL:O (∀r∈qs,r.e.light):=fun r hr=>(HSM.out r.e<|by rw[<-HOUT.out];exact XW.2 ⟨r,hr,rfl⟩).1;have HF:O (∀r∈qs,r.e.fits):=fun r hr=>(HSM.out r.e<|by rw[<-HOUT.out];exact XW.2 ⟨r,hr,rfl⟩).2;have HRB:O (nQ s=(!(lV s).bad && !decide ((lV s).p<s.size)&&aS (lV s).out&&((iH (lV s).out).toList==s.toList))):=by show _=_;unfold nQ;simp[hs]
  have c1:=hF1.rd.c1;have c2:=hF1.rd.c2;have c3:=hF1.rd.c3;clear hF1 hW1 hsl ZW HRD HSM HFEW;cases hb:(lV s).bad;case true=>
   rw[hb]at c2;have EQ:O (nQ s=false):=by show _=_;rw[HRB.out,hb];rfl
   go_wp2;exact bodyPost_ret (v:=.tuple #[.slice none 0 0,.bool false]) (by simp[results,Tryz.results263,go_sem]) rfl ⟨HB1.out,.inl ⟨EQ.out,rfl⟩⟩
  rw[hb]at c2;by_cases hlt:(lV s).p<s.size
  ·have hd1:decide (((lV s).p:Int)<(s.size:Int))=true:=by simp;omega
   have EQ:O (nQ s=false):=by show _=_;rw[HRB.out,hb,decide_eq_true hlt];rfl
   go_wp2;exact bodyPost_ret (v:=.tuple #[.slice none 0 0,.bool false]) (by simp[results,Tryz.results263,go_sem]) rfl ⟨HB1.out,.inl ⟨EQ.out,rfl⟩⟩
  have hd1:decide (((lV s).p:Int)<(s.size:Int))=false:=by simp;omega
  go_wp2_with fail;refine(mZ ad cap qs w1 hql HL.out HF.out HSL.out).mono ?_;rintro e w2 ⟨rfl,hB2⟩;have HF2:=ak<|Z8.out.later hB2;have HB2:=ak<|HB1.out.trans<|hB2.mono HB1.out.size;have HSL2:=ak<|HSL.out.below hB2;have k3:=HF2.out.rd.c3;rw[HOUT.out];clear hB2;cases he:aS (lV s).out;case false=>
   have EQ:O (nQ s=false):=by show _=_;rw[HRB.out,hb,decide_eq_false hlt,he];rfl
   go_wp2;exact bodyPost_ret (v:=.tuple #[.slice none 0 0,.bool false]) (by simp[results,Tryz.results263,go_sem]) rfl ⟨HB2.out,.inl ⟨EQ.out,rfl⟩⟩
  go_wp2_with fail;refine(pW ad cap qs w2 hql HL.out HF.out HSL2.out).mono ?_;rintro e w3 ⟨rfl,hB3⟩;have HF3:=ak<|HF2.out.later hB3;have HB3:=ak<|HB2.out.trans<|hB3.mono HB2.out.size;have q3:=HF3.out.rd.c3;rw[HOUT.out];clear hB3;cases ht:(iH (lV s).out).toList==s.toList;case false=>
   have ht2:(!(iH (lV s).out).toList==s.toList)=true:=by rw[ht];rfl
   have EQ:O (nQ s=false):=by show _=_;rw[HRB.out,ht,Bool.and_false]
   go_wp2;exact bodyPost_ret (v:=.tuple #[.slice none 0 0,.bool false]) (by simp[results,Tryz.results263,go_sem]) rfl ⟨HB3.out,.inl ⟨EQ.out,rfl⟩⟩
  have ht2:(!(iH (lV s).out).toList==s.toList)=false:=by rw[ht];rfl
  have EQ:O (nQ s=true):=by show _=_;rw[HRB.out,hb,decide_eq_false hlt,he,ht];rfl
  go_wp2;exact bodyPost_ret (v:=.tuple #[.slice ad qs.length cap,.bool true]) (by simp[results,Tryz.results263,go_sem]) rfl ⟨HB3.out,.inr ⟨EQ.out,_,_,qs,rfl,HF3.out⟩⟩
 have hd0:decide ((1000:Int)<(s.size:Int))=true:=by simp;omega
 have EQ:O (nQ s=false):=by show _=_;unfold nQ;rw[decide_eq_false hs];rfl
 go_enter func263,ntmps263;go_wp2;exact bodyPost_ret (v:=.tuple #[.slice none 0 0,.bool false]) (by simp[results,Tryz.results263,go_sem]) rfl ⟨XL _ _,.inl ⟨EQ.out,rfl⟩⟩
section
variable  {α:Type}{T:TypeId}{size:Nat}{cells:α->List Value}{K:World->Nat->α->Prop}{I:α->Nat->Prop}{w w':World}{base:Nat}{v:Value}
def Db{q q':α}{rs:List α}(hI:∀g,I q' g->I q g)(h:∀(x y:Nat) (hx:x<(q::rs).length) (hy:y<(q::rs).length),x≠y->∀g,I (q::rs)[x] g->¬I (q::rs)[y] g):
  ∀(x y:Nat) (hx:x<(q'::rs).length) (hy:y<(q'::rs).length),x≠y->∀g,I (q'::rs)[x] g->¬I (q'::rs)[y] g:=by
 intro x y hx hy hxy g h1 h2;cases x with
 | zero =>
  cases y with
  | zero=>exact hxy rfl
  | succ y=>exact h 0 (y+1) ct (by simpa using hy) cq g (hI g h1) h2
 | succ x =>
  cases y with
  | zero=>exact h (x+1) 0 (by simpa using hx) ct cq g h1 (hI g h2)
  | succ y=>exact h (x+1) (y+1) (by simpa using hx) (by simpa using hy) hxy g h1 h2
def Zi.first(kd:Kid K I){q q':α}{rs:List α}{b n cap j:Nat}{u:Value}(h:Zi T size cells K I w base (.slice (some<|am b) n cap) (q::rs))(hn:n=rs.length+1)
  (hq':∀w,K w base q->K w base q') (hI:∀g,I q' g->I q g) (hset:((q::rs).flatMap cells).set j u=(q'::rs).flatMap cells) :
  Zi T size cells K I (w.setCell (ap b j) u) base (.slice (some<|am b) n cap) (q'::rs):=by
 have own1:w.ownsRow base T size (.slice (some<|am b) n cap) n ((q::rs).flatMap cells):=by have:=h.own;rwa [show(q::rs).length=n by simp[hn]]at this
 obtain⟨own2,hg2⟩:=own1.stored j u;rw[hset]at own2;have hne:∀p∈q::rs,∀g,I p g->g≠b:=fun p hp g hi e=>h.head p hp g hi (by rw[e];rfl);have keep:∀p∈q::rs,K (w.setCell (ap b j) u) base p:=fun p hp=>kd.heap w _ base p (h.kid p hp) hg2.size fun g hi=>Below.heap_setCell w _ u g<|hne p hp g hi;refine⟨by simpa[hn] using own2,fun p hp=>?_,fun p hp g hi=>?_,Db hI h.two⟩
 ·rcases X7.1 hp with rfl|hp
  ·exact hq' _<|keep q ct
  exact keep p (by simp[hp])
 rcases X7.1 hp with rfl|hp
 ·exact h.head q ct g<|hI g hi
 exact h.head p (by simp[hp]) g hi
def Zi.firstIn(kd:Kid K I){q q':α}{rs:List α}(h:Zi T size cells K I w base v (q::rs))(hs:cY w w')(hh:∀g,¬I q g->w'.heap[g]?=w.heap[g]?)(hc:cells q'=cells q)(hk:K w' base q')(hI:∀g,I q' g->I q g):
  Zi T size cells K I w' base v (q'::rs):=by
 refine⟨?_,fun p hp=>?_,fun p hp g hi=>?_,Db hI h.two⟩
 ·have h1:=ku (w':=w') h.own fun g hg=>hh g fun hi=>h.head q ct g hi hg;simpa[List.flatMap_cons,hc] using h1
 ·rcases X7.1 hp with rfl|hp
  ·exact hk
  refine kd.heap w w' base p (h.kid p<|by simp[hp]) hs fun g hi=>hh g fun hq=>?_;obtain⟨i,hi2,rfl⟩:=Yk hp;exact h.two 0 (i+1) ct (by simp;omega) cq g hq hi
 rcases X7.1 hp with rfl|hp
 ·exact h.head q ct g<|hI g hi
 exact h.head p (by simp[hp]) g hi
end
def ER.asK(x:ER)(k:Int):ER:={ x with e:={ x.e with kind:=k } }
def NodM.kind{w:ag}{base b n cap:Nat}{x:ER}{xs:Q08}(k:Int)(h:NodM w base (.slice (some<|am b) n cap) (x::xs))(hn:n=xs.length+1):NodM (w.setCell (am b)<|.int .i64 k) base (.slice (some<|am b) n cap) (x.asK k::xs):=by
 have own1:w.ownsRow base 43 5 (.slice (some<|am b) n cap) n (kH (x::xs)):=by have:=h.own;rwa [show(x::xs).length=n by simp[hn]]at this
 obtain⟨own2,hg2⟩:=own1.stored 0<|.int .i64 k;have hset:(kH (x::xs)).set 0 (.int .i64 k)=kH (x.asK k::xs):=by simp[kH,ER.row,ER.asK]
 rw[hset]at own2;have hb:∀q∈x::xs,∀g,si q g->g≠b:=fun q hq g hg e=>(h.lie q hq g hg).2.2.2 (by rw[e];rfl);have hsame:∀g,g≠b->(w.setCell (am b)<|.int .i64 k).heap[g]?=w.heap[g]?:=fun g hg=>Below.heap_setCell w _ _ g hg;have hall:∀{P:ER->Prop},(∀q∈x::xs,P q)->(P x->P (x.asK k))->∀q∈x.asK k::xs,P q:=fun hP hx q hq=>by
  rcases X7.1 hq with rfl|hq
  ·exact hx<|hP x ct
  exact hP q (by simp[hq])
 refine ⟨by simpa [hn] using own2,hall h.zA id,hall h.zK id,hall (P:=fun q=>q.ok _) (fun q hq=>tX (h.ok q hq) hg2.size (h.zA q hq) (h.zK q hq) fun g hg=>hsame g<|hb q hq g hg) id,hall (P:=fun q=>∀ g,si q g->base<=g/\g<(w.setCell (am b)<|.int .i64 k).heap.size/\nu (w.setCell (am b)<|.int .i64 k) g/\_) (fun q hq g hg=>by
  obtain⟨a1,a2,a3,a4⟩:=h.lie q hq g hg;exact⟨a1,XJ a2 hg2.size,dD a3<|hsame g<|hb q hq g hg,a4⟩) id,hall h.one id,?_,hall h.cA id⟩
 exact Db (I:=si) (q:=x) (q':=x.asK k) (fun g hg=>hg) h.two
def jq.named{w:ag}{base b n cap:Nat}{t:TR}{ts:Q06}(nm:dw)(h:jq w base (.slice (some<|am b) n cap) (t::ts))(hn:n=ts.length+1):jq (w.setCell (am b)<|.string nm) base (.slice (some<|am b) n cap) (({ t with name:=nm }:TR)::ts) :=
 Zi.first nZ h hn (fun w hk=>hk) (fun g hg=>hg) (by simp[TR.cells,TR.vs])
def TR.asK(t:TR)(q:RR)(qs:Q07)(x:ER)(xs:Q08)(k:Int):TR:={ t with rows:={ q with rows:=x.asK k::xs }::qs }
def jq.kind{w:ag}{base b:Nat}{v:Value}{t:TR}{ts:Q06}{q:RR}{qs:Q07}{x:ER}{xs:Q08}(k:Int)(h:jq w base v (t::ts))(ht:t.rows=q::qs)(hq:q.rows=x::xs)(hb:q.ad=some (am b)):
  jq (w.setCell (am b)<|.int .i64 k) base v (t.asK q qs x xs k::ts):=by
 have hkt:=h.kid t ct;have hR:Ed w base t.vs (q::qs):=by have:=hkt;unfold kT at this;rwa [ht]at this
 have hkq:=hR.kid q ct;have hN:NodM w base q.vs (x::xs):=by have:=hkq;unfold kR at this;rwa [hq]at this
 have hvq:q.vs=.slice (some<|am b) (xs.length+1) q.cap:=by unfold RR.vs;rw[hb,hq];rfl
 rw[hvq]at hN;have hN2:=hN.kind k rfl;have hsz:w.heap.size<=(w.setCell (am b)<|.int .i64 k).heap.size:=ct;have hsame:∀g,g≠b->(w.setCell (am b)<|.int .i64 k).heap[g]?=w.heap[g]?:=fun g hg=>Below.heap_setCell w _ _ g hg;have hib:iR q b:=.inl (by rw[hvq];rfl);have hvq2:({ q with rows:=x.asK k::xs }:RR).vs=q.vs:=by unfold RR.vs;rw[hq];rfl
 have hiR:∀g,iR { q with rows:=x.asK k::xs } g->iR q g:=fun g hg=>by
  rcases hg with hg|⟨y,hy,hg⟩
  ·exact .inl (by rw[<-hvq2];exact hg)
  rcases X7.1 hy with rfl|hy
  ·exact .inr ⟨x,by rw[hq];simp,hg⟩
  exact .inr ⟨y,by rw[hq];simp[hy],hg⟩
 have hR2:Ed (w.setCell (am b)<|.int .i64 k) base t.vs ({ q with rows:=x.asK k::xs }::qs):=Zi.firstIn Mc hR hsz (fun g hg=>hsame g fun e=>hg<|by rw[e];exact hib) (by unfold RR.cells;rw[hvq2]) (by show NodM _ _ _ _;rw[hvq2,hvq];exact hN2) hiR;have hvt:(t.asK q qs x xs k).vs=t.vs:=by unfold TR.vs TR.asK;rw[ht];rfl
 have hit:iT t b:=.inr ⟨q,by rw[ht];simp,hib⟩;refine Zi.firstIn nZ h hsz (fun g hg=>hsame g fun e=>hg<|by rw[e];exact hit) (by unfold TR.cells;rw[hvt];rfl) (by show Ed _ _ _ _;rw[hvt];exact hR2) fun g hg=>?_;rcases hg with hg|⟨y,hy,hg⟩
 ·exact .inl (by rw[<-hvt];exact hg)
 rcases X7.1 hy with rfl|hy
 ·exact .inr ⟨q,by rw[ht];simp,hiR g hg⟩
 exact .inr ⟨y,by rw[ht];simp[hy],hg⟩
open Maps
set_option maxRecDepth 8000 in
def Pk(b off cap:Nat)(ts:Q05)(t:Tp)(w:ag)(hlen:ts.length<=1000)(hcap:ts.length<=cap)(hs:l6 w b off ts)(hb:cW b w)(hf:∀x∈ts,x.fits)(ht:t.fits):
  Calls prog 132 #[.slice (some<|ap b off) ts.length cap,.agg<|cg t] w fun e w'=>∃v:Value,e=.returned v/\bj w w' 29 6 v (kG ts t).length (bZ<|kG ts t)/\ae w w':=by
 obtain⟨iT,hiT,zT0,zT1,zT2⟩:=info_parts (P:=prog) (e:=29) (z:=.agg aq) (size:=6) (bytes:=96) cw;have HIT:O (prog.info? 29=some iT/\iT.zero=some (.agg aq)/\iT.size=6/\iT.bytes=96):=⟨hiT,zT0,zT1,zT2⟩;have HS:=aK hs;have HF:=aK hf;have HT:O t.fits:=ht;clear hs hf ht hiT zT0 zT1 zT2;obtain⟨W0,hW0⟩:=eQx<|w.alloc<|.cells (cg t) 29;have HB0:=lX hW0;have HX0:O (yg W0 w.heap.size t):=by show yg _ _ _;rw[hW0];exact Gy w t _
 go_enter func132,ntmps132;go_wp2;rw[<-hW0];clear hW0;go_loopw[5] (fun i wr=>∃k:Nat,k<=ts.length/\i=.int .i64 k/\O (∀i (h:i<ts.length),i<k->ts[i].ahead t=true)/\O (ae w wr)/\O (yg wr w.heap.size t)) (fun i _=>ts.length-(intOf i).toNat);case atStart=>exact⟨0,XP _,rfl,fun i h hi=>cq,HB0,HX0⟩
 clear HX0 HB0;obtain⟨k,hk,rfl,HU,HB,HX⟩:=hrel;have hk1:=bG k;by_cases hlt:k<ts.length
 ·have hk2:(k:Int)<(ts.length:Int):=cq;obtain⟨t0,t1,t2,t3,t4,t5⟩:=(HS.below HB hb) k hlt;obtain⟨x0,x1,x2,x3,x4,x5,xl⟩:=HX.out;have hbr:cW b wr:=XJ hb HB.size;obtain⟨f0,f1,f2,f3,f4,f5⟩:=HF _<|XI hlt;obtain⟨e0,e1,e2,e3,e4,e5⟩:=HT.out;have HA:O (∀W,Calls prog 199 #[.agg (cg ts[k]),.agg<|cg t] W<|a8 W<|.bool<|ts[k].ahead t):=fun W=>oM _ _ _ _ _ _ _ _ _ _ _ _ W f0 f1 f2 f3 f4 f5 e0 e1 e2 e3 e4 e5;clear f0 f1 f2 f3 f4 f5 e0 e1 e2 e3 e4 e5;have H0:wr.drew.cell? (ap b<|off+k*6)=some (.string ts[k].a)/\wr.drew.cell? (ap b<|off+k*6+1)=some (.string ts[k].b)/\wr.drew.cell? (ap b<|off+k*6+2)=some (.string ts[k].r)/\wr.drew.cell? (ap b<|off+k*6+3)=some (.string ts[k].c)/\wr.drew.cell? (ap b<|off+k*6+4)=some (.string ts[k].d)/\wr.drew.cell? (ap b<|off+k*6+5)=some (.string ts[k].s)/\wr.drew.cell? (aE w)=some (.string t.a)/\wr.drew.cell? (a6 w 1)=some (.string t.b)/\wr.drew.cell? (a6 w 2)=some (.string t.r)/\wr.drew.cell? (a6 w 3)=some (.string t.c)/\wr.drew.cell? (a6 w 4)=some (.string t.d)/\wr.drew.cell? (a6 w 5)=some (.string t.s)/\b<wr.drew.heap.size/\w.heap.size<wr.drew.heap.size/\ae w wr.drew:=⟨t0,t1,t2,t3,t4,t5,x0,x1,x2,x3,x4,x5,hbr,xl,HB.drew⟩;clear t0 t1 t2 t3 t4 t5 x0 x1 x2 x3 x4 x5;generalize hq:ts[k].ahead t=q at HA;cases q;case true=>
   have HQ:O (ts[k].ahead t=true):=hq;clear hq;go_wp2_with fail
   go_region_held3 (fun w'=>w'.cell? (ap b<|off+k*6)=some (.string ts[k].a)/\w'.cell? (ap b<|off+k*6+1)=some (.string ts[k].b)/\w'.cell? (ap b<|off+k*6+2)=some (.string ts[k].r)/\w'.cell? (ap b<|off+k*6+3)=some (.string ts[k].c)/\w'.cell? (ap b<|off+k*6+4)=some (.string ts[k].d)/\w'.cell? (ap b<|off+k*6+5)=some (.string ts[k].s)/\w'.cell? (aE w)=some (.string t.a)/\w'.cell? (a6 w 1)=some (.string t.b)/\w'.cell? (a6 w 2)=some (.string t.r)/\w'.cell? (a6 w 3)=some (.string t.c)/\w'.cell? (a6 w 4)=some (.string t.d)/\w'.cell? (a6 w 5)=some (.string t.s)/\b<w'.heap.size/\w.heap.size<w'.heap.size/\ae w w')
    (first|assumption|exact Ni cE hbx|exact H0)
    (first|(go_at_call 199;refine(HA _).mono ?_;rintro e w' ⟨rfl,hbx⟩))
   rename_i hH;obtain⟨-,-,-,-,-,-,x0,x1,x2,x3,x4,x5,-,xl,gB⟩:=hH;have HB2:=dU gB;have HX2:=dU<|QV x0 x1 x2 x3 x4 x5 xl;have HU2:O (∀i (h:i<ts.length),i<k+1->ts[i].ahead t=true):=fun i h hi=>by
    by_cases e:i=k
    ·subst e;exact HQ
    exact HU i h cq
   clear x0 x1 x2 x3 x4 x5 gB hbx H0 HA HQ HU HB HX;go_wp2;go_roundw;case rel=>exact⟨k+1,cq,cx,HU2,HB2,HX2⟩
   simp[intOf]<;>omega
  have HQ:O (ts[k].ahead t=false):=hq;clear hq;go_wp2_with fail
  go_region_held3 (fun w'=>w'.cell? (ap b<|off+k*6)=some (.string ts[k].a)/\w'.cell? (ap b<|off+k*6+1)=some (.string ts[k].b)/\w'.cell? (ap b<|off+k*6+2)=some (.string ts[k].r)/\w'.cell? (ap b<|off+k*6+3)=some (.string ts[k].c)/\w'.cell? (ap b<|off+k*6+4)=some (.string ts[k].d)/\w'.cell? (ap b<|off+k*6+5)=some (.string ts[k].s)/\w'.cell? (aE w)=some (.string t.a)/\w'.cell? (a6 w 1)=some (.string t.b)/\w'.cell? (a6 w 2)=some (.string t.r)/\w'.cell? (a6 w 3)=some (.string t.c)/\w'.cell? (a6 w 4)=some (.string t.d)/\w'.cell? (a6 w 5)=some (.string t.s)/\b<w'.heap.size/\w.heap.size<w'.heap.size/\ae w w')
   (first|assumption|exact Ni cE hbx|exact H0)
   (first|(go_at_call 199;refine(HA _).mono ?_;rintro e w' ⟨rfl,hbx⟩))
  rename_i hH;obtain⟨-,-,-,-,-,-,x0,x1,x2,x3,x4,x5,-,xl,gB⟩:=hH;have HP:=dU<|Nh ts t k hk HU fun _=>HQ;have Y9:=dU gB;have HXW:=dU<|QV x0 x1 x2 x3 x4 x5 xl;clear hbx H0 HA HQ HU HB HX gB x0 x1 x2 x3 x4 x5;obtain⟨W1,hW1⟩:=eQx<|w'.alloc<|.cells #[] 29;have Zz:O (bj w' W1 29 6 (.slice (some<|aE w') 0 0) 0 []):=by
   show World.ownsRow _ _ _ _ _ _ _;rw[hW1];exact World.ownsRow_lit w' #[] 0 (XK _) cy ct
  have HBW1:=lX hW1;have HR1:O (l6 W1 b off ts):=(HS.below Y9 hb).below HBW1<|XJ hb Y9.size;have HX1:=aK<|HXW.below HBW1;have HB1:O (ae w W1):=Y9.trans<|HBW1.mono Y9.size;have hWs:cX w w':=HXW.2.2.2.2.2.2;have hb1:cW b W1:=XJ hb HB1.size;have hkc:k<=cap:=cq;have hz1:cY w' W1:=HBW1.size;clear Y9 HXW HBW1;go_wp2_with(at_builtin;rw[<-hW1];clear hW1;refine wpList_append_own_at _ rfl _ _ 25 rfl w'.heap.size 29 iT (.agg aq) 6 96 underlying25 HIT.1 HIT.2.1 HIT.2.2.1 HIT.2.2.2 rfl cv _ 0 [] rfl Zz ⟨b,off,none⟩ k cap (bZ<|ts.take k) rfl (by rw[jP,Yc];congr 1;omega) (vJ<|E5 HR1 k) (tQ _) cy cq hz1 ?_);intro v2 w2 hown2 ZP _ _;have YZ:O (bj w' w2 29 6 v2 k<|bZ<|ts.take k):=by
   show World.ownsRow _ _ _ _ _ _ _
   first|exact hown2|(rw[Yg,YI]at hown2;exact hown2)
  have hne:some w.heap.size≠Value.ownBlock (.slice (some<|aE w') 0 0):=fun e=>by simp[Value.ownBlock]at e;omega
  have hnb:some b≠Value.ownBlock (.slice (some<|aE w') 0 0):=fun e=>by simp[Value.ownBlock]at e;omega
  have HX2:O (yg w2 w.heap.size t):=HX1.grown ZP hne;have HR2:O (l6 w2 b off ts):=qB HR1 ZP hb1 hnb;have HB2:O (ae w w2):=HB1.grown ZP HB1.size (fun g hg=>by simp[Value.ownBlock]at hg;omega);have hz2:cY w' w2:=XR hz1 ZP.size;clear hown2 ZP Zz HX1 HR1 HB1 hne hnb;obtain⟨x0,x1,x2,x3,x4,x5,xl2⟩:=HX2.out;obtain⟨W3,hW3⟩:=eQx<|w2.alloc<|.cells (cg t) 29;have Zq:O (bj w' W3 29 6 v2 k<|bZ<|ts.take k):=by show World.ownsRow _ _ _ _ _ _ _;rw[hW3];exact YZ.alloc _
  have HNW:O (∀j u,t.row[j]?=some u->W3.cell? ((⟨w2.heap.size,0,none⟩:Addr).add j)=some u):=by show ∀j u,_;rw[hW3];exact EZ w2 t
  have HB23:=lX hW3;have HB3:O (ae w W3):=HB2.trans<|HB23.mono HB2.size;have HR3:O (l6 W3 b off ts):=HR2.below HB23<|XJ hb HB2.size;have hz3:cY w' W3:=XR hz2 HB23.size;have hb3:cW b W3:=XJ hb HB3.size;clear HB23 HB2 HR2 HX2 hb1 hz1 hz2;go_wp2_with(at_builtin;rw[<-hW3];clear hW3;refine wpList_append_own_at _ rfl _ _ 25 rfl w'.heap.size 29 iT (.agg aq) 6 96 underlying25 HIT.1 HIT.2.1 HIT.2.2.1 HIT.2.2.2 rfl cv v2 k (bZ<|ts.take k) rfl Zq ⟨w2.heap.size,0,none⟩ 1 1 t.row rfl rfl HNW (Ca _) cy cq hz3 ?_);intro v4 w4 ZJ hgr4 _ _;have hnb:some b≠v2.ownBlock:=fun e=>by have:=(YZ.lt b e.symm).1;omega
  have HR4:O (l6 w4 b off ts):=qB HR3 hgr4 hb3 hnb;have Z7:O (ae w w4):=HB3.grown hgr4 HB3.size (fun g hg=>by have:=(YZ.lt g hg).1;omega);have Zg:=aK ZJ;have hz4:cY w' w4:=XR hz3 hgr4.size;clear ZJ hgr4 Zq YZ HNW HB3 HR3 hb3 hz3 hnb x0 x1 x2 x3 x4 x5 xl2;have hdl:(ts.drop k).length=ts.length-k:=YD;clear hdl;go_wp2_with(at_builtin;refine wpList_append_own_at _ rfl _ _ 25 rfl w'.heap.size 29 iT (.agg aq) 6 96 underlying25 HIT.1 HIT.2.1 HIT.2.2.1 HIT.2.2.2 rfl cv v4 (k+1) (bZ (ts.take k)++t.row) rfl Zg ⟨b,off+k*6,none⟩ (ts.length-k) (cap-k) (bZ<|ts.drop k) rfl (by rw[jP,YD]) (vJ<|Oi HR4 k) (tQ _) cy cq hz4 ?_);intro v5 w5 hown5 hgr5 _ _;have HB5:O (ae w w5):=Z7.grown hgr5 Z7.size (fun g hg=>by have:=(Zg.lt g hg).1;omega);have hlp:(kG ts t).length=k+1+(ts.length-k):=by rw[HP];simp;omega
  have hown6:bj w' w5 29 6 v5 (kG ts t).length (bZ<|kG ts t):=by
   rw[hlp,HP,show ts.take k++t::ts.drop k=(ts.take k++[t])++ts.drop k by simp,wY,BZ];first|exact hown5|(rw[Ye];exact hown5)
  have ZI:=dU<|bW hown6<|YV hWs;clear hown5 hown6 hgr5 hlp;go_wp2;go_ret;exact⟨v5,rfl,ZI,HB5⟩
 have hd:decide ((k:Int)<(ts.length:Int))=false:=by simp;omega
 go_wp2_with fail;go_quiet (fail);have HP:=dU<|Nh ts t k hk HU fun h=>absurd h hlt;obtain⟨W9,hW9⟩:∃W9,wr.drewN nq=W9:=⟨_,rfl⟩;have Y9:O (ae w W9):=by show Below _ _ _;rw[<-hW9];exact⟨HB.os,HB.tape,HB.output,HB.size,HB.block⟩
 have HXW:O (yg W9 w.heap.size t):=by show yg _ _ _;rw[<-hW9];exact HX
 rw[hW9];clear hW9 HU HB HX hd;obtain⟨W1,hW1⟩:=eQx<|W9.alloc<|.cells #[] 29;have Zz:O (bj W9 W1 29 6 (.slice (some<|aE W9) 0 0) 0 []):=by
  show World.ownsRow _ _ _ _ _ _ _;rw[hW1];exact World.ownsRow_lit W9 #[] 0 (XK _) cy ct
 have HBW1:=lX hW1;have HR1:O (l6 W1 b off ts):=(HS.below Y9 hb).below HBW1<|XJ hb Y9.size;have HX1:=aK<|HXW.below HBW1;have HB1:O (ae w W1):=Y9.trans<|HBW1.mono Y9.size;have hWs:cX w W9:=HXW.2.2.2.2.2.2;have hb1:cW b W1:=XJ hb HB1.size;have hkc:k<=cap:=cq;have hz1:cY W9 W1:=HBW1.size;clear Y9 HXW HBW1;go_wp2_with(at_builtin;rw[<-hW1];clear hW1;refine wpList_append_own_at _ rfl _ _ 25 rfl W9.heap.size 29 iT (.agg aq) 6 96 underlying25 HIT.1 HIT.2.1 HIT.2.2.1 HIT.2.2.2 rfl cv _ 0 [] rfl Zz ⟨b,off,none⟩ k cap (bZ<|ts.take k) rfl (by rw[jP,Yc];congr 1;omega) (vJ<|E5 HR1 k) (tQ _) cy cq hz1 ?_);intro v2 w2 hown2 ZP _ _;have YZ:O (bj W9 w2 29 6 v2 k<|bZ<|ts.take k):=by
  show World.ownsRow _ _ _ _ _ _ _
  first|exact hown2|(rw[Yg,YI]at hown2;exact hown2)
 have hne:some w.heap.size≠Value.ownBlock (.slice (some<|aE W9) 0 0):=fun e=>by simp[Value.ownBlock]at e;omega
 have hnb:some b≠Value.ownBlock (.slice (some<|aE W9) 0 0):=fun e=>by simp[Value.ownBlock]at e;omega
 have HX2:O (yg w2 w.heap.size t):=HX1.grown ZP hne;have HR2:O (l6 w2 b off ts):=qB HR1 ZP hb1 hnb;have HB2:O (ae w w2):=HB1.grown ZP HB1.size (fun g hg=>by simp[Value.ownBlock]at hg;omega);have hz2:cY W9 w2:=XR hz1 ZP.size;clear hown2 ZP Zz HX1 HR1 HB1 hne hnb;obtain⟨x0,x1,x2,x3,x4,x5,xl2⟩:=HX2.out;obtain⟨W3,hW3⟩:=eQx<|w2.alloc<|.cells (cg t) 29;have Zq:O (bj W9 W3 29 6 v2 k<|bZ<|ts.take k):=by show World.ownsRow _ _ _ _ _ _ _;rw[hW3];exact YZ.alloc _
 have HNW:O (∀j u,t.row[j]?=some u->W3.cell? ((⟨w2.heap.size,0,none⟩:Addr).add j)=some u):=by show ∀j u,_;rw[hW3];exact EZ w2 t
 have HB23:=lX hW3;have HB3:O (ae w W3):=HB2.trans<|HB23.mono HB2.size;have HR3:O (l6 W3 b off ts):=HR2.below HB23<|XJ hb HB2.size;have hz3:cY W9 W3:=XR hz2 HB23.size;have hb3:cW b W3:=XJ hb HB3.size;clear HB23 HB2 HR2 HX2 hb1 hz1 hz2;go_wp2_with(at_builtin;rw[<-hW3];clear hW3;refine wpList_append_own_at _ rfl _ _ 25 rfl W9.heap.size 29 iT (.agg aq) 6 96 underlying25 HIT.1 HIT.2.1 HIT.2.2.1 HIT.2.2.2 rfl cv v2 k (bZ<|ts.take k) rfl Zq ⟨w2.heap.size,0,none⟩ 1 1 t.row rfl rfl HNW (Ca _) cy cq hz3 ?_);intro v4 w4 ZJ hgr4 _ _;have hnb:some b≠v2.ownBlock:=fun e=>by have:=(YZ.lt b e.symm).1;omega
 have HR4:O (l6 w4 b off ts):=qB HR3 hgr4 hb3 hnb;have Z7:O (ae w w4):=HB3.grown hgr4 HB3.size (fun g hg=>by have:=(YZ.lt g hg).1;omega);have Zg:=aK ZJ;have hz4:cY W9 w4:=XR hz3 hgr4.size;clear ZJ hgr4 Zq YZ HNW HB3 HR3 hb3 hz3 hnb x0 x1 x2 x3 x4 x5 xl2;have hdl:(ts.drop k).length=ts.length-k:=YD;clear hdl;by_cases hce:cap=k
 all_goals
  go_wp2_with(at_builtin;refine wpList_append_own_at _ rfl _ _ 25 rfl W9.heap.size 29 iT (.agg aq) 6 96 underlying25 HIT.1 HIT.2.1 HIT.2.2.1 HIT.2.2.2 rfl cv v4 (k+1) (bZ (ts.take k)++t.row) rfl Zg _ (ts.length-k) _ (bZ<|ts.drop k) rfl (by rw[jP,YD]) (Oj cq _ _) (tQ _) cy cq hz4 ?_);intro v5 w5 hown5 hgr5 _ _;have HB5:O (ae w w5):=Z7.grown hgr5 Z7.size (fun g hg=>by have:=(Zg.lt g hg).1;omega);have hlp:(kG ts t).length=k+1+(ts.length-k):=by rw[HP];simp;omega
  have hown6:bj W9 w5 29 6 v5 (kG ts t).length (bZ<|kG ts t):=by
   rw[hlp,HP,show ts.take k++t::ts.drop k=(ts.take k++[t])++ts.drop k by simp,wY,BZ];first|exact hown5|(rw[Ye];exact hown5)
  have ZI:=dU<|bW hown6<|YV hWs;clear hown5 hown6 hgr5 hlp;go_wp2;go_ret;exact⟨v5,rfl,ZI,HB5⟩
set_option maxRecDepth 8000 in
def Pm(ad:Q02)(cap:Nat)(ts:Q05)(t:Tp)(w:ag)(hlen:a7 ts)(hs:Sl w ad ts):
  Calls prog 131 #[.slice ad ts.length cap,.agg<|cg t] w (a8 w<|.bool<|yD ts t):=by
 have HS:=aK hs;clear hs;obtain⟨W0,hW0⟩:=eQx<|w.alloc<|.cells (cg t) 29;have HB0:=lX hW0;have HX0:O (W0.cell? (aE w)=some (.string t.a)/\W0.cell? (a6 w 1)=some (.string t.b)/\W0.cell? (a6 w 2)=some (.string t.r)/\W0.cell? (a6 w 3)=some (.string t.c)/\W0.cell? (a6 w 4)=some (.string t.d)/\W0.cell? (a6 w 5)=some (.string t.s)/\w.heap.size<W0.heap.size):=by show _/\_;rw[hW0];refine⟨?_,?_,?_,?_,?_,?_,?_⟩<;>simp
 go_enter func131,ntmps131;go_wp2;rw[<-hW0];clear hW0;go_loopw[5] (fun i wr=>∃k:Nat,k<=ts.length/\i=.int .i64 k/\O (yD (ts.drop k) t=yD ts t)/\O (ae W0 wr)) (fun i _=>ts.length-(intOf i).toNat);case atStart=>exact⟨0,XP _,rfl,rfl,XL _ _⟩
 obtain⟨k,hk,rfl,HP,HB⟩:=hrel;have Y9:O (ae w wr):=HB0.trans<|HB.mono HB0.size;by_cases hlt:k<ts.length
 ·rcases HS.out.below Y9.out with hnil|⟨b,off,rfl,hb,hr⟩
  ·rw[hnil]at hlt;simp at hlt
  obtain⟨t0,t1,t2,t3,t4,t5⟩:=hr k hlt;have x0:=mK HB HX0.2.2.2.2.2.2 HX0.1;have x1:=mK HB HX0.2.2.2.2.2.2 HX0.2.1;have x2:=mK HB HX0.2.2.2.2.2.2 HX0.2.2.1;have x3:=mK HB HX0.2.2.2.2.2.2 HX0.2.2.2.1;have x4:=mK HB HX0.2.2.2.2.2.2 HX0.2.2.2.2.1;have x5:=mK HB HX0.2.2.2.2.2.2 HX0.2.2.2.2.2.1;have hk1:=bG k;have hk2:(k:Int)<(ts.length:Int):=cq;have HD:O (yD ts t=(Oe ts[k] t || yD (ts.drop<|k+1) t)):=by show _=_;rw[<-HP];exact Og hlt
  clear hr;cases hq:Oe ts[k] t;case true=>
   have heq:=QS ts[k] t hq;have HN:O (yD ts t=true):=by show _=_;rw[HD,hq];rfl
   clear hq;go_wp2_with fail;go_region_held3 (fun w'=>w'.cell? (ap b<|off+k*6)=some (.string ts[k].a)/\w'.cell? (ap b<|off+k*6+1)=some (.string ts[k].b)/\w'.cell? (ap b<|off+k*6+2)=some (.string ts[k].r)/\w'.cell? (ap b<|off+k*6+3)=some (.string ts[k].c)/\w'.cell? (ap b<|off+k*6+4)=some (.string ts[k].d)/\w'.cell? (ap b<|off+k*6+5)=some (.string ts[k].s)/\w'.cell? (aE w)=some (.string t.a)/\w'.cell? (a6 w 1)=some (.string t.b)/\w'.cell? (a6 w 2)=some (.string t.r)/\w'.cell? (a6 w 3)=some (.string t.c)/\w'.cell? (a6 w 4)=some (.string t.d)/\w'.cell? (a6 w 5)=some (.string t.s)/\ae wr w') (first|assumption|exact⟨t0,t1,t2,t3,t4,t5,x0,x1,x2,x3,x4,x5,(XL _ _).drew⟩) (fail);rename_i hH;have HG:O (ae wr _):=hH.2.2.2.2.2.2.2.2.2.2.2.2;clear hH t0 t1 t2 t3 t4 t5 x0 x1 x2 x3 x4 x5 heq;go_wp2;go_ret;exact⟨by rw[HN];rfl,Y9.trans<|HG.mono Y9.size⟩
  have heq:=QS ts[k] t hq;have Zc:O (yD (ts.drop<|k+1) t=yD ts t):=by show _=_;rw[HD,hq];rfl
  clear hq;go_wp2_with fail;go_region_held3 (fun w'=>w'.cell? (ap b<|off+k*6)=some (.string ts[k].a)/\w'.cell? (ap b<|off+k*6+1)=some (.string ts[k].b)/\w'.cell? (ap b<|off+k*6+2)=some (.string ts[k].r)/\w'.cell? (ap b<|off+k*6+3)=some (.string ts[k].c)/\w'.cell? (ap b<|off+k*6+4)=some (.string ts[k].d)/\w'.cell? (ap b<|off+k*6+5)=some (.string ts[k].s)/\w'.cell? (aE w)=some (.string t.a)/\w'.cell? (a6 w 1)=some (.string t.b)/\w'.cell? (a6 w 2)=some (.string t.r)/\w'.cell? (a6 w 3)=some (.string t.c)/\w'.cell? (a6 w 4)=some (.string t.d)/\w'.cell? (a6 w 5)=some (.string t.s)/\ae wr w') (first|assumption|exact⟨t0,t1,t2,t3,t4,t5,x0,x1,x2,x3,x4,x5,(XL _ _).drew⟩) (fail);rename_i hH;have HG:O (ae W0 _):=HB.trans<|hH.2.2.2.2.2.2.2.2.2.2.2.2.mono HB.size;clear hH t0 t1 t2 t3 t4 t5 x0 x1 x2 x3 x4 x5 heq;go_wp2;go_roundw;case rel=>exact⟨k+1,cq,cx,Zc,HG⟩
  simp[intOf]<;>omega
 have HN:O (yD ts t=false):=by show _=_;rw[<-HP,Ya cq];rfl
 go_wp2;go_ret;exact⟨by rw[HN];rfl,Y9⟩
def uD(ts:Q05)(t:Tp):Bool:=dW ts&&t.ok && !yD ts t && !(ts.length==40)
def Ee(ts:Q05)(t:Tp):List Tp:=if uD ts t then kG ts t else []
def Dc{ts:Q05}{t:Tp}(h:uD ts t=true):Ee ts t=kG ts t:=by simp[Ee,h]
def uk{ts:Q05}{t:Tp}(h:uD ts t=false):Ee ts t=[]:=by simp[Ee,h]
def Wh(w w':World)(e:Ending)(L:Q05)(f:Bool):Prop:=∃v:Value,e=.returned (.tuple #[v,.bool f])/\w'.ownsRow w.heap.size 29 6 v L.length (bZ L)/\ae w w'
def uO(b off cap:Nat)(ts:Q05)(t:Tp)(w:ag)(hlen:a7 ts)(hcap:ts.length<=cap)(hs:l6 w b off ts)(hb:cW b w)(hf:∀x∈ts,x.fits)(ht:t.fits):
  Calls prog 183 #[.slice (some<|ap b off) ts.length cap,.agg<|cg t] w fun e w'=>Wh w w' e (Ee ts t) (uD ts t):=by
 have HF:=dU hf;have Zd:=dU ht;obtain⟨W0,hW0⟩:=eQx<|w.alloc<|.cells (cg t) 29;have HB0:=lX hW0;have HX0:O (yg W0 w.heap.size t):=by show yg _ _ _;rw[hW0];exact Gy w t _
 have HS:=dU hs;have SL:O (∀W:World,ae w W->Sl W (some<|ap b off) ts):=fun W hB=>.inr ⟨b,off,rfl,XJ hb hB.size,HS.below hB hb⟩;have ZA:ts.length<=maxLen:=cy
 have HT:=dU<|pG (some<|ap b off) cap ts W0 ZA (SL _ HB0) hf;clear hs hf ZA ht;go_enter func183,ntmps183;go_wp2_with fail;rw[<-hW0];clear hW0;refine HT.mono ?_;rintro e w1 ⟨he,hb1⟩;have HB1:=jr HB0 hb1;have HX1:=aK<|HX0.below hb1;clear HT HX0 HB0 hb1;cases h1:dW ts;case false=>
  rw[h1]at he;subst he;have HR:O (uD ts t=false):=by show _=_;simp[uD,h1]
  have HL:O (Ee ts t=[]):=uk HR;clear h1;go_wp2
  go_ret2
  exact⟨.slice none 0 0,by rw[HR];rfl,by rw[HL];exact World.ownsRow_nil _ _ _ _,HB1⟩
 rw[h1]at he;subst he;obtain⟨x0,x1,x2,x3,x4,x5,xl⟩:=HX1.out;have H1:=dU h1;obtain⟨e0,e1,e2,e3,e4,e5⟩:=Zd.out;have HH:=dU<|eH t.a t.b t.r t.c t.d t.s w1 e0 e1 e2 e3 e4 e5;clear h1 e0 e1 e2 e3 e4 e5;go_wp2_with fail;refine HH.mono ?_;rintro e w2 ⟨he,hb2⟩;have HB2:=jr HB1 hb2;have HX2:=aK<|HX1.below hb2;clear HH HX1 HB1 hb2 x0 x1 x2 x3 x4 x5 xl;cases h2:t.ok;case false=>
  have h2':cZ t.a t.b t.r t.c t.d t.s=false:=h2;rw[h2']at he;subst he;have HR:O (uD ts t=false):=by show _=_;simp[uD,H1.out,h2]
  have HL:O (Ee ts t=[]):=uk HR;clear h2 h2';go_wp2
  go_ret2
  exact⟨.slice none 0 0,by rw[HR];rfl,by rw[HL];exact World.ownsRow_nil _ _ _ _,HB2⟩
 have h2':cZ t.a t.b t.r t.c t.d t.s=true:=h2;rw[h2']at he;subst he;have H2:=dU h2;obtain⟨x0,x1,x2,x3,x4,x5,xl⟩:=HX2.out;have HH:=dU<|Pm (some<|ap b off) cap ts t w2 hlen<|SL _ HB2;clear h2 h2';go_wp2_with fail;refine HH.mono ?_;rintro e w3 ⟨he,hb3⟩;have HB3:=jr HB2 hb3;have HX3:=aK<|HX2.below hb3;clear HH HX2 HB2 hb3 x0 x1 x2 x3 x4 x5 xl;cases h3:yD ts t;case true=>
  rw[h3]at he;subst he;have HR:O (uD ts t=false):=by show _=_;simp[uD,H1.out,H2.out,h3]
  have HL:O (Ee ts t=[]):=uk HR;clear h3;go_wp2
  go_ret2
  exact⟨.slice none 0 0,by rw[HR];rfl,by rw[HL];exact World.ownsRow_nil _ _ _ _,HB3⟩
 rw[h3]at he;subst he;have H3:=dU h3;clear h3;by_cases h4:ts.length=40
 ·have HR:O (uD ts t=false):=by show _=_;simp[uD,H1.out,H2.out,H3.out,h4]
  have HL:O (Ee ts t=[]):=uk HR;have h5:((ts.length:Int)==40)=true:=by simp;omega
  have H4:=dU h4;clear h4;go_wp2
  go_ret2
  exact⟨.slice none 0 0,by rw[HR];rfl,by rw[HL];exact World.ownsRow_nil _ _ _ _,HB3⟩
 have HR:O (uD ts t=true):=by show _=_;simp[uD,H1.out,H2.out,H3.out,h4]
 have HL:O (Ee ts t=kG ts t):=Dc HR;have h5:((ts.length:Int)==40)=false:=by simp;omega
 have h40:=Oh H1;obtain⟨x0,x1,x2,x3,x4,x5,xl⟩:=HX3.out;have HP:=dU<|Pk b off cap ts t w3 cq hcap (HS.below HB3 hb) (XJ hb HB3.size) HF Zd;clear HX3;go_wp2_with fail;refine HP.mono ?_;rintro e w4 ⟨v4,rfl,hs4,hb4⟩;have HS4:=dU hs4;clear hs4 HP x0 x1 x2 x3 x4 x5 xl;go_wp2
 go_ret2
 exact⟨v4,by rw[HR];rfl,by rw[HL];exact bW HS4 HB3.size,HB3.trans<|hb4.mono HB3.size⟩
def Tp.short(t:Tp):Prop:=t.a.size<=20/\t.b.size<=20/\t.r.size<=20/\t.c.size<=20/\t.d.size<=20/\t.s.size<=20
def Tp.short.fits{t:Tp}(h:t.short):t.fits:=by unfold Tp.short at h;unfold Tp.fits maxLen;omega
def sN(ts:Q05):Prop:=∀t∈ts,t.short
def sN.fits{ts:Q05}(h:sN ts):∀t∈ts,t.fits:=fun t ht=>(h t ht).fits
def Pn:sN []:=fun t ht=>by cases ht
def ul(ts:Q05)(t:Tp):(kG ts t).length=ts.length+1:=by
 induction ts with
 | nil=>rfl
 | cons x xs ih =>
  unfold kG;split
  ·simp[ih]
  simp
def sN.put{ts:Q05}{t:Tp}(h:sN ts)(ht:t.short):sN (kG ts t):=fun x hx=>by
 rcases (QU ts t x).1 hx with rfl|k
 ·exact ht
 exact h x k
def nR{w w':ag}{R base n:Nat}{v:Value}{xs:Q03}(h:w.ownsRow base 29 6 v n xs)(hR:R<base)(hO:Only R w w'):w'.ownsRow base 29 6 v n xs :=
 h.kept hO (.inr fun e=>by have:=(h.lt R e).1;omega)
def oH{w:ag}{base g n c:Nat}{ts:Q05}(h:w.ownsRow base 29 6 (.slice (some<|am g) n c) n<|bZ ts)(hn:n=ts.length):l6 w g 0 ts/\g<w.heap.size/\n<=c/\base<=g:=by
 have hlt:=h.lt g rfl;refine⟨?_,hlt.2,?_,hlt.1⟩
 ·subst hn;intro i hi;have key:∀j,j<6->w.cell? (ap g<|0+i*6+j)=(ts[i]).row[j]?:=fun j hj=>by
   rw[h.cellAt (0+i*6+j) (by have:=jP ts;omega),<-wX ts i hi j hj,Yg]
  exact⟨key 0 cq,key 1 cq,key 2 cq,key 3 cq,key 4 cq,key 5 cq⟩
 rcases h.2 with⟨e,-⟩|⟨g',cap',cur,e,-,-,hle,-⟩
 ·cases e
 injection e with e1 e2 e3;omega
def uP{W:ag}{base:Nat}{e:TypeId}{size:Nat}{v:Value}{k:Nat}{xs:Q03}(h:W.ownsRow base e size v (k+1) xs):∃g cap,v=.slice (some<|am g) (k+1) cap:=by
 rcases h.2 with⟨_,h0⟩|⟨g,cap,_,rfl,_⟩
 ·omega
 exact⟨g,cap,rfl⟩
def Rd.grown{w w':ag}{R:Nat}{ad:Q02}{len cap:Nat}{row:Option Nat}(h:Rd w R ad len cap)(hg:w.grownBy w' row)(hR:some R≠row)(hb:0<len->∀b off,ad=some (ap b off)->some b≠row):Rd w' R ad len cap where
 lt:=XJ h.lt hg.size
 code:=hg.cell h.code hR
 place:=by obtain⟨p,hp,hl⟩:=h.place;exact⟨p,hg.cell hp hR,hl⟩
 free:=(World.frozen?_of_block (w:=w) (a:=⟨R,1,none⟩)<|hg.block R h.lt hR).trans h.free
 bytes h0:=by
  obtain⟨b,off,e,hne,hbl,hc⟩:=h.bytes h0;refine⟨b,off,e,hne,XJ hbl hg.size,fun i hi=>?_⟩;obtain⟨c,c0,c1,hcc⟩:=hc i hi;exact⟨c,c0,c1,hg.cell hcc<|hb h0 b off e⟩
 small:=h.small
end Go.Proofs.YtojjoblnpldniaaGreat
namespace Go.Proofs.YtojjoblnpldniaaGreat
open ChangeShapes WideShapes ChangeAt RowKit
open Pl
attribute [local go_sem ↓] Go.wp_at_zero Go.wp_at_succ
structure BelowD(B:Nat)(w w':World):Prop where
 b:Below B w w'
 d:w.drawn<=w'.drawn
def BelowD.size{B:Nat}{w w':ag}(h:BelowD B w w'):w.heap.size<=w'.heap.size:=h.b.size
def BelowD.refl(B:Nat)(w:ag):BelowD B w w:=⟨XL B w,XK _⟩
def BelowD.trans{B:Nat}{a b c:ag}(h:BelowD B a b)(k:BelowD B b c):BelowD B a c:=⟨h.b.trans k.b,XR h.d k.d⟩
def BelowD.mono{B B':Nat}{w w':ag}(h:BelowD B w w')(hB:B'<=B):BelowD B' w w':=⟨h.b.mono hB,h.d⟩
def BelowD.drew{B:Nat}{a w:ag}(h:BelowD B a w):BelowD B a w.drew:=⟨h.b.drew,XR h.d<|Nat.le_succ _⟩
def BelowD.alloc{B:Nat}{a w:ag}(h:BelowD B a w)(hB:cV B w)(o:Obj):BelowD B a (w.alloc o):=⟨h.b.alloc hB o,h.d⟩
def BelowD.cell{B:Nat}{w w':ag}(h:BelowD B w w'){p:Addr}(hp:p.block<B):w'.cell? p=w.cell? p:=h.b.cell hp
def BelowD.frozen{B:Nat}{w w':ag}(h:BelowD B w w'){p:Addr}(hp:p.block<B):w'.frozen? p=w.frozen? p:=h.b.frozen hp
def BelowD.grew{w w':ag}(h:BelowD w.heap.size w w'):∃q os,w'=Go.Sort.grow (w.drewN q) os:=by
 obtain⟨⟨h1,h2,h3,h4,h5⟩,h6⟩:=h;refine⟨w'.drawn-w.drawn,w'.heap.extract w.heap.size w'.heap.size,?_⟩;obtain⟨hp,tp,dr,os,ou⟩:=w';simp only at h1 h2 h3 h4 h5 h6;subst h1 h2 h3;simp only[Go.Sort.grow,World.drewN,World.mk.injEq,true_and,and_true];refine⟨?_,cq⟩;apply Array.ext
 ·simp;omega
 intro i hi hj;by_cases hlt:i<w.heap.size
 ·have:=h5 i hlt;rw[Yy hi,Yy hlt]at this;injection this with this;rw[this,Array.getElem_append_left hlt]
 rw[Array.getElem_append_right cq];simp;congr 1;omega
def vW{W w1:ag}(hb:BelowD W.heap.size W w1):(∀b o,b<W.heap.size->w1.cell? (ap b o)=W.cell? (ap b o))/\(∀b o,b<W.heap.size->w1.frozen? (ap b o)=W.frozen? (ap b o)) :=
 ⟨fun b o h=>hb.cell (p:=⟨b,o,none⟩) h,fun b o h=>hb.frozen (p:=⟨b,o,none⟩) h⟩
def gu(t i:dw)(w:ag)(ht:t.size<=maxLen)(hi:i.size<=maxLen):
  Calls prog 147 #[.agg #[.string t,.string i]] w fun e w'=>e=.returned (.bool<|dY t i)/\BelowD w.heap.size w w':=by
 by_cases hn:aW t=true
 all_goals
  go_enter func147,ntmps147;go_wp2_with(first|(go_at_call 122;refine(aT _ _ ht).mono ?_;rintro e w' ⟨rfl,rfl⟩)|(go_at_call 220;refine(Bq _ _ hi).mono ?_;rintro e w' ⟨rfl,rfl⟩));go_ret;exact⟨aj<|by simp[dY,hn],(BelowD.refl _ _).alloc (XK _) _⟩
def yX(t i:dw)(w:ag)(ht:t.size<=maxLen)(hi:i.size<=maxLen):
  Calls prog 276 #[.agg #[.string t,.string i]] w fun e w'=>e=.returned (.string<|aI t i)/\BelowD w.heap.size w w':=by
 by_cases hn:dY t i=true
 ·obtain⟨h1,h2⟩:=AC hn;have HT:O (aI t i=t++⟨#[58]⟩++i):=og hn;go_enter func276,ntmps276;go_wp2_with(go_at_call 147;refine(gu _ _ _ ht hi).mono ?_;rintro e w' ⟨rfl,hb⟩;obtain⟨hc,hf⟩:=vW hb);go_ret;exact⟨gZ HT.symm,((BelowD.refl _ _).alloc (XK _) _).trans<|hb.mono ct⟩
 have hn':dY t i=false:=by simpa using hn
 have HT:O (aI t i=⟨#[]⟩):=uZ hn';clear hn;go_enter func276,ntmps276;go_wp2_with(go_at_call 147;refine(gu _ _ _ ht hi).mono ?_;rintro e w' ⟨rfl,hb⟩;obtain⟨hc,hf⟩:=vW hb);go_ret;exact⟨gZ HT.symm,((BelowD.refl _ _).alloc (XK _) _).trans<|hb.mono ct⟩
def xP(a b r c d s:dw)(w:ag)(ha:a.size<=maxLen)(hb:b.size<=maxLen)(hr:r.size<=maxLen)(hc:c.size<=maxLen)(hd:d.size<=maxLen)(hs:s.size<=maxLen):
  Calls prog 62 #[.agg #[.string a,.string b,.string r,.string c,.string d,.string s]] w fun e w'=>e=.returned (.bool<|cZ a b r c d s)/\BelowD w.heap.size w w':=by
 by_cases h1:dY a b=true
 ·by_cases h2:aW r=true
  ·by_cases h3:dY c d=true
   ·have HT:O (cZ a b r c d s=ve s):=Bn h1 h2 h3;go_enter func62,ntmps62;go_wp2_with fail;refine(gu _ _ _ ha hb).mono ?_;rintro e w1 ⟨rfl,hb1⟩;obtain⟨hc1,hf1⟩:=vW hb1;have hz1:cX w w1:=by have:=hb1.size;simp at this;omega
    go_wp2_with fail;refine(aT _ _ hr).mono ?_;rintro e w1' ⟨rfl,rfl⟩;go_wp2_with fail;refine(gu _ _ _ hc hd).mono ?_;rintro e w2 ⟨rfl,hb2⟩;obtain⟨hc2,hf2⟩:=vW hb2;have hz2:cX w w2:=by have:=hb2.size;omega
    go_wp2_with(go_at_call 148;refine(Ez _ _ hs).mono ?_;rintro e w3 ⟨rfl,rfl⟩)
    all_goals go_ret
    all_goals exact⟨aj (HT.trans<|by simp[ve, *]).symm,((BelowD.refl _ _).alloc (XK _) _).trans<|(hb1.mono ct).trans<|hb2.mono cq⟩
   have h3':dY c d=false:=by simpa using h3
   have HT:O (cZ a b r c d s=false):=Bl h3';clear h3;go_enter func62,ntmps62;go_wp2_with fail;refine(gu _ _ _ ha hb).mono ?_;rintro e w1 ⟨rfl,hb1⟩;obtain⟨hc1,hf1⟩:=vW hb1;have hz1:cX w w1:=by have:=hb1.size;simp at this;omega
   go_wp2_with fail;refine(aT _ _ hr).mono ?_;rintro e w1' ⟨rfl,rfl⟩;go_wp2_with fail;refine(gu _ _ _ hc hd).mono ?_;rintro e w2 ⟨rfl,hb2⟩;go_wp2;go_ret;exact⟨aj HT.symm,((BelowD.refl _ _).alloc (XK _) _).trans<|(hb1.mono ct).trans<|hb2.mono cq⟩
  have h2':aW r=false:=by simpa using h2
  have HT:O (cZ a b r c d s=false):=Bj h2';clear h2;go_enter func62,ntmps62;go_wp2_with fail;refine(gu _ _ _ ha hb).mono ?_;rintro e w1 ⟨rfl,hb1⟩;obtain⟨hc1,hf1⟩:=vW hb1;go_wp2_with fail;refine(aT _ _ hr).mono ?_;rintro e w1' ⟨rfl,rfl⟩;go_wp2;go_ret;exact⟨aj HT.symm,((BelowD.refl _ _).alloc (XK _) _).trans<|hb1.mono ct⟩
 have h1':dY a b=false:=by simpa using h1
 have HT:O (cZ a b r c d s=false):=Bi h1';clear h1;go_enter func62,ntmps62;go_wp2_with fail;refine(gu _ _ _ ha hb).mono ?_;rintro e w1 ⟨rfl,hb1⟩;go_wp2;go_ret;exact⟨aj HT.symm,((BelowD.refl _ _).alloc (XK _) _).trans<|hb1.mono ct⟩
def Wi{w W w':ag}{n:Nat}{x0 x1 x2 x3 x4 x5:Value}(h:W.cell? ⟨n,0,none⟩=some x0/\W.cell? ⟨n,1,none⟩=some x1/\W.cell? ⟨n,2,none⟩=some x2/\W.cell? ⟨n,3,none⟩=some x3/\W.cell? ⟨n,4,none⟩=some x4/\W.cell? ⟨n,5,none⟩=some x5/\n<W.heap.size/\BelowD n w W)(hb:BelowD W.heap.size W w'):w'.cell? ⟨n,0,none⟩=some x0/\w'.cell? ⟨n,1,none⟩=some x1/\w'.cell? ⟨n,2,none⟩=some x2/\w'.cell? ⟨n,3,none⟩=some x3/\w'.cell? ⟨n,4,none⟩=some x4/\w'.cell? ⟨n,5,none⟩=some x5/\n<w'.heap.size/\BelowD n w w':=by
 obtain⟨h0,h1,h2,h3,h4,h5,hn,hB⟩:=h;have hc:∀o,w'.cell? ⟨n,o,none⟩=W.cell? ⟨n,o,none⟩:=fun o=>hb.cell (p:=⟨n,o,none⟩) hn;refine⟨by rw[hc];exact h0,by rw[hc];exact h1,by rw[hc];exact h2,by rw[hc];exact h3,by rw[hc];exact h4,by rw[hc];exact h5,XJ hn hb.size,hB.trans<|hb.mono<|YV hn⟩
def yY(a b r c d s:dw)(w:ag)(ha:a.size<=maxLen)(hb:b.size<=maxLen)(hr:r.size<=maxLen)(hc:c.size<=maxLen)(hd:d.size<=maxLen)(hs:s.size<=maxLen):
  Calls prog 216 #[.agg #[.string a,.string b,.string r,.string c,.string d,.string s]] w fun e w'=>e=.returned (.string<|bC a b r c d s)/\BelowD w.heap.size w w':=by
 by_cases hn:cZ a b r c d s=true
 ·obtain⟨h1,h2,h3,h4⟩:=kS hn;have hx:=jc a b;have hy:=jc c d;have hr12:=(o9 h2).2;have hs12:=Gc h4;clear h1 h2 h3 h4;go_enter func216,ntmps216;go_wp2_with fail;refine(xP _ _ _ _ _ _ _ ha hb hr hc hd hs).mono ?_;rintro e w1 ⟨rfl,hb1⟩;obtain⟨hc1,hf1⟩:=vW hb1;have hz1:w.heap.size<w1.heap.size:=by have:=hb1.size;simp at this;omega
  have k:∀o v,(w.alloc<|.cells #[.string a,.string b,.string r,.string c,.string d,.string s] 29).cell? ⟨w.heap.size,o,none⟩=some v->w1.cell? ⟨w.heap.size,o,none⟩=some v:=fun o v h=>by rw[hc1 _ _ ct];exact h
  have k0:=k 0 (.string a) ct;have k1:=k 1 (.string b) ct;have k2:=k 2 (.string r) ct;have k3:=k 3 (.string c) ct;have k4:=k 4 (.string d) ct;have k5:=k 5 (.string s) ct;have HB1:BelowD w.heap.size w w1:=((BelowD.refl _ _).alloc (XK _) _).trans<|hb1.mono ct;clear k hb1 hc1 hf1;have q1:(9223372036854775807<(aI a b).size+1)=False:=by simp;omega
  have q2:(9223372036854775807<(aI a b).size+1+r.size)=False:=by simp;omega
  have q3:(9223372036854775807<(aI a b).size+1+r.size+1)=False:=by simp;omega
  have q4:(9223372036854775807<(aI a b).size+1+r.size+1+(aI c d).size)=False:=by simp;omega
  go_wp2_with fail
  go_region_held3 (fun w'=>w'.cell? ⟨w.heap.size,0,none⟩=some (.string a)/\w'.cell? ⟨w.heap.size,1,none⟩=some (.string b)/\w'.cell? ⟨w.heap.size,2,none⟩=some (.string r)/\w'.cell? ⟨w.heap.size,3,none⟩=some (.string c)/\w'.cell? ⟨w.heap.size,4,none⟩=some (.string d)/\w'.cell? ⟨w.heap.size,5,none⟩=some (.string s)/\w.heap.size<w'.heap.size/\BelowD w.heap.size w w')
   (first|exact Wi cE hbx|exact⟨k0,k1,k2,k3,k4,k5,hz1,HB1.drew⟩)
   (first|(go_at_call 276;refine(yX _ _ _ cE cE).mono ?_;rintro e w' ⟨rfl,hbx⟩))
  rename_i hH;obtain⟨g0,g1,g2,g3,g4,g5,gz,gB⟩:=hH;clear k0 k1 k2 k3 k4 k5 hbx q1 q2 q3 q4 HB1;by_cases he:s.toList.isEmpty=true
  ·have HT:O (bC a b r c d s=_):=oh hn he;go_wp2;go_ret;exact⟨gZ HT.symm,gB⟩
  have he':s.toList.isEmpty=false:=by simpa using he
  have HT:O (bC a b r c d s=_):=ol hn he';clear he;go_wp2;go_ret;exact⟨gZ (HT.trans<|by simp only[YH]).symm,gB⟩
 have hn':cZ a b r c d s=false:=by simpa using hn
 have HT:O (bC a b r c d s=⟨#[]⟩):=vg hn';clear hn;go_enter func216,ntmps216;go_wp2_with fail;refine(xP _ _ _ _ _ _ _ ha hb hr hc hd hs).mono ?_;rintro e w1 ⟨rfl,hb1⟩;go_wp2;go_ret;exact⟨gZ HT.symm,((BelowD.refl _ _).alloc (XK _) _).trans<|hb1.mono ct⟩
def UJ{w W w':ag}{n m k:Nat}{x0 x1 x2 x3 x4 x5 y0 y1 y2 y3 y4 y5:Value}(hk:k<=n)(h:W.cell? ⟨n,0,none⟩=some x0/\W.cell? ⟨n,1,none⟩=some x1/\W.cell? ⟨n,2,none⟩=some x2/\W.cell? ⟨n,3,none⟩=some x3/\W.cell? ⟨n,4,none⟩=some x4/\W.cell? ⟨n,5,none⟩=some x5/\W.cell? ⟨m,0,none⟩=some y0/\W.cell? ⟨m,1,none⟩=some y1/\W.cell? ⟨m,2,none⟩=some y2/\W.cell? ⟨m,3,none⟩=some y3/\W.cell? ⟨m,4,none⟩=some y4/\W.cell? ⟨m,5,none⟩=some y5/\n<W.heap.size/\m<W.heap.size/\BelowD k w W)(hb:BelowD W.heap.size W w'):w'.cell? ⟨n,0,none⟩=some x0/\w'.cell? ⟨n,1,none⟩=some x1/\w'.cell? ⟨n,2,none⟩=some x2/\w'.cell? ⟨n,3,none⟩=some x3/\w'.cell? ⟨n,4,none⟩=some x4/\w'.cell? ⟨n,5,none⟩=some x5/\w'.cell? ⟨m,0,none⟩=some y0/\w'.cell? ⟨m,1,none⟩=some y1/\w'.cell? ⟨m,2,none⟩=some y2/\w'.cell? ⟨m,3,none⟩=some y3/\w'.cell? ⟨m,4,none⟩=some y4/\w'.cell? ⟨m,5,none⟩=some y5/\n<w'.heap.size/\m<w'.heap.size/\BelowD k w w':=by
 obtain⟨h0,h1,h2,h3,h4,h5,h6,h7,h8,h9,h10,h11,hn,hm,hB⟩:=h;have hc:∀o,w'.cell? ⟨n,o,none⟩=W.cell? ⟨n,o,none⟩:=fun o=>hb.cell (p:=⟨n,o,none⟩) hn;have hd:∀o,w'.cell? ⟨m,o,none⟩=W.cell? ⟨m,o,none⟩:=fun o=>hb.cell (p:=⟨m,o,none⟩) hm;exact⟨by rw[hc];exact h0,by rw[hc];exact h1,by rw[hc];exact h2,by rw[hc];exact h3,by rw[hc];exact h4,by rw[hc];exact h5,by rw[hd];exact h6,by rw[hd];exact h7,by rw[hd];exact h8,by rw[hd];exact h9,by rw[hd];exact h10,by rw[hd];exact h11,XJ hn hb.size,XJ hm hb.size,hB.trans<|hb.mono cq⟩
def Ns(w:ag)(o1 o2:Obj):BelowD w.heap.size w ((w.alloc o1).alloc o2) :=
 ((BelowD.refl _ _).alloc (XK _) _).alloc ct _
def vX(a b r c d s a' b' r' c' d' s':dw)(w:ag)(ha:a.size<=maxLen)(hb:b.size<=maxLen)(hr:r.size<=maxLen)(hc:c.size<=maxLen)(hd:d.size<=maxLen)(hs:s.size<=maxLen)(ga:a'.size<=maxLen)(gb:b'.size<=maxLen)(gr:r'.size<=maxLen)(gc:c'.size<=maxLen)(gd:d'.size<=maxLen)(gs:s'.size<=maxLen):
  Calls prog 139 #[.agg #[.string a,.string b,.string r,.string c,.string d,.string s],.agg #[.string a',.string b',.string r',.string c',.string d',.string s']] w fun e w'=>e=.returned (.int .i64<|KP a b r c d s a' b' r' c' d' s')/\BelowD w.heap.size w w':=by
 have H0:((w.alloc<|.cells (b9 a b r c d s) 29).alloc<|.cells (b9 a' b' r' c' d' s') 29).drew.cell? (aE w)=some (.string a)/\((w.alloc<|.cells (b9 a b r c d s) 29).alloc<|.cells (b9 a' b' r' c' d' s') 29).drew.cell? (a6 w 1)=some (.string b)/\((w.alloc<|.cells (b9 a b r c d s) 29).alloc<|.cells (b9 a' b' r' c' d' s') 29).drew.cell? (a6 w 2)=some (.string r)/\((w.alloc<|.cells (b9 a b r c d s) 29).alloc<|.cells (b9 a' b' r' c' d' s') 29).drew.cell? (a6 w 3)=some (.string c)/\((w.alloc<|.cells (b9 a b r c d s) 29).alloc<|.cells (b9 a' b' r' c' d' s') 29).drew.cell? (a6 w 4)=some (.string d)/\((w.alloc<|.cells (b9 a b r c d s) 29).alloc<|.cells (b9 a' b' r' c' d' s') 29).drew.cell? (a6 w 5)=some (.string s)/\((w.alloc<|.cells (b9 a b r c d s) 29).alloc<|.cells (b9 a' b' r' c' d' s') 29).drew.cell? (am<|w.heap.size+1)=some (.string a')/\((w.alloc<|.cells (b9 a b r c d s) 29).alloc<|.cells (b9 a' b' r' c' d' s') 29).drew.cell? (ap (w.heap.size+1) 1)=some (.string b')/\((w.alloc<|.cells (b9 a b r c d s) 29).alloc<|.cells (b9 a' b' r' c' d' s') 29).drew.cell? (ap (w.heap.size+1) 2)=some (.string r')/\((w.alloc<|.cells (b9 a b r c d s) 29).alloc<|.cells (b9 a' b' r' c' d' s') 29).drew.cell? (ap (w.heap.size+1) 3)=some (.string c')/\((w.alloc<|.cells (b9 a b r c d s) 29).alloc<|.cells (b9 a' b' r' c' d' s') 29).drew.cell? (ap (w.heap.size+1) 4)=some (.string d')/\((w.alloc<|.cells (b9 a b r c d s) 29).alloc<|.cells (b9 a' b' r' c' d' s') 29).drew.cell? (ap (w.heap.size+1) 5)=some (.string s')/\w.heap.size<((w.alloc<|.cells (b9 a b r c d s) 29).alloc<|.cells (b9 a' b' r' c' d' s') 29).drew.heap.size/\w.heap.size+1<((w.alloc<|.cells (b9 a b r c d s) 29).alloc<|.cells (b9 a' b' r' c' d' s') 29).drew.heap.size/\BelowD w.heap.size w (((w.alloc<|.cells (b9 a b r c d s) 29).alloc<|.cells (b9 a' b' r' c' d' s') 29).drew):=by
  refine⟨?_,?_,?_,?_,?_,?_,?_,?_,?_,?_,?_,?_,?_,?_,?_⟩
  all_goals first|exact(Ns _ _ _).drew|(simp;done)|(simp;omega)
 go_enter func139,ntmps139;go_wp2_with fail
 go_region_held3 (fun w'=>w'.cell? (aE w)=some (.string a)/\w'.cell? (a6 w 1)=some (.string b)/\w'.cell? (a6 w 2)=some (.string r)/\w'.cell? (a6 w 3)=some (.string c)/\w'.cell? (a6 w 4)=some (.string d)/\w'.cell? (a6 w 5)=some (.string s)/\w'.cell? (am<|w.heap.size+1)=some (.string a')/\w'.cell? (ap (w.heap.size+1) 1)=some (.string b')/\w'.cell? (ap (w.heap.size+1) 2)=some (.string r')/\w'.cell? (ap (w.heap.size+1) 3)=some (.string c')/\w'.cell? (ap (w.heap.size+1) 4)=some (.string d')/\w'.cell? (ap (w.heap.size+1) 5)=some (.string s')/\w.heap.size<w'.heap.size/\w.heap.size+1<w'.heap.size/\BelowD w.heap.size w w')
  (first|assumption|exact UJ (XK _) cE hbx|exact H0)
  (first|(go_at_call 216;refine(yY _ _ _ _ _ _ _ cE cE cE cE cE cE).mono ?_;rintro e w' ⟨rfl,hbx⟩)|(go_at_call 197;refine(Tryz.strings_Compare _ _ _).mono ?_;rintro e w' ⟨rfl,rfl⟩))
 rename_i hH;obtain⟨-,-,-,-,-,-,-,-,-,-,-,-,-,-,gB⟩:=hH;go_wp2;go_ret;exact⟨rfl,gB⟩
end Go.Proofs.YtojjoblnpldniaaGreat
namespace Go.Proofs.YtojjoblnpldniaaGreat
open ChangeShapes WideShapes ChangeAt RowKit
open Pl
attribute [local go_sem ↓] Go.wp_at_zero Go.wp_at_succ
def Po(a b r c d:dw)(w:ag):
  Calls prog 217 #[.agg #[.string a,.string b,.string r,.string c,.string d]] w (a8 w<|.agg #[.string a,.string b,.string r,.string c,.string d,.string ⟨#[]⟩]):=by
 go_enter func217,ntmps217;go_wp2;exact bodyPost_ret (v:=.agg #[.string a,.string b,.string r,.string c,.string d,.string ⟨#[]⟩]) (by simp[results,Tryz.results217,go_sem, *]) rfl ⟨rfl,by
  repeat(first|exact XL _ _|refine Below.setCell ?_ (by first|(simp;done)|(simp;omega)) _|refine Below.alloc ?_ (by first|(simp;done)|(simp;omega)) _)⟩
def UK{w W w':ag}{n m k:Nat}{x0 x1 x2 x3 x4 y0 y1 y2 y3 y4:Value}(hk:k<=n)(h:W.cell? ⟨n,0,none⟩=some x0/\W.cell? ⟨n,1,none⟩=some x1/\W.cell? ⟨n,2,none⟩=some x2/\W.cell? ⟨n,3,none⟩=some x3/\W.cell? ⟨n,4,none⟩=some x4/\W.cell? ⟨m,0,none⟩=some y0/\W.cell? ⟨m,1,none⟩=some y1/\W.cell? ⟨m,2,none⟩=some y2/\W.cell? ⟨m,3,none⟩=some y3/\W.cell? ⟨m,4,none⟩=some y4/\n<W.heap.size/\m<W.heap.size/\Below k w W)(hb:ae W w'):w'.cell? ⟨n,0,none⟩=some x0/\w'.cell? ⟨n,1,none⟩=some x1/\w'.cell? ⟨n,2,none⟩=some x2/\w'.cell? ⟨n,3,none⟩=some x3/\w'.cell? ⟨n,4,none⟩=some x4/\w'.cell? ⟨m,0,none⟩=some y0/\w'.cell? ⟨m,1,none⟩=some y1/\w'.cell? ⟨m,2,none⟩=some y2/\w'.cell? ⟨m,3,none⟩=some y3/\w'.cell? ⟨m,4,none⟩=some y4/\n<w'.heap.size/\m<w'.heap.size/\Below k w w':=by
 obtain⟨h0,h1,h2,h3,h4,h5,h6,h7,h8,h9,hn,hm,hB⟩:=h;have hc:∀o,w'.cell? ⟨n,o,none⟩=W.cell? ⟨n,o,none⟩:=fun o=>hb.cell (p:=⟨n,o,none⟩) hn;have hd:∀o,w'.cell? ⟨m,o,none⟩=W.cell? ⟨m,o,none⟩:=fun o=>hb.cell (p:=⟨m,o,none⟩) hm;exact⟨by rw[hc];exact h0,by rw[hc];exact h1,by rw[hc];exact h2,by rw[hc];exact h3,by rw[hc];exact h4,by rw[hd];exact h5,by rw[hd];exact h6,by rw[hd];exact h7,by rw[hd];exact h8,by rw[hd];exact h9,XJ hn hb.size,XJ hm hb.size,hB.trans<|hb.mono cq⟩
def Xj(a b r c d a' b' r' c' d':dw)(w W:ag)(hW:W=((w.alloc<|.cells #[.string a,.string b,.string r,.string c,.string d] 52).alloc<|.cells #[.string a',.string b',.string r',.string c',.string d'] 52)):W.drew.cell? (am w.heap.size)=some (.string a)/\W.drew.cell? (ap w.heap.size 1)=some (.string b)/\W.drew.cell? (ap w.heap.size 2)=some (.string r)/\W.drew.cell? (ap w.heap.size 3)=some (.string c)/\W.drew.cell? (ap w.heap.size 4)=some (.string d)/\W.drew.cell? (am<|w.heap.size+1)=some (.string a')/\W.drew.cell? (ap (w.heap.size+1) 1)=some (.string b')/\W.drew.cell? (ap (w.heap.size+1) 2)=some (.string r')/\W.drew.cell? (ap (w.heap.size+1) 3)=some (.string c')/\W.drew.cell? (ap (w.heap.size+1) 4)=some (.string d')/\w.heap.size<W.drew.heap.size/\w.heap.size+1<W.drew.heap.size/\ae w W.drew:=by
 subst hW;refine⟨?_,?_,?_,?_,?_,?_,?_,?_,?_,?_,?_,?_,?_⟩
 all_goals first|exact(BR _ _ _).drew|(simp;done)|(simp;omega)
def xQ(a b r c d a' b' r' c' d':dw)(w:ag)(ha:a.size<=maxLen)(hb:b.size<=maxLen)(hr:r.size<=maxLen)(hc:c.size<=maxLen)(hd:d.size<=maxLen)(ga:a'.size<=maxLen)(gb:b'.size<=maxLen)(gr:r'.size<=maxLen)(gc:c'.size<=maxLen)(gd:d'.size<=maxLen):
  Calls prog 142 #[.agg #[.string a,.string b,.string r,.string c,.string d],.agg #[.string a',.string b',.string r',.string c',.string d']] w (a8 w<|.bool<|ib a b r c d ⟨#[]⟩ a' b' r' c' d' ⟨#[]⟩):=by
 have he0:(⟨#[]⟩:ByteArray).size<=maxLen:=cv;have H0:=Xj a b r c d a' b' r' c' d' w _ rfl;go_enter func142,ntmps142;go_wp2_with fail
 go_region_held3 (fun w'=>w'.cell? (aE w)=some (.string a)/\w'.cell? (a6 w 1)=some (.string b)/\w'.cell? (a6 w 2)=some (.string r)/\w'.cell? (a6 w 3)=some (.string c)/\w'.cell? (a6 w 4)=some (.string d)/\w'.cell? (am<|w.heap.size+1)=some (.string a')/\w'.cell? (ap (w.heap.size+1) 1)=some (.string b')/\w'.cell? (ap (w.heap.size+1) 2)=some (.string r')/\w'.cell? (ap (w.heap.size+1) 3)=some (.string c')/\w'.cell? (ap (w.heap.size+1) 4)=some (.string d')/\w.heap.size<w'.heap.size/\w.heap.size+1<w'.heap.size/\ae w w')
  (first|assumption|exact UK (XK _) cE hbx|exact H0)
  (first|(go_at_call 217;refine(Po _ _ _ _ _ _).mono ?_;rintro e w' ⟨rfl,hbx⟩)|(go_at_call 199;refine(oM _ _ _ _ _ _ _ _ _ _ _ _ _ cE cE cE cE cE cE cE cE cE cE cE cE).mono ?_;rintro e w' ⟨rfl,hbx⟩))
 rename_i hJ;obtain⟨-,-,-,-,-,-,-,-,-,-,-,-,gB⟩:=hJ;go_wp2;go_ret;exact⟨rfl,gB⟩
end Go.Proofs.YtojjoblnpldniaaGreat
namespace Go.Proofs.YtojjoblnpldniaaGreat
open Pl
def Wj{P:Nat->Prop}(h:∃n,P n):∃n,P n/\∀m,P m->n<=m:=by
 obtain⟨n,hn⟩:=h
 induction n using Nat.strongRecOn with
 | ind n ih =>
  by_cases hx:∃m,m<n/\P m
  ·obtain⟨m,hm,hp⟩:=hx;exact ih m hm hp
  exact⟨n,hn,fun m hm=>Nat.le_of_not_lt fun hlt=>hx ⟨m,hlt,hm⟩⟩
def Sw{ts:Q0b}(h:∃f,Sol ts f):∃f,Least ts f:=by
 have key:∀ k,∃ n:Nat,(∃ g,Sol ts g/\g k=(n:Int))/\∀ m:Nat,(∃ g,Sol ts g/\g k=(m:Int))->n<=m:=fun k=>Wj (by
  obtain⟨f,hf⟩:=h;exact⟨(f k).toNat,f,hf,by have:=hf.pos k;omega⟩)
 have low:∀k g,Sol ts g->(((key k).choose:Nat):Int)<=g k:=fun k g hg=>by
  have h1:=(key k).choose_spec.2 (g k).toNat ⟨g,hg,by have:=hg.pos k;omega⟩;have:=hg.pos k;omega
 refine⟨fun k=>(((key k).choose:Nat):Int),⟨fun k=>Int.natCast_nonneg _,fun k hk d hd=>?_⟩,fun k hk g hg=>low k g hg⟩;obtain⟨g,hg,e⟩:=(key k).choose_spec.1;have h1:=low (d.typ,d.rel) g hg;have h2:=hg.up k hk d hd;show(((key (d.typ,d.rel)).choose:Nat):Int)+stepOf d<=(((key k).choose:Nat):Int);rw[<-e];exact Int.le_trans (Int.add_le_add_right h1 _) h2
def Vs(ts:Q0b):∃st,aN ts=true->Least ts st:=by
 by_cases h:aN ts=true
 ·obtain⟨st,hst⟩:=Sw (bf.1 h).2.2;exact⟨st,fun _=>hst⟩
 exact⟨fun _=>0,fun h2=>absurd h2 h⟩
open ChangeAt ChangeShapes Maps RowKit Go.Sort WideShapes
set_option maxRecDepth 100000
def Wl(x y:Fc){v:Bool}(h:(!pI x y)=v)(w:ag):
  (binOp .neq 52 (.agg<|cf x)<|.agg<|cf y).run prog w=.ok (.bool v) w:=by
 subst h;go_simp;unfold pI
 (repeat' split)<;>simp_all
def uQ(ad Y8:Q02)(cap cap':Nat)(ts:Q04)(w:ag)(hlen:a7 ts)(hs:jX w ad ts)(hs':jX w Y8 ts):
  Calls prog 12 #[.slice ad ts.length cap,.slice Y8 ts.length cap'] w (a8 w<|.bool true):=by
 have HS:=o7 hs;have HS':=o7 hs';clear hs hs';have hnn:((ts.length:Int) != (ts.length:Int))=false:=ct;go_enter func12,ntmps12;go_wp2;go_loopw[5] (fun i wr=>∃k:Nat,k<=ts.length/\i=.int .i64 k/\O (ae w wr)) (fun i _=>ts.length-(intOf i).toNat);case atStart=>exact⟨0,XP _,rfl,XL _ _⟩
 obtain⟨k,hk,rfl,HB⟩:=hrel;have hk1:=bG k;by_cases hlt:k<ts.length
 ·have hk2:(k:Int)<(ts.length:Int):=cq;rcases HS.out.below HB.out with hnil|⟨b,off,rfl,hb,hr⟩
  ·rw[hnil]at hlt;simp at hlt
  rcases HS'.out.below HB.out with hnil|⟨b',off',rfl,hb',hr'⟩
  ·rw[hnil]at hlt;simp at hlt
  obtain⟨t0,t1,t2,t3,t4⟩:=hr k hlt;obtain⟨u0,u1,u2,u3,u4⟩:=hr' k hlt;have heq:=Wl ts[k] ts[k] (v:=false) (by rw[iU.2 rfl];rfl);replace t0:=cell_regrown t0;replace t1:=cell_regrown t1;replace t2:=cell_regrown t2;replace t3:=cell_regrown t3;replace t4:=cell_regrown t4;replace u0:=cell_regrown u0;replace u1:=cell_regrown u1;replace u2:=cell_regrown u2;replace u3:=cell_regrown u3;replace u4:=cell_regrown u4;clear hr hr';go_wp2_with fail;refine wp_region_quiet_below cw cw ?_
  repeat(go_big_quiet_step (fail))
  refine wpQuiet_nil ?_;rintro _ ⟨⟨dq,osq⟩,rfl⟩;have HB2:=o7<|HB.trans<|(below_regrown wr dq osq).mono HB.size;clear t0 t1 t2 t3 t4 u0 u1 u2 u3 u4 heq;go_wp2;go_roundw;case rel=>exact⟨k+1,cq,cx,HB2⟩
  simp[intOf]<;>omega
 go_wp2;go_ret;exact⟨rfl,HB⟩
open Go.Shelf
set_option linter.unusedVariables false
def Sy[Inhabited Fc](w:ag)(blk off n:Nat)(d:Array Fc)(os:Array Obj):Chg (fun g=>g=blk) w (sortWorldK Fc.row 5 w blk off n d os):=by
 refine⟨⟨rfl,rfl,rfl,?_,fun k hk=>absurd hk<|YG _⟩,fun k hk hne=>?_,fun g hg hf j=>?_⟩
 ·simp[sortWorldK,grow,putRowK,Sort.ahead]
 ·simp only[sortWorldK,putRowK];rw[heap_grow_old _ _ (by simpa[Sort.ahead] using hk)];have hne:blk≠k:=fun e=>hne e.symm;simp[putRow,mapBlock,Sort.ahead,Array.getElem?_modify,hne]
 simp only[sortWorldK,putRowK];rw[frozen?_grow _ _ _ (by simpa[Sort.ahead] using hg),frozen?_putRow,frozen?_ahead];exact hf j
def JB[Inhabited Fc]{w:ag}{base g cap:Nat}{xs:Q04}(h:w.ownsRow base 52 5 (.slice (some<|am g) xs.length cap) xs.length<|av xs):HoldsK Fc.row 5 w g 0 xs.toArray:=by
 intro t ht;rw[size_flatK]at ht;have ht':t<xs.length*5:=by simpa using ht
 have hi:t / 5<xs.length:=cq;have hr:t%5<5:=Nat.mod_lt _ cq;refine⟨?_,by rw[Yg];exact h.frozenAt t⟩;rw[Yg,h.cellAt t ht',get_flatK _ _ _ _ ht];have e:t=t / 5*5+t%5:=cq
 have h1:=lQ xs (t / 5) hi (t%5) hr;rw[<-e]at h1;rw[h1];have h2:(xs.toArray)[t / 5]! = xs[t / 5]:=by rw[getElem!_pos xs.toArray _ (by simpa using hi)];simp
 rw[h2];have hl:t%5<(Fc.row xs[t / 5]).length:=hr;show _=some ((Fc.row xs[t / 5])[t%5]!);rw[XQ hl,getElem!_pos (Fc.row xs[t / 5]) (t%5) hl]
def Wm[Inhabited Fc]{w:ag}{base g n cap:Nat}{xs ys:Q04}(h0:w.ownsRow base 52 5 (.slice (some<|am g) n cap) n<|av xs)(hx:xs.length=n)(hl:ys.length=n)(m:Nat)(os:Array Obj):(sortWorldK Fc.row 5 w g 0 m ys.toArray os).ownsRow base 52 5 (.slice (some<|am g) n cap) n (av ys):=by
 subst hx;have hg:=(h0.lt g rfl).2;have hH:=holdsK_sortWorldK_c Fc.row 5 w g 0 xs.toArray ys.toArray m os (JB h0) hg (by simpa using hl);have hlen:(av ys).length=xs.length*5:=by rw[fe,hl]
 refine⟨hlen,.inr ?_⟩;rcases h0.2 with⟨e,-⟩|⟨g',cap',cur,e,h1,h2,h3,h4,h5,-⟩
 ·cases e
 injection e with e1 e2 e3;injection e1 with e1;injection e1 with e1;subst e1;subst e3;have hb:(sortWorldK Fc.row 5 w g 0 m ys.toArray os).heap[g]?=some (.cells (putCells id 0 (flatK Fc.row 5 ys.toArray) cur) 52 (0,0)):=by
  simp only[sortWorldK,putRowK];rw[heap_grow_old _ _ (by simpa[Sort.ahead] using hg)];simp[putRow,mapBlock,Sort.ahead,Array.getElem?_modify,h2,onCells]
 refine⟨g,cap,_,rfl,h1,hb,h3,h4,by simp only[putCells,Array.size_mapIdx];exact h5,?_⟩;refine List.ext_getElem? fun j=>?_;by_cases hj:j<xs.length*5
 ·rw[List.getElem?_take_of_lt hj];have hi:j / 5<ys.length:=cq;have h6:=(hH j<|by rw[size_flatK];simpa[hl] using hj).1;rw[Yg,get_flatK _ _ _ _<|by simpa[hl] using hj]at h6;replace h6:ac (sortWorldK Fc.row 5 w g 0 m ys.toArray os) g j ((Fc.row (ys.toArray)[j / 5]!)[j%5]!):=h6;have h7:(putCells id 0 (flatK Fc.row 5 ys.toArray) cur).toList[j]?=some ((Fc.row (ys.toArray)[j / 5]!)[j%5]!):=by
   rw[<-h6];simp[World.cell?,hb]
  rw[h7];have e:j=j / 5*5+j%5:=cq;have h8:=lQ ys (j / 5) hi (j%5)<|Nat.mod_lt _ cq;rw[<-e]at h8;rw[h8];have h9:(ys.toArray)[j / 5]! = ys[j / 5]:=by rw[getElem!_pos ys.toArray _ (by simpa using hi)];simp
  rw[h9];have hl2:j%5<(Fc.row ys[j / 5]).length:=Nat.mod_lt _ cq;show some ((Fc.row ys[j / 5])[j%5]!)=_;rw[XQ hl2,getElem!_pos (Fc.row ys[j / 5]) (j%5) hl2]
 rw[List.getElem?_eq_none (by rw[Yc];omega),List.getElem?_eq_none cq]
def Ha(base g cap:Nat)(fs:Q04)(w:ag)(hR:w.ownsRow base 52 5 (.slice (some<|am g) fs.length cap) fs.length<|av fs)(hne:fs≠[])(h6:fs.length<=200000):
  Calls prog 159 #[.slice (some<|am g) fs.length cap] w fun e w'=>e=.returned (.tuple #[])/\w'.ownsRow base 52 5 (.slice (some<|am g) fs.length cap) fs.length (av fs.reverse)/\Chg (fun k=>k=g) w w':=by
 obtain⟨x0,hx0⟩:∃x0:Fc,x0∈fs:=List.exists_mem_of_ne_nil _ hne
 letI:Inhabited Fc:=⟨x0⟩
 have hs:=AnyQ.slices_Reverse Tryz.revF 5 Tryz.isAgg52 Tryz.sizeOf52 Fc.row (fun _=>rfl) (fun x v hv=>by simp[Fc.row]at hv;rcases hv with rfl|rfl|rfl|rfl|rfl<;>rfl) g 0 cap fs.toArray w (JB hR) (by simp;omega)
 change Calls prog 159 _ _ _ at hs
 refine hs.mono fun e w' ⟨he,n,hw⟩=>⟨he,?_,?_⟩
 ·have h:=Wm (ys:=fs.reverse) hR rfl ct n #[];have e2:w'=sortWorldK Fc.row 5 w g 0 n fs.reverse.toArray #[]:=by rw[hw];simp[sortWorldK,grow]
  rw[e2];exact h
 have e2:w'=sortWorldK Fc.row 5 w g 0 n fs.reverse.toArray #[]:=by rw[hw];simp[sortWorldK,grow]
 rw[e2];exact Sy _ _ _ _ _ _
end Go.Proofs.YtojjoblnpldniaaGreat
