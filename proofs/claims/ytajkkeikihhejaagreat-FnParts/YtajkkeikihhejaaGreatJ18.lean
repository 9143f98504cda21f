/- Lists in memory whose elements hold lists again, each in a row and in a block of its own: one more at the end, another last one. Expressions, relations and types as such lists. -/
import Derived.Test.YtajkkeikihhejaaGreatSq
import Derived.Test.YtajkkeikihhejaaGreatJ11
import Derived.Test.YtajkkeikihhejaaGreatJ17
import Derived.Test.YtajkkeikihhejaaGreatJ8
import Derived.Sort.Grow
open Go.Proofs.Tryz
set_option maxHeartbeats 80000000
namespace Go.Proofs.YtajkkeikihhejaaGreat
set_option maxRecDepth 100000
set_option linter.unusedVariables false
open Go.ChangeShapes Go.WideShapes Go.ChangeAt Go.RowKit
open Pl
structure Kid {α:Type}(K:World->Nat->α->Prop)(I:α->Nat->Prop):Prop where
 heap:∀ (w w':World) (base:Nat) (q:α),K w base q->w.heap.size<=w'.heap.size->(∀ g,I q g->w'.heap[g]?=w.heap[g]?)->K w' base q
 lt:∀ (w:World) (base:Nat) (q:α),K w base q->∀ g,I q g->base<=g/\g<w.heap.size
def Gd {α:Type}(I:α->Nat->Prop)(v:Value)(rs:List α)(g:Nat):Prop:=v.ownBlock=some g \/ ∃ q∈rs,I q g
structure U1 {α:Type}(T:TypeId)(size:Nat)(cells:α->List Value)(K:World->Nat->α->Prop)(I:α->Nat->Prop)(w:World)(base:Nat)(v:Value)(rs:List α):Prop where
 own:w.ownsRow base T size v rs.length (rs.flatMap cells)
 kid:∀ q∈rs,K w base q
 head:∀ q∈rs,∀ g,I q g->v.ownBlock≠some g
 two:∀ (x y:Nat) (hx:x<rs.length) (hy:y<rs.length),x≠y->∀ g,I rs[x] g->¬ I rs[y] g
section
variable  {α:Type}{T:TypeId}{size:Nat}{cells:α->List Value}{K:World->Nat->α->Prop}{I:α->Nat->Prop}{w w':World}{base:Nat}{v:Value}{rs:List α}
theorem U1.lt (kd:Kid K I)(h:U1 T size cells K I w base v rs){g:Nat}(hg:Gd I v rs g):base<=g/\g<w.heap.size:=by
 rcases hg with hg|⟨q,hq,hg⟩
 ·exact h.own.lt g hg
 exact kd.lt w base q (h.kid q hq) g hg
theorem U1.heap (kd:Kid K I)(h:U1 T size cells K I w base v rs)(hs:w.heap.size<=w'.heap.size)(hh:∀ g,Gd I v rs g->w'.heap[g]?=w.heap[g]?):U1 T size cells K I w' base v rs where
 own:=jG h.own fun g hg=>hh g (.inl hg)
 kid q hq:=kd.heap w w' base q (h.kid q hq) hs fun g hg=>hh g (.inr ⟨q,hq,hg⟩)
 head:=h.head
 two:=h.two
theorem U1.below (kd:Kid K I)(h:U1 T size cells K I w base v rs)(hb:ag w w'):U1 T size cells K I w' base v rs :=
 h.heap kd hb.size fun g hg=>hb.block g (h.lt kd hg).2
theorem OE (w:af)(base:Nat):U1 T size cells K I w base (.slice none 0 0) [] :=
 ⟨World.ownsRow_nil _ _ _ _,fun q hq=>(by cases hq),fun q hq=>(by cases hq),fun x y hx=>absurd hx (by simp)⟩
theorem Gf {rs:List α}{q:α}(h:∀ (x y:Nat) (hx:x<rs.length) (hy:y<rs.length),x≠y->∀ g,I rs[x] g->¬ I rs[y] g)(hq:∀ p∈rs,∀ g,I p g->¬ I q g) :
  ∀ (x y:Nat) (hx:x<(rs++[q]).length) (hy:y<(rs++[q]).length),x≠y->∀ g,I (rs++[q])[x] g->¬ I (rs++[q])[y] g:=by
 intro x y hx hy hxy g h1 h2;rw [Ul,List.length_singleton]at hx hy;by_cases ex:x<rs.length
 ·rw [Ux ex]at h1;by_cases ey:y<rs.length
  ·rw [Ux ey]at h2;exact h x y ex ey hxy g h1 h2
  have:y=rs.length:=by omega
  subst this;rw [UD (Ue _)]at h2;simp at h2;exact hq _ (Ud ex) g h1 h2
 have:x=rs.length:=by omega
 subst this;rw [UD (Ue _)]at h1;simp at h1;have ey:y<rs.length:=by omega
 rw [Ux ey]at h2;exact hq _ (Ud ey) g h2 h1
theorem OG {rs:List α}{q:α}(h:∀ (x y:Nat) (hx:x<(rs++[q]).length) (hy:y<(rs++[q]).length),x≠y->∀ g,I (rs++[q])[x] g->¬ I (rs++[q])[y] g) :
  (∀ (x y:Nat) (hx:x<rs.length) (hy:y<rs.length),x≠y->∀ g,I rs[x] g->¬ I rs[y] g)/\∀ p∈rs,∀ g,I p g->¬ I q g:=by
 refine ⟨fun x y hx hy hxy g h1 h2=>?_,fun p hp g h1 h2=>?_⟩
 ·exact h x y (by simp;omega) (by simp;omega) hxy g (by rw [Ux hx];exact h1) (by rw [Ux hy];exact h2)
 obtain ⟨x,hx,rfl⟩:=UE hp;exact h x rs.length (by simp;omega) (by simp) (by omega) g (by rw [Ux hx];exact h1) (by rw [UD (Ue _)];simpa using h2)
theorem U1.snoc (kd:Kid K I)(h:U1 T size cells K I w base v rs){q:α}{v':Value}(hown:w'.ownsRow base T size v' (rs.length+1) (rs.flatMap cells++cells q))(hg:w.grownBy w' v.ownBlock)(hat:v'.ownBlock=v.ownBlock \/ ∃ g,v'.ownBlock=some g/\w.heap.size<=g)
  (hq:K w base q) (hv:∀ g,I q g->v.ownBlock≠some g) (hr:∀ p∈rs,∀ g,I p g->¬ I q g):U1 T size cells K I w' base v' (rs++[q]):=by
 have keep:∀ (p:α),K w base p->(∀ g,I p g->v.ownBlock≠some g)->K w' base p:=fun p hp hn=>kd.heap w w' base p hp hg.size fun g hi=>hg.block g (kd.lt w base p hp g hi).2 (fun e=>hn g hi e.symm);have apart:∀ (p:α),K w base p->(∀ g,I p g->v.ownBlock≠some g)->∀ g,I p g->v'.ownBlock≠some g:=fun p hp hn g hi=>by
  rcases hat with e|⟨g',e,hge⟩
  ·rw [e];exact hn g hi
  rw [e];intro e2;injection e2 with e2;have:=(kd.lt w base p hp g hi).2;omega
 refine ⟨by simpa using hown,fun p hp=>?_,fun p hp=>?_,Gf h.two hr⟩
 ·rcases Uq.1 hp with hp|hp
  ·exact keep p (h.kid p hp) (h.head p hp)
  rw [Uo]at hp;subst hp;exact keep _ hq hv
 rcases Uq.1 hp with hp|hp
 ·exact apart p (h.kid p hp) (h.head p hp)
 rw [Uo]at hp;subst hp;exact apart _ hq hv
theorem U1.last (kd:Kid K I){xs:List α}{q q':α}{b n cap j:Nat}{u:Value}{w1:af}{row:Option Nat}(h:U1 T size cells K I w base (.slice (some ⟨b,0,none⟩) n cap) (xs++[q]))(hn:n=xs.length+1)
  (hg:w.grownBy w1 row) (hrow:∀ r,row=some r->I q r) (hq':K w1 base q') (hI:∀ g,I q' g->I q g\/(g≠b/\∀ p∈xs,¬ I p g)) (hset:((xs++[q]).flatMap cells).set j u=(xs++[q']).flatMap cells) :
  U1 T size cells K I (w1.setCell ⟨b,j,none⟩ u) base (.slice (some ⟨b,0,none⟩) n cap) (xs++[q']):=by
 have hbl:b<w.heap.size:=(h.own.lt b rfl).2;have hq:=h.kid q (by simp);have Zf:∀ g,I q g->g≠b:=fun g hi e=>h.head q (by simp) g hi (by rw [e];rfl);have hq'b:∀ g,I q' g->g≠b:=fun g hi e=>by
  rcases hI g hi with h2|h2
  ·exact Zf g h2 e
  exact h2.1 e
 have hb1:w1.heap[b]?=w.heap[b]?:=hg.block b hbl (fun e=>Zf b (hrow b e.symm) rfl);have YV:w1.ownsRow base T size (.slice (some ⟨b,0,none⟩) n cap) (xs++[q]).length ((xs++[q]).flatMap cells):=jG h.own fun g hgo=>by
  have e:b=g:=by simpa [Value.ownBlock] using hgo
  rw [<-e];exact hb1
 have hlen:(xs++[q]).length=n:=by simp [hn]
 rw [hlen]at YV;obtain ⟨XR,hg2⟩:=YV.stored j u;rw [hset]at XR;obtain ⟨ht1,ht2⟩:=OG h.two;have h2s:∀ g,g≠b->(w1.setCell ⟨b,j,none⟩ u).heap[g]?=w1.heap[g]?:=fun g hne=>Below.heap_setCell w1 _ u g hne;refine ⟨by simpa [hn] using XR,fun p hp=>?_,fun p hp g hi=>?_,Gf ht1 fun p hp g hi hi'=>?_⟩
 ·rcases Uq.1 hp with hp|hp
  ·have hkp:=h.kid p (by simp [hp]);refine kd.heap w _ base p hkp (Uk hg.size hg2.size) fun g hi=>?_;have hl:=(kd.lt w base p hkp g hi).2;rw [h2s g (fun e=>h.head p (by simp [hp]) g hi (by rw [e];rfl))];exact hg.block g hl (fun e=>ht2 p hp g hi (hrow g e.symm))
  rw [Uo]at hp;subst hp;exact kd.heap w1 _ base _ hq' hg2.size fun g hi=>h2s g (hq'b g hi)
 ·intro e;have e:b=g:=by simpa [Value.ownBlock] using e
  rcases Uq.1 hp with hp|hp
  ·exact h.head p (by simp [hp]) g hi (by rw [<-e];rfl)
  rw [Uo]at hp;subst hp;exact hq'b g hi e.symm
 rcases hI g hi' with h2|h2
 ·exact ht2 p hp g hi h2
 exact h2.2 p hp hi
end
structure NodM (w:World)(base:Nat)(v:Value)(qs:List ER):Prop where
 own:w.ownsRow base 39 5 v qs.length (gZ qs)
 zA:∀ q∈qs,q.e.allow≠[]->∃ g,q.adA=some ⟨g,0,none⟩
 zK:∀ q∈qs,q.e.kids≠[]->∃ g,q.adK=some ⟨g,0,none⟩
 ok:∀ q∈qs,q.ok w
 lie:∀ q∈qs,∀ g,oM q g->base<=g/\g<w.heap.size/\gY w g/\v.ownBlock≠some g
 one:∀ q∈qs,∀ g,bA q g->¬ bK q g
 two:∀ (x y:Nat) (hx:x<qs.length) (hy:y<qs.length),x≠y->∀ g,oM qs[x] g->¬ oM qs[y] g
 cA:∀ q∈qs,q.e.allow.length<=q.capA
theorem NodM.mono {w:af}{base base':Nat}{v:Value}{qs:List ER}(h:NodM w base v qs)(hb:base'<=base):NodM w base' v qs :=
 ⟨⟨h.own.1,by
  rcases h.own.2 with hl|⟨g,cap,cur,e,h1,h2⟩
  ·exact .inl hl
  exact .inr ⟨g,cap,cur,e,Uk hb h1,h2⟩⟩,h.zA,h.zK,h.ok,fun q hq g hg=>⟨Uk hb (h.lie q hq g hg).1,(h.lie q hq g hg).2⟩,h.one,h.two,h.cA⟩
def RR.vs (q:RR):Value:=.slice q.ad q.rows.length q.cap
def TR.vs (q:TR):Value:=.slice q.ad q.rows.length q.cap
def kR (w:World)(base:Nat)(q:RR):Prop:=NodM w base q.vs q.rows
def iR (q:RR):Nat->Prop:=Gd oM q.vs q.rows
theorem IY:Kid kR iR where
 heap w w' base q h hs hh:={
  own:=jG h.own fun g hg=>hh g (.inl hg)
  zA:=h.zA
  zK:=h.zK
  ok:=fun x hx=>rA (h.ok x hx) hs (h.zA x hx) (h.zK x hx) fun g hg=>hh g (.inr ⟨x,hx,hg⟩)
  lie:=fun x hx g hg=>by
   obtain ⟨a1,a2,a3,a4⟩:=h.lie x hx g hg;exact ⟨a1,Uc a2 hs,di a3 (hh g (.inr ⟨x,hx,hg⟩)),a4⟩
  one:=h.one
  two:=h.two
  cA:=h.cA }
 lt w base q h g hg:=by
  rcases hg with hg|⟨x,hx,hg⟩
  ·exact h.own.lt g hg
  exact ⟨(h.lie x hx g hg).1,(h.lie x hx g hg).2.1⟩
def RR.cells (q:RR):List Value:=[.string q.name,q.vs]
def TR.cells (q:TR):List Value:=[.string q.name,q.vs]
abbrev BL:=U1 147 2 RR.cells kR iR
def kT (w:World)(base:Nat)(q:TR):Prop:=BL w base q.vs q.rows
def iT (q:TR):Nat->Prop:=Gd iR q.vs q.rows
theorem mJ:Kid kT iT where
 heap w w' base q h hs hh:=U1.heap IY h hs hh
 lt w base q h g hg:=U1.lt IY h hg
abbrev iN:=U1 127 2 TR.cells kT iT
theorem rH {α:Type}{cells:α->List Value}(h2:∀ q,(cells q).length=2):∀ (rs:List α) (i:Nat) (h:i<rs.length) (j:Nat),j<2->(rs.flatMap cells)[i*2+j]?=(cells rs[i])[j]?
 | [],i,h,_,_=>by simp at h
 | r::rs,0,_,j,hj=>by
  simp only [List.flatMap_cons,Nat.zero_mul,Uz,List.getElem_cons_zero];rw [List.getElem?_append_left (by rw [h2];exact hj)]
 | r::rs,i+1,h,j,hj=>by
  have:=rH h2 rs i (by simpa using h) j hj;simp only [List.flatMap_cons,List.getElem_cons_succ];rw [List.getElem?_append_right (by rw [h2];omega),h2,<-this];congr 1;omega
theorem pE {α:Type}{cells:α->List Value}(h2:∀ q,(cells q).length=2):∀ (rs:List α),(rs.flatMap cells).length=rs.length*2
 | []=>rfl
 | r::rs=>by simp only [List.flatMap_cons,Ul,h2,pE h2 rs,List.length_cons];omega
theorem SE {w:af}{base:Nat}{q:TR}(h:kT w base q):Ni w q.ad q.rows:=by
 by_cases hz:q.rows=[]
 ·exact .inl hz
 rcases h.own.2 with ⟨-,h0⟩|⟨g,cap,cur,e,-⟩
 ·exact absurd (Uu.1 h0) hz
 have h3:=h.own;unfold TR.vs at e h3;injection e with e1 e2 e3;rw [e1]at h3;refine .inr ⟨g,0,e1,(h3.lt g rfl).2,fun i hi=>?_,fun r hr=>?_⟩
 ·have hl:(q.rows.flatMap RR.cells).length=q.rows.length*2:=pE (fun _=>rfl) _;have key:∀ j,j<2->w.cell? ⟨g,0+i*2+j,none⟩=(RR.cells q.rows[i])[j]?:=fun j hj=>by
   rw [h3.cellAt (0+i*2+j) (by omega),<-rH (fun _=>rfl) q.rows i hi j hj,Uz]
  exact ⟨key 0 (by omega),key 1 (by omega)⟩
 have hk:=h.kid r hr;obtain ⟨ad,cap',e4,hsl⟩:=RJ hk.own rfl hk.ok;unfold RR.vs at e4;injection e4 with e5 e6 e7;show iC w r.ad r.rows;rw [e5];exact hsl
theorem OH {w:af}{base size n cap:Nat}{e:TypeId}{ad:Option Addr}{xs:List Value}(h:w.ownsRow base e size (.slice ad n cap) n xs):n<=cap:=by
 rcases h.2 with ⟨e1,h0⟩|⟨g,cap',cur,e1,-,-,hnc,-⟩
 ·injection e1 with _ e2 e3;omega
 injection e1 with _ e2 e3;omega
theorem iN.read {w:af}{base:Nat}{v:Value}{rs:List TR}(h:iN w base v rs):∃ ad cap,v=.slice ad rs.length cap/\kX w ad rs/\∀ r∈rs,r.caps:=by
 have hc:∀ r∈rs,r.caps:=fun r hr=>⟨OH (h.kid r hr).own,fun q hq=>⟨OH ((h.kid r hr).kid q hq).own,((h.kid r hr).kid q hq).cA⟩⟩;rcases h.own.2 with ⟨rfl,h0⟩|⟨g,cap,cur,rfl,-⟩
 ·exact ⟨none,0,by rw [h0],.inl (Uu.1 h0),hc⟩
 have h3:=h.own;refine ⟨some ⟨g,0,none⟩,cap,rfl,.inr ⟨g,0,rfl,(h3.lt g rfl).2,fun i hi=>?_,fun r hr=>SE (h.kid r hr)⟩,hc⟩;have hl:(rs.flatMap TR.cells).length=rs.length*2:=pE (fun _=>rfl) _;have key:∀ j,j<2->w.cell? ⟨g,0+i*2+j,none⟩=(TR.cells rs[i])[j]?:=fun j hj=>by
  rw [h3.cellAt (0+i*2+j) (by omega),<-rH (fun _=>rfl) rs i hi j hj,Uz]
 exact ⟨key 0 (by omega),key 1 (by omega)⟩
section
variable  {α:Type}{T:TypeId}{size:Nat}{cells:α->List Value}{K:World->Nat->α->Prop}{I:α->Nat->Prop}{w w':World}{base:Nat}{v:Value}
theorem Ai {q q':α}{rs:List α}(hI:∀ g,I q' g->I q g)(h:∀ (x y:Nat) (hx:x<(q::rs).length) (hy:y<(q::rs).length),x≠y->∀ g,I (q::rs)[x] g->¬ I (q::rs)[y] g) :
  ∀ (x y:Nat) (hx:x<(q'::rs).length) (hy:y<(q'::rs).length),x≠y->∀ g,I (q'::rs)[x] g->¬ I (q'::rs)[y] g:=by
 intro x y hx hy hxy g h1 h2;cases x with
 | zero =>
  cases y with
  | zero=>exact hxy rfl
  | succ y=>exact h 0 (y+1) (by simp) (by simpa using hy) (by omega) g (hI g h1) h2
 | succ x =>
  cases y with
  | zero=>exact h (x+1) 0 (by simpa using hx) (by simp) (by omega) g h1 (hI g h2)
  | succ y=>exact h (x+1) (y+1) (by simpa using hx) (by simpa using hy) hxy g h1 h2
theorem U1.first (kd:Kid K I){q q':α}{rs:List α}{b n cap j:Nat}{u:Value}(h:U1 T size cells K I w base (.slice (some ⟨b,0,none⟩) n cap) (q::rs))(hn:n=rs.length+1)
  (hq':∀ w,K w base q->K w base q') (hI:∀ g,I q' g->I q g) (hset:((q::rs).flatMap cells).set j u=(q'::rs).flatMap cells) :
  U1 T size cells K I (w.setCell ⟨b,j,none⟩ u) base (.slice (some ⟨b,0,none⟩) n cap) (q'::rs):=by
 have YV:w.ownsRow base T size (.slice (some ⟨b,0,none⟩) n cap) n ((q::rs).flatMap cells):=by have:=h.own;rwa [show (q::rs).length=n by simp [hn]]at this
 obtain ⟨XR,hg2⟩:=YV.stored j u;rw [hset]at XR;have hne:∀ p∈q::rs,∀ g,I p g->g≠b:=fun p hp g hi e=>h.head p hp g hi (by rw [e];rfl);have keep:∀ p∈q::rs,K (w.setCell ⟨b,j,none⟩ u) base p:=fun p hp=>kd.heap w _ base p (h.kid p hp) hg2.size fun g hi=>Below.heap_setCell w _ u g (hne p hp g hi);refine ⟨by simpa [hn] using XR,fun p hp=>?_,fun p hp g hi=>?_,Ai hI h.two⟩
 ·rcases List.mem_cons.1 hp with rfl|hp
  ·exact hq' _ (keep q (by simp))
  exact keep p (by simp [hp])
 rcases List.mem_cons.1 hp with rfl|hp
 ·exact h.head q (by simp) g (hI g hi)
 exact h.head p (by simp [hp]) g hi
theorem U1.firstIn (kd:Kid K I){q q':α}{rs:List α}(h:U1 T size cells K I w base v (q::rs))(hs:w.heap.size<=w'.heap.size)(hh:∀ g,¬ I q g->w'.heap[g]?=w.heap[g]?)(hc:cells q'=cells q)(hk:K w' base q')(hI:∀ g,I q' g->I q g) :
  U1 T size cells K I w' base v (q'::rs):=by
 refine ⟨?_,fun p hp=>?_,fun p hp g hi=>?_,Ai hI h.two⟩
 ·have h1:=jG (w':=w') h.own fun g hg=>hh g fun hi=>h.head q (by simp) g hi hg;simpa [List.flatMap_cons,hc] using h1
 ·rcases List.mem_cons.1 hp with rfl|hp
  ·exact hk
  refine kd.heap w w' base p (h.kid p (by simp [hp])) hs fun g hi=>hh g fun hq=>?_;obtain ⟨i,hi2,rfl⟩:=UE hp;exact h.two 0 (i+1) (by simp) (by simp;omega) (by omega) g hq hi
 rcases List.mem_cons.1 hp with rfl|hp
 ·exact h.head q (by simp) g (hI g hi)
 exact h.head p (by simp [hp]) g hi
end
def ER.asK (x:ER)(k:Int):ER:={ x with e:={ x.e with kind:=k } }
theorem NodM.kind {w:af}{base b n cap:Nat}{x:ER}{xs:List ER}(k:Int)(h:NodM w base (.slice (some ⟨b,0,none⟩) n cap) (x::xs))(hn:n=xs.length+1):NodM (w.setCell ⟨b,0,none⟩ (.int .i64 k)) base (.slice (some ⟨b,0,none⟩) n cap) (x.asK k::xs):=by
 have YV:w.ownsRow base 39 5 (.slice (some ⟨b,0,none⟩) n cap) n (gZ (x::xs)):=by have:=h.own;rwa [show (x::xs).length=n by simp [hn]]at this
 obtain ⟨XR,hg2⟩:=YV.stored 0 (.int .i64 k);have hset:(gZ (x::xs)).set 0 (.int .i64 k)=gZ (x.asK k::xs):=by simp [gZ,ER.row,ER.asK]
 rw [hset]at XR;have hb:∀ q∈x::xs,∀ g,oM q g->g≠b:=fun q hq g hg e=>(h.lie q hq g hg).2.2.2 (by rw [e];rfl);have hsame:∀ g,g≠b->(w.setCell ⟨b,0,none⟩ (.int .i64 k)).heap[g]?=w.heap[g]?:=fun g hg=>Below.heap_setCell w _ _ g hg;have hall:∀ {P:ER->Prop},(∀ q∈x::xs,P q)->(P x->P (x.asK k))->∀ q∈x.asK k::xs,P q:=fun hP hx q hq=>by
  rcases List.mem_cons.1 hq with rfl|hq
  ·exact hx (hP x (by simp))
  exact hP q (by simp [hq])
 refine ⟨by simpa [hn] using XR,hall h.zA id,hall h.zK id,hall (P:=fun q=>q.ok _) (fun q hq=>rA (h.ok q hq) hg2.size (h.zA q hq) (h.zK q hq) fun g hg=>hsame g (hb q hq g hg)) id,hall (P:=fun q=>∀ g,oM q g->base<=g/\g<(w.setCell ⟨b,0,none⟩ (.int .i64 k)).heap.size/\gY (w.setCell ⟨b,0,none⟩ (.int .i64 k)) g/\_) (fun q hq g hg=>by
  obtain ⟨a1,a2,a3,a4⟩:=h.lie q hq g hg;exact ⟨a1,Uc a2 hg2.size,di a3 (hsame g (hb q hq g hg)),a4⟩) id,hall h.one id,?_,hall h.cA id⟩
 exact Ai (I:=oM) (q:=x) (q':=x.asK k) (fun g hg=>hg) h.two
theorem iN.named {w:af}{base b n cap:Nat}{t:TR}{ts:List TR}(nm:bI)(h:iN w base (.slice (some ⟨b,0,none⟩) n cap) (t::ts))(hn:n=ts.length+1):iN (w.setCell ⟨b,0,none⟩ (.string nm)) base (.slice (some ⟨b,0,none⟩) n cap) (({ t with name:=nm }:TR)::ts) :=
 U1.first mJ h hn (fun w hk=>hk) (fun g hg=>hg) (by simp [TR.cells,TR.vs])
def TR.asK (t:TR)(q:RR)(qs:List RR)(x:ER)(xs:List ER)(k:Int):TR:={ t with rows:={ q with rows:=x.asK k::xs }::qs }
theorem iN.kind {w:af}{base b:Nat}{v:Value}{t:TR}{ts:List TR}{q:RR}{qs:List RR}{x:ER}{xs:List ER}(k:Int)(h:iN w base v (t::ts))(ht:t.rows=q::qs)(hq:q.rows=x::xs)(hb:q.ad=some ⟨b,0,none⟩) :
  iN (w.setCell ⟨b,0,none⟩ (.int .i64 k)) base v (t.asK q qs x xs k::ts):=by
 have hkt:=h.kid t (by simp);have hR:BL w base t.vs (q::qs):=by have:=hkt;unfold kT at this;rwa [ht]at this
 have hkq:=hR.kid q (by simp);have hN:NodM w base q.vs (x::xs):=by have:=hkq;unfold kR at this;rwa [hq]at this
 have hvq:q.vs=.slice (some ⟨b,0,none⟩) (xs.length+1) q.cap:=by unfold RR.vs;rw [hb,hq];rfl
 rw [hvq]at hN;have hN2:=hN.kind k rfl;have hsz:w.heap.size<=(w.setCell ⟨b,0,none⟩ (.int .i64 k)).heap.size:=by simp
 have hsame:∀ g,g≠b->(w.setCell ⟨b,0,none⟩ (.int .i64 k)).heap[g]?=w.heap[g]?:=fun g hg=>Below.heap_setCell w _ _ g hg;have hib:iR q b:=.inl (by rw [hvq];rfl);have hvq2:({ q with rows:=x.asK k::xs }:RR).vs=q.vs:=by unfold RR.vs;rw [hq];rfl
 have Zj:∀ g,iR { q with rows:=x.asK k::xs } g->iR q g:=fun g hg=>by
  rcases hg with hg|⟨y,hy,hg⟩
  ·exact .inl (by rw [<-hvq2];exact hg)
  rcases List.mem_cons.1 hy with rfl|hy
  ·exact .inr ⟨x,by rw [hq];simp,hg⟩
  exact .inr ⟨y,by rw [hq];simp [hy],hg⟩
 have hR2:BL (w.setCell ⟨b,0,none⟩ (.int .i64 k)) base t.vs ({ q with rows:=x.asK k::xs }::qs):=U1.firstIn IY hR hsz (fun g hg=>hsame g fun e=>hg (by rw [e];exact hib)) (by unfold RR.cells;rw [hvq2]) (by show NodM _ _ _ _;rw [hvq2,hvq];exact hN2) Zj;have hvt:(t.asK q qs x xs k).vs=t.vs:=by unfold TR.vs TR.asK;rw [ht];rfl
 have hit:iT t b:=.inr ⟨q,by rw [ht];simp,hib⟩;refine U1.firstIn mJ h hsz (fun g hg=>hsame g fun e=>hg (by rw [e];exact hit)) (by unfold TR.cells;rw [hvt];rfl) (by show BL _ _ _ _;rw [hvt];exact hR2) fun g hg=>?_;rcases hg with hg|⟨y,hy,hg⟩
 ·exact .inl (by rw [<-hvt];exact hg)
 rcases List.mem_cons.1 hy with rfl|hy
 ·exact .inr ⟨q,by rw [ht];simp,Zj g hg⟩
 exact .inr ⟨y,by rw [ht];simp [hy],hg⟩
open Go.Maps
set_option maxRecDepth 8000 in
theorem LD (ad:Option Addr)(cap:Nat)(ts:List Tp)(t:Tp)(w:af)(hlen:ts.length<=1048576)(hs:Sl w ad ts) :
  Calls prog 128 #[.slice ad ts.length cap,.agg #[.string t.a,.string t.b,.string t.r,.string t.c,.string t.d,.string t.s]] w fun e w'=>e=.returned (.bool (wO ts t))/\ag w w':=by
 have HS:=aA hs;clear hs;obtain ⟨W0,hW0⟩:∃ W0,W0=w.alloc (.cells #[.string t.a,.string t.b,.string t.r,.string t.c,.string t.d,.string t.s] 46):=⟨_,rfl⟩;have HB0:=rV hW0;have HX0:Hid (W0.cell? ⟨w.heap.size,0,none⟩=some (.string t.a)/\W0.cell? ⟨w.heap.size,1,none⟩=some (.string t.b)/\W0.cell? ⟨w.heap.size,2,none⟩=some (.string t.r)/\W0.cell? ⟨w.heap.size,3,none⟩=some (.string t.c)/\W0.cell? ⟨w.heap.size,4,none⟩=some (.string t.d)/\W0.cell? ⟨w.heap.size,5,none⟩=some (.string t.s)/\w.heap.size<W0.heap.size):=by show _/\_;rw [hW0];refine ⟨?_,?_,?_,?_,?_,?_,?_⟩ <;> simp
 go_enter func128,ntmps128;go_wp2;rw [<-hW0];clear hW0;go_loopw [5] (fun i wr=>∃ k:Nat,k<=ts.length/\i=.int .i64 k/\Hid (wO (ts.drop k) t=wO ts t)/\Hid (ag W0 wr)) (fun i _=>ts.length-(intOf i).toNat);case atStart=>exact ⟨0,Ui _,rfl,rfl,Uf _ _⟩
 obtain ⟨k,hk,rfl,HP,HB⟩:=hrel;have UU:Hid (ag w wr):=HB0.out.trans (HB.out.mono HB0.out.size);by_cases hlt:k<ts.length
 ·rcases HS.out.below UU.out with hnil|⟨b,off,rfl,hb,hr⟩
  ·rw [hnil]at hlt;simp at hlt
  obtain ⟨t0,t1,t2,t3,t4,t5⟩:=hr k hlt;have x0:=mK HB.out HX0.out.2.2.2.2.2.2 HX0.out.1;have x1:=mK HB.out HX0.out.2.2.2.2.2.2 HX0.out.2.1;have x2:=mK HB.out HX0.out.2.2.2.2.2.2 HX0.out.2.2.1;have x3:=mK HB.out HX0.out.2.2.2.2.2.2 HX0.out.2.2.2.1;have x4:=mK HB.out HX0.out.2.2.2.2.2.2 HX0.out.2.2.2.2.1;have x5:=mK HB.out HX0.out.2.2.2.2.2.2 HX0.out.2.2.2.2.2.1;have hk1:=bF k;have hk2:(k:Int)<(ts.length:Int):=by omega
  have HD:Hid (wO ts t=(Lv ts[k] t || wO (ts.drop (k+1)) t)):=by show _=_;rw [<-HP.out];exact Lx hlt
  clear hr;cases hq:Lv ts[k] t;case true=>
   have heq:=OA ts[k] t hq;have HN:Hid (wO ts t=true):=by show _=_;rw [HD.out,hq];rfl
   clear hq;go_wp2_with fail;go_region_held3 (fun w'=>w'.cell? ⟨b,off+k*6,none⟩=some (.string ts[k].a)/\w'.cell? ⟨b,off+k*6+1,none⟩=some (.string ts[k].b)/\w'.cell? ⟨b,off+k*6+2,none⟩=some (.string ts[k].r)/\w'.cell? ⟨b,off+k*6+3,none⟩=some (.string ts[k].c)/\w'.cell? ⟨b,off+k*6+4,none⟩=some (.string ts[k].d)/\w'.cell? ⟨b,off+k*6+5,none⟩=some (.string ts[k].s)/\w'.cell? ⟨w.heap.size,0,none⟩=some (.string t.a)/\w'.cell? ⟨w.heap.size,1,none⟩=some (.string t.b)/\w'.cell? ⟨w.heap.size,2,none⟩=some (.string t.r)/\w'.cell? ⟨w.heap.size,3,none⟩=some (.string t.c)/\w'.cell? ⟨w.heap.size,4,none⟩=some (.string t.d)/\w'.cell? ⟨w.heap.size,5,none⟩=some (.string t.s)/\ag wr w') (first|assumption|exact ⟨t0,t1,t2,t3,t4,t5,x0,x1,x2,x3,x4,x5,(Uf _ _).drew⟩) (fail);rename_i hH;have HG:Hid (ag wr _):=hH.2.2.2.2.2.2.2.2.2.2.2.2;clear hH t0 t1 t2 t3 t4 t5 x0 x1 x2 x3 x4 x5 heq;go_wp2;go_ret;exact ⟨by rw [HN.out];rfl,UU.out.trans (HG.out.mono UU.out.size)⟩
  have heq:=OA ts[k] t hq;have UW:Hid (wO (ts.drop (k+1)) t=wO ts t):=by show _=_;rw [HD.out,hq];rfl
  clear hq;go_wp2_with fail;go_region_held3 (fun w'=>w'.cell? ⟨b,off+k*6,none⟩=some (.string ts[k].a)/\w'.cell? ⟨b,off+k*6+1,none⟩=some (.string ts[k].b)/\w'.cell? ⟨b,off+k*6+2,none⟩=some (.string ts[k].r)/\w'.cell? ⟨b,off+k*6+3,none⟩=some (.string ts[k].c)/\w'.cell? ⟨b,off+k*6+4,none⟩=some (.string ts[k].d)/\w'.cell? ⟨b,off+k*6+5,none⟩=some (.string ts[k].s)/\w'.cell? ⟨w.heap.size,0,none⟩=some (.string t.a)/\w'.cell? ⟨w.heap.size,1,none⟩=some (.string t.b)/\w'.cell? ⟨w.heap.size,2,none⟩=some (.string t.r)/\w'.cell? ⟨w.heap.size,3,none⟩=some (.string t.c)/\w'.cell? ⟨w.heap.size,4,none⟩=some (.string t.d)/\w'.cell? ⟨w.heap.size,5,none⟩=some (.string t.s)/\ag wr w') (first|assumption|exact ⟨t0,t1,t2,t3,t4,t5,x0,x1,x2,x3,x4,x5,(Uf _ _).drew⟩) (fail);rename_i hH;have HG:Hid (ag W0 _):=HB.out.trans (hH.2.2.2.2.2.2.2.2.2.2.2.2.mono HB.out.size);clear hH t0 t1 t2 t3 t4 t5 x0 x1 x2 x3 x4 x5 heq;go_wp2;go_roundw;case rel=>exact ⟨k+1,by omega,by go_num,UW,HG⟩
  simp [intOf] <;> omega
 have HN:Hid (wO ts t=false):=by show _=_;rw [<-HP.out,List.drop_of_length_le (by omega)];rfl
 go_wp2;go_ret;exact ⟨by rw [HN.out];rfl,UU.out⟩
open Go.Sort
theorem Gg (ad:Option Addr)(cap:Nat)(xs:List Al)(w:af)(hlen:xs.length<=1048576)(hcap:xs.length<=cap)(hf:∀ a∈xs,a.fits)(hs:jM w ad xs) :
  Calls prog 252 #[.slice ad xs.length cap] w fun e w'=>e=.returned (.bool (ed xs))/\ag w w':=by
 have HS:=aA hs;have HF:=aA hf;clear hs hf;by_cases hl:1<=xs.length/\xs.length<=6
 ·obtain ⟨hl1,hl2⟩:=hl;go_enter func252,ntmps252;go_wp2_with fail;go_loopw [15] (fun i wr=>∃ k:Nat,k<=xs.length/\i=.int .i64 k/\Hid (DU xs k=true)/\ag w wr) (fun i _=>xs.length-(intOf i).toNat);case atStart=>exact ⟨0,Ui _,rfl,rfl,Uf _ _⟩
  obtain ⟨k,hk,rfl,HU,hB⟩:=hrel;by_cases hlt:k<xs.length
  ·rcases HS.out.below hB with rfl|⟨b,off,rfl,hb,hr⟩
   ·simp at hlt
   obtain ⟨t0,t1⟩:=hr k hlt;obtain ⟨z0,z1⟩:=HF.out xs[k] (Ud hlt);have hk1:=bF k;have hk2:(k:Int)<=(cap:Int):=by omega
   obtain ⟨W1,hW1⟩:∃ W1,W1=wr.alloc (.cells #[.string xs[k].t,.string xs[k].s] 43):=⟨_,rfl⟩;have hal:ag wr W1:=by rw [hW1];exact (Uf _ _).alloc (Ue _) _
   have hBW1:Below w.heap.size wr W1:=hal.mono hB.size;have hWs:w.heap.size<=W1.heap.size:=Uk hB.size hal.size;have hgl:wr.heap.size<W1.heap.size:=by rw [hW1];simp
   have g0:W1.cell? ⟨wr.heap.size,0,none⟩=some (.string xs[k].t):=by rw [hW1];simp
   have g1:W1.cell? ⟨wr.heap.size,1,none⟩=some (.string xs[k].s):=by rw [hW1];simp
   have HS1:Hid (jM W1 (some ⟨b,off,none⟩) xs):=(HS.out.below hB).below hal;clear hr;go_wp2_with fail;rw [<-hW1];clear hW1 t0 t1 hal;have p0:=cell_regrown g0;have p1:=cell_regrown g1;have Vy:Hid (∀ d os,ag w (grow (redrawn W1 d) os)):=fun d os=>hB.trans (hBW1.trans ((below_regrown W1 d os).mono hWs));have Vo:=qc (jQ (W:=W1) (fun W'=>aM xs[k].t W' z0));have HCS:=qc (jQ (W:=W1) (fun W'=>H5 xs[k].s W' z1))
   have VT:Hid (∀ d os,Calls prog 142 #[.slice (some ⟨b,off,none⟩) k cap,.agg #[.string xs[k].t,.string xs[k].s]] (grow (redrawn W1 d) os) fun e w''=>e=.returned (.bool (dH xs k xs[k]))/\∃ p:Regrown,w''=grow (redrawn W1 p.d) p.os) :=
    bP fun W' hb=>uO (some ⟨b,off,none⟩) k cap xs xs[k] _ hk hlen (HS1.out.below hb)
   cases hn:aR xs[k].t;case false=>
    have HN:Hid (DU xs xs.length=false):=oN xs k hlt (by simp [Fq,hn]) _ hlt;rw [hn]at Vo;refine wp_region_quiet_below (by kernel_rfl) (by kernel_rfl) ?_
    repeat (go_big_quiet_step (exact Vo.out _ _))
    refine wpQuiet_nil ?_;rintro _ ⟨⟨dq,osq⟩,rfl⟩;go_wp2;go_ret;exact ⟨ah (by simp [ed,HN.out]),Vy.out dq osq⟩
   rw [hn]at Vo;cases hsb:uu xs[k].s;case false=>
    have HN:Hid (DU xs xs.length=false):=oN xs k hlt (by simp [Fq,hn,hsb]) _ hlt;rw [hsb]at HCS;refine wp_region_quiet_below (by kernel_rfl) (by kernel_rfl) ?_
    repeat (go_big_quiet_step (first|exact Vo.out _ _|exact HCS.out _ _))
    refine wpQuiet_nil ?_;rintro _ ⟨⟨dq,osq⟩,rfl⟩;go_wp2;go_ret;exact ⟨ah (by simp [ed,HN.out]),Vy.out dq osq⟩
   rw [hsb]at HCS;obtain ⟨p,hp⟩:∃ p,dH xs k xs[k]=p:=⟨_,rfl⟩;rw [hp]at VT;refine wp_region_quiet_below (by kernel_rfl) (by kernel_rfl) ?_
   repeat (go_big_quiet_step (first|exact Vo.out _ _|exact HCS.out _ _|exact VT.out _ _))
   refine wpQuiet_nil ?_;rintro _ ⟨⟨dq,osq⟩,rfl⟩;cases p;case true=>
    have HN:Hid (DU xs xs.length=false):=oN xs k hlt (by simp [hp]) _ hlt;go_wp2;go_ret;exact ⟨ah (by simp [ed,HN.out]),Vy.out dq osq⟩
   have YO:Hid (DU xs (k+1)=true):=by show _=_;rw [yU _ _ hlt,HU.out];simp [Fq,hn,hsb,hp]
   go_wp2;go_roundw;case rel=>exact ⟨k+1,by omega,by go_num,YO,Vy.out dq osq⟩
   simp [intOf] <;> omega
  obtain rfl:k=xs.length:=by omega
  have ZX:Hid (ed xs=true):=by show _=_;simp [ed,hl1,hl2,HU.out]
  go_wp2;go_ret;exact ⟨by rw [ZX.out];rfl,hB⟩
 have ZX:Hid (ed xs=false):=by
  show _=_;unfold ed;by_cases h1:1<=xs.length
  ·have h2:¬ xs.length<=6:=fun h2=>hl ⟨h1,h2⟩;simp [h2]
  simp [h1]
 go_enter func252,ntmps252;go_wp2_with fail
 all_goals go_ret
 all_goals exact ⟨by rw [ZX.out];rfl,Uf _ _⟩
set_option maxRecDepth 8000 in
theorem Gh (r:ER)(w:af)(hf:r.e.fits)(hl:r.e.light)(hok:r.ok w)(hcap:r.e.allow.length<=r.capA)(h1:r.e.kind=1) :
  Calls prog 239 #[r.val] w fun e w'=>e=.returned (.bool (av r.e))/\ag w w':=by
 obtain ⟨⟨kind,allow,over,name,kids⟩,adA,capA,adK,capK⟩:=r;obtain ⟨f1,f2,f3,f4,f5⟩:=hf;obtain ⟨hA,hK⟩:=hok;obtain ⟨l1,l2⟩:=hl;simp only at f1 f2 f3 f4 f5 h1 hA hK hcap l1 l2;subst h1;simp only [ER.val];unfold maxLen at f4 f5;have HB0:Hid (∀ n,ag w ((w.alloc (.cells #[.int .i64 1,.slice adA allow.length capA,.string over,.string name,.slice adK kids.length capK] 39)).drewN n)):=fun n=>below_drewN ((Uf w.heap.size w).alloc (Ue _) _) n;have HA:=aA hA;have VJ:=aA f1;have HCAP:Hid (allow.length<=capA):=hcap;clear hA hK f1 hcap;go_enter func239,ntmps239;go_wp2_with fail;go_quiet (fail);go_wp2_with fail;refine (Gg adA capA allow _ l1 HCAP.out VJ.out (HA.out.below (HB0.out _))).mono ?_;rintro e w1 ⟨rfl,hb1⟩;have c2:w1.cell? ⟨w.heap.size,2,none⟩=some (.string over):=by rw [hb1.cell (p:=⟨w.heap.size,2,none⟩) (by show _<(w.alloc _).heap.size;simp)];show (w.alloc _).cell? _=_;simp
 have c3:w1.cell? ⟨w.heap.size,3,none⟩=some (.string name):=by rw [hb1.cell (p:=⟨w.heap.size,3,none⟩) (by show _<(w.alloc _).heap.size;simp)];show (w.alloc _).cell? _=_;simp
 have HB1:Hid (ag w w1):=(HB0.out _).trans (hb1.mono (HB0.out _).size);clear hb1 HB0;go_wp2
 all_goals go_ret
 all_goals exact ⟨ah (by first|(simp [av, *];done)|(simp [av, *];omega)|(simp [av, *];rw [Bool.eq_iff_iff];simp;done)|(simp [av, *];rw [Bool.eq_iff_iff];simp;omega)),HB1.out⟩
theorem IZ (r:ER)(w:af)(hf:r.e.fits)(hl:r.e.light)(hok:r.ok w)(hcap:r.e.allow.length<=r.capA) :
  Calls prog 239 #[r.val] w fun e w'=>e=.returned (.bool (av r.e))/\ag w w':=by
 by_cases h:r.e.kind=1
 ·exact Gh r w hf hl hok hcap h
 exact Eg r w hf h
structure Arr (es:List Ex)(w:World)(g k:Nat):Prop where
 lt:g<w.heap.size
 told:∀ j,j<k->w.cell? ⟨g,j,none⟩=some (.int .i64 (az es j))
 rest:∀ j,k<=j->j<15->w.cell? ⟨g,j,none⟩=some (.int .i64 0)
 free:∀ o,w.frozen? ⟨g,o,none⟩=false
theorem Arr.later {es:List Ex}{w w':af}{g k:Nat}(h:Arr es w g k)(hb:ag w w'):Arr es w' g k where
 lt:=Uc h.lt hb.size
 told j hj:=kept hb h.lt (h.told j hj)
 rest j h1 h2:=kept hb h.lt (h.rest j h1 h2)
 free o:=Nn hb h.lt (h.free o)
theorem Arr.put {es:List Ex}{w:af}{g k:Nat}(h:Arr es w g k)(hk:k<15):Arr es (w.setCell ⟨g,k,none⟩ (.int .i64 (az es k))) g (k+1) where
 lt:=by simpa using h.lt
 told j hj:=by
  by_cases e:j=k
  ·subst e;exact xA (h.rest j (Ue _) hk)
  rw [lQ (Ne.symm e)];exact h.told j (by omega)
 rest j h1 h2:=by rw [lQ (by omega)];exact h.rest j (by omega) h2
 free o:=by simpa using h.free o
def vg (es:List Ex):Bool:=jw es&&decide (az es (es.length-1)=0)
theorem CX {es:List Ex}(k:Nat)(h:k<es.length)(hb:az es k<0):vg es=false:=by
 have:jw es=false:=by
  rw [Bool.eq_false_iff];intro h2;unfold jw at h2;rw [Un]at h2;have:=h2 k (by simpa using h);simp at this;omega
 simp [vg,this]
theorem yz (b off cap:Nat)(rs:List ER)(w:af)(hn1:1<=rs.length)(hn2:rs.length<=15)(hl:∀ r∈rs,r.e.light)(hb:b<w.heap.size)(hr:∀ (i:Nat) (h:i<rs.length),ym w b (off+i*5) rs[i])(hok:∀ r∈rs,r.ok w) :
  Calls prog 240 #[.slice (some ⟨b,off,none⟩) rs.length cap] w fun e w'=>e=.returned (.bool (vg (aj rs)))/\ag w w':=by
 have Wu:Hid ((aj rs).length=rs.length):=aN rs;have HL:=aA hl;have HR:Hid (∀ (i:Nat) (h:i<rs.length),ym w b (off+i*5) rs[i]):=hr;have HO:=aA hok;clear hl hr hok;go_enter func240,ntmps240;go_wp2_with fail;go_loopw [10] (fun i wr=>∃ k:Nat,k<=rs.length/\i=.int .i64 k/\Hid (Nr (aj rs) k)/\Hid (Arr (aj rs) wr w.heap.size k)/\ag w wr) (fun i _=>rs.length-(intOf i).toNat);case atStart =>
  refine ⟨0,Ui _,rfl,(fun j hj=>absurd hj (UI _)),⟨by simp,(fun j hj=>absurd hj (UI _)),fun j _ hj=>?_,fun o=>by simp⟩,(Uf _ _).alloc (Ue _) _⟩;have h15:j=0\/j=1\/j=2\/j=3\/j=4\/j=5\/j=6\/j=7\/j=8\/j=9\/j=10\/j=11\/j=12\/j=13\/j=14:=by omega
  rcases h15 with rfl|rfl|rfl|rfl|rfl|rfl|rfl|rfl|rfl|rfl|rfl|rfl|rfl|rfl|rfl <;> simp
 obtain ⟨k,hk,rfl,HGU,Z7,hB⟩:=hrel;by_cases hlt:k<rs.length
 ·have WG:k<(aj rs).length:=by rw [Wu.out];exact hlt
  obtain ⟨t0,t1,t2,t3,t4⟩:=(HR.out k hlt).later hb hB;have hk1:=bF k;have hk2:(k:Int)<(rs.length:Int):=by omega
  have hk3:(k:Int)<15:=by omega
  obtain ⟨-,lk⟩:=HL.out rs[k] (Ud hlt);obtain ⟨W1,hW1⟩:∃ W1,W1=wr.alloc (.cells #[.int .i64 rs[k].e.kind,.slice rs[k].adA rs[k].e.allow.length rs[k].capA,.string rs[k].e.over,.string rs[k].e.name,.slice rs[k].adK rs[k].e.kids.length rs[k].capK] 39):=⟨_,rfl⟩;have hal:ag wr W1:=by rw [hW1];exact (Uf _ _).alloc (Ue _) _
  have hB1:ag w W1:=hB.trans (hal.mono hB.size);have HAR1:Hid (Arr (aj rs) W1 w.heap.size k):=Z7.out.later hal;have s4:W1.cell? ⟨wr.heap.size,4,none⟩=some (.slice rs[k].adK rs[k].e.kids.length rs[k].capK):=by rw [hW1];simp
  have HT:Hid (cO (dB (aj rs) k) (rs[k].e.kids.take rs[k].e.kids.length).reverse ((k:Int)-1)=az (aj rs) k):=by
   show _=_;rw [Us,iD (aj rs) k,oW rs k hlt]
  clear Z7;go_wp2_with fail;rw [<-hW1];clear hW1 t0 t1 t2 t3 t4 hal;go_loopw [6,7] (fun x i w2=>∃ (j:Nat) (y:Int),j<=rs[k].e.kids.length/\i=.int .i64 ((j:Int)-1)/\x=.int .i64 y/\0<=y/\y<=k/\Hid (cO (dB (aj rs) k) (rs[k].e.kids.take j).reverse (y-1)=az (aj rs) k)/\w2=W1) (fun _ i _=>(intOf i+1).toNat);case atStart=>exact ⟨rs[k].e.kids.length,(k:Int),Ue _,rfl,rfl,by omega,by omega,HT,rfl⟩
  obtain ⟨j,y,hj,rfl,rfl,hy0,hy1,HG,rfl⟩:=hrel;by_cases hj0:0<j
  ·obtain ⟨j,rfl⟩:∃ i,j=i+1:=⟨j-1,by omega⟩;have hjl:j<rs[k].e.kids.length:=by omega
   rcases (HO.out rs[k] (Ud hlt)).2.below hB1 with hnil|⟨bk,offk,XJ,hbk,YP⟩
   ·rw [hnil]at hjl;simp at hjl
   have s4':=s4;rw [XJ]at s4';have k0:=YP j hjl;have hji:((j+1:Nat):Int)-1=(j:Int):=by omega
   have hj1:=bF j;have hj2:(j:Int)<(rs[k].e.kids.length:Int):=by omega
   have HG2:Hid ((if y-1<0\/rs[k].e.kids[j]≠y-1 then -1 else if dB (aj rs) k (y-1)<0 then -1 else cO (dB (aj rs) k) (rs[k].e.kids.take j).reverse (dB (aj rs) k (y-1)-1))=az (aj rs) k):=by
    have:=HG.out;rw [Uh hjl,List.reverse_append]at this;exact this
   rw [hji];clear HG YP XJ s4;by_cases hy:y=0
   ·have HN:Hid (vg (aj rs)=false):=CX k WG (by rw [<-HG2.out,if_pos (Or.inl (by omega))];omega);subst hy;go_wp2;go_ret;exact ⟨by rw [HN.out];rfl,hB1⟩
   obtain ⟨m,rfl⟩:∃ m:Nat,y=(m:Int)+1:=⟨(y-1).toNat,by omega⟩;have em:(m:Int)+1-1=(m:Int):=by omega
   by_cases hkx:rs[k].e.kids[j]=(m:Int)
   ·have hF:dB (aj rs) k ((m:Int)+1-1)=az (aj rs) m:=by rw [em];unfold dB;rw [if_pos ⟨by omega,by simp;omega⟩];simp
    have HF:Hid (dB (aj rs) k ((m:Int)+1-1)=az (aj rs) m):=hF;have hle:=iE (aj rs) m;have hge:0<=az (aj rs) m:=HGU.out m (by omega);have a0:=HAR1.out.told m (by omega);have hm1:=bF m;have hm2:(m:Int)<15:=by omega
    have XK:Hid (cO (dB (aj rs) k) (rs[k].e.kids.take j).reverse (az (aj rs) m-1)=az (aj rs) k):=by
     show _=_;rw [<-HG2.out,if_neg (by omega),HF.out,if_neg (by omega)]
    clear hF HG2;go_wp2;go_roundw;case rel=>exact ⟨j,az (aj rs) m,by omega,by go_num,rfl,hge,by omega,XK,by first|rfl|trivial⟩
    simp [intOf] <;> omega
   have HN:Hid (vg (aj rs)=false):=CX k WG (by rw [<-HG2.out,if_pos (Or.inr (by rw [em];exact hkx))];omega);have hq:(rs[k].e.kids[j] != (m:Int))=true:=by simpa using hkx
   have hq0:((m:Int)+1==0)=false:=by simp;omega
   go_wp2;go_ret;exact ⟨by rw [HN.out];rfl,hB1⟩
  obtain rfl:j=0:=by omega
  have hX:az (aj rs) k=y:=by have:=HG.out;simp [cO]at this;omega
  have HGU2:Hid (Nr (aj rs) (k+1)):=by
   intro m hm;by_cases e:m=k
   ·subst e;omega
   exact HGU.out m (by omega)
  have q0:=HAR1.out.rest k (Ue _) (by omega);have qf:=HAR1.out.free;have HA2:=HAR1.out.put (k:=k) (by omega);rw [hX]at HA2;have HA3:Hid (Arr (aj rs) _ w.heap.size (k+1)):=HA2;have hB2:=hB1.setCell (p:=⟨w.heap.size,k,none⟩) (Ue _) (.int .i64 y);clear HG HA2 hX;go_wp2;go_roundw;case rel=>exact ⟨k+1,by omega,by go_num,HGU2,HA3,hB2⟩
  simp [intOf] <;> omega
 obtain rfl:k=rs.length:=by omega
 have a0:=Z7.out.told (rs.length-1) (by omega);have HKB:Hid (vg (aj rs)=decide (az (aj rs) (rs.length-1)=0)):=by
  show _=_;have:jw (aj rs)=true:=by
   unfold jw;rw [Un];intro j hj;have hj':j<rs.length:=by simpa [Wu.out] using hj
   simpa using HGU.out j hj'
  unfold vg;rw [this,Wu.out,Bool.true_and]
 have hcast:((rs.length:Int)-1)=((rs.length-1:Nat):Int):=by omega
 have h15:((rs.length-1:Nat):Int)<15:=by omega
 have h00:(0:Int)<=((rs.length-1:Nat):Int):=by omega
 go_wp2;go_ret;exact ⟨by rw [HKB.out];exact ah (by rw [Bool.eq_iff_iff];simp),hB⟩
theorem LF {es:List Ex}(h:¬ (1<=es.length/\es.length<=15)):kM es=false:=by rw [<-wB];exact Cy h
theorem I1 {es:List Ex}(k:Nat)(h:k<es.length)(hb:av es[k]=false):kM es=false:=by simp [kM,Ci es k h hb]
theorem Aj (b off cap:Nat)(rs:List ER)(w:af)(hlen:rs.length<=1048576)(hl:∀ r∈rs,r.e.light)(hf:∀ r∈rs,r.e.fits)(hcp:∀ r∈rs,r.e.allow.length<=r.capA)(hb:b<w.heap.size)(hr:∀ (i:Nat) (h:i<rs.length),ym w b (off+i*5) rs[i])(hok:∀ r∈rs,r.ok w) :
  Calls prog 221 #[.slice (some ⟨b,off,none⟩) rs.length cap] w fun e w'=>e=.returned (.bool (kM (aj rs)))/\ag w w':=by
 have Wu:Hid ((aj rs).length=rs.length):=aN rs;have HL:=aA hl;have HF:=aA hf;have HCP:Hid (∀ r∈rs,r.e.allow.length<=r.capA):=hcp;have HR:Hid (∀ (i:Nat) (h:i<rs.length),ym w b (off+i*5) rs[i]):=hr;have HO:=aA hok;clear hl hf hr hok hcp;by_cases hn:1<=rs.length/\rs.length<=15
 ·obtain ⟨hn1,hn2⟩:=hn;go_enter func221,ntmps221;go_wp2_with fail;go_loopw [3,16] (fun o i wr=>∃ k:Nat,k<=rs.length/\i=.int .i64 k/\o=.int .i64 (gF (aj rs) k:Nat)/\Hid (jv (aj rs) k=true)/\ag w wr) (fun _ i _=>rs.length-(intOf i).toNat);case atStart=>exact ⟨0,Ui _,rfl,rfl,(by show _=_;simp [jv]),Uf _ _⟩
  obtain ⟨k,hk,rfl,rfl,HU,hB⟩:=hrel;by_cases hlt:k<rs.length
  ·have WG:k<(aj rs).length:=by rw [Wu.out];exact hlt
   have HEK:Hid ((aj rs)[k]=rs[k].e):=by show _=_;simp [aj]
   obtain ⟨t0,t1,t2,t3,t4⟩:=(HR.out k hlt).later hb hB;have hk1:=bF k;have hk2:(k:Int)<(rs.length:Int):=by omega
   have hol:=uw (aj rs) k;have hal:ag w (wr.alloc (.cells #[.int .i64 rs[k].e.kind,.slice rs[k].adA rs[k].e.allow.length rs[k].capA,.string rs[k].e.over,.string rs[k].e.name,.slice rs[k].adK rs[k].e.kids.length rs[k].capK] 39)):=hB.alloc hB.size _;have U2:=aA hal;clear hal;go_wp2_with fail;refine (IZ rs[k] _ (HF.out _ (Ud hlt)) (HL.out _ (Ud hlt)) ((HO.out _ (Ud hlt)).below U2.out) (HCP.out _ (Ud hlt))).mono ?_;rintro e w1 ⟨rfl,hb1⟩;have hB1:ag w w1:=U2.out.trans (hb1.mono U2.out.size);have g0:w1.cell? ⟨wr.heap.size,0,none⟩=some (.int .i64 rs[k].e.kind):=by rw [hb1.cell (p:=⟨wr.heap.size,0,none⟩) (by simp)];simp
   clear hb1 t0 t1 t2 t3 t4 U2;cases UM:av rs[k].e;case false=>
    have HN:Hid (kM (aj rs)=false):=I1 k WG (by rw [HEK.out];exact UM);go_wp2;go_ret;exact ⟨by rw [HN.out];rfl,hB1⟩
   have YO:Hid (jv (aj rs) (k+1)=true):=by show _=_;rw [uy _ _ WG,HU.out,HEK.out,UM];rfl
   have HOW:Hid (gF (aj rs) (k+1)=gF (aj rs) k+(if rs[k].e.kind=1 then 1 else 0)):=by show _=_;rw [yV _ _ WG,HEK.out]
   by_cases Zt:rs[k].e.kind=1
   ·have Yl:Hid (gF (aj rs) (k+1)=gF (aj rs) k+1):=by show _=_;rw [HOW.out,if_pos Zt]
    clear HOW;go_wp2;go_roundw;case rel=>exact ⟨k+1,by omega,by go_num,by rw [Yl.out];go_num,YO,hB1⟩
    simp [intOf] <;> omega
   have Yl:Hid (gF (aj rs) (k+1)=gF (aj rs) k):=by show _=_;rw [HOW.out,if_neg Zt];rfl
   clear HOW;go_wp2;go_roundw;case rel=>exact ⟨k+1,by omega,by go_num,by rw [Yl.out],YO,hB1⟩
   simp [intOf] <;> omega
  obtain rfl:k=rs.length:=by omega
  have HN:Hid ((aj rs).all av=true):=by
   have:=HU.out;unfold jv at this;rwa [<-Wu.out,Us]at this
  have HOW:Hid (gF (aj rs) rs.length=own (aj rs)):=by show _=_;unfold gF;rw [<-Wu.out,Us]
  have hol:=uw (aj rs) rs.length;by_cases ho:gF (aj rs) rs.length<=1
  ·have HS:Hid (kM (aj rs)=vg (aj rs)):=by
    show _=_;have h1:own (aj rs)<=1:=by rw [<-HOW.out];exact ho
    have e1:=Wu.out;unfold kM vg;rw [e1,HN.out];simp [h1,hn1,hn2]
   go_wp2_with fail;refine (yz b off cap rs _ hn1 hn2 HL.out (Uc hb hB.size) (fun i hi=>(HR.out i hi).later hb hB) (fun r hr=>(HO.out r hr).below hB)).mono ?_;rintro e w1 ⟨rfl,hb1⟩;go_wp2;go_ret;exact ⟨by rw [HS.out];rfl,hB.trans (hb1.mono hB.size)⟩
  have HS:Hid (kM (aj rs)=false):=by
   show _=_;have h1:¬ own (aj rs)<=1:=by rw [<-HOW.out];exact ho
   simp [kM,h1]
  go_wp2;go_ret;exact ⟨by rw [HS.out];rfl,hB⟩
 have HN:Hid (kM (aj rs)=false):=LF (by rw [Wu.out];exact hn);go_enter func221,ntmps221;go_wp2_with fail
 all_goals go_ret
 all_goals exact ⟨by rw [HN.out];rfl,Uf _ _⟩
theorem Ak (ad:Option Addr)(cap:Nat)(rs:List ER)(w:af)(hlen:rs.length<=1048576)(hl:∀ r∈rs,r.e.light)(hf:∀ r∈rs,r.e.fits)(hcp:∀ r∈rs,r.e.allow.length<=r.capA)(hs:iC w ad rs) :
  Calls prog 221 #[.slice ad rs.length cap] w fun e w'=>e=.returned (.bool (kM (aj rs)))/\ag w w':=by
 rcases hs with rfl|⟨b,off,rfl,hb,hr,hok⟩
 ·go_enter func221,ntmps221;go_wp2_with fail;go_ret;exact ⟨rfl,Uf _ _⟩
 exact Aj b off cap rs w hlen hl hf hcp hb hr hok
end Go.Proofs.YtajkkeikihhejaaGreat
namespace Go.Proofs.YtajkkeikihhejaaGreat
open Go.ChangeShapes Go.WideShapes Go.ChangeAt Go.RowKit
open Pl
attribute [local go_sem ↓] Go.wp_at_zero Go.wp_at_succ
structure BelowD (B:Nat)(w w':World):Prop where
 b:Below B w w'
 d:w.drawn<=w'.drawn
theorem BelowD.size {B:Nat}{w w':af}(h:BelowD B w w'):w.heap.size<=w'.heap.size:=h.b.size
theorem BelowD.refl (B:Nat)(w:af):BelowD B w w:=⟨Uf B w,Ue _⟩
theorem BelowD.trans {B:Nat}{a b c:af}(h:BelowD B a b)(k:BelowD B b c):BelowD B a c:=⟨h.b.trans k.b,Uk h.d k.d⟩
theorem BelowD.mono {B B':Nat}{w w':af}(h:BelowD B w w')(hB:B'<=B):BelowD B' w w':=⟨h.b.mono hB,h.d⟩
theorem BelowD.drew {B:Nat}{a w:af}(h:BelowD B a w):BelowD B a w.drew:=⟨h.b.drew,Uk h.d (Nat.le_succ _)⟩
theorem BelowD.alloc {B:Nat}{a w:af}(h:BelowD B a w)(hB:B<=w.heap.size)(o:Obj):BelowD B a (w.alloc o):=⟨h.b.alloc hB o,h.d⟩
theorem BelowD.cell {B:Nat}{w w':af}(h:BelowD B w w'){p:Addr}(hp:p.block<B):w'.cell? p=w.cell? p:=h.b.cell hp
theorem BelowD.frozen {B:Nat}{w w':af}(h:BelowD B w w'){p:Addr}(hp:p.block<B):w'.frozen? p=w.frozen? p:=h.b.frozen hp
theorem BelowD.grew {w w':af}(h:BelowD w.heap.size w w'):∃ q os,w'=Go.Sort.grow (w.drewN q) os:=by
 obtain ⟨⟨h1,h2,h3,h4,h5⟩,h6⟩:=h;refine ⟨w'.drawn-w.drawn,w'.heap.extract w.heap.size w'.heap.size,?_⟩;obtain ⟨hp,tp,dr,os,ou⟩:=w';simp only at h1 h2 h3 h4 h5 h6;subst h1 h2 h3;simp only [Go.Sort.grow,World.drewN,World.mk.injEq,true_and,and_true];refine ⟨?_,by omega⟩;apply Array.ext
 ·simp;omega
 intro i hi hj;by_cases hlt:i<w.heap.size
 ·have:=h5 i hlt;rw [UH hi,UH hlt]at this;injection this with this;rw [this,Array.getElem_append_left hlt]
 rw [Array.getElem_append_right (by omega)];simp;congr 1;omega
theorem tV {W w1:af}(hb:BelowD W.heap.size W w1):(∀ b o,b<W.heap.size->w1.cell? ⟨b,o,none⟩=W.cell? ⟨b,o,none⟩)/\(∀ b o,b<W.heap.size->w1.frozen? ⟨b,o,none⟩=W.frozen? ⟨b,o,none⟩) :=
 ⟨fun b o h=>hb.cell (p:=⟨b,o,none⟩) h,fun b o h=>hb.frozen (p:=⟨b,o,none⟩) h⟩
theorem fE (t i:bI)(w:af)(ht:t.size<=maxLen)(hi:i.size<=maxLen) :
  Calls prog 161 #[.agg #[.string t,.string i]] w fun e w'=>e=.returned (.bool (eT t i))/\BelowD w.heap.size w w':=by
 by_cases hn:aR t=true
 all_goals
  go_enter func161,ntmps161;go_wp2_with (first|(go_at_call 162;refine (aM _ _ ht).mono ?_;rintro e w' ⟨rfl,rfl⟩)|(go_at_call 208;refine (yY _ _ hi).mono ?_;rintro e w' ⟨rfl,rfl⟩));go_ret;exact ⟨ah (by simp [eT,hn]),(BelowD.refl _ _).alloc (Ue _) _⟩
theorem wP (t i:bI)(w:af)(ht:t.size<=maxLen)(hi:i.size<=maxLen) :
  Calls prog 207 #[.agg #[.string t,.string i]] w fun e w'=>e=.returned (.string (aC t i))/\BelowD w.heap.size w w':=by
 by_cases hn:eT t i=true
 ·obtain ⟨h1,h2⟩:=yL hn;have HT:Hid (aC t i=t++⟨#[58]⟩++i):=mQ hn;go_enter func207,ntmps207;go_wp2_with (go_at_call 161;refine (fE _ _ _ ht hi).mono ?_;rintro e w' ⟨rfl,hb⟩;obtain ⟨hc,hf⟩:=tV hb);go_ret;exact ⟨gp HT.out.symm,((BelowD.refl _ _).alloc (Ue _) _).trans (hb.mono (by simp))⟩
 have hn':eT t i=false:=by simpa using hn
 have HT:Hid (aC t i=⟨#[]⟩):=sU hn';clear hn;go_enter func207,ntmps207;go_wp2_with (go_at_call 161;refine (fE _ _ _ ht hi).mono ?_;rintro e w' ⟨rfl,hb⟩;obtain ⟨hc,hf⟩:=tV hb);go_ret;exact ⟨gp HT.out.symm,((BelowD.refl _ _).alloc (Ue _) _).trans (hb.mono (by simp))⟩
theorem vk (a b r c d s:bI)(w:af)(ha:a.size<=maxLen)(hb:b.size<=maxLen)(hr:r.size<=maxLen)(hc:c.size<=maxLen)(hd:d.size<=maxLen)(hs:s.size<=maxLen) :
  Calls prog 108 #[.agg #[.string a,.string b,.string r,.string c,.string d,.string s]] w fun e w'=>e=.returned (.bool (bQ a b r c d s))/\BelowD w.heap.size w w':=by
 by_cases h1:eT a b=true
 ·by_cases h2:aR r=true
  ·by_cases h3:eT c d=true
   ·have HT:Hid (bQ a b r c d s=uI s):=zn h1 h2 h3;go_enter func108,ntmps108;go_wp2_with fail;refine (fE _ _ _ ha hb).mono ?_;rintro e w1 ⟨rfl,hb1⟩;obtain ⟨hc1,hf1⟩:=tV hb1;have hz1:w.heap.size<w1.heap.size:=by have:=hb1.size;simp at this;omega
    go_wp2_with fail;refine (aM _ _ hr).mono ?_;rintro e w1' ⟨rfl,rfl⟩;go_wp2_with fail;refine (fE _ _ _ hc hd).mono ?_;rintro e w2 ⟨rfl,hb2⟩;obtain ⟨hc2,hf2⟩:=tV hb2;have hz2:w.heap.size<w2.heap.size:=by have:=hb2.size;omega
    go_wp2_with (go_at_call 163;refine (CU _ _ hs).mono ?_;rintro e w3 ⟨rfl,rfl⟩)
    all_goals go_ret
    all_goals exact ⟨ah (HT.out.trans (by simp [uI, *])).symm,((BelowD.refl _ _).alloc (Ue _) _).trans ((hb1.mono (by simp)).trans (hb2.mono (by omega)))⟩
   have h3':eT c d=false:=by simpa using h3
   have HT:Hid (bQ a b r c d s=false):=zm h3';clear h3;go_enter func108,ntmps108;go_wp2_with fail;refine (fE _ _ _ ha hb).mono ?_;rintro e w1 ⟨rfl,hb1⟩;obtain ⟨hc1,hf1⟩:=tV hb1;have hz1:w.heap.size<w1.heap.size:=by have:=hb1.size;simp at this;omega
   go_wp2_with fail;refine (aM _ _ hr).mono ?_;rintro e w1' ⟨rfl,rfl⟩;go_wp2_with fail;refine (fE _ _ _ hc hd).mono ?_;rintro e w2 ⟨rfl,hb2⟩;go_wp2;go_ret;exact ⟨ah HT.out.symm,((BelowD.refl _ _).alloc (Ue _) _).trans ((hb1.mono (by simp)).trans (hb2.mono (by omega)))⟩
  have h2':aR r=false:=by simpa using h2
  have HT:Hid (bQ a b r c d s=false):=zl h2';clear h2;go_enter func108,ntmps108;go_wp2_with fail;refine (fE _ _ _ ha hb).mono ?_;rintro e w1 ⟨rfl,hb1⟩;obtain ⟨hc1,hf1⟩:=tV hb1;go_wp2_with fail;refine (aM _ _ hr).mono ?_;rintro e w1' ⟨rfl,rfl⟩;go_wp2;go_ret;exact ⟨ah HT.out.symm,((BelowD.refl _ _).alloc (Ue _) _).trans (hb1.mono (by simp))⟩
 have h1':eT a b=false:=by simpa using h1
 have HT:Hid (bQ a b r c d s=false):=zk h1';clear h1;go_enter func108,ntmps108;go_wp2_with fail;refine (fE _ _ _ ha hb).mono ?_;rintro e w1 ⟨rfl,hb1⟩;go_wp2;go_ret;exact ⟨ah HT.out.symm,((BelowD.refl _ _).alloc (Ue _) _).trans (hb1.mono (by simp))⟩
theorem SF {w W w':af}{n:Nat}{x0 x1 x2 x3 x4 x5:Value}(h:W.cell? ⟨n,0,none⟩=some x0/\W.cell? ⟨n,1,none⟩=some x1/\W.cell? ⟨n,2,none⟩=some x2/\W.cell? ⟨n,3,none⟩=some x3/\W.cell? ⟨n,4,none⟩=some x4/\W.cell? ⟨n,5,none⟩=some x5/\n<W.heap.size/\BelowD n w W)(hb:BelowD W.heap.size W w'):w'.cell? ⟨n,0,none⟩=some x0/\w'.cell? ⟨n,1,none⟩=some x1/\w'.cell? ⟨n,2,none⟩=some x2/\w'.cell? ⟨n,3,none⟩=some x3/\w'.cell? ⟨n,4,none⟩=some x4/\w'.cell? ⟨n,5,none⟩=some x5/\n<w'.heap.size/\BelowD n w w':=by
 obtain ⟨h0,h1,h2,h3,h4,h5,hn,hB⟩:=h;have hc:∀ o,w'.cell? ⟨n,o,none⟩=W.cell? ⟨n,o,none⟩:=fun o=>hb.cell (p:=⟨n,o,none⟩) hn;refine ⟨by rw [hc];exact h0,by rw [hc];exact h1,by rw [hc];exact h2,by rw [hc];exact h3,by rw [hc];exact h4,by rw [hc];exact h5,Uc hn hb.size,hB.trans (hb.mono (Nat.le_of_lt hn))⟩
theorem wQ (a b r c d s:bI)(w:af)(ha:a.size<=maxLen)(hb:b.size<=maxLen)(hr:r.size<=maxLen)(hc:c.size<=maxLen)(hd:d.size<=maxLen)(hs:s.size<=maxLen) :
  Calls prog 160 #[.agg #[.string a,.string b,.string r,.string c,.string d,.string s]] w fun e w'=>e=.returned (.string (aY a b r c d s))/\BelowD w.heap.size w w':=by
 by_cases hn:bQ a b r c d s=true
 ·obtain ⟨h1,h2,h3,h4⟩:=jS hn;have hx:=iG a b;have hy:=iG c d;have Xj:=(nO h2).2;have hs12:=DZ h4;clear h1 h2 h3 h4;go_enter func160,ntmps160;go_wp2_with fail;refine (vk _ _ _ _ _ _ _ ha hb hr hc hd hs).mono ?_;rintro e w1 ⟨rfl,hb1⟩;obtain ⟨hc1,hf1⟩:=tV hb1;have hz1:w.heap.size<w1.heap.size:=by have:=hb1.size;simp at this;omega
  have k:∀ o v,(w.alloc (.cells #[.string a,.string b,.string r,.string c,.string d,.string s] 46)).cell? ⟨w.heap.size,o,none⟩=some v->w1.cell? ⟨w.heap.size,o,none⟩=some v:=fun o v h=>by rw [hc1 _ _ (by simp)];exact h
  have k0:=k 0 (.string a) (by simp);have k1:=k 1 (.string b) (by simp);have k2:=k 2 (.string r) (by simp);have k3:=k 3 (.string c) (by simp);have k4:=k 4 (.string d) (by simp);have k5:=k 5 (.string s) (by simp);have HB1:BelowD w.heap.size w w1:=((BelowD.refl _ _).alloc (Ue _) _).trans (hb1.mono (by simp));clear k hb1 hc1 hf1;have q1:(9223372036854775807<(aC a b).size+1)=False:=by simp;omega
  have q2:(9223372036854775807<(aC a b).size+1+r.size)=False:=by simp;omega
  have q3:(9223372036854775807<(aC a b).size+1+r.size+1)=False:=by simp;omega
  have q4:(9223372036854775807<(aC a b).size+1+r.size+1+(aC c d).size)=False:=by simp;omega
  go_wp2_with fail
  go_region_held3 (fun w'=>w'.cell? ⟨w.heap.size,0,none⟩=some (.string a)/\w'.cell? ⟨w.heap.size,1,none⟩=some (.string b)/\w'.cell? ⟨w.heap.size,2,none⟩=some (.string r)/\w'.cell? ⟨w.heap.size,3,none⟩=some (.string c)/\w'.cell? ⟨w.heap.size,4,none⟩=some (.string d)/\w'.cell? ⟨w.heap.size,5,none⟩=some (.string s)/\w.heap.size<w'.heap.size/\BelowD w.heap.size w w')
   (first|exact SF (by assumption) hbx|exact ⟨k0,k1,k2,k3,k4,k5,hz1,HB1.drew⟩)
   (first|(go_at_call 207;refine (wP _ _ _ (by assumption) (by assumption)).mono ?_;rintro e w' ⟨rfl,hbx⟩))
  rename_i hH;obtain ⟨g0,g1,g2,g3,g4,g5,gz,gB⟩:=hH;clear k0 k1 k2 k3 k4 k5 hbx q1 q2 q3 q4 HB1;by_cases he:s.toList.isEmpty=true
  ·have HT:Hid (aY a b r c d s=_):=mR hn he;go_wp2;go_ret;exact ⟨gp HT.out.symm,gB⟩
  have he':s.toList.isEmpty=false:=by simpa using he
  have HT:Hid (aY a b r c d s=_):=mU hn he';clear he;go_wp2;go_ret;exact ⟨gp (HT.out.trans (by simp only [ByteArray.append_assoc])).symm,gB⟩
 have hn':bQ a b r c d s=false:=by simpa using hn
 have HT:Hid (aY a b r c d s=⟨#[]⟩):=sV hn';clear hn;go_enter func160,ntmps160;go_wp2_with fail;refine (vk _ _ _ _ _ _ _ ha hb hr hc hd hs).mono ?_;rintro e w1 ⟨rfl,hb1⟩;go_wp2;go_ret;exact ⟨gp HT.out.symm,((BelowD.refl _ _).alloc (Ue _) _).trans (hb1.mono (by simp))⟩
theorem QI {w W w':af}{n m k:Nat}{x0 x1 x2 x3 x4 x5 y0 y1 y2 y3 y4 y5:Value}(hk:k<=n)(h:W.cell? ⟨n,0,none⟩=some x0/\W.cell? ⟨n,1,none⟩=some x1/\W.cell? ⟨n,2,none⟩=some x2/\W.cell? ⟨n,3,none⟩=some x3/\W.cell? ⟨n,4,none⟩=some x4/\W.cell? ⟨n,5,none⟩=some x5/\W.cell? ⟨m,0,none⟩=some y0/\W.cell? ⟨m,1,none⟩=some y1/\W.cell? ⟨m,2,none⟩=some y2/\W.cell? ⟨m,3,none⟩=some y3/\W.cell? ⟨m,4,none⟩=some y4/\W.cell? ⟨m,5,none⟩=some y5/\n<W.heap.size/\m<W.heap.size/\BelowD k w W)(hb:BelowD W.heap.size W w'):w'.cell? ⟨n,0,none⟩=some x0/\w'.cell? ⟨n,1,none⟩=some x1/\w'.cell? ⟨n,2,none⟩=some x2/\w'.cell? ⟨n,3,none⟩=some x3/\w'.cell? ⟨n,4,none⟩=some x4/\w'.cell? ⟨n,5,none⟩=some x5/\w'.cell? ⟨m,0,none⟩=some y0/\w'.cell? ⟨m,1,none⟩=some y1/\w'.cell? ⟨m,2,none⟩=some y2/\w'.cell? ⟨m,3,none⟩=some y3/\w'.cell? ⟨m,4,none⟩=some y4/\w'.cell? ⟨m,5,none⟩=some y5/\n<w'.heap.size/\m<w'.heap.size/\BelowD k w w':=by
 obtain ⟨h0,h1,h2,h3,h4,h5,h6,h7,h8,h9,h10,h11,hn,hm,hB⟩:=h;have hc:∀ o,w'.cell? ⟨n,o,none⟩=W.cell? ⟨n,o,none⟩:=fun o=>hb.cell (p:=⟨n,o,none⟩) hn;have hd:∀ o,w'.cell? ⟨m,o,none⟩=W.cell? ⟨m,o,none⟩:=fun o=>hb.cell (p:=⟨m,o,none⟩) hm;exact ⟨by rw [hc];exact h0,by rw [hc];exact h1,by rw [hc];exact h2,by rw [hc];exact h3,by rw [hc];exact h4,by rw [hc];exact h5,by rw [hd];exact h6,by rw [hd];exact h7,by rw [hd];exact h8,by rw [hd];exact h9,by rw [hd];exact h10,by rw [hd];exact h11,Uc hn hb.size,Uc hm hb.size,hB.trans (hb.mono (by omega))⟩
theorem Kv (w:af)(o1 o2:Obj):BelowD w.heap.size w ((w.alloc o1).alloc o2) :=
 ((BelowD.refl _ _).alloc (Ue _) _).alloc (by simp) _
theorem tX (a b r c d s a' b' r' c' d' s':bI)(w:af)(ha:a.size<=maxLen)(hb:b.size<=maxLen)(hr:r.size<=maxLen)(hc:c.size<=maxLen)(hd:d.size<=maxLen)(hs:s.size<=maxLen)(ga:a'.size<=maxLen)(gb:b'.size<=maxLen)(gr:r'.size<=maxLen)(gc:c'.size<=maxLen)(gd:d'.size<=maxLen)(gs:s'.size<=maxLen) :
  Calls prog 106 #[.agg #[.string a,.string b,.string r,.string c,.string d,.string s],.agg #[.string a',.string b',.string r',.string c',.string d',.string s']] w fun e w'=>e=.returned (.int .i64 (IV a b r c d s a' b' r' c' d' s'))/\BelowD w.heap.size w w':=by
 have H0:((w.alloc (.cells #[.string a,.string b,.string r,.string c,.string d,.string s] 46)).alloc (.cells #[.string a',.string b',.string r',.string c',.string d',.string s'] 46)).drew.cell? ⟨w.heap.size,0,none⟩=some (.string a)/\((w.alloc (.cells #[.string a,.string b,.string r,.string c,.string d,.string s] 46)).alloc (.cells #[.string a',.string b',.string r',.string c',.string d',.string s'] 46)).drew.cell? ⟨w.heap.size,1,none⟩=some (.string b)/\((w.alloc (.cells #[.string a,.string b,.string r,.string c,.string d,.string s] 46)).alloc (.cells #[.string a',.string b',.string r',.string c',.string d',.string s'] 46)).drew.cell? ⟨w.heap.size,2,none⟩=some (.string r)/\((w.alloc (.cells #[.string a,.string b,.string r,.string c,.string d,.string s] 46)).alloc (.cells #[.string a',.string b',.string r',.string c',.string d',.string s'] 46)).drew.cell? ⟨w.heap.size,3,none⟩=some (.string c)/\((w.alloc (.cells #[.string a,.string b,.string r,.string c,.string d,.string s] 46)).alloc (.cells #[.string a',.string b',.string r',.string c',.string d',.string s'] 46)).drew.cell? ⟨w.heap.size,4,none⟩=some (.string d)/\((w.alloc (.cells #[.string a,.string b,.string r,.string c,.string d,.string s] 46)).alloc (.cells #[.string a',.string b',.string r',.string c',.string d',.string s'] 46)).drew.cell? ⟨w.heap.size,5,none⟩=some (.string s)/\((w.alloc (.cells #[.string a,.string b,.string r,.string c,.string d,.string s] 46)).alloc (.cells #[.string a',.string b',.string r',.string c',.string d',.string s'] 46)).drew.cell? ⟨w.heap.size+1,0,none⟩=some (.string a')/\((w.alloc (.cells #[.string a,.string b,.string r,.string c,.string d,.string s] 46)).alloc (.cells #[.string a',.string b',.string r',.string c',.string d',.string s'] 46)).drew.cell? ⟨w.heap.size+1,1,none⟩=some (.string b')/\((w.alloc (.cells #[.string a,.string b,.string r,.string c,.string d,.string s] 46)).alloc (.cells #[.string a',.string b',.string r',.string c',.string d',.string s'] 46)).drew.cell? ⟨w.heap.size+1,2,none⟩=some (.string r')/\((w.alloc (.cells #[.string a,.string b,.string r,.string c,.string d,.string s] 46)).alloc (.cells #[.string a',.string b',.string r',.string c',.string d',.string s'] 46)).drew.cell? ⟨w.heap.size+1,3,none⟩=some (.string c')/\((w.alloc (.cells #[.string a,.string b,.string r,.string c,.string d,.string s] 46)).alloc (.cells #[.string a',.string b',.string r',.string c',.string d',.string s'] 46)).drew.cell? ⟨w.heap.size+1,4,none⟩=some (.string d')/\((w.alloc (.cells #[.string a,.string b,.string r,.string c,.string d,.string s] 46)).alloc (.cells #[.string a',.string b',.string r',.string c',.string d',.string s'] 46)).drew.cell? ⟨w.heap.size+1,5,none⟩=some (.string s')/\w.heap.size<((w.alloc (.cells #[.string a,.string b,.string r,.string c,.string d,.string s] 46)).alloc (.cells #[.string a',.string b',.string r',.string c',.string d',.string s'] 46)).drew.heap.size/\w.heap.size+1<((w.alloc (.cells #[.string a,.string b,.string r,.string c,.string d,.string s] 46)).alloc (.cells #[.string a',.string b',.string r',.string c',.string d',.string s'] 46)).drew.heap.size/\BelowD w.heap.size w (((w.alloc (.cells #[.string a,.string b,.string r,.string c,.string d,.string s] 46)).alloc (.cells #[.string a',.string b',.string r',.string c',.string d',.string s'] 46)).drew):=by
  refine ⟨?_,?_,?_,?_,?_,?_,?_,?_,?_,?_,?_,?_,?_,?_,?_⟩
  all_goals first|exact (Kv _ _ _).drew|(simp;done)|(simp;omega)
 go_enter func106,ntmps106;go_wp2_with fail
 go_region_held3 (fun w'=>w'.cell? ⟨w.heap.size,0,none⟩=some (.string a)/\w'.cell? ⟨w.heap.size,1,none⟩=some (.string b)/\w'.cell? ⟨w.heap.size,2,none⟩=some (.string r)/\w'.cell? ⟨w.heap.size,3,none⟩=some (.string c)/\w'.cell? ⟨w.heap.size,4,none⟩=some (.string d)/\w'.cell? ⟨w.heap.size,5,none⟩=some (.string s)/\w'.cell? ⟨w.heap.size+1,0,none⟩=some (.string a')/\w'.cell? ⟨w.heap.size+1,1,none⟩=some (.string b')/\w'.cell? ⟨w.heap.size+1,2,none⟩=some (.string r')/\w'.cell? ⟨w.heap.size+1,3,none⟩=some (.string c')/\w'.cell? ⟨w.heap.size+1,4,none⟩=some (.string d')/\w'.cell? ⟨w.heap.size+1,5,none⟩=some (.string s')/\w.heap.size<w'.heap.size/\w.heap.size+1<w'.heap.size/\BelowD w.heap.size w w')
  (first|assumption|exact QI (Ue _) (by assumption) hbx|exact H0)
  (first|(go_at_call 160;refine (wQ _ _ _ _ _ _ _ (by assumption) (by assumption) (by assumption) (by assumption) (by assumption) (by assumption)).mono ?_;rintro e w' ⟨rfl,hbx⟩)|(go_at_call 159;refine (Tryz.strings_Compare _ _ _).mono ?_;rintro e w' ⟨rfl,rfl⟩))
 rename_i hH;obtain ⟨-,-,-,-,-,-,-,-,-,-,-,-,-,-,gB⟩:=hH;go_wp2;go_ret;exact ⟨rfl,gB⟩
end Go.Proofs.YtajkkeikihhejaaGreat
namespace Go.Proofs.YtajkkeikihhejaaGreat
open Go.ChangeShapes Go.WideShapes Go.ChangeAt Go.RowKit
open Pl
attribute [local go_sem ↓] Go.wp_at_zero Go.wp_at_succ
theorem LG (a b r c d:bI)(w:af) :
  Calls prog 181 #[.agg #[.string a,.string b,.string r,.string c,.string d]] w fun e w'=>e=.returned (.agg #[.string a,.string b,.string r,.string c,.string d,.string ⟨#[]⟩])/\ag w w':=by
 go_enter func181,ntmps181;go_wp2;exact bodyPost_ret (v:=.agg #[.string a,.string b,.string r,.string c,.string d,.string ⟨#[]⟩]) (by simp [results,Tryz.results181,go_sem, *]) rfl ⟨rfl,by
  repeat (first|exact Uf _ _|refine Below.setCell ?_ (by first|(simp;done)|(simp;omega)) _|refine Below.alloc ?_ (by first|(simp;done)|(simp;omega)) _)⟩
theorem QJ {w W w':af}{n m k:Nat}{x0 x1 x2 x3 x4 y0 y1 y2 y3 y4:Value}(hk:k<=n)(h:W.cell? ⟨n,0,none⟩=some x0/\W.cell? ⟨n,1,none⟩=some x1/\W.cell? ⟨n,2,none⟩=some x2/\W.cell? ⟨n,3,none⟩=some x3/\W.cell? ⟨n,4,none⟩=some x4/\W.cell? ⟨m,0,none⟩=some y0/\W.cell? ⟨m,1,none⟩=some y1/\W.cell? ⟨m,2,none⟩=some y2/\W.cell? ⟨m,3,none⟩=some y3/\W.cell? ⟨m,4,none⟩=some y4/\n<W.heap.size/\m<W.heap.size/\Below k w W)(hb:ag W w'):w'.cell? ⟨n,0,none⟩=some x0/\w'.cell? ⟨n,1,none⟩=some x1/\w'.cell? ⟨n,2,none⟩=some x2/\w'.cell? ⟨n,3,none⟩=some x3/\w'.cell? ⟨n,4,none⟩=some x4/\w'.cell? ⟨m,0,none⟩=some y0/\w'.cell? ⟨m,1,none⟩=some y1/\w'.cell? ⟨m,2,none⟩=some y2/\w'.cell? ⟨m,3,none⟩=some y3/\w'.cell? ⟨m,4,none⟩=some y4/\n<w'.heap.size/\m<w'.heap.size/\Below k w w':=by
 obtain ⟨h0,h1,h2,h3,h4,h5,h6,h7,h8,h9,hn,hm,hB⟩:=h;have hc:∀ o,w'.cell? ⟨n,o,none⟩=W.cell? ⟨n,o,none⟩:=fun o=>hb.cell (p:=⟨n,o,none⟩) hn;have hd:∀ o,w'.cell? ⟨m,o,none⟩=W.cell? ⟨m,o,none⟩:=fun o=>hb.cell (p:=⟨m,o,none⟩) hm;exact ⟨by rw [hc];exact h0,by rw [hc];exact h1,by rw [hc];exact h2,by rw [hc];exact h3,by rw [hc];exact h4,by rw [hd];exact h5,by rw [hd];exact h6,by rw [hd];exact h7,by rw [hd];exact h8,by rw [hd];exact h9,Uc hn hb.size,Uc hm hb.size,hB.trans (hb.mono (by omega))⟩
theorem TH (a b r c d a' b' r' c' d':bI)(w W:af)(hW:W=((w.alloc (.cells #[.string a,.string b,.string r,.string c,.string d] 29)).alloc (.cells #[.string a',.string b',.string r',.string c',.string d'] 29))):W.drew.cell? ⟨w.heap.size,0,none⟩=some (.string a)/\W.drew.cell? ⟨w.heap.size,1,none⟩=some (.string b)/\W.drew.cell? ⟨w.heap.size,2,none⟩=some (.string r)/\W.drew.cell? ⟨w.heap.size,3,none⟩=some (.string c)/\W.drew.cell? ⟨w.heap.size,4,none⟩=some (.string d)/\W.drew.cell? ⟨w.heap.size+1,0,none⟩=some (.string a')/\W.drew.cell? ⟨w.heap.size+1,1,none⟩=some (.string b')/\W.drew.cell? ⟨w.heap.size+1,2,none⟩=some (.string r')/\W.drew.cell? ⟨w.heap.size+1,3,none⟩=some (.string c')/\W.drew.cell? ⟨w.heap.size+1,4,none⟩=some (.string d')/\w.heap.size<W.drew.heap.size/\w.heap.size+1<W.drew.heap.size/\ag w W.drew:=by
 subst hW;refine ⟨?_,?_,?_,?_,?_,?_,?_,?_,?_,?_,?_,?_,?_⟩
 all_goals first|exact (Ab _ _ _).drew|(simp;done)|(simp;omega)
theorem vv (a b r c d a' b' r' c' d':bI)(w:af)(ha:a.size<=maxLen)(hb:b.size<=maxLen)(hr:r.size<=maxLen)(hc:c.size<=maxLen)(hd:d.size<=maxLen)(ga:a'.size<=maxLen)(gb:b'.size<=maxLen)(gr:r'.size<=maxLen)(gc:c'.size<=maxLen)(gd:d'.size<=maxLen) :
  Calls prog 130 #[.agg #[.string a,.string b,.string r,.string c,.string d],.agg #[.string a',.string b',.string r',.string c',.string d']] w fun e w'=>e=.returned (.bool (fT a b r c d ⟨#[]⟩ a' b' r' c' d' ⟨#[]⟩))/\ag w w':=by
 have he0:(⟨#[]⟩:ByteArray).size<=maxLen:=by decide
 have H0:=TH a b r c d a' b' r' c' d' w _ rfl;go_enter func130,ntmps130;go_wp2_with fail
 go_region_held3 (fun w'=>w'.cell? ⟨w.heap.size,0,none⟩=some (.string a)/\w'.cell? ⟨w.heap.size,1,none⟩=some (.string b)/\w'.cell? ⟨w.heap.size,2,none⟩=some (.string r)/\w'.cell? ⟨w.heap.size,3,none⟩=some (.string c)/\w'.cell? ⟨w.heap.size,4,none⟩=some (.string d)/\w'.cell? ⟨w.heap.size+1,0,none⟩=some (.string a')/\w'.cell? ⟨w.heap.size+1,1,none⟩=some (.string b')/\w'.cell? ⟨w.heap.size+1,2,none⟩=some (.string r')/\w'.cell? ⟨w.heap.size+1,3,none⟩=some (.string c')/\w'.cell? ⟨w.heap.size+1,4,none⟩=some (.string d')/\w.heap.size<w'.heap.size/\w.heap.size+1<w'.heap.size/\ag w w')
  (first|assumption|exact QJ (Ue _) (by assumption) hbx|exact H0)
  (first|(go_at_call 181;refine (LG _ _ _ _ _ _).mono ?_;rintro e w' ⟨rfl,hbx⟩)|(go_at_call 137;refine (nG _ _ _ _ _ _ _ _ _ _ _ _ _ (by assumption) (by assumption) (by assumption) (by assumption) (by assumption) (by assumption) (by assumption) (by assumption) (by assumption) (by assumption) (by assumption) (by assumption)).mono ?_;rintro e w' ⟨rfl,hbx⟩))
 rename_i hJ;obtain ⟨-,-,-,-,-,-,-,-,-,-,-,-,gB⟩:=hJ;go_wp2;go_ret;exact ⟨rfl,gB⟩
end Go.Proofs.YtajkkeikihhejaaGreat
namespace Go.Proofs.YtajkkeikihhejaaGreat
open Go.ChangeShapes Go.WideShapes Go.ChangeAt Go.RowKit Go.Maps
open Pl
set_option maxRecDepth 8000 in
theorem Es (ad:Option Addr)(cap:Nat)(rs:List ER)(w:af)(hlen:rs.length<=15)(hs:iC w ad rs)(hl:∀ r∈rs,r.e.light) :
  Calls prog 54 #[.slice ad rs.length cap] w fun e w'=>∃ rs':List ER,e=.returned (.slice (some ⟨w.heap.size,0,none⟩) rs'.length rs'.length)/\aj rs'=aj rs/\iC w' (some ⟨w.heap.size,0,none⟩) rs'/\qC w.heap.size w' rs'/\gY w' w.heap.size/\w.heap.size<w'.heap.size/\ag w w':=by
 obtain ⟨inf,z,hi,hz0,hz1,hz2⟩:=R9 (t:=39) (n:=5) (b:=88) (by kernel_rfl);obtain ⟨iA,hiA,zA0,zA1,zA2⟩:=info_parts (P:=prog) (e:=43) (z:=.agg #[.string ⟨#[]⟩,.string ⟨#[]⟩]) (size:=2) (bytes:=32) (by kernel_rfl);obtain ⟨iI,hiI,zI0,zI1,zI2⟩:=info_parts (P:=prog) (e:=2) (z:=.int .i64 0) (size:=1) (bytes:=8) (by kernel_rfl);have WY:=aA hs;have Yf:=aA hl;have YW:Hid (prog.info? 43=some iA/\iA.zero=some (.agg #[.string ⟨#[]⟩,.string ⟨#[]⟩])/\iA.size=2/\iA.bytes=32):=⟨hiA,zA0,zA1,zA2⟩;have HII:Hid (prog.info? 2=some iI/\iI.zero=some (.int .i64 0)/\iI.size=1/\iI.bytes=8):=⟨hiI,zI0,zI1,zI2⟩;clear hs hl hiA zA0 zA1 zA2 hiI zI0 zI1 zI2;go_enter func54,ntmps54;go_wp2_with (at_make;refine wpList_make_full _ rfl _ _ 33 rfl w.heap.size 39 inf z 5 underlying33 hi hz0 hz1 .i64 .i64 _ _ rs.length rfl rfl rfl rfl (by rw [hz2];omega) (by unfold maxLen;omega) (Ue _) ?_;intro w0 hown0 VL);have F0:Fil w w0 w.heap.size (rs.length*5) []:=Nl hown0 VL;clear hown0 VL hi hz0 hz1 hz2;go_loopw [11] (fun i wr=>∃ (k:Nat) (qs:List ER),k<=rs.length/\i=.int .i64 k/\Hid (qs.length=k/\aj qs=(aj rs).take k/\(∀ q∈qs,q.ok wr))/\Hid (qC w.heap.size wr qs)/\Hid (Fil w wr w.heap.size (rs.length*5) (gZ qs))) (fun i _=>rs.length-(intOf i).toNat);case atStart=>exact ⟨0,[],Ui _,rfl,⟨rfl,by simp [aj],(fun q hq=>by cases hq)⟩,qC.nil _ _,F0⟩
 clear F0;obtain ⟨k,qs,hk,rfl,HQ,HO,HF⟩:=hrel;by_cases hlt:k<rs.length
 ·rcases WY.out.below HF.out.below with hnil|⟨b,off,UT,hb,hr,hok⟩
  ·rw [hnil]at hlt;simp at hlt
  obtain ⟨t0,t1,t2,t3,t4⟩:=hr k hlt;have VP:Hid (rs[k].ok wr):=hok rs[k] (Ud hlt);have hlg:=Yf.out rs[k] (Ud hlt);have lA:rs[k].e.allow.length<=1048576:=hlg.1;have lK:rs[k].e.kids.length<=1048576:=hlg.2;have hk1:=bF k;have hk2:(k:Int)<(rs.length:Int):=by omega
  obtain ⟨W1,hW1⟩:∃ W1,W1=wr.alloc (.cells #[.int .i64 rs[k].e.kind,.slice rs[k].adA rs[k].e.allow.length rs[k].capA,.string rs[k].e.over,.string rs[k].e.name,.slice rs[k].adK rs[k].e.kids.length rs[k].capK] 39):=⟨_,rfl⟩;have HB1:=rV hW1;have hgl:wr.heap.size<W1.heap.size:=by rw [hW1];simp
  have HSA1:Hid (jM W1 rs[k].adA rs[k].e.allow):=VP.out.1.below HB1.out;have p0:W1.cell? ⟨wr.heap.size,0,none⟩=some (.int .i64 rs[k].e.kind):=by rw [hW1];simp
  have p1:W1.cell? ⟨wr.heap.size,1,none⟩=some (.slice rs[k].adA rs[k].e.allow.length rs[k].capA):=by rw [hW1];simp
  have p2:W1.cell? ⟨wr.heap.size,2,none⟩=some (.string rs[k].e.over):=by rw [hW1];simp
  have p3:W1.cell? ⟨wr.heap.size,3,none⟩=some (.string rs[k].e.name):=by rw [hW1];simp
  have p4:W1.cell? ⟨wr.heap.size,4,none⟩=some (.slice rs[k].adK rs[k].e.kids.length rs[k].capK):=by rw [hW1];simp
  have fp:∀ y,W1.frozen? ⟨wr.heap.size,y,none⟩=false:=fun y=>by rw [hW1];simp
  have Xi:Hid (W1.cell? ⟨wr.heap.size,0,none⟩=some (.int .i64 rs[k].e.kind)/\W1.cell? ⟨wr.heap.size,1,none⟩=some (.slice rs[k].adA rs[k].e.allow.length rs[k].capA)/\W1.cell? ⟨wr.heap.size,2,none⟩=some (.string rs[k].e.over)/\W1.cell? ⟨wr.heap.size,3,none⟩=some (.string rs[k].e.name)/\W1.cell? ⟨wr.heap.size,4,none⟩=some (.slice rs[k].adK rs[k].e.kids.length rs[k].capK)/\∀ y,W1.frozen? ⟨wr.heap.size,y,none⟩=false):=⟨p0,p1,p2,p3,p4,fp⟩;clear p0 p1 p2 p3 p4 fp;rw [UT];clear hr hok hlg;go_wp2_with (at_builtin;rw [<-hW1];clear hW1;refine l8 _ rfl _ _ 36 rfl 43 iA (.agg #[.string ⟨#[]⟩,.string ⟨#[]⟩]) 2 32 underlying36 YW.out.1 YW.out.2.1 YW.out.2.2.1 YW.out.2.2.2 rfl (by decide) rfl rs[k].adA rs[k].e.allow.length rs[k].capA (pairs rs[k].e.allow) rfl (lm _) HSA1.out.none0 (Sw HSA1.out) (Oh _) (by unfold maxLen;omega) (by omega) ?_);intro v2 w2 hown2 Vd;have HB2:Hid (ag W1 w2):=(Uf _ _).grown Vd (Ue _) (fun k hk=>by cases hk);obtain ⟨adA,cpA,rfl,hsA,hzA,hoA⟩:=RH (by simpa using hown2) (by simp);have HSA2:=aA hsA;have HZA:Hid (rs[k].e.allow≠[]->∃ g,adA=some ⟨g,0,none⟩):=hzA;have HOA:Hid (∀ g,rs[k].e.allow≠[]->adA=some ⟨g,0,none⟩->W1.heap.size<=g/\g<w2.heap.size/\gY w2 g):=hoA;have x0:w2.cell? ⟨wr.heap.size,0,none⟩=some (.int .i64 rs[k].e.kind):=kept HB2.out hgl Xi.out.1;have x1:w2.cell? ⟨wr.heap.size,1,none⟩=some (.slice rs[k].adA rs[k].e.allow.length rs[k].capA):=kept HB2.out hgl Xi.out.2.1;have x2:w2.cell? ⟨wr.heap.size,2,none⟩=some (.string rs[k].e.over):=kept HB2.out hgl Xi.out.2.2.1;have x3:w2.cell? ⟨wr.heap.size,3,none⟩=some (.string rs[k].e.name):=kept HB2.out hgl Xi.out.2.2.2.1;have x4:w2.cell? ⟨wr.heap.size,4,none⟩=some (.slice rs[k].adK rs[k].e.kids.length rs[k].capK):=kept HB2.out hgl Xi.out.2.2.2.2.1;have fx:∀ y,w2.frozen? ⟨wr.heap.size,y,none⟩=false:=fun y=>Nn HB2.out hgl (Xi.out.2.2.2.2.2 y);clear hown2 Vd hsA hzA hoA;obtain ⟨W3,hW3⟩:∃ W3,W3=w2.setCell ⟨wr.heap.size,1,none⟩ (.slice adA rs[k].e.allow.length cpA):=⟨_,rfl⟩;have HB3:Hid (ag wr W3):=by
   show Below _ _ _;rw [hW3];exact (HB1.out.trans (HB2.out.mono (Nat.le_of_lt hgl))).setCell (Ue _) _
  have XT:Hid (Chg (fun g=>g=wr.heap.size) w2 W3):=by rw [hW3];exact Chg.set _ rfl
  have HSK3:Hid (p8 W3 rs[k].adK rs[k].e.kids):=VP.out.2.below HB3.out;have YX:wr.heap.size<W3.heap.size:=by rw [hW3];simp only [World.size_setCell];exact Uc hgl HB2.out.size
  have WC:Hid (W3.cell? ⟨wr.heap.size,0,none⟩=some (.int .i64 rs[k].e.kind)/\W3.cell? ⟨wr.heap.size,1,none⟩=some (.slice adA rs[k].e.allow.length cpA)/\W3.cell? ⟨wr.heap.size,2,none⟩=some (.string rs[k].e.over)/\W3.cell? ⟨wr.heap.size,3,none⟩=some (.string rs[k].e.name)/\W3.cell? ⟨wr.heap.size,4,none⟩=some (.slice rs[k].adK rs[k].e.kids.length rs[k].capK)/\∀ y,W3.frozen? ⟨wr.heap.size,y,none⟩=false):=by
   rw [hW3];exact ⟨by rw [lQ (by omega)];exact x0,xA x1,by rw [lQ (by omega)];exact x2,by rw [lQ (by omega)];exact x3,by rw [lQ (by omega)];exact x4,fun y=>by simpa using fx y⟩
  go_wp2_with (at_builtin;rw [<-hW3];clear hW3;refine l8 _ rfl _ _ 37 rfl 2 iI (.int .i64 0) 1 8 underlying37 HII.out.1 HII.out.2.1 HII.out.2.2.1 HII.out.2.2.2 rfl (by decide) rfl rs[k].adK rs[k].e.kids.length rs[k].capK (ints rs[k].e.kids) rfl (by simp [ints]) HSK3.out.none0 (Sy HSK3.out) (QA _) (by unfold maxLen;omega) (by omega) ?_);intro v4 w4 Ve VF;have Vx:Hid (ag W3 w4):=(Uf _ _).grown VF (Ue _) (fun k hk=>by cases hk);obtain ⟨adK,cpK,rfl,hsK,hzK,hoK⟩:=RI (by simpa using Ve) (by simp);have HSK4:=aA hsK;have HZK:Hid (rs[k].e.kids≠[]->∃ g,adK=some ⟨g,0,none⟩):=hzK;have HOKK:Hid (∀ g,rs[k].e.kids≠[]->adK=some ⟨g,0,none⟩->W3.heap.size<=g/\g<w4.heap.size/\gY w4 g):=hoK;have y0:w4.cell? ⟨wr.heap.size,0,none⟩=some (.int .i64 rs[k].e.kind):=kept Vx.out YX WC.out.1;have y1:w4.cell? ⟨wr.heap.size,1,none⟩=some (.slice adA rs[k].e.allow.length cpA):=kept Vx.out YX WC.out.2.1;have y2:w4.cell? ⟨wr.heap.size,2,none⟩=some (.string rs[k].e.over):=kept Vx.out YX WC.out.2.2.1;have y3:w4.cell? ⟨wr.heap.size,3,none⟩=some (.string rs[k].e.name):=kept Vx.out YX WC.out.2.2.2.1;have y4:w4.cell? ⟨wr.heap.size,4,none⟩=some (.slice rs[k].adK rs[k].e.kids.length rs[k].capK):=kept Vx.out YX WC.out.2.2.2.2.1;have fy:∀ y,w4.frozen? ⟨wr.heap.size,y,none⟩=false:=fun y=>Nn Vx.out YX (WC.out.2.2.2.2.2 y);clear Ve VF hsK hzK hoK x0 x1 x2 x3 x4 fx t0 t1 t2 t3 t4;obtain ⟨W5,Vr⟩:∃ W5,W5=w4.setCell ⟨wr.heap.size,4,none⟩ (.slice adK rs[k].e.kids.length cpK):=⟨_,rfl⟩;have V9:Hid (ag wr W5):=by
   show Below _ _ _;rw [Vr];exact (HB3.out.trans (Vx.out.mono HB3.out.size)).setCell (Ue _) _
  have Xl:Hid (Chg (fun g=>g=wr.heap.size) w4 W5):=by rw [Vr];exact Chg.set _ rfl
  obtain ⟨q,hq⟩:∃ q:ER,q=⟨rs[k].e,adA,cpA,adK,cpK⟩:=⟨_,rfl⟩;have HCA5:Hid (Chg (fun g=>g=wr.heap.size) w2 W5):=XT.out.trans ((Chg.of Vx.out).trans Xl.out);have HQOK:Hid (q.ok W5):=by
   rw [hq];refine ⟨HSA2.out.chg HCA5.out fun g o hne e=>?_,HSK4.out.chg Xl.out fun g o hne e=>?_⟩
   ·obtain ⟨g0,e0⟩:=HZA.out hne;rw [e0]at e;injection e with e;injection e with e1 e2;have:=(HOA.out g0 hne e0).1;omega
   obtain ⟨g0,e0⟩:=HZK.out hne;rw [e0]at e;injection e with e;injection e with e1 e2;have:=(HOKK.out g0 hne e0).1;omega
  have HQR:Hid (∀ g,oM q g->wr.heap.size<g/\g<W5.heap.size/\gY W5 g):=by
   rw [hq];rintro g (⟨hne,e⟩|⟨hne,e⟩)
   ·obtain ⟨a1,a2,a3⟩:=HOA.out g hne e;exact ⟨by omega,Uc a2 HCA5.out.size,HCA5.out.free g a2 a3⟩
   obtain ⟨a1,a2,a3⟩:=HOKK.out g hne e;exact ⟨by omega,Uc a2 Xl.out.size,Xl.out.free g a2 a3⟩
  have HQ1:Hid (∀ g,bA q g->¬ bK q g):=by
   rw [hq];rintro g ⟨hne,e⟩ ⟨hne2,e2⟩;obtain ⟨a1,a2,a3⟩:=HOA.out g hne e;obtain ⟨b1,b2,b3⟩:=HOKK.out g hne2 e2;have:=XT.out.size;omega
  have HQZ:Hid ((q.e.allow≠[]->∃ g,q.adA=some ⟨g,0,none⟩)/\(q.e.kids≠[]->∃ g,q.adK=some ⟨g,0,none⟩)):=by rw [hq];exact ⟨HZA.out,HZK.out⟩
  have F1:=HF.out.later V9.out;have F4:=HF.out.later (HB3.out.trans (Vx.out.mono HB3.out.size));have fz:=F4.free;obtain ⟨v0,u0⟩:=Option.isSome_iff_exists.mp (F4.there (k*5) (by omega));obtain ⟨v1,u1⟩:=Option.isSome_iff_exists.mp (F4.there (k*5+1) (by omega));obtain ⟨v2,u2⟩:=Option.isSome_iff_exists.mp (F4.there (k*5+2) (by omega));obtain ⟨v3,u3⟩:=Option.isSome_iff_exists.mp (F4.there (k*5+3) (by omega));obtain ⟨v4,u4⟩:=Option.isSome_iff_exists.mp (F4.there (k*5+4) (by omega));have hne1:(wr.heap.size=w.heap.size)=False:=by have:=HF.out.lt;simp;omega
  have hne2:(w.heap.size=wr.heap.size)=False:=by have:=HF.out.lt;simp;omega
  have hpl:(gZ qs).length=k*5:=by rw [rf,HQ.out.1]
  have F2:=((((F1.put (.int .i64 rs[k].e.kind) (o:=k*5) hpl.symm (by omega)).put (.slice adA rs[k].e.allow.length cpA) (o:=k*5+1) (by simp [hpl]) (by omega)).put (.string rs[k].e.over) (o:=k*5+2) (by simp [hpl]) (by omega)).put (.string rs[k].e.name) (o:=k*5+3) (by simp [hpl]) (by omega)).put (.slice adK rs[k].e.kids.length cpK) (o:=k*5+4) (by simp [hpl]) (by omega);have e5:((((gZ qs++[.int .i64 rs[k].e.kind])++[.slice adA rs[k].e.allow.length cpA])++[.string rs[k].e.over])++[.string rs[k].e.name])++[.slice adK rs[k].e.kids.length cpK]=gZ (qs++[q]):=by rw [hq];simp [gZ,ER.row]
  rw [e5]at F2;obtain ⟨wn,hwn⟩:∃ wn,wn=((((W5.setCell ⟨w.heap.size,k*5,none⟩ (.int .i64 rs[k].e.kind)).setCell ⟨w.heap.size,k*5+1,none⟩ (.slice adA rs[k].e.allow.length cpA)).setCell ⟨w.heap.size,k*5+2,none⟩ (.string rs[k].e.over)).setCell ⟨w.heap.size,k*5+3,none⟩ (.string rs[k].e.name)).setCell ⟨w.heap.size,k*5+4,none⟩ (.slice adK rs[k].e.kids.length cpK):=⟨_,rfl⟩;have HCW:Hid (Chg (fun g=>g=w.heap.size) W5 wn):=by rw [hwn];exact ((((Chg.set (S:=fun g=>g=w.heap.size) _ rfl).trans (Chg.set _ rfl)).trans (Chg.set _ rfl)).trans (Chg.set _ rfl)).trans (Chg.set _ rfl)
  have UN:Hid (qC w.heap.size wn (qs++[q])):=HO.out.add ((Chg.of V9.out).trans HCW.out) HF.out.lt HQZ.out.1 HQZ.out.2 HQ1.out fun g hg=>by
   obtain ⟨a1,a2,a3⟩:=HQR.out g hg;exact ⟨by omega,Uc a2 HCW.out.size,HCW.out.free g a2 a3⟩
  have HQ2:Hid ((qs++[q]).length=k+1/\aj (qs++[q])=(aj rs).take (k+1)/\∀ p∈qs++[q],p.ok wn):=by
   obtain ⟨h1,h2,h3⟩:=HQ.out;refine ⟨by simp [h1],?_,?_⟩
   ·rw [Uh (by rw [aN];exact hlt),<-h2];simp [aj,hq]
   intro p hp;have hin:∀ g,oM p g->w.heap.size<g:=fun g hg=>(UN.out.2 p hp g hg).1;have hzA:=UN.out.1.zeroA p hp;have hzK:=UN.out.1.zeroK p hp;have hp5:p.ok W5:=by
    rw [Uq,Uo]at hp;rcases hp with hp|rfl
    ·exact (h3 p hp).below V9.out
    exact HQOK.out
   refine hp5.chg HCW.out (fun g o hne e=>?_) (fun g o hne e=>?_)
   ·obtain ⟨g0,e0⟩:=hzA hne;have e':=e;rw [e0]at e';injection e' with e';injection e' with e1 e2;have:=hin g0 (.inl ⟨hne,e0⟩);omega
   obtain ⟨g0,e0⟩:=hzK hne;have e':=e;rw [e0]at e';injection e' with e';injection e' with e1 e2;have:=hin g0 (.inr ⟨hne,e0⟩);omega
  rw [<-hwn]at F2;have VV:=aA F2;have HWN:Hid (wn=((((W5.setCell ⟨w.heap.size,k*5,none⟩ (.int .i64 rs[k].e.kind)).setCell ⟨w.heap.size,k*5+1,none⟩ (.slice adA rs[k].e.allow.length cpA)).setCell ⟨w.heap.size,k*5+2,none⟩ (.string rs[k].e.over)).setCell ⟨w.heap.size,k*5+3,none⟩ (.string rs[k].e.name)).setCell ⟨w.heap.size,k*5+4,none⟩ (.slice adK rs[k].e.kids.length cpK)):=hwn;have HW5:Hid (W5=w4.setCell ⟨wr.heap.size,4,none⟩ (.slice adK rs[k].e.kids.length cpK)):=Vr;clear F1 F2 F4 hpl e5 hq hwn Vr;go_wp2;rw [<-HW5.out,<-HWN.out];go_roundw;case rel=>exact ⟨k+1,qs++[q],by omega,by go_num,HQ2,UN,VV⟩
  simp [intOf];omega
 obtain rfl:k=rs.length:=by omega
 obtain ⟨h1,h2,h3⟩:=HQ.out;have HQ3:Hid (qs.length=rs.length):=h1;have HE3:Hid (aj qs=aj rs):=by rw [<-aN rs,Us]at h2;exact h2
 have HS3:Hid (iC wr (some ⟨w.heap.size,0,none⟩) qs):=by
  have F:=HF.out;rw [<-h1]at F;exact F.rows fun r hr=>h3 r hr
 have HB3:Hid (ag w wr):=HF.out.below;have HFH:Hid (gY wr w.heap.size):=HF.out.free;have Z6:Hid (w.heap.size<wr.heap.size):=HF.out.lt;clear h1 h2 h3;go_wp2;go_ret;exact ⟨qs,by rw [HQ3.out];rfl,HE3.out,HS3.out,HO.out,HFH.out,Z6.out,HB3.out⟩
end Go.Proofs.YtajkkeikihhejaaGreat
