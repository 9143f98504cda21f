/- Lists in memory whose elements hold lists again, each in a row and in a block of its own: one more at the end, another last one. Expressions, relations and types as such lists. -/
import Derived.Test.YtcgdckphpjfmhaaGreatDoorSq
import Derived.Test.YtcgdckphpjfmhaaGreatDoorJ3
import Derived.Test.YtcgdckphpjfmhaaGreatDoorJ4
import Derived.Test.YtcgdckphpjfmhaaGreatDoorJ2
import Derived.Test.YtcgdckphpjfmhaaGreatDoorShelf
open Go.Proofs.Tryz
set_option maxHeartbeats 80000000
namespace Go.Proofs.YtcgdckphpjfmhaaGreatDoor
set_option maxRecDepth 100000
set_option linter.unusedVariables false
open ChangeShapes WideShapes ChangeAt RowKit
open Pl
structure Kid{α:Type}(K:World->Nat->α->Prop)(I:α->Nat->Prop):Prop where
 heap:∀(w w':World) (base:Nat) (q:α),K w base q->w.heap.size<=w'.heap.size->(∀g,I q g->w'.heap[g]?=w.heap[g]?)->K w' base q
 lt:∀(w:World) (base:Nat) (q:α),K w base q->∀g,I q g->base<=g/\g<w.heap.size
def F3{α:Type}(I:α->Nat->Prop)(v:Value)(rs:List α)(g:Nat):Prop:=v.ownBlock=some g \/ ∃q∈rs,I q g
structure Xf{α:Type}(T:TypeId)(size:Nat)(cells:α->List Value)(K:World->Nat->α->Prop)(I:α->Nat->Prop)(w:World)(base:Nat)(v:Value)(rs:List α):Prop where
 own:w.ownsRow base T size v rs.length (rs.flatMap cells)
 kid:∀q∈rs,K w base q
 head:∀q∈rs,∀g,I q g->v.ownBlock≠some g
 two:∀(x y:Nat) (hx:x<rs.length) (hy:y<rs.length),x≠y->∀g,I rs[x] g->¬I rs[y] g
section
variable  {α:Type}{T:TypeId}{size:Nat}{cells:α->List Value}{K:World->Nat->α->Prop}{I:α->Nat->Prop}{w w':World}{base:Nat}{v:Value}{rs:List α}
theorem Xf.lt(kd:Kid K I)(h:Xf T size cells K I w base v rs){g:Nat}(hg:F3 I v rs g):base<=g/\g<w.heap.size:=by
 rcases hg with hg|⟨q,hq,hg⟩
 ·exact h.own.lt g hg
 exact kd.lt w base q (h.kid q hq) g hg
theorem Xf.heap(kd:Kid K I)(h:Xf T size cells K I w base v rs)(hs:w.heap.size<=w'.heap.size)(hh:∀g,F3 I v rs g->w'.heap[g]?=w.heap[g]?):Xf T size cells K I w' base v rs where
 own:=jv h.own fun g hg=>hh g (.inl hg)
 kid q hq:=kd.heap w w' base q (h.kid q hq) hs fun g hg=>hh g (.inr ⟨q,hq,hg⟩)
 head:=h.head
 two:=h.two
theorem Xf.below(kd:Kid K I)(h:Xf T size cells K I w base v rs)(hb:af w w'):Xf T size cells K I w' base v rs :=
 h.heap kd hb.size fun g hg=>hb.block g (h.lt kd hg).2
theorem OD(w:ae)(base:Nat):Xf T size cells K I w base (.slice none 0 0) [] :=
 ⟨World.ownsRow_nil _ _ _ _,fun q hq=>(by cases hq),fun q hq=>(by cases hq),fun x y hx=>absurd hx (by simp)⟩
theorem F4{rs:List α}{q:α}(h:∀(x y:Nat) (hx:x<rs.length) (hy:y<rs.length),x≠y->∀g,I rs[x] g->¬I rs[y] g)(hq:∀p∈rs,∀g,I p g->¬I q g):
  ∀(x y:Nat) (hx:x<(rs++[q]).length) (hy:y<(rs++[q]).length),x≠y->∀g,I (rs++[q])[x] g->¬I (rs++[q])[y] g:=by
 intro x y hx hy hxy g h1 h2;rw[VI,Wh]at hx hy;by_cases ex:x<rs.length
 ·rw[VY ex]at h1;by_cases ey:y<rs.length
  ·rw[VY ey]at h2;exact h x y ex ey hxy g h1 h2
  have:y=rs.length:=by omega
  subst this;rw[Wj (VC _)]at h2;simp at h2;exact hq _ (Vz ex) g h1 h2
 have:x=rs.length:=by omega
 subst this;rw[Wj (VC _)]at h1;simp at h1;have ey:y<rs.length:=by omega
 rw[VY ey]at h2;exact hq _ (Vz ey) g h2 h1
theorem OE{rs:List α}{q:α}(h:∀(x y:Nat) (hx:x<(rs++[q]).length) (hy:y<(rs++[q]).length),x≠y->∀g,I (rs++[q])[x] g->¬I (rs++[q])[y] g):
  (∀(x y:Nat) (hx:x<rs.length) (hy:y<rs.length),x≠y->∀g,I rs[x] g->¬I rs[y] g)/\∀p∈rs,∀g,I p g->¬I q g:=by
 refine⟨fun x y hx hy hxy g h1 h2=>?_,fun p hp g h1 h2=>?_⟩
 ·exact h x y (by simp;omega) (by simp;omega) hxy g (by rw[VY hx];exact h1) (by rw[VY hy];exact h2)
 obtain⟨x,hx,rfl⟩:=WR hp;exact h x rs.length (by simp;omega) (by simp) (by omega) g (by rw[VY hx];exact h1) (by rw[Wj (VC _)];simpa using h2)
theorem Xf.snoc(kd:Kid K I)(h:Xf T size cells K I w base v rs){q:α}{v':Value}(hown:w'.ownsRow base T size v' (rs.length+1) (rs.flatMap cells++cells q))(hg:w.grownBy w' v.ownBlock)(hat:v'.ownBlock=v.ownBlock \/ ∃g,v'.ownBlock=some g/\w.heap.size<=g)
  (hq:K w base q) (hv:∀g,I q g->v.ownBlock≠some g) (hr:∀p∈rs,∀g,I p g->¬I q g):Xf T size cells K I w' base v' (rs++[q]):=by
 have keep:∀(p:α),K w base p->(∀g,I p g->v.ownBlock≠some g)->K w' base p:=fun p hp hn=>kd.heap w w' base p hp hg.size fun g hi=>hg.block g (kd.lt w base p hp g hi).2 (fun e=>hn g hi e.symm);have apart:∀(p:α),K w base p->(∀g,I p g->v.ownBlock≠some g)->∀g,I p g->v'.ownBlock≠some g:=fun p hp hn g hi=>by
  rcases hat with e|⟨g',e,hge⟩
  ·rw[e];exact hn g hi
  rw[e];intro e2;injection e2 with e2;have:=(kd.lt w base p hp g hi).2;omega
 refine⟨by simpa using hown,fun p hp=>?_,fun p hp=>?_,F4 h.two hr⟩
 ·rcases VL.1 hp with hp|hp
  ·exact keep p (h.kid p hp) (h.head p hp)
  rw[VK]at hp;subst hp;exact keep _ hq hv
 rcases VL.1 hp with hp|hp
 ·exact apart p (h.kid p hp) (h.head p hp)
 rw[VK]at hp;subst hp;exact apart _ hq hv
theorem Xf.last(kd:Kid K I){xs:List α}{q q':α}{b n cap j:Nat}{u:Value}{w1:ae}{row:Option Nat}(h:Xf T size cells K I w base (.slice (some ⟨b,0,none⟩) n cap) (xs++[q]))(hn:n=xs.length+1)
  (hg:w.grownBy w1 row) (hrow:∀r,row=some r->I q r) (hq':K w1 base q') (hI:∀g,I q' g->I q g\/(g≠b/\∀p∈xs,¬I p g)) (hset:((xs++[q]).flatMap cells).set j u=(xs++[q']).flatMap cells) :
  Xf T size cells K I (w1.setCell ⟨b,j,none⟩ u) base (.slice (some ⟨b,0,none⟩) n cap) (xs++[q']):=by
 have hbl:b<w.heap.size:=(h.own.lt b rfl).2;have hq:=h.kid q (by simp);have hqb:∀g,I q g->g≠b:=fun g hi e=>h.head q (by simp) g hi (by rw[e];rfl);have hq'b:∀g,I q' g->g≠b:=fun g hi e=>by
  rcases hI g hi with h2|h2
  ·exact hqb g h2 e
  exact h2.1 e
 have hb1:w1.heap[b]?=w.heap[b]?:=hg.block b hbl (fun e=>hqb b (hrow b e.symm) rfl);have own1:w1.ownsRow base T size (.slice (some ⟨b,0,none⟩) n cap) (xs++[q]).length ((xs++[q]).flatMap cells):=jv h.own fun g hgo=>by
  have e:b=g:=by simpa[Value.ownBlock] using hgo
  rw[<-e];exact hb1
 have hlen:(xs++[q]).length=n:=by simp[hn]
 rw[hlen]at own1;obtain⟨ZJ,hg2⟩:=own1.stored j u;rw[hset]at ZJ;obtain⟨ht1,ht2⟩:=OE h.two;have h2s:∀g,g≠b->(w1.setCell ⟨b,j,none⟩ u).heap[g]?=w1.heap[g]?:=fun g hne=>Below.heap_setCell w1 _ u g hne;refine⟨by simpa[hn] using ZJ,fun p hp=>?_,fun p hp g hi=>?_,F4 ht1 fun p hp g hi hi'=>?_⟩
 ·rcases VL.1 hp with hp|hp
  ·have hkp:=h.kid p (by simp[hp]);refine kd.heap w _ base p hkp (VJ hg.size hg2.size) fun g hi=>?_;have hl:=(kd.lt w base p hkp g hi).2;rw[h2s g (fun e=>h.head p (by simp[hp]) g hi (by rw[e];rfl))];exact hg.block g hl (fun e=>ht2 p hp g hi (hrow g e.symm))
  rw[VK]at hp;subst hp;exact kd.heap w1 _ base _ hq' hg2.size fun g hi=>h2s g (hq'b g hi)
 ·intro e;have e:b=g:=by simpa[Value.ownBlock] using e
  rcases VL.1 hp with hp|hp
  ·exact h.head p (by simp[hp]) g hi (by rw[<-e];rfl)
  rw[VK]at hp;subst hp;exact hq'b g hi e.symm
 rcases hI g hi' with h2|h2
 ·exact ht2 p hp g hi h2
 exact h2.2 p hp hi
end
structure NodM(w:World)(base:Nat)(v:Value)(qs:Q08):Prop where
 own:w.ownsRow base 188 5 v qs.length (jL qs)
 zA:∀q∈qs,q.e.allow≠[]->∃g,q.adA=some ⟨g,0,none⟩
 zK:∀q∈qs,q.e.kids≠[]->∃g,q.adK=some ⟨g,0,none⟩
 ok:∀q∈qs,q.ok w
 lie:∀q∈qs,∀g,qd q g->base<=g/\g<w.heap.size/\jJ w g/\v.ownBlock≠some g
 one:∀q∈qs,∀g,bA q g->¬bK q g
 two:∀(x y:Nat) (hx:x<qs.length) (hy:y<qs.length),x≠y->∀g,qd qs[x] g->¬qd qs[y] g
 cA:∀q∈qs,q.e.allow.length<=q.capA
theorem NodM.mono{w:ae}{base base':Nat}{v:Value}{qs:Q08}(h:NodM w base v qs)(hb:base'<=base):NodM w base' v qs :=
 ⟨⟨h.own.1,by
  rcases h.own.2 with hl|⟨g,cap,cur,e,h1,h2⟩
  ·exact .inl hl
  exact .inr ⟨g,cap,cur,e,VJ hb h1,h2⟩⟩,h.zA,h.zK,h.ok,fun q hq g hg=>⟨VJ hb (h.lie q hq g hg).1,(h.lie q hq g hg).2⟩,h.one,h.two,h.cA⟩
def RR.vs(q:RR):Value:=.slice q.ad q.rows.length q.cap
def TR.vs(q:TR):Value:=.slice q.ad q.rows.length q.cap
def kR(w:World)(base:Nat)(q:RR):Prop:=NodM w base q.vs q.rows
def iR(q:RR):Nat->Prop:=F3 qd q.vs q.rows
theorem IW:Kid kR iR where
 heap w w' base q h hs hh:={
  own:=jv h.own fun g hg=>hh g (.inl hg)
  zA:=h.zA
  zK:=h.zK
  ok:=fun x hx=>rQ (h.ok x hx) hs (h.zA x hx) (h.zK x hx) fun g hg=>hh g (.inr ⟨x,hx,hg⟩)
  lie:=fun x hx g hg=>by
   obtain⟨a1,a2,a3,a4⟩:=h.lie x hx g hg;exact⟨a1,Vy a2 hs,cz a3 (hh g (.inr ⟨x,hx,hg⟩)),a4⟩
  one:=h.one
  two:=h.two
  cA:=h.cA }
 lt w base q h g hg:=by
  rcases hg with hg|⟨x,hx,hg⟩
  ·exact h.own.lt g hg
  exact⟨(h.lie x hx g hg).1,(h.lie x hx g hg).2.1⟩
def RR.cells(q:RR):List Value:=[.string q.name,q.vs]
def TR.cells(q:TR):List Value:=[.string q.name,q.vs]
abbrev BO:=Xf 149 2 RR.cells kR iR
def kT(w:World)(base:Nat)(q:TR):Prop:=BO w base q.vs q.rows
def iT(q:TR):Nat->Prop:=F3 iR q.vs q.rows
theorem mU:Kid kT iT where
 heap w w' base q h hs hh:=Xf.heap IW h hs hh
 lt w base q h g hg:=Xf.lt IW h hg
abbrev iV:=Xf 105 2 TR.cells kT iT
theorem rR{α:Type}{cells:α->List Value}(h2:∀q,(cells q).length=2):∀(rs:List α) (i:Nat) (h:i<rs.length) (j:Nat),j<2->(rs.flatMap cells)[i*2+j]?=(cells rs[i])[j]?
 | [],i,h,_,_=>by simp at h
 | r::rs,0,_,j,hj=>by
  simp only[Wi,Nat.zero_mul,V4,List.getElem_cons_zero];rw[Wx (by rw[h2];exact hj)]
 | r::rs,i+1,h,j,hj=>by
  have:=rR h2 rs i (by simpa using h) j hj;simp only[Wi,List.getElem_cons_succ];rw[Wu (by rw[h2];omega),h2,<-this];congr 1;omega
theorem pg{α:Type}{cells:α->List Value}(h2:∀q,(cells q).length=2):∀(rs:List α),(rs.flatMap cells).length=rs.length*2
 | []=>rfl
 | r::rs=>by simp only[Wi,VI,h2,pg h2 rs,We];omega
theorem TJ{w:ae}{base:Nat}{q:TR}(h:kT w base q):NK w q.ad q.rows:=by
 by_cases hz:q.rows=[]
 ·exact .inl hz
 rcases h.own.2 with⟨-,h0⟩|⟨g,cap,cur,e,-⟩
 ·exact absurd (VS.1 h0) hz
 have h3:=h.own;unfold TR.vs at e h3;injection e with e1 e2 e3;rw[e1]at h3;refine .inr ⟨g,0,e1,(h3.lt g rfl).2,fun i hi=>?_,fun r hr=>?_⟩
 ·have hl:(q.rows.flatMap RR.cells).length=q.rows.length*2:=pg (fun _=>rfl) _;have key:∀j,j<2->w.cell? ⟨g,0+i*2+j,none⟩=(RR.cells q.rows[i])[j]?:=fun j hj=>by
   rw[h3.cellAt (0+i*2+j) (by omega),<-rR (fun _=>rfl) q.rows i hi j hj,V4]
  exact⟨key 0 (by omega),key 1 (by omega)⟩
 have hk:=h.kid r hr;obtain⟨ad,cap',e4,hsl⟩:=SG hk.own rfl hk.ok;unfold RR.vs at e4;injection e4 with e5 e6 e7;show jq w r.ad r.rows;rw[e5];exact hsl
theorem OG{w:ae}{base size n cap:Nat}{e:TypeId}{ad:Q02}{xs:Q03}(h:w.ownsRow base e size (.slice ad n cap) n xs):n<=cap:=by
 rcases h.2 with⟨e1,h0⟩|⟨g,cap',cur,e1,-,-,hnc,-⟩
 ·injection e1 with _ e2 e3;omega
 injection e1 with _ e2 e3;omega
theorem iV.read{w:ae}{base:Nat}{v:Value}{rs:Q06}(h:iV w base v rs):∃ad cap,v=.slice ad rs.length cap/\jP w ad rs/\∀r∈rs,r.caps:=by
 have hc:∀r∈rs,r.caps:=fun r hr=>⟨OG (h.kid r hr).own,fun q hq=>⟨OG ((h.kid r hr).kid q hq).own,((h.kid r hr).kid q hq).cA⟩⟩;rcases h.own.2 with⟨rfl,h0⟩|⟨g,cap,cur,rfl,-⟩
 ·exact⟨none,0,by rw[h0],.inl (VS.1 h0),hc⟩
 have h3:=h.own;refine⟨some ⟨g,0,none⟩,cap,rfl,.inr ⟨g,0,rfl,(h3.lt g rfl).2,fun i hi=>?_,fun r hr=>TJ (h.kid r hr)⟩,hc⟩;have hl:(rs.flatMap TR.cells).length=rs.length*2:=pg (fun _=>rfl) _;have key:∀j,j<2->w.cell? ⟨g,0+i*2+j,none⟩=(TR.cells rs[i])[j]?:=fun j hj=>by
  rw[h3.cellAt (0+i*2+j) (by omega),<-rR (fun _=>rfl) rs i hi j hj,V4]
 exact⟨key 0 (by omega),key 1 (by omega)⟩
theorem yA(t i:bW)(w:ae)(ht:t.size<=maxLen)(hi:i.size<=maxLen):
  Calls prog 228 #[.agg #[.string t,.string i]] w fun e w'=>e=.returned (.string (aB t i))/\af w w':=by
 by_cases hn:fH t i=true
 ·obtain⟨h1,h2⟩:=yY hn;have HT:Hid (aB t i=t++⟨#[58]⟩++i):=mX hn;go_enter func228,ntmps228;go_wp2_with(go_at_call 166;refine(fU _ _ _ ht hi).mono ?_;rintro e w' ⟨rfl,hb⟩;obtain⟨hc,hf⟩:=jN hb);go_ret;exact⟨fZ HT.out.symm,((VD _ _).alloc (VC _) _).trans (hb.mono (by simp))⟩
 have hn':fH t i=false:=by simpa using hn
 have HT:Hid (aB t i=⟨#[]⟩):=tH hn';clear hn;go_enter func228,ntmps228;go_wp2_with(go_at_call 166;refine(fU _ _ _ ht hi).mono ?_;rintro e w' ⟨rfl,hb⟩;obtain⟨hc,hf⟩:=jN hb);go_ret;exact⟨fZ HT.out.symm,((VD _ _).alloc (VC _) _).trans (hb.mono (by simp))⟩
theorem yB(t i:bW)(w:ae)(ht:t.size<=maxLen)(hi:i.size<=maxLen):
  Calls prog 191 #[.agg #[.string t,.string i]] w fun e w'=>e=.returned (.string (aB t i))/\af w w':=by
 by_cases hn:fH t i=true
 ·obtain⟨h1,h2⟩:=yY hn;have HT:Hid (aB t i=t++⟨#[58]⟩++i):=mX hn;go_enter func191,ntmps191;go_wp2_with(go_at_call 178;refine(fV _ _ _ ht hi).mono ?_;rintro e w' ⟨rfl,hb⟩;obtain⟨hc,hf⟩:=jN hb);go_ret;exact⟨fZ HT.out.symm,((VD _ _).alloc (VC _) _).trans (hb.mono (by simp))⟩
 have hn':fH t i=false:=by simpa using hn
 have HT:Hid (aB t i=⟨#[]⟩):=tH hn';clear hn;go_enter func191,ntmps191;go_wp2_with(go_at_call 178;refine(fV _ _ _ ht hi).mono ?_;rintro e w' ⟨rfl,hb⟩;obtain⟨hc,hf⟩:=jN hb);go_ret;exact⟨fZ HT.out.symm,((VD _ _).alloc (VC _) _).trans (hb.mono (by simp))⟩
theorem CL(s:bW)(w:ae)(hs:s.size<=maxLen):
  Calls prog 179 #[.string s] w fun e w'=>e=.returned (.bool (wE s))/\w'=w:=by
 go_enter func179,ntmps179;go_wp2_with(go_at_call 170;refine(aL _ _ hs).mono ?_;rintro e w' ⟨rfl,rfl⟩)
 all_goals go_ret
 all_goals exact⟨ah (by simp[wE, *]),rfl⟩
theorem dU(a b r c d s:bW)(w:ae)(ha:a.size<=maxLen)(hb:b.size<=maxLen)(hr:r.size<=maxLen)(hc:c.size<=maxLen)(hd:d.size<=maxLen)(hs:s.size<=maxLen):
  Calls prog 111 #[.agg #[.string a,.string b,.string r,.string c,.string d,.string s]] w fun e w'=>e=.returned (.bool (bF a b r c d s))/\af w w':=by
 by_cases h1:fH a b=true
 ·by_cases h2:aS r=true
  ·by_cases h3:fH c d=true
   ·have HT:Hid (bF a b r c d s=wE s):=zx h1 h2 h3;go_enter func111,ntmps111;go_wp2_with fail;refine(fU _ _ _ ha hb).mono ?_;rintro e w1 ⟨rfl,hb1⟩;obtain⟨hc1,hf1⟩:=jN hb1;have hz1:w.heap.size<w1.heap.size:=by have:=hb1.size;simp at this;omega
    go_wp2_with fail;refine(aT _ _ hr).mono ?_;rintro e w1' ⟨rfl,rfl⟩;go_wp2_with fail;refine(fU _ _ _ hc hd).mono ?_;rintro e w2 ⟨rfl,hb2⟩;obtain⟨hc2,hf2⟩:=jN hb2;have hz2:w.heap.size<w2.heap.size:=by have:=hb2.size;omega
    go_wp2_with(go_at_call 151;refine(aT _ _ hs).mono ?_;rintro e w3 ⟨rfl,rfl⟩)
    all_goals go_ret
    all_goals exact⟨ah (HT.out.trans (by simp[wE, *])).symm,((VD _ _).alloc (VC _) _).trans ((hb1.mono (by simp)).trans (hb2.mono (by omega)))⟩
   have h3':fH c d=false:=by simpa using h3
   have HT:Hid (bF a b r c d s=false):=zw h3';clear h3;go_enter func111,ntmps111;go_wp2_with fail;refine(fU _ _ _ ha hb).mono ?_;rintro e w1 ⟨rfl,hb1⟩;obtain⟨hc1,hf1⟩:=jN hb1;have hz1:w.heap.size<w1.heap.size:=by have:=hb1.size;simp at this;omega
   go_wp2_with fail;refine(aT _ _ hr).mono ?_;rintro e w1' ⟨rfl,rfl⟩;go_wp2_with fail;refine(fU _ _ _ hc hd).mono ?_;rintro e w2 ⟨rfl,hb2⟩;go_wp2;go_ret;exact⟨ah HT.out.symm,((VD _ _).alloc (VC _) _).trans ((hb1.mono (by simp)).trans (hb2.mono (by omega)))⟩
  have h2':aS r=false:=by simpa using h2
  have HT:Hid (bF a b r c d s=false):=zu h2';clear h2;go_enter func111,ntmps111;go_wp2_with fail;refine(fU _ _ _ ha hb).mono ?_;rintro e w1 ⟨rfl,hb1⟩;obtain⟨hc1,hf1⟩:=jN hb1;go_wp2_with fail;refine(aT _ _ hr).mono ?_;rintro e w1' ⟨rfl,rfl⟩;go_wp2;go_ret;exact⟨ah HT.out.symm,((VD _ _).alloc (VC _) _).trans (hb1.mono (by simp))⟩
 have h1':fH a b=false:=by simpa using h1
 have HT:Hid (bF a b r c d s=false):=zt h1';clear h1;go_enter func111,ntmps111;go_wp2_with fail;refine(fU _ _ _ ha hb).mono ?_;rintro e w1 ⟨rfl,hb1⟩;go_wp2;go_ret;exact⟨ah HT.out.symm,((VD _ _).alloc (VC _) _).trans (hb1.mono (by simp))⟩
theorem fD(a b r c d s:bW)(w:ae)(ha:a.size<=maxLen)(hb:b.size<=maxLen)(hr:r.size<=maxLen)(hc:c.size<=maxLen)(hd:d.size<=maxLen)(hs:s.size<=maxLen):
  Calls prog 128 #[.agg #[.string a,.string b,.string r,.string c,.string d,.string s]] w fun e w'=>e=.returned (.bool (bF a b r c d s))/\af w w':=by
 by_cases h1:fH a b=true
 ·by_cases h2:aS r=true
  ·by_cases h3:fH c d=true
   ·have HT:Hid (bF a b r c d s=wE s):=zx h1 h2 h3;go_enter func128,ntmps128;go_wp2_with fail;refine(fV _ _ _ ha hb).mono ?_;rintro e w1 ⟨rfl,hb1⟩;obtain⟨hc1,hf1⟩:=jN hb1;have hz1:w.heap.size<w1.heap.size:=by have:=hb1.size;simp at this;omega
    go_wp2_with fail;refine(aL _ _ hr).mono ?_;rintro e w1' ⟨rfl,rfl⟩;go_wp2_with fail;refine(fV _ _ _ hc hd).mono ?_;rintro e w2 ⟨rfl,hb2⟩;obtain⟨hc2,hf2⟩:=jN hb2;have hz2:w.heap.size<w2.heap.size:=by have:=hb2.size;omega
    go_wp2_with(go_at_call 179;refine(CL _ _ hs).mono ?_;rintro e w3 ⟨rfl,rfl⟩)
    all_goals go_ret
    all_goals exact⟨ah (HT.out.trans (by simp[wE, *])).symm,((VD _ _).alloc (VC _) _).trans ((hb1.mono (by simp)).trans (hb2.mono (by omega)))⟩
   have h3':fH c d=false:=by simpa using h3
   have HT:Hid (bF a b r c d s=false):=zw h3';clear h3;go_enter func128,ntmps128;go_wp2_with fail;refine(fV _ _ _ ha hb).mono ?_;rintro e w1 ⟨rfl,hb1⟩;obtain⟨hc1,hf1⟩:=jN hb1;have hz1:w.heap.size<w1.heap.size:=by have:=hb1.size;simp at this;omega
   go_wp2_with fail;refine(aL _ _ hr).mono ?_;rintro e w1' ⟨rfl,rfl⟩;go_wp2_with fail;refine(fV _ _ _ hc hd).mono ?_;rintro e w2 ⟨rfl,hb2⟩;go_wp2;go_ret;exact⟨ah HT.out.symm,((VD _ _).alloc (VC _) _).trans ((hb1.mono (by simp)).trans (hb2.mono (by omega)))⟩
  have h2':aS r=false:=by simpa using h2
  have HT:Hid (bF a b r c d s=false):=zu h2';clear h2;go_enter func128,ntmps128;go_wp2_with fail;refine(fV _ _ _ ha hb).mono ?_;rintro e w1 ⟨rfl,hb1⟩;obtain⟨hc1,hf1⟩:=jN hb1;go_wp2_with fail;refine(aL _ _ hr).mono ?_;rintro e w1' ⟨rfl,rfl⟩;go_wp2;go_ret;exact⟨ah HT.out.symm,((VD _ _).alloc (VC _) _).trans (hb1.mono (by simp))⟩
 have h1':fH a b=false:=by simpa using h1
 have HT:Hid (bF a b r c d s=false):=zt h1';clear h1;go_enter func128,ntmps128;go_wp2_with fail;refine(fV _ _ _ ha hb).mono ?_;rintro e w1 ⟨rfl,hb1⟩;go_wp2;go_ret;exact⟨ah HT.out.symm,((VD _ _).alloc (VC _) _).trans (hb1.mono (by simp))⟩
structure Tp where
 a:ByteArray
 b:ByteArray
 r:ByteArray
 c:ByteArray
 d:ByteArray
 s:ByteArray
abbrev Q05:=List Tp
def Tp.fits(t:Tp):Prop:=t.a.size<=maxLen/\t.b.size<=maxLen/\t.r.size<=maxLen/\t.c.size<=maxLen/\t.d.size<=maxLen/\t.s.size<=maxLen
def SK(w:World)(b off:Nat)(t:Tp):Prop :=
 w.cell? ⟨b,off,none⟩=some (.string t.a)/\w.cell? ⟨b,off+1,none⟩=some (.string t.b)/\w.cell? ⟨b,off+2,none⟩=some (.string t.r) /\
 w.cell? ⟨b,off+3,none⟩=some (.string t.c)/\w.cell? ⟨b,off+4,none⟩=some (.string t.d)/\w.cell? ⟨b,off+5,none⟩=some (.string t.s)
def dE(w:World)(b off:Nat)(ts:Q05):Prop:=∀(i:Nat) (h:i<ts.length),SK w b (off+i*6) ts[i]
def Sl(w:World)(ad:Q02)(ts:Q05):Prop:=ts=[] \/ ∃b off,ad=some ⟨b,off,none⟩/\b<w.heap.size/\dE w b off ts
theorem SK.same{w w':ae}{b off:Nat}{t:Tp}(h:SK w b off t)(hc:∀o,w'.cell? ⟨b,o,none⟩=w.cell? ⟨b,o,none⟩):SK w' b off t:=by
 obtain⟨h0,h1,h2,h3,h4,h5⟩:=h;exact⟨(hc _).trans h0,(hc _).trans h1,(hc _).trans h2,(hc _).trans h3,(hc _).trans h4,(hc _).trans h5⟩
theorem dE.below{w w':ae}{b off B:Nat}{ts:Q05}(h:dE w b off ts)(hB:Below B w w')(hb:b<B):dE w' b off ts :=
 fun i hi=>(h i hi).same fun o=>hB.cell (p:=⟨b,o,none⟩) hb
theorem Sl.below{w w':ae}{ad:Q02}{ts:Q05}(h:Sl w ad ts)(hB:af w w'):Sl w' ad ts:=by
 rcases h with h|⟨b,off,e,hb,hr⟩
 ·exact .inl h
 exact .inr ⟨b,off,e,Vy hb hB.size,hr.below hB hb⟩
def zZ(w:World)(g o:Nat)(t:Tp):World :=
 (((((w.setCell ⟨g,o,none⟩ (.string t.a)).setCell ⟨g,o+1,none⟩ (.string t.b)).setCell ⟨g,o+2,none⟩ (.string t.r)).setCell ⟨g,o+3,none⟩ (.string t.c)).setCell ⟨g,o+4,none⟩ (.string t.d)).setCell ⟨g,o+5,none⟩ (.string t.s)
theorem kU{w:ae}{g i j:Nat}{v:Value}(h:i≠j):(w.setCell ⟨g,i,none⟩ v).cell? ⟨g,j,none⟩=w.cell? ⟨g,j,none⟩:=by
 apply World.cell?_setCell_other;intro e;exact h (congrArg Addr.off e)
theorem LF{w:ae}{a:Addr}{v u:Value}(h:w.cell? a=some u):(w.setCell a v).cell? a=some v:=by
 apply World.cell?_setCell_same;exact h
theorem F5(w:ae)(g o:Nat)(t:Tp)(j:Nat)(h:j<o\/o+6<=j):(zZ w g o t).cell? ⟨g,j,none⟩=w.cell? ⟨g,j,none⟩:=by
 unfold zZ;rw[kU (by omega),kU (by omega),kU (by omega),kU (by omega),kU (by omega),kU (by omega)]
theorem KI{w:ae}{g o:Nat}(t:Tp)(h:∀j,j<6->(w.cell? ⟨g,o+j,none⟩).isSome=true):SK (zZ w g o t) g o t:=by
 have e:∀(W:World) (i j:Nat) (v:Value),(W.cell? ⟨g,o+j,none⟩).isSome=true->((W.setCell ⟨g,o+i,none⟩ v).cell? ⟨g,o+j,none⟩).isSome=true:=by
  intro W i j v hW;by_cases hij:i=j
  ·subst hij;obtain⟨u,hu⟩:=Option.isSome_iff_exists.mp hW;rw[LF hu];rfl
  rw[kU (by omega)];exact hW
 have same:∀(W:World) (j:Nat) (v:Value),(W.cell? ⟨g,o+j,none⟩).isSome=true->(W.setCell ⟨g,o+j,none⟩ v).cell? ⟨g,o+j,none⟩=some v:=by
  intro W j v hW;obtain⟨u,hu⟩:=Option.isSome_iff_exists.mp hW;exact LF hu
 have h0:=h 0 (by omega);have h1:=h 1 (by omega);have h2:=h 2 (by omega);have h3:=h 3 (by omega);have h4:=h 4 (by omega);have h5:=h 5 (by omega);unfold zZ SK;refine⟨?_,?_,?_,?_,?_,?_⟩
 ·rw[kU (by omega),kU (by omega),kU (by omega),kU (by omega),kU (by omega)];exact same _ 0 _ h0
 ·rw[kU (by omega),kU (by omega),kU (by omega),kU (by omega)];exact same _ 1 _ (e _ 0 1 _ h1)
 ·rw[kU (by omega),kU (by omega),kU (by omega)];exact same _ 2 _ (e _ 1 2 _ (e _ 0 2 _ h2))
 ·rw[kU (by omega),kU (by omega)];exact same _ 3 _ (e _ 2 3 _ (e _ 1 3 _ (e _ 0 3 _ h3)))
 ·rw[kU (by omega)];exact same _ 4 _ (e _ 3 4 _ (e _ 2 4 _ (e _ 1 4 _ (e _ 0 4 _ h4))))
 exact same _ 5 _ (e _ 4 5 _ (e _ 3 5 _ (e _ 2 5 _ (e _ 1 5 _ (e _ 0 5 _ h5)))))
theorem F6(w:ae)(g o:Nat)(t:Tp)(x:Addr):(zZ w g o t).frozen? x=w.frozen? x:=by simp[zZ]
theorem IX{B:Nat}{w0 w:ae}{g o:Nat}{t:Tp}(h:Below B w0 w)(hg:B<=g):Below B w0 (zZ w g o t):=by
 unfold zZ;exact(((((h.setCell (by exact hg) _).setCell (by exact hg) _).setCell (by exact hg) _).setCell (by exact hg) _).setCell (by exact hg) _).setCell (by exact hg) _
theorem LG(w:ae)(g o:Nat)(t:Tp):(zZ w g o t).heap.size=w.heap.size:=by simp[zZ]
end Go.Proofs.YtcgdckphpjfmhaaGreatDoor
namespace Go.Proofs.YtcgdckphpjfmhaaGreatDoor
open ChangeShapes WideShapes ChangeAt RowKit
open Pl
attribute [local go_sem ↓] Go.wp_at_zero Go.wp_at_succ
theorem SL{w W w':ae}{n:Nat}{x0 x1 x2 x3 x4 x5:Value}(h:W.cell? ⟨n,0,none⟩=some x0/\W.cell? ⟨n,1,none⟩=some x1/\W.cell? ⟨n,2,none⟩=some x2/\W.cell? ⟨n,3,none⟩=some x3/\W.cell? ⟨n,4,none⟩=some x4/\W.cell? ⟨n,5,none⟩=some x5/\n<W.heap.size/\Below n w W)(hb:af W w'):w'.cell? ⟨n,0,none⟩=some x0/\w'.cell? ⟨n,1,none⟩=some x1/\w'.cell? ⟨n,2,none⟩=some x2/\w'.cell? ⟨n,3,none⟩=some x3/\w'.cell? ⟨n,4,none⟩=some x4/\w'.cell? ⟨n,5,none⟩=some x5/\n<w'.heap.size/\Below n w w':=by
 obtain⟨h0,h1,h2,h3,h4,h5,hn,hB⟩:=h;have hc:∀o,w'.cell? ⟨n,o,none⟩=W.cell? ⟨n,o,none⟩:=fun o=>hb.cell (p:=⟨n,o,none⟩) hn;refine⟨by rw[hc];exact h0,by rw[hc];exact h1,by rw[hc];exact h2,by rw[hc];exact h3,by rw[hc];exact h4,by rw[hc];exact h5,Vy hn hb.size,hB.trans (hb.mono (WS hn))⟩
theorem yC(a b r c d s:bW)(w:ae)(ha:a.size<=maxLen)(hb:b.size<=maxLen)(hr:r.size<=maxLen)(hc:c.size<=maxLen)(hd:d.size<=maxLen)(hs:s.size<=maxLen):
  Calls prog 205 #[.agg #[.string a,.string b,.string r,.string c,.string d,.string s]] w fun e w'=>e=.returned (.string (aY a b r c d s))/\af w w':=by
 by_cases hn:bF a b r c d s=true
 ·obtain⟨h1,h2,h3,h4⟩:=jR hn;have hx:=iw a b;have hy:=iw c d;have Zl:=(nV h2).2;have hs12:=D8 h4;clear h1 h2 h3 h4;go_enter func205,ntmps205;go_wp2_with fail;refine(dU _ _ _ _ _ _ _ ha hb hr hc hd hs).mono ?_;rintro e w1 ⟨rfl,hb1⟩;obtain⟨hc1,hf1⟩:=jN hb1;have hz1:w.heap.size<w1.heap.size:=by have:=hb1.size;simp at this;omega
  have k:∀o v,(w.alloc (.cells #[.string a,.string b,.string r,.string c,.string d,.string s] 29)).cell? ⟨w.heap.size,o,none⟩=some v->w1.cell? ⟨w.heap.size,o,none⟩=some v:=fun o v h=>by rw[hc1 _ _ (by simp)];exact h
  have k0:=k 0 (.string a) (by simp);have k1:=k 1 (.string b) (by simp);have k2:=k 2 (.string r) (by simp);have k3:=k 3 (.string c) (by simp);have k4:=k 4 (.string d) (by simp);have k5:=k 5 (.string s) (by simp);have HB1:af w w1:=((VD _ _).alloc (VC _) _).trans (hb1.mono (by simp));clear k hb1 hc1 hf1;have q1:(9223372036854775807<(aB a b).size+1)=False:=by simp;omega
  have q2:(9223372036854775807<(aB a b).size+1+r.size)=False:=by simp;omega
  have q3:(9223372036854775807<(aB a b).size+1+r.size+1)=False:=by simp;omega
  have q4:(9223372036854775807<(aB a b).size+1+r.size+1+(aB c d).size)=False:=by simp;omega
  go_wp2_with fail
  go_region_held3 (fun w'=>w'.cell? ⟨w.heap.size,0,none⟩=some (.string a)/\w'.cell? ⟨w.heap.size,1,none⟩=some (.string b)/\w'.cell? ⟨w.heap.size,2,none⟩=some (.string r)/\w'.cell? ⟨w.heap.size,3,none⟩=some (.string c)/\w'.cell? ⟨w.heap.size,4,none⟩=some (.string d)/\w'.cell? ⟨w.heap.size,5,none⟩=some (.string s)/\w.heap.size<w'.heap.size/\af w w')
   (first|exact SL (by assumption) hbx|exact⟨k0,k1,k2,k3,k4,k5,hz1,HB1.drew⟩)
   (first|(go_at_call 228;refine(yA _ _ _ (by assumption) (by assumption)).mono ?_;rintro e w' ⟨rfl,hbx⟩))
  rename_i hH;obtain⟨g0,g1,g2,g3,g4,g5,gz,gB⟩:=hH;clear k0 k1 k2 k3 k4 k5 hbx q1 q2 q3 q4 HB1;by_cases he:s.toList.isEmpty=true
  ·have HT:Hid (aY a b r c d s=_):=mY hn he;go_wp2;go_ret;exact⟨fZ HT.out.symm,gB⟩
  have he':s.toList.isEmpty=false:=by simpa using he
  have HT:Hid (aY a b r c d s=_):=mZ hn he';clear he;go_wp2;go_ret;exact⟨fZ HT.out.symm,gB⟩
 have hn':bF a b r c d s=false:=by simpa using hn
 have HT:Hid (aY a b r c d s=⟨#[]⟩):=tJ hn';clear hn;go_enter func205,ntmps205;go_wp2_with fail;refine(dU _ _ _ _ _ _ _ ha hb hr hc hd hs).mono ?_;rintro e w1 ⟨rfl,hb1⟩;go_wp2;go_ret;exact⟨fZ HT.out.symm,((VD _ _).alloc (VC _) _).trans (hb1.mono (by simp))⟩
theorem yD(a b r c d s:bW)(w:ae)(ha:a.size<=maxLen)(hb:b.size<=maxLen)(hr:r.size<=maxLen)(hc:c.size<=maxLen)(hd:d.size<=maxLen)(hs:s.size<=maxLen):
  Calls prog 148 #[.agg #[.string a,.string b,.string r,.string c,.string d,.string s]] w fun e w'=>e=.returned (.string (aY a b r c d s))/\af w w':=by
 by_cases hn:bF a b r c d s=true
 ·obtain⟨h1,h2,h3,h4⟩:=jR hn;have hx:=iw a b;have hy:=iw c d;have Zl:=(nV h2).2;have hs12:=D8 h4;clear h1 h2 h3 h4;go_enter func148,ntmps148;go_wp2_with fail;refine(fD _ _ _ _ _ _ _ ha hb hr hc hd hs).mono ?_;rintro e w1 ⟨rfl,hb1⟩;obtain⟨hc1,hf1⟩:=jN hb1;have hz1:w.heap.size<w1.heap.size:=by have:=hb1.size;simp at this;omega
  have k:∀o v,(w.alloc (.cells #[.string a,.string b,.string r,.string c,.string d,.string s] 29)).cell? ⟨w.heap.size,o,none⟩=some v->w1.cell? ⟨w.heap.size,o,none⟩=some v:=fun o v h=>by rw[hc1 _ _ (by simp)];exact h
  have k0:=k 0 (.string a) (by simp);have k1:=k 1 (.string b) (by simp);have k2:=k 2 (.string r) (by simp);have k3:=k 3 (.string c) (by simp);have k4:=k 4 (.string d) (by simp);have k5:=k 5 (.string s) (by simp);have HB1:af w w1:=((VD _ _).alloc (VC _) _).trans (hb1.mono (by simp));clear k hb1 hc1 hf1;have q1:(9223372036854775807<(aB a b).size+1)=False:=by simp;omega
  have q2:(9223372036854775807<(aB a b).size+1+r.size)=False:=by simp;omega
  have q3:(9223372036854775807<(aB a b).size+1+r.size+1)=False:=by simp;omega
  have q4:(9223372036854775807<(aB a b).size+1+r.size+1+(aB c d).size)=False:=by simp;omega
  go_wp2_with fail
  go_region_held3 (fun w'=>w'.cell? ⟨w.heap.size,0,none⟩=some (.string a)/\w'.cell? ⟨w.heap.size,1,none⟩=some (.string b)/\w'.cell? ⟨w.heap.size,2,none⟩=some (.string r)/\w'.cell? ⟨w.heap.size,3,none⟩=some (.string c)/\w'.cell? ⟨w.heap.size,4,none⟩=some (.string d)/\w'.cell? ⟨w.heap.size,5,none⟩=some (.string s)/\w.heap.size<w'.heap.size/\af w w')
   (first|exact SL (by assumption) hbx|exact⟨k0,k1,k2,k3,k4,k5,hz1,HB1.drew⟩)
   (first|(go_at_call 191;refine(yB _ _ _ (by assumption) (by assumption)).mono ?_;rintro e w' ⟨rfl,hbx⟩))
  rename_i hH;obtain⟨g0,g1,g2,g3,g4,g5,gz,gB⟩:=hH;clear k0 k1 k2 k3 k4 k5 hbx q1 q2 q3 q4 HB1;by_cases he:s.toList.isEmpty=true
  ·have HT:Hid (aY a b r c d s=_):=mY hn he;go_wp2;go_ret;exact⟨fZ HT.out.symm,gB⟩
  have he':s.toList.isEmpty=false:=by simpa using he
  have HT:Hid (aY a b r c d s=_):=mZ hn he';clear he;go_wp2;go_ret;exact⟨fZ (HT.out.trans (by simp only[Wt])).symm,gB⟩
 have hn':bF a b r c d s=false:=by simpa using hn
 have HT:Hid (aY a b r c d s=⟨#[]⟩):=tJ hn';clear hn;go_enter func148,ntmps148;go_wp2_with fail;refine(fD _ _ _ _ _ _ _ ha hb hr hc hd hs).mono ?_;rintro e w1 ⟨rfl,hb1⟩;go_wp2;go_ret;exact⟨fZ HT.out.symm,((VD _ _).alloc (VC _) _).trans (hb1.mono (by simp))⟩
end Go.Proofs.YtcgdckphpjfmhaaGreatDoor
namespace Go.Proofs.YtcgdckphpjfmhaaGreatDoor
open ChangeShapes WideShapes ChangeAt RowKit
open Pl
attribute [local go_sem ↓] Go.wp_at_zero Go.wp_at_succ
theorem IY{w W w':ae}{n m k:Nat}{x0 x1 x2 x3 x4 x5 y0 y1 y2 y3 y4 y5:Value}(hk:k<=n)(h:W.cell? ⟨n,0,none⟩=some x0/\W.cell? ⟨n,1,none⟩=some x1/\W.cell? ⟨n,2,none⟩=some x2/\W.cell? ⟨n,3,none⟩=some x3/\W.cell? ⟨n,4,none⟩=some x4/\W.cell? ⟨n,5,none⟩=some x5/\W.cell? ⟨m,0,none⟩=some y0/\W.cell? ⟨m,1,none⟩=some y1/\W.cell? ⟨m,2,none⟩=some y2/\W.cell? ⟨m,3,none⟩=some y3/\W.cell? ⟨m,4,none⟩=some y4/\W.cell? ⟨m,5,none⟩=some y5/\n<W.heap.size/\m<W.heap.size/\Below k w W)(hb:af W w'):w'.cell? ⟨n,0,none⟩=some x0/\w'.cell? ⟨n,1,none⟩=some x1/\w'.cell? ⟨n,2,none⟩=some x2/\w'.cell? ⟨n,3,none⟩=some x3/\w'.cell? ⟨n,4,none⟩=some x4/\w'.cell? ⟨n,5,none⟩=some x5/\w'.cell? ⟨m,0,none⟩=some y0/\w'.cell? ⟨m,1,none⟩=some y1/\w'.cell? ⟨m,2,none⟩=some y2/\w'.cell? ⟨m,3,none⟩=some y3/\w'.cell? ⟨m,4,none⟩=some y4/\w'.cell? ⟨m,5,none⟩=some y5/\n<w'.heap.size/\m<w'.heap.size/\Below k w w':=by
 obtain⟨h0,h1,h2,h3,h4,h5,h6,h7,h8,h9,h10,h11,hn,hm,hB⟩:=h;have hc:∀o,w'.cell? ⟨n,o,none⟩=W.cell? ⟨n,o,none⟩:=fun o=>hb.cell (p:=⟨n,o,none⟩) hn;have hd:∀o,w'.cell? ⟨m,o,none⟩=W.cell? ⟨m,o,none⟩:=fun o=>hb.cell (p:=⟨m,o,none⟩) hm;exact⟨by rw[hc];exact h0,by rw[hc];exact h1,by rw[hc];exact h2,by rw[hc];exact h3,by rw[hc];exact h4,by rw[hc];exact h5,by rw[hd];exact h6,by rw[hd];exact h7,by rw[hd];exact h8,by rw[hd];exact h9,by rw[hd];exact h10,by rw[hd];exact h11,Vy hn hb.size,Vy hm hb.size,hB.trans (hb.mono (by omega))⟩
theorem Em(w:ae)(o1 o2:Obj):af w ((w.alloc o1).alloc o2) :=
 ((VD _ _).alloc (VC _) _).alloc (by simp) _
def F7(a b r c d s a' b' r' c' d' s':ByteArray):Int:=Lib.compareBytes (aY a b r c d s).data.toList (aY a' b' r' c' d' s').data.toList
theorem uX(x y:List UInt8):decide (Lib.compareBytes x y<0)=Op.bytesLess x y:=by
 induction x generalizing y with
 | nil=>cases y<;>simp[Lib.compareBytes,Op.bytesLess]
 | cons a x ih =>
  cases y with
  | nil=>simp[Lib.compareBytes,Op.bytesLess]
  | cons b y =>
   unfold Lib.compareBytes Op.bytesLess;by_cases h:a<b
   ·simp[h]
   by_cases h2:b<a
   ·have hne:(a==b)=false:=by simp;intro e;subst e;exact h h2
    simp[h,h2,hne]
   have he:a=b:=by
    have h1:=UInt8.not_lt.mp h;have h3:=UInt8.not_lt.mp h2;exact UInt8.le_antisymm h3 h1
   subst he;simp[ih]
theorem SN(a b r c d s a' b' r' c' d' s':bW)(w W:ae)(hW:W=((w.alloc (.cells #[.string a,.string b,.string r,.string c,.string d,.string s] 29)).alloc (.cells #[.string a',.string b',.string r',.string c',.string d',.string s'] 29))):W.drew.cell? ⟨w.heap.size,0,none⟩=some (.string a)/\W.drew.cell? ⟨w.heap.size,1,none⟩=some (.string b)/\W.drew.cell? ⟨w.heap.size,2,none⟩=some (.string r)/\W.drew.cell? ⟨w.heap.size,3,none⟩=some (.string c)/\W.drew.cell? ⟨w.heap.size,4,none⟩=some (.string d)/\W.drew.cell? ⟨w.heap.size,5,none⟩=some (.string s)/\W.drew.cell? ⟨w.heap.size+1,0,none⟩=some (.string a')/\W.drew.cell? ⟨w.heap.size+1,1,none⟩=some (.string b')/\W.drew.cell? ⟨w.heap.size+1,2,none⟩=some (.string r')/\W.drew.cell? ⟨w.heap.size+1,3,none⟩=some (.string c')/\W.drew.cell? ⟨w.heap.size+1,4,none⟩=some (.string d')/\W.drew.cell? ⟨w.heap.size+1,5,none⟩=some (.string s')/\w.heap.size<W.drew.heap.size/\w.heap.size+1<W.drew.heap.size/\af w (W.drew):=by
 subst hW;refine⟨?_,?_,?_,?_,?_,?_,?_,?_,?_,?_,?_,?_,?_,?_,?_⟩
 all_goals first|exact(Em _ _ _).drew|(simp;done)|(simp;omega)
theorem nz(a b r c d s a' b' r' c' d' s':bW)(w:ae)(ha:a.size<=maxLen)(hb:b.size<=maxLen)(hr:r.size<=maxLen)(hc:c.size<=maxLen)(hd:d.size<=maxLen)(hs:s.size<=maxLen)(ga:a'.size<=maxLen)(gb:b'.size<=maxLen)(gr:r'.size<=maxLen)(gc:c'.size<=maxLen)(gd:d'.size<=maxLen)(gs:s'.size<=maxLen):
  Calls prog 86 #[.agg #[.string a,.string b,.string r,.string c,.string d,.string s],.agg #[.string a',.string b',.string r',.string c',.string d',.string s']] w fun e w'=>e=.returned (.int .i64 (F7 a b r c d s a' b' r' c' d' s'))/\af w w':=by
 have H0:=SN a b r c d s a' b' r' c' d' s' w _ rfl;go_enter func86,ntmps86;go_wp2_with fail
 go_region_held3 (fun w'=>w'.cell? ⟨w.heap.size,0,none⟩=some (.string a)/\w'.cell? ⟨w.heap.size,1,none⟩=some (.string b)/\w'.cell? ⟨w.heap.size,2,none⟩=some (.string r)/\w'.cell? ⟨w.heap.size,3,none⟩=some (.string c)/\w'.cell? ⟨w.heap.size,4,none⟩=some (.string d)/\w'.cell? ⟨w.heap.size,5,none⟩=some (.string s)/\w'.cell? ⟨w.heap.size+1,0,none⟩=some (.string a')/\w'.cell? ⟨w.heap.size+1,1,none⟩=some (.string b')/\w'.cell? ⟨w.heap.size+1,2,none⟩=some (.string r')/\w'.cell? ⟨w.heap.size+1,3,none⟩=some (.string c')/\w'.cell? ⟨w.heap.size+1,4,none⟩=some (.string d')/\w'.cell? ⟨w.heap.size+1,5,none⟩=some (.string s')/\w.heap.size<w'.heap.size/\w.heap.size+1<w'.heap.size/\af w w')
  (first|assumption|exact IY (VC _) (by assumption) hbx|exact H0)
  (first|(go_at_call 148;refine(yD _ _ _ _ _ _ _ (by assumption) (by assumption) (by assumption) (by assumption) (by assumption) (by assumption)).mono ?_;rintro e w' ⟨rfl,hbx⟩)|(go_at_call 147;refine(Tryz.strings_Compare _ _ _).mono ?_;rintro e w' ⟨rfl,rfl⟩))
 rename_i hH;obtain⟨-,-,-,-,-,-,-,-,-,-,-,-,-,-,gB⟩:=hH;go_wp2;go_ret;exact⟨rfl,gB⟩
def ik(a b r c d s a' b' r' c' d' s':ByteArray):Bool:=bF a b r c d s&&bF a' b' r' c' d' s'&&Op.bytesLess (aY a b r c d s).toList (aY a' b' r' c' d' s').toList
theorem Aa{a b r c d s a' b' r' c' d' s':ByteArray}(h:bF a b r c d s=false):ik a b r c d s a' b' r' c' d' s'=false:=by simp[ik,h]
theorem Ab{a b r c d s a' b' r' c' d' s':ByteArray}(h:bF a' b' r' c' d' s'=false):ik a b r c d s a' b' r' c' d' s'=false:=by simp[ik,h]
theorem tX{a b r c d s a' b' r' c' d' s':ByteArray}(h:bF a b r c d s=true)(h2:bF a' b' r' c' d' s'=true):ik a b r c d s a' b' r' c' d' s'=Op.bytesLess (aY a b r c d s).toList (aY a' b' r' c' d' s').toList:=by simp[ik,h,h2]
theorem Ac{a b r c d s a' b' r' c' d' s':ByteArray}(h:bF a b r c d s=true)(h2:bF a' b' r' c' d' s'=true):ik a b r c d s a' b' r' c' d' s'=decide (F7 a b r c d s a' b' r' c' d' s'<0):=by
 rw[tX h h2,F7,uX,Go.ByteArray.toList_eq,Go.ByteArray.toList_eq]
theorem sP(a b r c d s a' b' r' c' d' s':bW)(w:ae)(ha:a.size<=maxLen)(hb:b.size<=maxLen)(hr:r.size<=maxLen)(hc:c.size<=maxLen)(hd:d.size<=maxLen)(hs:s.size<=maxLen)(ga:a'.size<=maxLen)(gb:b'.size<=maxLen)(gr:r'.size<=maxLen)(gc:c'.size<=maxLen)(gd:d'.size<=maxLen)(gs:s'.size<=maxLen):
  Calls prog 164 #[.agg #[.string a,.string b,.string r,.string c,.string d,.string s],.agg #[.string a',.string b',.string r',.string c',.string d',.string s']] w fun e w'=>e=.returned (.bool (ik a b r c d s a' b' r' c' d' s'))/\af w w':=by
 have H0:=SN a b r c d s a' b' r' c' d' s' w _ rfl;by_cases h1:bF a b r c d s=true
 ·by_cases h2:bF a' b' r' c' d' s'=true
  ·have HT:Hid (ik a b r c d s a' b' r' c' d' s'=_):=tX h1 h2;go_enter func164,ntmps164;go_wp2_with fail
   go_region_held3 (fun w'=>w'.cell? ⟨w.heap.size,0,none⟩=some (.string a)/\w'.cell? ⟨w.heap.size,1,none⟩=some (.string b)/\w'.cell? ⟨w.heap.size,2,none⟩=some (.string r)/\w'.cell? ⟨w.heap.size,3,none⟩=some (.string c)/\w'.cell? ⟨w.heap.size,4,none⟩=some (.string d)/\w'.cell? ⟨w.heap.size,5,none⟩=some (.string s)/\w'.cell? ⟨w.heap.size+1,0,none⟩=some (.string a')/\w'.cell? ⟨w.heap.size+1,1,none⟩=some (.string b')/\w'.cell? ⟨w.heap.size+1,2,none⟩=some (.string r')/\w'.cell? ⟨w.heap.size+1,3,none⟩=some (.string c')/\w'.cell? ⟨w.heap.size+1,4,none⟩=some (.string d')/\w'.cell? ⟨w.heap.size+1,5,none⟩=some (.string s')/\w.heap.size<w'.heap.size/\w.heap.size+1<w'.heap.size/\af w w')
    (first|assumption|exact IY (VC _) (by assumption) hbx|exact H0)
    (first|(go_at_call_of 111 (Value.agg #[.string a,.string b,.string r,.string c,.string d,.string s]);refine(dU a b r c d s _ ha hb hr hc hd hs).mono ?_;rintro e w' ⟨he,hbx⟩;rw[h1]at he;subst he)|(go_at_call_of 111 (Value.agg #[.string a',.string b',.string r',.string c',.string d',.string s']);refine(dU a' b' r' c' d' s' _ ga gb gr gc gd gs).mono ?_;rintro e w' ⟨he,hbx⟩;rw[h2]at he;subst he)|(go_at_call 205;refine(yC _ _ _ _ _ _ _ (by assumption) (by assumption) (by assumption) (by assumption) (by assumption) (by assumption)).mono ?_;rintro e w' ⟨rfl,hbx⟩))
   rename_i hH;obtain⟨-,-,-,-,-,-,-,-,-,-,-,-,-,-,gB⟩:=hH;clear H0;go_wp2;go_ret;exact⟨ah HT.out.symm,gB⟩
  have h2':bF a' b' r' c' d' s'=false:=by simpa using h2
  have HT:Hid (ik a b r c d s a' b' r' c' d' s'=false):=Ab h2';clear h2;obtain⟨u0,u1,u2,u3,u4,u5,u6,u7,u8,u9,u10,u11,un,um,uB⟩:=H0;go_enter func164,ntmps164;go_wp2_with fail
  go_region_with (first|(go_at_call_of 111 (Value.agg #[.string a,.string b,.string r,.string c,.string d,.string s]);refine(dU a b r c d s _ ha hb hr hc hd hs).mono ?_;rintro e w1 ⟨he,hbx⟩;rw[h1]at he;subst he;obtain⟨k0,k1,k2,k3,k4,k5,k6,k7,k8,k9,k10,k11,kn,km,kB⟩:=IY (VC _) ⟨u0,u1,u2,u3,u4,u5,u6,u7,u8,u9,u10,u11,un,um,uB⟩ hbx)|(go_at_call_of 111 (Value.agg #[.string a',.string b',.string r',.string c',.string d',.string s']);refine(dU a' b' r' c' d' s' _ ga gb gr gc gd gs).mono ?_;rintro e w2 ⟨he,hby⟩;rw[h2']at he;subst he))
  all_goals clear u0 u1 u2 u3 u4 u5 u6 u7 u8 u9 u10 u11
  all_goals go_wp2
  all_goals go_ret
  all_goals exact⟨ah HT.out.symm,kB.trans (hby.mono (by omega))⟩
 have h1':bF a b r c d s=false:=by simpa using h1
 have HT:Hid (ik a b r c d s a' b' r' c' d' s'=false):=Aa h1';clear h1;obtain⟨u0,u1,u2,u3,u4,u5,u6,u7,u8,u9,u10,u11,un,um,uB⟩:=H0;go_enter func164,ntmps164;go_wp2_with fail
 go_region_with (go_at_call_of 111 (Value.agg #[.string a,.string b,.string r,.string c,.string d,.string s]);refine(dU a b r c d s _ ha hb hr hc hd hs).mono ?_;rintro e w1 ⟨he,hbx⟩;rw[h1']at he;subst he)
 all_goals clear u0 u1 u2 u3 u4 u5 u6 u7 u8 u9 u10 u11
 all_goals go_wp2
 all_goals go_ret
 all_goals exact⟨ah HT.out.symm,uB.trans (hbx.mono (by omega))⟩
theorem BP(a b r c d s a' b' r' c' d' s':bW)(w:ae)(ha:a.size<=maxLen)(hb:b.size<=maxLen)(hr:r.size<=maxLen)(hc:c.size<=maxLen)(hd:d.size<=maxLen)(hs:s.size<=maxLen)(ga:a'.size<=maxLen)(gb:b'.size<=maxLen)(gr:r'.size<=maxLen)(gc:c'.size<=maxLen)(gd:d'.size<=maxLen)(gs:s'.size<=maxLen):
  Calls prog 129 #[.agg #[.string a,.string b,.string r,.string c,.string d,.string s],.agg #[.string a',.string b',.string r',.string c',.string d',.string s']] w fun e w'=>e=.returned (.bool (ik a b r c d s a' b' r' c' d' s'))/\af w w':=by
 by_cases h1:bF a b r c d s=true
 ·by_cases h2:bF a' b' r' c' d' s'=true
  ·have HT:Hid (ik a b r c d s a' b' r' c' d' s'=decide (F7 a b r c d s a' b' r' c' d' s'<0)):=Ac h1 h2;go_enter func129,ntmps129;go_wp2_with fail;refine(fD _ _ _ _ _ _ _ ha hb hr hc hd hs).mono ?_;rintro e w1 ⟨rfl,hb1⟩;obtain⟨hc1,hf1⟩:=jN hb1;have hz1:w.heap.size+1<w1.heap.size:=by have:=hb1.size;simp at this;omega
   have hy1:w.heap.size<w1.heap.size:=by omega
   have HB1:af w w1:=(Em _ _ _).trans (hb1.mono (by simp;omega));go_wp2_with fail;refine(fD _ _ _ _ _ _ _ ga gb gr gc gd gs).mono ?_;rintro e w2 ⟨rfl,hb2⟩;obtain⟨hc2,hf2⟩:=jN hb2;have hz2:w.heap.size+1<w2.heap.size:=by have:=hb2.size;omega
   have hy2:w.heap.size<w2.heap.size:=by omega
   go_wp2_with fail;refine(nz _ _ _ _ _ _ _ _ _ _ _ _ _ ha hb hr hc hd hs ga gb gr gc gd gs).mono ?_;rintro e w3 ⟨rfl,hb3⟩;go_wp2;go_ret;exact⟨ah HT.out.symm,HB1.trans ((hb2.mono (by omega)).trans (hb3.mono (by omega)))⟩
  have h2':bF a' b' r' c' d' s'=false:=by simpa using h2
  have HT:Hid (ik a b r c d s a' b' r' c' d' s'=false):=Ab h2';clear h2;go_enter func129,ntmps129;go_wp2_with fail;refine(fD _ _ _ _ _ _ _ ha hb hr hc hd hs).mono ?_;rintro e w1 ⟨rfl,hb1⟩;obtain⟨hc1,hf1⟩:=jN hb1;have hz1:w.heap.size+1<w1.heap.size:=by have:=hb1.size;simp at this;omega
  have hy1:w.heap.size<w1.heap.size:=by omega
  have HB1:af w w1:=(Em _ _ _).trans (hb1.mono (by simp;omega));go_wp2_with fail;refine(fD _ _ _ _ _ _ _ ga gb gr gc gd gs).mono ?_;rintro e w2 ⟨rfl,hb2⟩;go_wp2;go_ret;exact⟨ah HT.out.symm,HB1.trans (hb2.mono (by omega))⟩
 have h1':bF a b r c d s=false:=by simpa using h1
 have HT:Hid (ik a b r c d s a' b' r' c' d' s'=false):=Aa h1';clear h1;go_enter func129,ntmps129;go_wp2_with fail;refine(fD _ _ _ _ _ _ _ ha hb hr hc hd hs).mono ?_;rintro e w1 ⟨rfl,hb1⟩;obtain⟨hc1,hf1⟩:=jN hb1;have hz1:w.heap.size+1<w1.heap.size:=by have:=hb1.size;simp at this;omega
 have hy1:w.heap.size<w1.heap.size:=by omega
 have HB1:af w w1:=(Em _ _ _).trans (hb1.mono (by simp;omega));go_wp2;go_ret;exact⟨ah HT.out.symm,HB1⟩
end Go.Proofs.YtcgdckphpjfmhaaGreatDoor
namespace Go.Proofs.YtcgdckphpjfmhaaGreatDoor
open ChangeShapes WideShapes ChangeAt RowKit Maps
open Pl
def nM(x y:Tp):Bool:=x.a.toList==y.a.toList&&x.b.toList==y.b.toList&&x.r.toList==y.r.toList&&x.c.toList==y.c.toList&&x.d.toList==y.d.toList&&x.s.toList==y.s.toList
theorem jD{x y:ByteArray}(k:x.toList=y.toList):x=y:=by
 rw[Go.ByteArray.toList_eq,Go.ByteArray.toList_eq]at k;obtain⟨x⟩:=x;obtain⟨y⟩:=y;exact congrArg ByteArray.mk (Array.toList_inj.1 k)
theorem mh{x y:Tp}:nM x y=true↔x=y:=by
 unfold nM;simp only[VF,beq_iff_eq];constructor
 ·rintro⟨⟨⟨⟨⟨h0,h1⟩,h2⟩,h3⟩,h4⟩,h5⟩;obtain⟨xa,xb,xr,xc,xd,xs⟩:=x;obtain⟨ya,yb,yr,yc,yd,ys⟩:=y;simp only at h0 h1 h2 h3 h4 h5;rw[jD h0,jD h1,jD h2,jD h3,jD h4,jD h5]
 rintro rfl;simp
theorem En(x y:Tp){v:Bool}(h:nM x y=v)(w:ae):
  (binOp .eql 29 (.agg #[.string x.a,.string x.b,.string x.r,.string x.c,.string x.d,.string x.s]) (.agg #[.string y.a,.string y.b,.string y.r,.string y.c,.string y.d,.string y.s])).run prog w=.ok (.bool v) w:=by
 subst h;go_simp;unfold nM
 (repeat' split)<;>simp_all
theorem IZ(x y:Tp){v:Bool}(h:(!nM x y)=v)(w:ae):
  (binOp .neq 29 (.agg #[.string x.a,.string x.b,.string x.r,.string x.c,.string x.d,.string x.s]) (.agg #[.string y.a,.string y.b,.string y.r,.string y.c,.string y.d,.string y.s])).run prog w=.ok (.bool v) w:=by
 subst h;go_simp;unfold nM
 (repeat' split)<;>simp_all
def iL(ts:Q05)(t:Tp):Bool:=ts.any fun x=>nM x t
theorem LH{ts:Q05}{t:Tp}{k:Nat}(h:k<ts.length):iL (ts.drop k) t=(nM ts[k] t || iL (ts.drop (k+1)) t):=by
 rw[V5 h];rfl
def Tp.row(t:Tp):List Value:=[.string t.a,.string t.b,.string t.r,.string t.c,.string t.d,.string t.s]
def aF(ts:Q05):List Value:=ts.flatMap Tp.row
theorem fu:∀ts:List Tp,(aF ts).length=ts.length*6
 | []=>rfl
 | r::rs=>by have:=fu rs;simp only[aF,Tp.row,Wi,VI,We,WH]at this ⊢;omega
theorem qJ:∀(rs:Q05) (i:Nat) (h:i<rs.length) (j:Nat),j<6->(aF rs)[i*6+j]?=(rs[i]).row[j]?
 | [],i,h,_,_=>by simp at h
 | r::rs,0,_,j,hj=>by
  simp only[aF,Wi,Nat.zero_mul,V4,List.getElem_cons_zero];rw[Wx (by simpa[Tp.row] using hj)]
 | r::rs,i+1,h,j,hj=>by
  have:=qJ rs i (by simpa using h) j hj;simp only[aF,Wi,List.getElem_cons_succ]at this ⊢;rw[Wu (by simp[Tp.row];omega),<-this];congr 1;simp[Tp.row];omega
theorem tY(ts:Q05)(t:Tp):aF (ts++[t])=aF ts++t.row:=by simp[aF]
theorem uY(t:Tp):∀u∈t.row,u.oneCell'=true:=by
 intro u hu;simp[Tp.row]at hu;rcases hu with rfl|rfl|rfl|rfl|rfl|rfl<;>rfl
theorem wL(w:ae)(t:Tp):∀j u,t.row[j]?=some u->(w.alloc (.cells #[.string t.a,.string t.b,.string t.r,.string t.c,.string t.d,.string t.s] 29)).cell? ((⟨w.heap.size,0,none⟩:Addr).add j)=some u:=by
 intro j u hu;rw[show(⟨w.heap.size,0,none⟩:Addr).add j=⟨w.heap.size,0+j,none⟩ by simp[Addr.add];omega,V4];have:=World.cell?_alloc_mark w #[.string t.a,.string t.b,.string t.r,.string t.c,.string t.d,.string t.s] 29 (0,0) j;rw[this];simpa[Tp.row] using hu
theorem KJ{w:ae}{base n:Nat}{v:Value}{ts:Q05}(h:w.ownsRow base 29 6 v n (aF ts))(hn:n=ts.length):∃ad cap,v=.slice ad ts.length cap/\Sl w ad ts/\∀g,ad=some ⟨g,0,none⟩->base<=g/\g<w.heap.size/\jJ w g:=by
 subst hn;have h2:=h;rcases h.2 with⟨rfl,h0⟩|⟨g,cap,cur,rfl,hbg,hg,hnc,-⟩
 ·exact⟨none,0,by rw[h0],.inl (VS.1 h0),fun g e=>by cases e⟩
 have hlt:=h2.lt g rfl;refine⟨some ⟨g,0,none⟩,cap,rfl,.inr ⟨g,0,rfl,hlt.2,fun i hi=>?_⟩,fun g' e=>?_⟩
 ·have hl:=fu ts;have key:∀j,j<6->w.cell? ⟨g,0+i*6+j,none⟩=(ts[i]).row[j]?:=fun j hj=>by
   rw[h2.cellAt (0+i*6+j) (by omega),<-qJ ts i hi j hj,V4]
  exact⟨key 0 (by omega),key 1 (by omega),key 2 (by omega),key 3 (by omega),key 4 (by omega),key 5 (by omega)⟩
 injection e with e;injection e with e1 e2;subst e1;exact⟨hlt.1,hlt.2,fun y=>h2.frozenAt y⟩
def dY(ts:Q05)(t:Tp):List Tp:=ts.filter fun x=>!nM x t
theorem I1{ts:Q05}{t:Tp}{k:Nat}(h:k<ts.length):dY (ts.take (k+1)) t=dY (ts.take k) t++(if nM ts[k] t then [] else [ts[k]]):=by
 rw[VE h];unfold dY;rw[WP];cases e:nM ts[k] t<;>simp[e]
theorem LJ(ts:Q05)(t:Tp)(k:Nat):(dY (ts.take k) t).length<=k:=by
 unfold dY;exact VJ (List.length_filter_le _ _) (by simp;omega)
set_option maxRecDepth 8000 in
theorem CO(ad:Q02)(cap:Nat)(ts:Q05)(t:Tp)(w:ae)(hlen:ts.length<=1048576)(hs:Sl w ad ts):
  Calls prog 112 #[.slice ad ts.length cap,.agg #[.string t.a,.string t.b,.string t.r,.string t.c,.string t.d,.string t.s]] w fun e w'=>e=.returned (.bool (iL ts t))/\af w w':=by
 have HS:=aC hs;clear hs;obtain⟨W0,hW0⟩:∃W0,W0=w.alloc (.cells #[.string t.a,.string t.b,.string t.r,.string t.c,.string t.d,.string t.s] 29):=⟨_,rfl⟩;have HB0:=oQ hW0;have HX0:Hid (W0.cell? ⟨w.heap.size,0,none⟩=some (.string t.a)/\W0.cell? ⟨w.heap.size,1,none⟩=some (.string t.b)/\W0.cell? ⟨w.heap.size,2,none⟩=some (.string t.r)/\W0.cell? ⟨w.heap.size,3,none⟩=some (.string t.c)/\W0.cell? ⟨w.heap.size,4,none⟩=some (.string t.d)/\W0.cell? ⟨w.heap.size,5,none⟩=some (.string t.s)/\w.heap.size<W0.heap.size):=by show _/\_;rw[hW0];refine⟨?_,?_,?_,?_,?_,?_,?_⟩<;>simp
 go_enter func112,ntmps112;go_wp2;rw[<-hW0];clear hW0;go_loopw[5] (fun i wr=>∃k:Nat,k<=ts.length/\i=.int .i64 k/\Hid (iL (ts.drop k) t=iL ts t)/\Hid (af W0 wr)) (fun i _=>ts.length-(intOf i).toNat);case atStart=>exact⟨0,VG _,rfl,rfl,VD _ _⟩
 obtain⟨k,hk,rfl,HP,HB⟩:=hrel;have WZ:Hid (af w wr):=HB0.out.trans (HB.out.mono HB0.out.size);by_cases hlt:k<ts.length
 ·rcases HS.out.below WZ.out with hnil|⟨b,off,rfl,hb,hr⟩
  ·rw[hnil]at hlt;simp at hlt
  obtain⟨t0,t1,t2,t3,t4,t5⟩:=hr k hlt;have x0:=mK HB.out HX0.out.2.2.2.2.2.2 HX0.out.1;have x1:=mK HB.out HX0.out.2.2.2.2.2.2 HX0.out.2.1;have x2:=mK HB.out HX0.out.2.2.2.2.2.2 HX0.out.2.2.1;have x3:=mK HB.out HX0.out.2.2.2.2.2.2 HX0.out.2.2.2.1;have x4:=mK HB.out HX0.out.2.2.2.2.2.2 HX0.out.2.2.2.2.1;have x5:=mK HB.out HX0.out.2.2.2.2.2.2 HX0.out.2.2.2.2.2.1;have hk1:=bq k;have hk2:(k:Int)<(ts.length:Int):=by omega
  have HD:Hid (iL ts t=(nM ts[k] t || iL (ts.drop (k+1)) t)):=by show _=_;rw[<-HP.out];exact LH hlt
  clear hr;cases hq:nM ts[k] t;case true=>
   have heq:=En ts[k] t hq;have HN:Hid (iL ts t=true):=by show _=_;rw[HD.out,hq];rfl
   clear hq;go_wp2_with fail;go_region_held3 (fun w'=>w'.cell? ⟨b,off+k*6,none⟩=some (.string ts[k].a)/\w'.cell? ⟨b,off+k*6+1,none⟩=some (.string ts[k].b)/\w'.cell? ⟨b,off+k*6+2,none⟩=some (.string ts[k].r)/\w'.cell? ⟨b,off+k*6+3,none⟩=some (.string ts[k].c)/\w'.cell? ⟨b,off+k*6+4,none⟩=some (.string ts[k].d)/\w'.cell? ⟨b,off+k*6+5,none⟩=some (.string ts[k].s)/\w'.cell? ⟨w.heap.size,0,none⟩=some (.string t.a)/\w'.cell? ⟨w.heap.size,1,none⟩=some (.string t.b)/\w'.cell? ⟨w.heap.size,2,none⟩=some (.string t.r)/\w'.cell? ⟨w.heap.size,3,none⟩=some (.string t.c)/\w'.cell? ⟨w.heap.size,4,none⟩=some (.string t.d)/\w'.cell? ⟨w.heap.size,5,none⟩=some (.string t.s)/\af wr w') (first|assumption|exact⟨t0,t1,t2,t3,t4,t5,x0,x1,x2,x3,x4,x5,(VD _ _).drew⟩) (fail);rename_i hH;have HG:Hid (af wr _):=hH.2.2.2.2.2.2.2.2.2.2.2.2;clear hH t0 t1 t2 t3 t4 t5 x0 x1 x2 x3 x4 x5 heq;go_wp2;go_ret;exact⟨by rw[HN.out];rfl,WZ.out.trans (HG.out.mono WZ.out.size)⟩
  have heq:=En ts[k] t hq;have Xa:Hid (iL (ts.drop (k+1)) t=iL ts t):=by show _=_;rw[HD.out,hq];rfl
  clear hq;go_wp2_with fail;go_region_held3 (fun w'=>w'.cell? ⟨b,off+k*6,none⟩=some (.string ts[k].a)/\w'.cell? ⟨b,off+k*6+1,none⟩=some (.string ts[k].b)/\w'.cell? ⟨b,off+k*6+2,none⟩=some (.string ts[k].r)/\w'.cell? ⟨b,off+k*6+3,none⟩=some (.string ts[k].c)/\w'.cell? ⟨b,off+k*6+4,none⟩=some (.string ts[k].d)/\w'.cell? ⟨b,off+k*6+5,none⟩=some (.string ts[k].s)/\w'.cell? ⟨w.heap.size,0,none⟩=some (.string t.a)/\w'.cell? ⟨w.heap.size,1,none⟩=some (.string t.b)/\w'.cell? ⟨w.heap.size,2,none⟩=some (.string t.r)/\w'.cell? ⟨w.heap.size,3,none⟩=some (.string t.c)/\w'.cell? ⟨w.heap.size,4,none⟩=some (.string t.d)/\w'.cell? ⟨w.heap.size,5,none⟩=some (.string t.s)/\af wr w') (first|assumption|exact⟨t0,t1,t2,t3,t4,t5,x0,x1,x2,x3,x4,x5,(VD _ _).drew⟩) (fail);rename_i hH;have HG:Hid (af W0 _):=HB.out.trans (hH.2.2.2.2.2.2.2.2.2.2.2.2.mono HB.out.size);clear hH t0 t1 t2 t3 t4 t5 x0 x1 x2 x3 x4 x5 heq;go_wp2;go_roundw;case rel=>exact⟨k+1,by omega,by go_num,Xa,HG⟩
  simp[intOf]<;>omega
 have HN:Hid (iL ts t=false):=by show _=_;rw[<-HP.out,VW (by omega)];rfl
 go_wp2;go_ret;exact⟨by rw[HN.out];rfl,WZ.out⟩
theorem OH{p:Prop}(h:p):Hid p:=h
set_option maxRecDepth 8000 in
theorem I4(ad:Q02)(cap:Nat)(ts:Q05)(t:Tp)(w:ae)(hlen:ts.length<=1048576)(hs:Sl w ad ts):
  Calls prog 113 #[.slice ad ts.length cap,.agg #[.string t.a,.string t.b,.string t.r,.string t.c,.string t.d,.string t.s]] w fun e w'=>∃(g c:Nat),e=.returned (.slice (some ⟨g,0,none⟩) (dY ts t).length c)/\w'.ownsRow (w.heap.size+1) 29 6 (.slice (some ⟨g,0,none⟩) (dY ts t).length c) (dY ts t).length (aF (dY ts t))/\af w w':=by
 obtain⟨iT,hiT,zT0,zT1,zT2⟩:=info_parts (P:=prog) (e:=29) (z:=.agg #[.string ⟨#[]⟩,.string ⟨#[]⟩,.string ⟨#[]⟩,.string ⟨#[]⟩,.string ⟨#[]⟩,.string ⟨#[]⟩]) (size:=6) (bytes:=96) (by kernel_rfl);have HIT:Hid (prog.info? 29=some iT/\iT.zero=some (.agg #[.string ⟨#[]⟩,.string ⟨#[]⟩,.string ⟨#[]⟩,.string ⟨#[]⟩,.string ⟨#[]⟩,.string ⟨#[]⟩])/\iT.size=6/\iT.bytes=96):=⟨hiT,zT0,zT1,zT2⟩;have HS:=aC hs;clear hs hiT zT0 zT1 zT2;obtain⟨W0,hW0⟩:∃W0,W0=w.alloc (.cells #[.string t.a,.string t.b,.string t.r,.string t.c,.string t.d,.string t.s] 29):=⟨_,rfl⟩;have HB0:=oQ hW0;have HX0:Hid (W0.cell? ⟨w.heap.size,0,none⟩=some (.string t.a)/\W0.cell? ⟨w.heap.size,1,none⟩=some (.string t.b)/\W0.cell? ⟨w.heap.size,2,none⟩=some (.string t.r)/\W0.cell? ⟨w.heap.size,3,none⟩=some (.string t.c)/\W0.cell? ⟨w.heap.size,4,none⟩=some (.string t.d)/\W0.cell? ⟨w.heap.size,5,none⟩=some (.string t.s)/\w.heap.size<W0.heap.size):=by show _/\_;rw[hW0];refine⟨?_,?_,?_,?_,?_,?_,?_⟩<;>simp
 have YT:Hid (W0.heap.size=w.heap.size+1):=by show _=_;rw[hW0];simp
 have XA:Hid ((W0.alloc (.cells #[] 29)).ownsRow (w.heap.size+1) 29 6 (.slice (some ⟨w.heap.size+1,0,none⟩) 0 0) 0 (aF (dY (ts.take 0) t))):=by
  show World.ownsRow _ _ _ _ _ _ _;rw[<-YT.out];exact World.ownsRow_lit W0 #[] 0 (VC _) (by unfold maxLen;omega) (by simp)
 have HB1:Hid (af W0 (W0.alloc (.cells #[] 29))):=(VD _ _).alloc (VC _) _;go_enter func113,ntmps113;go_wp2;rw[<-hW0];clear hW0;go_loopw[5,6] (fun v i wr=>∃k:Nat,k<=ts.length/\i=.int .i64 k/\Hid (wr.ownsRow (w.heap.size+1) 29 6 v (dY (ts.take k) t).length (aF (dY (ts.take k) t)))/\Hid (af w wr)/\Hid (wr.cell? ⟨w.heap.size,0,none⟩=some (.string t.a)/\wr.cell? ⟨w.heap.size,1,none⟩=some (.string t.b)/\wr.cell? ⟨w.heap.size,2,none⟩=some (.string t.r)/\wr.cell? ⟨w.heap.size,3,none⟩=some (.string t.c)/\wr.cell? ⟨w.heap.size,4,none⟩=some (.string t.d)/\wr.cell? ⟨w.heap.size,5,none⟩=some (.string t.s)/\w.heap.size<wr.heap.size)/\Hid (∃g c m,v=.slice (some ⟨g,0,none⟩) m c)) (fun _ i _=>ts.length-(intOf i).toNat);case atStart=>exact⟨0,VG _,rfl,XA,HB0.out.trans (HB1.out.mono HB0.out.size),⟨mK HB1.out HX0.out.2.2.2.2.2.2 HX0.out.1,mK HB1.out HX0.out.2.2.2.2.2.2 HX0.out.2.1,mK HB1.out HX0.out.2.2.2.2.2.2 HX0.out.2.2.1,mK HB1.out HX0.out.2.2.2.2.2.2 HX0.out.2.2.2.1,mK HB1.out HX0.out.2.2.2.2.2.2 HX0.out.2.2.2.2.1,mK HB1.out HX0.out.2.2.2.2.2.2 HX0.out.2.2.2.2.2.1,Vy HX0.out.2.2.2.2.2.2 HB1.out.size⟩,⟨_,_,_,rfl⟩⟩
 clear XA HB1;obtain⟨k,hk,rfl,HOW,WZ,HXB,HSV⟩:=hrel;by_cases hlt:k<ts.length
 ·rcases HS.out.below WZ.out with hnil|⟨b,off,rfl,hb,hr⟩
  ·rw[hnil]at hlt;simp at hlt
  obtain⟨t0,t1,t2,t3,t4,t5⟩:=hr k hlt;obtain⟨x0,x1,x2,x3,x4,x5,xl⟩:=HXB.out;have hk1:=bq k;have hk2:(k:Int)<(ts.length:Int):=by omega
  have hdl:=LJ ts t k;have HDT:=I1 (t:=t) hlt;clear hr;cases hq:nM ts[k] t;case true=>
   have heq:=IZ ts[k] t (v:=false) (by rw[hq];rfl);have HE:Hid (dY (ts.take (k+1)) t=dY (ts.take k) t):=by show _=_;rw[HDT,hq];simp
   clear hq HDT;go_wp2_with fail;go_region_held3 (fun w'=>w'.cell? ⟨b,off+k*6,none⟩=some (.string ts[k].a)/\w'.cell? ⟨b,off+k*6+1,none⟩=some (.string ts[k].b)/\w'.cell? ⟨b,off+k*6+2,none⟩=some (.string ts[k].r)/\w'.cell? ⟨b,off+k*6+3,none⟩=some (.string ts[k].c)/\w'.cell? ⟨b,off+k*6+4,none⟩=some (.string ts[k].d)/\w'.cell? ⟨b,off+k*6+5,none⟩=some (.string ts[k].s)/\w'.cell? ⟨w.heap.size,0,none⟩=some (.string t.a)/\w'.cell? ⟨w.heap.size,1,none⟩=some (.string t.b)/\w'.cell? ⟨w.heap.size,2,none⟩=some (.string t.r)/\w'.cell? ⟨w.heap.size,3,none⟩=some (.string t.c)/\w'.cell? ⟨w.heap.size,4,none⟩=some (.string t.d)/\w'.cell? ⟨w.heap.size,5,none⟩=some (.string t.s)/\af wr w') (first|assumption|exact⟨t0,t1,t2,t3,t4,t5,x0,x1,x2,x3,x4,x5,(VD _ _).drew⟩) (fail);clear t0 t1 t2 t3 t4 t5 heq;have WV:Hid (wr.drew.ownsRow (w.heap.size+1) 29 6 u5 (dY (ts.take (k+1)) t).length (aF (dY (ts.take (k+1)) t))):=by
    show World.ownsRow _ _ _ _ _ _ _;rw[HE.out];exact HOW.out.drew
   have HB2:Hid (af w wr.drew):=WZ.out.drew;have Yt:Hid (wr.drew.cell? ⟨w.heap.size,0,none⟩=some (.string t.a)/\wr.drew.cell? ⟨w.heap.size,1,none⟩=some (.string t.b)/\wr.drew.cell? ⟨w.heap.size,2,none⟩=some (.string t.r)/\wr.drew.cell? ⟨w.heap.size,3,none⟩=some (.string t.c)/\wr.drew.cell? ⟨w.heap.size,4,none⟩=some (.string t.d)/\wr.drew.cell? ⟨w.heap.size,5,none⟩=some (.string t.s)/\w.heap.size<wr.drew.heap.size):=HXB.out;rename_i hH;clear hH x0 x1 x2 x3 x4 x5;go_wp2;go_roundw;case rel=>exact⟨k+1,by omega,by go_num,WV,HB2,Yt,HSV⟩
   simp[intOf]<;>omega
  have heq:=IZ ts[k] t (v:=true) (by rw[hq];rfl);have HE:Hid (dY (ts.take (k+1)) t=dY (ts.take k) t++[ts[k]]):=by show _=_;rw[HDT,hq];simp
  clear hq HDT;go_wp2_with fail;go_region_held3 (fun w'=>w'.cell? ⟨b,off+k*6,none⟩=some (.string ts[k].a)/\w'.cell? ⟨b,off+k*6+1,none⟩=some (.string ts[k].b)/\w'.cell? ⟨b,off+k*6+2,none⟩=some (.string ts[k].r)/\w'.cell? ⟨b,off+k*6+3,none⟩=some (.string ts[k].c)/\w'.cell? ⟨b,off+k*6+4,none⟩=some (.string ts[k].d)/\w'.cell? ⟨b,off+k*6+5,none⟩=some (.string ts[k].s)/\w'.cell? ⟨w.heap.size,0,none⟩=some (.string t.a)/\w'.cell? ⟨w.heap.size,1,none⟩=some (.string t.b)/\w'.cell? ⟨w.heap.size,2,none⟩=some (.string t.r)/\w'.cell? ⟨w.heap.size,3,none⟩=some (.string t.c)/\w'.cell? ⟨w.heap.size,4,none⟩=some (.string t.d)/\w'.cell? ⟨w.heap.size,5,none⟩=some (.string t.s)/\af wr w') (first|assumption|exact⟨t0,t1,t2,t3,t4,t5,x0,x1,x2,x3,x4,x5,(VD _ _).drew⟩) (fail);clear heq x0 x1 x2 x3 x4 x5;rename_i hH;clear hH;obtain⟨wd,hwd⟩:∃wd,wd=wr.drew:=⟨_,rfl⟩;have HOD:Hid (wd.ownsRow (w.heap.size+1) 29 6 u5 (dY (ts.take k) t).length (aF (dY (ts.take k) t))):=by rw[hwd];exact HOW.out.drew
  have HBD:Hid (af w wd):=by rw[hwd];exact WZ.out.drew
  have HXD:Hid (wd.cell? ⟨w.heap.size,0,none⟩=some (.string t.a)/\wd.cell? ⟨w.heap.size,1,none⟩=some (.string t.b)/\wd.cell? ⟨w.heap.size,2,none⟩=some (.string t.r)/\wd.cell? ⟨w.heap.size,3,none⟩=some (.string t.c)/\wd.cell? ⟨w.heap.size,4,none⟩=some (.string t.d)/\wd.cell? ⟨w.heap.size,5,none⟩=some (.string t.s)/\w.heap.size<wd.heap.size):=by rw[hwd];exact HXB.out
  have HTD:Hid (wd.cell? ⟨b,off+k*6,none⟩=some (.string ts[k].a)/\wd.cell? ⟨b,off+k*6+1,none⟩=some (.string ts[k].b)/\wd.cell? ⟨b,off+k*6+2,none⟩=some (.string ts[k].r)/\wd.cell? ⟨b,off+k*6+3,none⟩=some (.string ts[k].c)/\wd.cell? ⟨b,off+k*6+4,none⟩=some (.string ts[k].d)/\wd.cell? ⟨b,off+k*6+5,none⟩=some (.string ts[k].s)):=by rw[hwd];exact⟨t0,t1,t2,t3,t4,t5⟩
  rw[<-hwd];clear hwd t0 t1 t2 t3 t4 t5;obtain⟨t0,t1,t2,t3,t4,t5⟩:=HTD.out;obtain⟨W6,YN⟩:∃W6,W6=wd.alloc (.cells #[.string ts[k].a,.string ts[k].b,.string ts[k].r,.string ts[k].c,.string ts[k].d,.string ts[k].s] 29):=⟨_,rfl⟩;have XD:Hid (W6.ownsRow (w.heap.size+1) 29 6 u5 (dY (ts.take k) t).length (aF (dY (ts.take k) t))):=by rw[YN];exact HOD.out.alloc _
  have Ze:Hid (∀j u,ts[k].row[j]?=some u->W6.cell? ((⟨wd.heap.size,0,none⟩:Addr).add j)=some u):=by rw[YN];exact wL wd ts[k]
  have Yq:Hid (af wd W6):=by rw[YN];exact(VD _ _).alloc (VC _) _
  have HBD6:Hid (af w W6):=HBD.out.trans (Yq.out.mono HBD.out.size);go_wp2_with(at_builtin;rw[<-YN];clear YN;refine wpList_append_own_at _ rfl _ _ 25 rfl (w.heap.size+1) 29 iT (.agg #[.string ⟨#[]⟩,.string ⟨#[]⟩,.string ⟨#[]⟩,.string ⟨#[]⟩,.string ⟨#[]⟩,.string ⟨#[]⟩]) 6 96 underlying25 HIT.out.1 HIT.out.2.1 HIT.out.2.2.1 HIT.out.2.2.2 rfl (by decide) u5 _ (aF (dY (ts.take k) t)) rfl XD.out ⟨wd.heap.size,0,none⟩ 1 1 ts[k].row rfl rfl Ze.out (uY _) (by unfold maxLen;omega) (by omega) (VJ (Nat.succ_le_of_lt HXD.out.2.2.2.2.2.2) Yq.out.size) ?_);intro v7 w7 Xz YC _ _;have HSV7:Hid (∃g c m,v7=.slice (some ⟨g,0,none⟩) m c):=by
   rcases Xz.2 with⟨-,h0⟩|⟨g,cp,cur,e,-⟩
   ·omega
   exact⟨g,cp,_,e⟩
  have hne:some w.heap.size≠u5.ownBlock:=fun e=>by have:=(HOD.out.lt w.heap.size e.symm).1;omega
  have HB7:Hid (af w w7):=HBD6.out.grown YC HBD6.out.size (fun g hg=>by have:=(HOD.out.lt g hg).1;omega);have YD:Hid (w7.ownsRow (w.heap.size+1) 29 6 v7 (dY (ts.take (k+1)) t).length (aF (dY (ts.take (k+1)) t))):=by
   show World.ownsRow _ _ _ _ _ _ _;rw[HE.out,tY,VI];exact Xz
  have HX7:Hid (w7.cell? ⟨w.heap.size,0,none⟩=some (.string t.a)/\w7.cell? ⟨w.heap.size,1,none⟩=some (.string t.b)/\w7.cell? ⟨w.heap.size,2,none⟩=some (.string t.r)/\w7.cell? ⟨w.heap.size,3,none⟩=some (.string t.c)/\w7.cell? ⟨w.heap.size,4,none⟩=some (.string t.d)/\w7.cell? ⟨w.heap.size,5,none⟩=some (.string t.s)/\w.heap.size<w7.heap.size):=⟨YC.cell (mK Yq.out HXD.out.2.2.2.2.2.2 HXD.out.1) hne,YC.cell (mK Yq.out HXD.out.2.2.2.2.2.2 HXD.out.2.1) hne,YC.cell (mK Yq.out HXD.out.2.2.2.2.2.2 HXD.out.2.2.1) hne,YC.cell (mK Yq.out HXD.out.2.2.2.2.2.2 HXD.out.2.2.2.1) hne,YC.cell (mK Yq.out HXD.out.2.2.2.2.2.2 HXD.out.2.2.2.2.1) hne,YC.cell (mK Yq.out HXD.out.2.2.2.2.2.2 HXD.out.2.2.2.2.2.1) hne,Vy HXD.out.2.2.2.2.2.2 (VJ Yq.out.size YC.size)⟩;clear Xz YC t0 t1 t2 t3 t4 t5;go_wp2;go_roundw;case rel=>exact⟨k+1,by omega,by go_num,YD,HB7,HX7,HSV7⟩
  simp[intOf]<;>omega
 obtain rfl:k=ts.length:=by omega
 have HE:Hid (ts.take ts.length=ts):=by show _=_;rw[VP]
 have hown:=HOW.out;rw[HE.out]at hown;obtain⟨g,c,m,hv⟩:=HSV.out;obtain⟨WY,cap',hv2,-,-⟩:=KJ hown rfl;rw[hv]at hv2;injection hv2 with _ em _;subst em;subst hv;have HOF:=OH hown;clear hown;go_wp2;go_ret;exact⟨g,c,rfl,HOF.out,WZ.out⟩
end Go.Proofs.YtcgdckphpjfmhaaGreatDoor
