/- Lists in memory whose elements hold lists again, each in a row and in a block of its own: one more at the end, another last one. Expressions, relations and types as such lists. -/
import Derived.Test.YtcgdckphpjfmhaaGreatDoorSq
import Derived.Test.YtcgdckphpjfmhaaGreatDoorJ6
import Derived.Test.YtcgdckphpjfmhaaGreatDoorJ9
import Derived.Sort.Grow
open Go.Proofs.Tryz
set_option maxHeartbeats 80000000
namespace Go.Proofs.YtcgdckphpjfmhaaGreatDoor
set_option maxRecDepth 100000
set_option linter.unusedVariables false
open ChangeShapes WideShapes ChangeAt RowKit
open Pl
structure Kid{α:Type}(K:World->Nat->α->Prop)(I:α->Nat->Prop):Prop where
 heap:∀(w w':World) (base:Nat) (q:α),K w base q->w.heap.size<=w'.heap.size->(∀g,I q g->w'.heap[g]?=w.heap[g]?)->K w' base q
 lt:∀(w:World) (base:Nat) (q:α),K w base q->∀g,I q g->base<=g/\g<w.heap.size
def G9{α:Type}(I:α->Nat->Prop)(v:Value)(rs:List α)(g:Nat):Prop:=v.ownBlock=some g \/ ∃q∈rs,I q g
structure XK{α:Type}(T:TypeId)(size:Nat)(cells:α->List Value)(K:World->Nat->α->Prop)(I:α->Nat->Prop)(w:World)(base:Nat)(v:Value)(rs:List α):Prop where
 own:w.ownsRow base T size v rs.length (rs.flatMap cells)
 kid:∀q∈rs,K w base q
 head:∀q∈rs,∀g,I q g->v.ownBlock≠some g
 two:∀(x y:Nat) (hx:x<rs.length) (hy:y<rs.length),x≠y->∀g,I rs[x] g->¬I rs[y] g
section
variable  {α:Type}{T:TypeId}{size:Nat}{cells:α->List Value}{K:World->Nat->α->Prop}{I:α->Nat->Prop}{w w':World}{base:Nat}{v:Value}{rs:List α}
theorem XK.lt(kd:Kid K I)(h:XK T size cells K I w base v rs){g:Nat}(hg:G9 I v rs g):base<=g/\g<w.heap.size:=by
 rcases hg with hg|⟨q,hq,hg⟩
 ·exact h.own.lt g hg
 exact kd.lt w base q (h.kid q hq) g hg
theorem XK.heap(kd:Kid K I)(h:XK T size cells K I w base v rs)(hs:w.heap.size<=w'.heap.size)(hh:∀g,G9 I v rs g->w'.heap[g]?=w.heap[g]?):XK T size cells K I w' base v rs where
 own:=jB h.own fun g hg=>hh g (.inl hg)
 kid q hq:=kd.heap w w' base q (h.kid q hq) hs fun g hg=>hh g (.inr ⟨q,hq,hg⟩)
 head:=h.head
 two:=h.two
theorem XK.below(kd:Kid K I)(h:XK T size cells K I w base v rs)(hb:af w w'):XK T size cells K I w' base v rs :=
 h.heap kd hb.size fun g hg=>hb.block g (h.lt kd hg).2
theorem PT(w:ae)(base:Nat):XK T size cells K I w base (.slice none 0 0) [] :=
 ⟨World.ownsRow_nil _ _ _ _,fun q hq=>(by cases hq),fun q hq=>(by cases hq),fun x y hx=>absurd hx (by simp)⟩
theorem Ha{rs:List α}{q:α}(h:∀(x y:Nat) (hx:x<rs.length) (hy:y<rs.length),x≠y->∀g,I rs[x] g->¬I rs[y] g)(hq:∀p∈rs,∀g,I p g->¬I q g):
  ∀(x y:Nat) (hx:x<(rs++[q]).length) (hy:y<(rs++[q]).length),x≠y->∀g,I (rs++[q])[x] g->¬I (rs++[q])[y] g:=by
 intro x y hx hy hxy g h1 h2;rw[Wi,WJ]at hx hy;by_cases ex:x<rs.length
 ·rw[WA ex]at h1;by_cases ey:y<rs.length
  ·rw[WA ey]at h2;exact h x y ex ey hxy g h1 h2
  have:y=rs.length:=by omega
  subst this;rw[WM (V4 _)]at h2;simp at h2;exact hq _ (VZ ex) g h1 h2
 have:x=rs.length:=by omega
 subst this;rw[WM (V4 _)]at h1;simp at h1;have ey:y<rs.length:=by omega
 rw[WA ey]at h2;exact hq _ (VZ ey) g h2 h1
theorem PU{rs:List α}{q:α}(h:∀(x y:Nat) (hx:x<(rs++[q]).length) (hy:y<(rs++[q]).length),x≠y->∀g,I (rs++[q])[x] g->¬I (rs++[q])[y] g):
  (∀(x y:Nat) (hx:x<rs.length) (hy:y<rs.length),x≠y->∀g,I rs[x] g->¬I rs[y] g)/\∀p∈rs,∀g,I p g->¬I q g:=by
 refine⟨fun x y hx hy hxy g h1 h2=>?_,fun p hp g h1 h2=>?_⟩
 ·exact h x y (by simp;omega) (by simp;omega) hxy g (by rw[WA hx];exact h1) (by rw[WA hy];exact h2)
 obtain⟨x,hx,rfl⟩:=Xl hp;exact h x rs.length (by simp;omega) (by simp) (by omega) g (by rw[WA hx];exact h1) (by rw[WM (V4 _)];simpa using h2)
theorem XK.snoc(kd:Kid K I)(h:XK T size cells K I w base v rs){q:α}{v':Value}(hown:w'.ownsRow base T size v' (rs.length+1) (rs.flatMap cells++cells q))(hg:w.grownBy w' v.ownBlock)(hat:v'.ownBlock=v.ownBlock \/ ∃g,v'.ownBlock=some g/\w.heap.size<=g)
  (hq:K w base q) (hv:∀g,I q g->v.ownBlock≠some g) (hr:∀p∈rs,∀g,I p g->¬I q g):XK T size cells K I w' base v' (rs++[q]):=by
 have keep:∀(p:α),K w base p->(∀g,I p g->v.ownBlock≠some g)->K w' base p:=fun p hp hn=>kd.heap w w' base p hp hg.size fun g hi=>hg.block g (kd.lt w base p hp g hi).2 (fun e=>hn g hi e.symm);have apart:∀(p:α),K w base p->(∀g,I p g->v.ownBlock≠some g)->∀g,I p g->v'.ownBlock≠some g:=fun p hp hn g hi=>by
  rcases hat with e|⟨g',e,hge⟩
  ·rw[e];exact hn g hi
  rw[e];intro e2;injection e2 with e2;have:=(kd.lt w base p hp g hi).2;omega
 refine⟨by simpa using hown,fun p hp=>?_,fun p hp=>?_,Ha h.two hr⟩
 ·rcases Wj.1 hp with hp|hp
  ·exact keep p (h.kid p hp) (h.head p hp)
  rw[Wl]at hp;subst hp;exact keep _ hq hv
 rcases Wj.1 hp with hp|hp
 ·exact apart p (h.kid p hp) (h.head p hp)
 rw[Wl]at hp;subst hp;exact apart _ hq hv
theorem XK.last(kd:Kid K I){xs:List α}{q q':α}{b n cap j:Nat}{u:Value}{w1:ae}{row:Option Nat}(h:XK T size cells K I w base (.slice (some ⟨b,0,none⟩) n cap) (xs++[q]))(hn:n=xs.length+1)
  (hg:w.grownBy w1 row) (hrow:∀r,row=some r->I q r) (hq':K w1 base q') (hI:∀g,I q' g->I q g\/(g≠b/\∀p∈xs,¬I p g)) (hset:((xs++[q]).flatMap cells).set j u=(xs++[q']).flatMap cells) :
  XK T size cells K I (w1.setCell ⟨b,j,none⟩ u) base (.slice (some ⟨b,0,none⟩) n cap) (xs++[q']):=by
 have hbl:b<w.heap.size:=(h.own.lt b rfl).2;have hq:=h.kid q (by simp);have hqb:∀g,I q g->g≠b:=fun g hi e=>h.head q (by simp) g hi (by rw[e];rfl);have hq'b:∀g,I q' g->g≠b:=fun g hi e=>by
  rcases hI g hi with h2|h2
  ·exact hqb g h2 e
  exact h2.1 e
 have hb1:w1.heap[b]?=w.heap[b]?:=hg.block b hbl (fun e=>hqb b (hrow b e.symm) rfl);have own1:w1.ownsRow base T size (.slice (some ⟨b,0,none⟩) n cap) (xs++[q]).length ((xs++[q]).flatMap cells):=jB h.own fun g hgo=>by
  have e:b=g:=by simpa[Value.ownBlock] using hgo
  rw[<-e];exact hb1
 have hlen:(xs++[q]).length=n:=by simp[hn]
 rw[hlen]at own1;obtain⟨own2,hg2⟩:=own1.stored j u;rw[hset]at own2;obtain⟨ht1,ht2⟩:=PU h.two;have h2s:∀g,g≠b->(w1.setCell ⟨b,j,none⟩ u).heap[g]?=w1.heap[g]?:=fun g hne=>Below.heap_setCell w1 _ u g hne;refine⟨by simpa[hn] using own2,fun p hp=>?_,fun p hp g hi=>?_,Ha ht1 fun p hp g hi hi'=>?_⟩
 ·rcases Wj.1 hp with hp|hp
  ·have hkp:=h.kid p (by simp[hp]);refine kd.heap w _ base p hkp (Wh hg.size hg2.size) fun g hi=>?_;have hl:=(kd.lt w base p hkp g hi).2;rw[h2s g (fun e=>h.head p (by simp[hp]) g hi (by rw[e];rfl))];exact hg.block g hl (fun e=>ht2 p hp g hi (hrow g e.symm))
  rw[Wl]at hp;subst hp;exact kd.heap w1 _ base _ hq' hg2.size fun g hi=>h2s g (hq'b g hi)
 ·intro e;have e:b=g:=by simpa[Value.ownBlock] using e
  rcases Wj.1 hp with hp|hp
  ·exact h.head p (by simp[hp]) g hi (by rw[<-e];rfl)
  rw[Wl]at hp;subst hp;exact hq'b g hi e.symm
 rcases hI g hi' with h2|h2
 ·exact ht2 p hp g hi h2
 exact h2.2 p hp hi
end
structure NodM(w:World)(base:Nat)(v:Value)(qs:Q08):Prop where
 own:w.ownsRow base 188 5 v qs.length (jQ qs)
 zA:∀q∈qs,q.e.allow≠[]->∃g,q.adA=some ⟨g,0,none⟩
 zK:∀q∈qs,q.e.kids≠[]->∃g,q.adK=some ⟨g,0,none⟩
 ok:∀q∈qs,q.ok w
 lie:∀q∈qs,∀g,qF q g->base<=g/\g<w.heap.size/\jM w g/\v.ownBlock≠some g
 one:∀q∈qs,∀g,bA q g->¬bK q g
 two:∀(x y:Nat) (hx:x<qs.length) (hy:y<qs.length),x≠y->∀g,qF qs[x] g->¬qF qs[y] g
 cA:∀q∈qs,q.e.allow.length<=q.capA
theorem NodM.mono{w:ae}{base base':Nat}{v:Value}{qs:Q08}(h:NodM w base v qs)(hb:base'<=base):NodM w base' v qs :=
 ⟨⟨h.own.1,by
  rcases h.own.2 with hl|⟨g,cap,cur,e,h1,h2⟩
  ·exact .inl hl
  exact .inr ⟨g,cap,cur,e,Wh hb h1,h2⟩⟩,h.zA,h.zK,h.ok,fun q hq g hg=>⟨Wh hb (h.lie q hq g hg).1,(h.lie q hq g hg).2⟩,h.one,h.two,h.cA⟩
def RR.vs(q:RR):Value:=.slice q.ad q.rows.length q.cap
def TR.vs(q:TR):Value:=.slice q.ad q.rows.length q.cap
def kR(w:World)(base:Nat)(q:RR):Prop:=NodM w base q.vs q.rows
def iR(q:RR):Nat->Prop:=G9 qF q.vs q.rows
theorem JZ:Kid kR iR where
 heap w w' base q h hs hh:={
  own:=jB h.own fun g hg=>hh g (.inl hg)
  zA:=h.zA
  zK:=h.zK
  ok:=fun x hx=>su (h.ok x hx) hs (h.zA x hx) (h.zK x hx) fun g hg=>hh g (.inr ⟨x,hx,hg⟩)
  lie:=fun x hx g hg=>by
   obtain⟨a1,a2,a3,a4⟩:=h.lie x hx g hg;exact⟨a1,VY a2 hs,cz a3 (hh g (.inr ⟨x,hx,hg⟩)),a4⟩
  one:=h.one
  two:=h.two
  cA:=h.cA }
 lt w base q h g hg:=by
  rcases hg with hg|⟨x,hx,hg⟩
  ·exact h.own.lt g hg
  exact⟨(h.lie x hx g hg).1,(h.lie x hx g hg).2.1⟩
def RR.cells(q:RR):List Value:=[.string q.name,q.vs]
def TR.cells(q:TR):List Value:=[.string q.name,q.vs]
abbrev Cv:=XK 149 2 RR.cells kR iR
def kT(w:World)(base:Nat)(q:TR):Prop:=Cv w base q.vs q.rows
def iT(q:TR):Nat->Prop:=G9 iR q.vs q.rows
theorem ow:Kid kT iT where
 heap w w' base q h hs hh:=XK.heap JZ h hs hh
 lt w base q h g hg:=XK.lt JZ h hg
abbrev iP:=XK 105 2 TR.cells kT iT
theorem sJ{α:Type}{cells:α->List Value}(h2:∀q,(cells q).length=2):∀(rs:List α) (i:Nat) (h:i<rs.length) (j:Nat),j<2->(rs.flatMap cells)[i*2+j]?=(cells rs[i])[j]?
 | [],i,h,_,_=>by simp at h
 | r::rs,0,_,j,hj=>by
  simp only[WF,Nat.zero_mul,WB,List.getElem_cons_zero];rw[Xa (by rw[h2];exact hj)]
 | r::rs,i+1,h,j,hj=>by
  have:=sJ h2 rs i (by simpa using h) j hj;simp only[WF,List.getElem_cons_succ];rw[WY (by rw[h2];omega),h2,<-this];congr 1;omega
theorem qh{α:Type}{cells:α->List Value}(h2:∀q,(cells q).length=2):∀(rs:List α),(rs.flatMap cells).length=rs.length*2
 | []=>rfl
 | r::rs=>by simp only[WF,Wi,h2,qh h2 rs,WH];omega
theorem Uv{w:ae}{base:Nat}{q:TR}(h:kT w base q):Oz w q.ad q.rows:=by
 by_cases hz:q.rows=[]
 ·exact .inl hz
 rcases h.own.2 with⟨-,h0⟩|⟨g,cap,cur,e,-⟩
 ·exact absurd (Wu.1 h0) hz
 have h3:=h.own;unfold TR.vs at e h3;injection e with e1 e2 e3;rw[e1]at h3;refine .inr ⟨g,0,e1,(h3.lt g rfl).2,fun i hi=>?_,fun r hr=>?_⟩
 ·have hl:(q.rows.flatMap RR.cells).length=q.rows.length*2:=qh (fun _=>rfl) _;have key:∀j,j<2->w.cell? ⟨g,0+i*2+j,none⟩=(RR.cells q.rows[i])[j]?:=fun j hj=>by
   rw[h3.cellAt (0+i*2+j) (by omega),<-sJ (fun _=>rfl) q.rows i hi j hj,WB]
  exact⟨key 0 (by omega),key 1 (by omega)⟩
 have hk:=h.kid r hr;obtain⟨ad,cap',e4,hsl⟩:=Tz hk.own rfl hk.ok;unfold RR.vs at e4;injection e4 with e5 e6 e7;show jv w r.ad r.rows;rw[e5];exact hsl
theorem PV{w:ae}{base size n cap:Nat}{e:TypeId}{ad:Q02}{xs:Q03}(h:w.ownsRow base e size (.slice ad n cap) n xs):n<=cap:=by
 rcases h.2 with⟨e1,h0⟩|⟨g,cap',cur,e1,-,-,hnc,-⟩
 ·injection e1 with _ e2 e3;omega
 injection e1 with _ e2 e3;omega
theorem iP.read{w:ae}{base:Nat}{v:Value}{rs:Q06}(h:iP w base v rs):∃ad cap,v=.slice ad rs.length cap/\lc w ad rs/\∀r∈rs,r.caps:=by
 have hc:∀r∈rs,r.caps:=fun r hr=>⟨PV (h.kid r hr).own,fun q hq=>⟨PV ((h.kid r hr).kid q hq).own,((h.kid r hr).kid q hq).cA⟩⟩;rcases h.own.2 with⟨rfl,h0⟩|⟨g,cap,cur,rfl,-⟩
 ·exact⟨none,0,by rw[h0],.inl (Wu.1 h0),hc⟩
 have h3:=h.own;refine⟨some ⟨g,0,none⟩,cap,rfl,.inr ⟨g,0,rfl,(h3.lt g rfl).2,fun i hi=>?_,fun r hr=>Uv (h.kid r hr)⟩,hc⟩;have hl:(rs.flatMap TR.cells).length=rs.length*2:=qh (fun _=>rfl) _;have key:∀j,j<2->w.cell? ⟨g,0+i*2+j,none⟩=(TR.cells rs[i])[j]?:=fun j hj=>by
  rw[h3.cellAt (0+i*2+j) (by omega),<-sJ (fun _=>rfl) rs i hi j hj,WB]
 exact⟨key 0 (by omega),key 1 (by omega)⟩
theorem rH{a b:ByteArray}(h:a=b):Ending.returned (.string a)=.returned (.string b):=by rw[h]
theorem sK(a:bZ):(⟨#[]⟩:ByteArray)++a=a:=by apply jh;simp[ByteArray.data_append]
theorem yz(a:Al)(w:ae)(h1:a.t.size<=12)(h2:a.s.size<=12):
  Calls prog 253 #[.agg #[.string a.t,.string a.s]] w fun e w'=>e=.returned (.string (fI a))/\af w w':=by
 have hB:=(V5 w.heap.size w).alloc (V4 _) (.cells #[.string a.t,.string a.s] 223);cases he:a.s.toList.isEmpty;case true=>
  go_enter func253,ntmps253;go_wp2;go_ret;exact⟨rH (by simp[fI,he]),hB⟩
 go_enter func253,ntmps253;go_wp2;go_ret;exact⟨rH (by simp[fI,he]),hB⟩
theorem mW(k:Int)(w:ae):
  Calls prog 243 #[.int .i64 k] w fun e w'=>e=.returned (.string (gJ k))/\w'=w:=by
 by_cases h4:k=4
 ·subst h4;go_enter func243,ntmps243;go_wp2;go_ret;exact⟨rfl,rfl⟩
 by_cases h5:k=5
 ·subst h5;go_enter func243,ntmps243;go_wp2;go_ret;exact⟨rfl,rfl⟩
 have HS:Hid (gJ k=⟨#[32,45,32]⟩):=by show _=_;simp[gJ,h4,h5]
 go_enter func243,ntmps243;go_wp2;go_ret;exact⟨by rw[HS.out];rfl,rfl⟩
theorem Fp{α:Type}{xs:List α}{k:Nat}(h:k<=xs.length):xs.take k=[]↔k=0:=by
 constructor
 ·intro e;have:=congrArg List.length e;rw[WK,Xh]at this;omega
 rintro rfl;simp
theorem nQ(sep:bZ)(xs:List ByteArray):fD sep (xs.take 0)=⟨#[]⟩:=by simp[De]
theorem Bj(sep:bZ)(xs:List ByteArray)(h:0<xs.length):fD sep (xs.take 1)=⟨#[]⟩++xs[0]:=by
 rw[show(1:Nat)=0+1 from rfl,V8 h,pO,if_pos (by simp),sK]
theorem yA(sep:bZ)(xs:List ByteArray)(k:Nat)(h:k<xs.length)(hk:0<k):fD sep (xs.take (k+1))=fD sep (xs.take k)++sep++xs[k]:=by
 rw[V8 h,pO,if_neg];rw[Fp (by omega)];omega
theorem yB(sep:bZ)(xs:List ByteArray)(b k:Nat)(hx:∀x∈xs,x.size<=b):(fD sep (xs.take k)).size<=k*(b+sep.size):=by
 have h1:=pQ sep b _ (xs.take k) rfl (fun x h=>hx x (List.mem_of_mem_take h));have h2:(xs.take k).length*(b+sep.size)<=k*(b+sep.size):=Nat.mul_le_mul_right _ (by simp;omega);omega
theorem DN{es:Q09}(hes:TA es)(n:Nat)(hn:n<es.length)(i:Bool):(iW es n i).size<=20000000000000 :=
 Wh (Jb hes n hn i) (Wh (Df (by have:=hes.1;omega)) RP)
set_option maxRecDepth 4000 in
theorem J3(b off cap:Nat)(rs:Q08)(hes:TA (aj rs))(hl:∀r∈rs,r.e.light)(n:Nat):∀(inside:Bool) (w:ae),n<rs.length->b<w.heap.size->(∀(i:Nat) (h:i<rs.length),yQ w b (off+i*5) rs[i])->(∀r∈rs,r.ok w) ->
  Calls prog 246 #[.slice (some ⟨b,off,none⟩) rs.length cap,.int .i64 (n:Int),.bool inside] w fun e w'=>e=.returned (.string (iW (aj rs) n inside))/\af w w':=by
 have HES:=aC hes;have HL:=aC hl;have h15:rs.length<=15:=by have:=hes.1;rw[bf]at this;exact this
 clear hes hl
 induction n using Nat.strongRecOn with
 | ind n ih =>
  intro inside w hn hb hr hok
  have IH:Hid (∀ m,m<n->∀ (inside:Bool) (w:World),m<rs.length->b<w.heap.size->(∀ (i:Nat) (h:i<rs.length),yQ w b (off+i*5) rs[i])->(∀ r∈rs,r.ok w) ->
   Calls prog 246 #[.slice (some ⟨b,off,none⟩) rs.length cap,.int .i64 (m:Int),.bool inside] w fun e w'=>e=.returned (.string (iW (aj rs) m inside))/\af w w'):=ih
  have HR:Hid (∀(i:Nat) (h:i<rs.length),yQ w b (off+i*5) rs[i]):=hr;have HO:=aC hok;obtain⟨t0,t1,t2,t3,t4⟩:=hr n hn;have hnE:n<(aj rs).length:=by rw[bf];exact hn
  have heE:(aj rs)[n]=rs[n].e:=by simp[aj]
  have Xu:ay rs[n].e=true:=by rw[<-heE];exact HES.out.2.1 n hnE
  have hkl:=vv HES.out hnE;rw[heE]at hkl;obtain⟨hk5,hkind⟩:=qR Xu;have HT:Hid (iW (aj rs) n inside=inT rs[n].e inside (mG (jC (aj rs) n) rs[n].e)):=by show _=_;unfold iW;rw[EH hnE,heE]
  have HN:Hid (ay rs[n].e=true):=Xu;have Yp:Hid (∀k∈rs[n].e.kids,0<=k/\k.toNat<n):=hkl;have hn1:=bC n;have hn2:(n:Int)<(rs.length:Int):=by omega
  clear ih hr hok Xu hkl heE;by_cases k1:rs[n].e.kind=1
  ·skip
   obtain⟨W,hW⟩:∃W,W=w.alloc (.cells #[.int .i64 1,.slice rs[n].adA rs[n].e.allow.length rs[n].capA,.string rs[n].e.over,.string rs[n].e.name,.slice rs[n].adK rs[n].e.kids.length rs[n].capK] 188):=⟨_,rfl⟩;have hB0:af w W:=by rw[hW];exact(V5 _ _).alloc (V4 _) _
   have hgl:w.heap.size<W.heap.size:=by rw[hW];simp
   have g0:W.cell? ⟨w.heap.size,0,none⟩=some (.int .i64 1):=by rw[hW];simp
   have g1:W.cell? ⟨w.heap.size,1,none⟩=some (.slice rs[n].adA rs[n].e.allow.length rs[n].capA):=by rw[hW];simp
   have g2:W.cell? ⟨w.heap.size,2,none⟩=some (.string rs[n].e.over):=by rw[hW];simp
   have g3:W.cell? ⟨w.heap.size,3,none⟩=some (.string rs[n].e.name):=by rw[hW];simp
   have g4:W.cell? ⟨w.heap.size,4,none⟩=some (.slice rs[n].adK rs[n].e.kids.length rs[n].capK):=by rw[hW];simp
   have HB0:=aC hB0;clear hB0;have hal:ed rs[n].e.allow=true:=by
    have:=HN.out;unfold ay at this;rw[if_pos k1]at this;simp only[V9]at this;exact this.1.1.1
   have hts:=kz hal;have XJ:Hid (ed rs[n].e.allow=true):=hal;have HT1:Hid (iW (aj rs) n inside=vk rs[n].e.allow):=by show _=_;rw[HT.out];simp[inT,mG,k1]
   have hl6:rs[n].e.allow.length<=6:=by unfold ed at hal;simp at hal;exact hal.1.2
   have HAS:Hid (∀x∈rs[n].e.allow.map fI,x.size<=25):=fun x hx=>by
    obtain⟨a,ha,rfl⟩:=Wp.1 hx;obtain⟨i,hi,rfl⟩:=Xl ha;unfold ed at hal;simp only[V9]at hal;exact qQ (zw hal.2 i hi hi)
   clear hal HT;go_enter func246,ntmps246;go_wp2_with fail;rw[<-hW];clear hW t0 t1 t2 t3 t4;go_loopw[8,9] (fun s i wr=>∃k:Nat,k<=rs[n].e.allow.length/\i=.int .i64 k/\s=.string (fD ⟨#[44]⟩ ((rs[n].e.allow.map fI).take k))/\af W wr) (fun _ i _=>rs[n].e.allow.length-(intOf i).toNat);case atStart=>exact⟨0,Wd _,rfl,by rw[nQ],V5 _ _⟩
   obtain⟨k,hk,rfl,rfl,hB⟩:=hrel;have hBw:af w wr:=HB0.out.trans (hB.mono HB0.out.size);have a1:=kept hB hgl g1;have hsj:(fD ⟨#[44]⟩ ((rs[n].e.allow.map fI).take k)).size<=200:=by
    have h:=yB ⟨#[44]⟩ (rs[n].e.allow.map fI) 25 k HAS.out;have e1:(⟨#[44]⟩:ByteArray).size=1:=rfl;rw[e1]at h;omega
   by_cases hlt:k<rs[n].e.allow.length
   ·rcases (HO.out rs[n] (VZ hn)).1.below hBw with hnil|⟨ba,Zf,Zg,hba,hra⟩
    ·rw[hnil]at hlt;simp at hlt
    rw[Zg]at a1;obtain⟨q0,q1⟩:=hra k hlt;have hab:F4 rs[n].e.allow[k]=true:=by
     have:=XJ.out;unfold ed at this;simp only[V9]at this;exact zw this.2 k hlt hlt
    have z2:=qQ hab;unfold F4 at hab;rw[V9]at hab;have z0:=bI hab.1;have z1:=Aa hab.2;have hk1:=bC k;have hk2:(k:Int)<(rs[n].e.allow.length:Int):=by omega
    clear hra Zg hab;by_cases hk0:0<k
    ·have hk3:(0:Int)<(k:Int):=by omega
     have HJ:Hid (fD ⟨#[44]⟩ ((rs[n].e.allow.map fI).take (k+1))=fD ⟨#[44]⟩ ((rs[n].e.allow.map fI).take k)++⟨#[44]⟩++fI rs[n].e.allow[k]):=by show _=_;rw[yA _ _ _ (by simpa using hlt) hk0,List.getElem_map]
     go_wp2_with fail;refine(yz rs[n].e.allow[k] _ z0 z1).mono ?_;rintro e w1 ⟨rfl,hb1⟩;have hB1:af W w1:=hB.trans (hb1.mono hB.size);clear hb1;go_wp2;go_roundw;case rel=>exact⟨k+1,by omega,by go_num,by rw[HJ.out],hB1⟩
     simp[intOf]<;>omega
    skip
    have hk3:¬(0:Int)<(k:Int):=by omega
    have HJ:Hid (fD ⟨#[44]⟩ ((rs[n].e.allow.map fI).take (k+1))=fD ⟨#[44]⟩ ((rs[n].e.allow.map fI).take k)++fI rs[n].e.allow[k]):=by
     show _=_;obtain rfl:k=0:=by omega
     rw[nQ,Bj _ _ (by simpa using hlt),List.getElem_map]
    go_wp2_with fail;refine(yz rs[n].e.allow[k] _ z0 z1).mono ?_;rintro e w1 ⟨rfl,hb1⟩;have hB1:af W w1:=hB.trans (hb1.mono hB.size);clear hb1;go_wp2;go_roundw;case rel=>exact⟨k+1,by omega,by go_num,by rw[HJ.out],hB1⟩
    simp[intOf]<;>omega
   obtain rfl:k=rs[n].e.allow.length:=by omega
   have HE:Hid ((rs[n].e.allow.map fI).take rs[n].e.allow.length=rs[n].e.allow.map fI):=by show _=_;rw[WL (by simp)]
   go_wp2;go_ret;exact⟨by rw[HT1.out];exact rH (by rw[HE.out];rfl),hBw⟩
  by_cases k2:rs[n].e.kind=2
  ·have HT1:Hid (iW (aj rs) n inside=rs[n].e.name):=by show _=_;rw[HT.out];simp[inT,mG,k2]
   clear HT;go_enter func246,ntmps246;go_wp2;go_ret;exact⟨by rw[HT1.out];rfl,(V5 _ _).alloc (V4 _) _⟩
  by_cases k3:rs[n].e.kind=3
  ·have HT1:Hid (iW (aj rs) n inside=rs[n].e.over++⟨#[45,62]⟩++rs[n].e.name):=by show _=_;rw[HT.out];simp[inT,mG,k3]
   have hsz:rs[n].e.over.size<=12/\rs[n].e.name.size<=12:=by
    have:=HN.out;unfold ay at this;rw[if_neg k1,if_neg k2,if_pos k3]at this;simp only[V9]at this;exact⟨bI this.1.1.1,bI this.1.1.2⟩
   obtain⟨z0,z1⟩:=hsz;clear HT;go_enter func246,ntmps246;go_wp2;go_ret;exact⟨by rw[HT1.out];rfl,(V5 _ _).alloc (V4 _) _⟩
  skip
  obtain⟨W,hW⟩:∃W,W=w.alloc (.cells #[.int .i64 rs[n].e.kind,.slice rs[n].adA rs[n].e.allow.length rs[n].capA,.string rs[n].e.over,.string rs[n].e.name,.slice rs[n].adK rs[n].e.kids.length rs[n].capK] 188):=⟨_,rfl⟩;have hB0:af w W:=by rw[hW];exact(V5 _ _).alloc (V4 _) _
  have hgl:w.heap.size<W.heap.size:=by rw[hW];simp
  have g0:W.cell? ⟨w.heap.size,0,none⟩=some (.int .i64 rs[n].e.kind):=by rw[hW];simp
  have g1:W.cell? ⟨w.heap.size,1,none⟩=some (.slice rs[n].adA rs[n].e.allow.length rs[n].capA):=by rw[hW];simp
  have g2:W.cell? ⟨w.heap.size,2,none⟩=some (.string rs[n].e.over):=by rw[hW];simp
  have g3:W.cell? ⟨w.heap.size,3,none⟩=some (.string rs[n].e.name):=by rw[hW];simp
  have g4:W.cell? ⟨w.heap.size,4,none⟩=some (.slice rs[n].adK rs[n].e.kids.length rs[n].capK):=by rw[hW];simp
  have HB0:=aC hB0;clear hB0;have HT1:Hid (iW (aj rs) n inside=if inside then ⟨#[40]⟩++fD (gJ rs[n].e.kind) (rs[n].e.kids.map (jC (aj rs) n))++⟨#[41]⟩ else fD (gJ rs[n].e.kind) (rs[n].e.kids.map (jC (aj rs) n))):=by
   show _=_;rw[HT.out];simp[inT,mG,k1,k2,k3]
  have HTS:Hid (∀x∈rs[n].e.kids.map (jC (aj rs) n),x.size<=20000000000000):=fun x hx=>by
   obtain⟨k,hk,rfl⟩:=Wp.1 hx;have hlt:=Yp.out k hk;unfold jC;rw[if_pos hlt.2,EG];exact DN HES.out _ (by rw[bf];omega) true
  have kb1:(rs[n].e.kind==1)=false:=by simpa using k1
  have kb2:(rs[n].e.kind==2)=false:=by simpa using k2
  have kb3:(rs[n].e.kind==3)=false:=by simpa using k3
  clear HT hkind;go_enter func246,ntmps246;go_wp2_with fail;rw[<-hW];clear hW t0 t1 t2 t3 t4;go_loopw[8,10] (fun s i wr=>∃k:Nat,k<=rs[n].e.kids.length/\i=.int .i64 k/\s=.string (fD (gJ rs[n].e.kind) ((rs[n].e.kids.map (jC (aj rs) n)).take k))/\af W wr) (fun _ i _=>rs[n].e.kids.length-(intOf i).toNat);case atStart=>exact⟨0,Wd _,rfl,by rw[nQ],V5 _ _⟩
  obtain⟨k,hk,rfl,rfl,hB⟩:=hrel;have hBw:af w wr:=HB0.out.trans (hB.mono HB0.out.size);have hbw:b<wr.heap.size:=VY hb hBw.size;have a0:=kept hB hgl g0;have a4:=kept hB hgl g4;have hsg:=mE rs[n].e.kind;have hsj:(fD (gJ rs[n].e.kind) ((rs[n].e.kids.map (jC (aj rs) n)).take k)).size<=100000000000100:=by
   have h:=yB (gJ rs[n].e.kind) (rs[n].e.kids.map (jC (aj rs) n)) 20000000000000 k HTS.out;rw[hsg]at h;omega
  by_cases hlt:k<rs[n].e.kids.length
  ·rcases (HO.out rs[n] (VZ hn)).2.below hBw with hnil|⟨bk,offk,XZ,hbk,hrk⟩
   ·rw[hnil]at hlt;simp at hlt
   rw[XZ]at a4;have q0:=hrk k hlt;obtain⟨hz0,hz1⟩:=Yp.out rs[n].e.kids[k] (VZ hlt);obtain⟨m,hm⟩:∃m:Nat,rs[n].e.kids[k]=(m:Int):=⟨rs[n].e.kids[k].toNat,by omega⟩;rw[hm]at q0 hz1;have hmn:m<n:=by simpa using hz1
   have hmr:m<rs.length:=by omega
   have HFm:Hid (jC (aj rs) n rs[n].e.kids[k]=iW (aj rs) m true):=by show _=_;rw[hm];unfold jC;rw[if_pos (by simpa using hmn),EG];simp
   have hsm:=DN HES.out m (by rw[bf];exact hmr) true;have hk1:=bC k;have hk2:(k:Int)<(rs[n].e.kids.length:Int):=by omega
   clear hrk XZ hz0 hz1 hm;by_cases hk0:0<k
   ·have hk3:(0:Int)<(k:Int):=by omega
    have HJ:Hid (fD (gJ rs[n].e.kind) ((rs[n].e.kids.map (jC (aj rs) n)).take (k+1))=fD (gJ rs[n].e.kind) ((rs[n].e.kids.map (jC (aj rs) n)).take k)++gJ rs[n].e.kind++iW (aj rs) m true):=by show _=_;rw[yA _ _ _ (by simpa using hlt) hk0,List.getElem_map,HFm.out]
    go_wp2_with fail;refine(mW _ _).mono ?_;rintro e w' ⟨rfl,rfl⟩;go_wp2_with fail;refine(IH.out m hmn true _ hmr hbw (fun i hi=>(HR.out i hi).later hb hBw) (fun r hr=>(HO.out r hr).below hBw)).mono ?_;rintro e w1 ⟨rfl,hb1⟩;have hB1:af W w1:=hB.trans (hb1.mono hB.size);clear hb1;go_wp2;go_roundw;case rel=>exact⟨k+1,by omega,by go_num,by rw[HJ.out],hB1⟩
    simp[intOf]<;>omega
   skip
   have hk3:¬(0:Int)<(k:Int):=by omega
   have HJ:Hid (fD (gJ rs[n].e.kind) ((rs[n].e.kids.map (jC (aj rs) n)).take (k+1))=fD (gJ rs[n].e.kind) ((rs[n].e.kids.map (jC (aj rs) n)).take k)++iW (aj rs) m true):=by
    have h0:=HFm.out;show _=_;obtain rfl:k=0:=by omega
    rw[nQ,Bj _ _ (by simpa using hlt),List.getElem_map,h0]
   go_wp2_with fail;refine(IH.out m hmn true _ hmr hbw (fun i hi=>(HR.out i hi).later hb hBw) (fun r hr=>(HO.out r hr).below hBw)).mono ?_;rintro e w1 ⟨rfl,hb1⟩;have hB1:af W w1:=hB.trans (hb1.mono hB.size);clear hb1;go_wp2;go_roundw;case rel=>exact⟨k+1,by omega,by go_num,by rw[HJ.out],hB1⟩
   simp[intOf]<;>omega
  obtain rfl:k=rs[n].e.kids.length:=by omega
  have HE:Hid ((rs[n].e.kids.map (jC (aj rs) n)).take rs[n].e.kids.length=rs[n].e.kids.map (jC (aj rs) n)):=by show _=_;rw[WL (by simp)]
  cases inside;case true=>
   go_wp2;go_ret;exact⟨by rw[HT1.out];exact rH (by rw[HE.out];rfl),hBw⟩
  go_wp2;go_ret;exact⟨by rw[HT1.out];exact rH (by rw[HE.out];rfl),hBw⟩
def gZ(es:Q09):ByteArray:=if aP es then iW es (es.length-1) false else ⟨#[]⟩
theorem DR{es:Q09}(h:aP es=false):gZ es=⟨#[]⟩:=by simp[gZ,h]
theorem Bl{es:Q09}(h:aP es=true):gZ es=iW es (es.length-1) false:=by simp[gZ,h]
theorem oW(ad:Q02)(cap:Nat)(rs:Q08)(w:ae)(hlen:rs.length<=1048576)(hl:∀r∈rs,r.e.light)(hf:∀r∈rs,r.e.fits)(hs:jv w ad rs):
  Calls prog 227 #[.slice ad rs.length cap] w fun e w'=>e=.returned (.string (gZ (aj rs)))/\af w w':=by
 have HS:=aC hs;have HL:=aC hl;have HF:=aC hf;clear hs hl hf;go_enter func227,ntmps227;go_wp2_with fail;refine(mM ad cap rs _ hlen HL.out HF.out HS.out).mono ?_;rintro e w1 ⟨he,hb1⟩;have HB1:=aC hb1;clear hb1;cases hE:aP (aj rs);case false=>
  rw[hE]at he;subst he;have HX:Hid (gZ (aj rs)=⟨#[]⟩):=DR hE;go_wp2;go_ret;exact⟨by rw[HX.out];rfl,HB1.out⟩
 rw[hE]at he;subst he;have h1:1<=rs.length:=by
  have:=hE;unfold aP at this;simp only[V9,Wn,bf]at this;exact this.1.1.1.1.1
 rcases HS.out.below HB1.out with rfl|⟨b,off,rfl,hb,hr,hok⟩
 ·simp at h1
 have HR:Hid (∀(i:Nat) (h:i<rs.length),yQ w1 b (off+i*5) rs[i]):=hr;have HO:=aC hok;have Yk:Hid (TA (aj rs)):=O9 hE;have HX:Hid (gZ (aj rs)=iW (aj rs) (rs.length-1) false):=by show _=_;rw[Bl hE,bf]
 have ZY:Hid (((rs.length:Int)-1)=((rs.length-1:Nat):Int)):=by show _=_;omega
 clear hr hok;go_wp2_with fail;rw[ZY.out];refine(J3 b off cap rs Yk.out HL.out (rs.length-1) false _ (by omega) hb HR.out HO.out).mono ?_;rintro e w2 ⟨rfl,hb2⟩;have HB2:=kv HB1 hb2;clear hb2;go_wp2;go_ret;exact⟨by rw[HX.out];rfl,HB2.out⟩
theorem wh(k:Int):gJ k=aY k:=by
 unfold gJ aY;rfl
def ib(s:ByteArray)(p:Nat)(j:Nat):Int :=
 if 4<j/\dX s (aY 4) p=true then 4 else if 5<j/\dX s (aY 5) p=true then 5 else if 6<j/\dX s (aY 6) p=true then 6 else 0
theorem PW(s:bZ)(p:Nat):ib s p 4=0:=by simp[ib]
theorem PX(s:bZ)(p:Nat):ib s p 7=dz s p:=by simp[ib,dz]
theorem Hd{s:ByteArray}{p j:Nat}(h4:4<=j)(h7:j<7)(h:ib s p j≠0):ib s p (j+1)=ib s p j:=by
 have hj:j=4\/j=5\/j=6:=by omega
 unfold ib at h⊢;rcases hj with rfl|rfl|rfl<;>cases h1:dX s (aY 4) p<;>cases h2:dX s (aY 5) p<;>cases h3:dX s (aY 6) p<;>simp_all
theorem DT{s:ByteArray}{p j:Nat}(h4:4<=j)(h7:j<7)(h:ib s p j=0)(hl:dX s (aY j) p=false):ib s p (j+1)=0:=by
 have hj:j=4\/j=5\/j=6:=by omega
 unfold ib at h⊢;rcases hj with rfl|rfl|rfl<;>cases h1:dX s (aY 4) p<;>cases h2:dX s (aY 5) p<;>cases h3:dX s (aY 6) p<;>simp_all
theorem J4{s:ByteArray}{p j:Nat}(h4:4<=j)(h7:j<7)(h:ib s p j=0)(hl:dX s (aY j) p=true):ib s p (j+1)=(j:Int):=by
 have hj:j=4\/j=5\/j=6:=by omega
 unfold ib at h⊢;rcases hj with rfl|rfl|rfl<;>cases h1:dX s (aY 4) p<;>cases h2:dX s (aY 5) p<;>cases h3:dX s (aY 6) p<;>simp_all
theorem mX(k:Int):(aY k).size=3:=by
 unfold aY;split
 ·rfl
 split<;>rfl
theorem Bn{s:ByteArray}{p:Nat}(k:Int)(h:p+3<=s.size):dX s (aY k) p=((s.extract p (p+3)).toList==(gJ k).toList):=by
 unfold dX;rw[mX,wh];simp[h]
theorem M8{s:ByteArray}{p:Nat}(k:Int)(h:¬p+3<=s.size):dX s (aY k) p=false:=by
 unfold dX;rw[mX];simp[h]
def rowP(s:ByteArray)(it:RS->Int×RS)(x:Int×RS):Int×RS :=
 if dz s x.2.p=0\/x.2.bad=true then x
 else (((il s it (dz s x.2.p) (s.size+1) [x.1] x.2).2.out.length:Int),tq ⟨dz s x.2.p,[],⟨#[]⟩,⟨#[]⟩,(il s it (dz s x.2.p) (s.size+1) [x.1] x.2).1⟩ (il s it (dz s x.2.p) (s.size+1) [x.1] x.2).2)
theorem Bo{s:ByteArray}{it:RS->Int×RS}{x:Int×RS}(h:dz s x.2.p=0\/x.2.bad=true):rowP s it x=x:=if_pos h
theorem M9{s:ByteArray}{it:RS->Int×RS}{x:Int×RS}(h:¬(dz s x.2.p=0\/x.2.bad=true)){zs:List Int}{st:RS}(hk:il s it (dz s x.2.p) (s.size+1) [x.1] x.2=(zs,st)):rowP s it x=((st.out.length:Int),tq ⟨dz s x.2.p,[],⟨#[]⟩,⟨#[]⟩,zs⟩ st):=by
 unfold rowP;rw[if_neg h,hk]
theorem PY{s:ByteArray}{it:RS->Int×RS}{k:Int}{n:Nat}{zs:List Int}{st:RS}(h:nO s (aY k) st.p st.bad=false):il s it k n zs st=(zs,st):=by
 have e:lV s (aY k) st=false:=h;cases n with
 | zero=>rfl
 | succ n=>unfold il;rw[e];rfl
theorem Na{s:ByteArray}{it:RS->Int×RS}{k:Int}{n:Nat}{zs:List Int}{st:RS}(h:nO s (aY k) st.p st.bad=true):il s it k (n+1) zs st=il s it k n (zs++[(it (kM (aY k) st)).1]) (it (kM (aY k) st)).2:=by
 have e:lV s (aY k) st=true:=h
 conv=>lhs;unfold il
 rw[e];rfl
theorem RdC.heap{w w':ae}{R:Nat}{s:ByteArray}{p:Nat}{bad:Bool}{v:Value}(h:RdC w R s p bad v)(hs:w.heap.size<=w'.heap.size)(hh:w'.heap[R]?=w.heap[R]?):RdC w' R s p bad v :=
 ⟨VY h.lt hs,(Wt (w:=w) (a:=⟨R,0,none⟩) hh).trans h.c0,(Wt (w:=w) (a:=⟨R,1,none⟩) hh).trans h.c1,(Wt (w:=w) (a:=⟨R,2,none⟩) hh).trans h.c2,(Wt (w:=w) (a:=⟨R,3,none⟩) hh).trans h.c3,cz h.fr hh⟩
theorem RdF.heap{w w':ae}{R:Nat}{s:ByteArray}{st:RS}{base:Nat}{v:Value}{qs:Q08}(h:RdF w R s st base v qs)(hs:w.heap.size<=w'.heap.size)(h1:w'.heap[R]?=w.heap[R]?)(h2:∀g,v.ownBlock=some g->w'.heap[g]?=w.heap[g]?)(h3:∀q∈qs,∀g,qF q g->w'.heap[g]?=w.heap[g]?):RdF w' R s st base v qs where
 rd:=h.rd.heap hs h1
 own:=jB h.own h2
 out:=h.out
 zA:=h.zA
 zK:=h.zK
 ok q hq:=su (h.ok q hq) hs (h.zA q hq) (h.zK q hq) (h3 q hq)
 lie q hq g hg:=by
  obtain⟨a1,a2,a3,a4⟩:=h.lie q hq g hg;exact⟨a1,VY a2 hs,cz a3 (h3 q hq g hg),a4⟩
 one:=h.one
 two:=h.two
 cA:=h.cA
 cK q hq:=(h.cK q hq).heap (h.zK q hq) (h3 q hq)
structure KLr(w wr:World)(R:Nat)(s:ByteArray)(st:RS)(base:Nat)(v v':Value)(qs ns:Q08)(zs:List Int)(vK:Value):Prop where
 rd:RdF wr R s st base v' (qs++ns)
 went:Went R v w v' wr
 new:∀q∈ns,∀g,qF q g->w.heap.size<=g
 own:wr.ownsRow w.heap.size 2 1 vK zs.length (ints zs)
 far:∀g,vK.ownBlock=some g->v'.ownBlock≠some g/\∀q∈qs++ns,¬qF q g
 ne:zs≠[]
theorem KLr.is{w wr w':ae}{R:Nat}{s:ByteArray}{st st':RS}{base:Nat}{v v':Value}{qs ns:Q08}{zs:List Int}{vK:Value}(h:KLr w wr R s st base v v' qs ns zs vK)(hR:R<w.heap.size)(hg:wr.grownBy w' (some R))(hF:RdF w' R s st' base v' (qs++ns)):KLr w w' R s st' base v v' qs ns zs vK :=
 ⟨hF,h.went.trans ((Onl.of_grown hg).any v'),h.new,h.own.kept hg (.inr (fun e=>by have:=(h.own.lt R e).1;omega)),h.far,h.ne⟩
theorem KLr.more{w wr w':ae}{R:Nat}{s:ByteArray}{st st':RS}{base:Nat}{v v' v2:Value}{qs ns ms:Q08}{zs:List Int}{vK:Value}(h:KLr w wr R s st base v v' qs ns zs vK)(hR:R<w.heap.size)(hF:RdF w' R s st' base v2 ((qs++ns)++ms))(hW:Went R v' wr v2 w')(hm:∀q∈ms,∀g,qF q g->wr.heap.size<=g):KLr w w' R s st' base v v2 qs (ns++ms) zs vK:=by
 have hl:∀g,vK.ownBlock=some g->w.heap.size<=g/\g<wr.heap.size:=fun g hg=>h.own.lt g hg;refine⟨by rw[<-WE];exact hF,h.went.trans hW,fun q hq g hg=>?_,jB h.own fun g hg=>hW.onl.block g (hl g hg).2 (by have:=(hl g hg).1;omega) (h.far g hg).1,fun g hg=>⟨hW.apart (hl g hg).2 (h.far g hg).1,fun q hq hi=>?_⟩,h.ne⟩
 ·rcases Wj.1 hq with h1|h1
  ·exact h.new q h1 g hg
  exact Wh h.went.onl.size (hm q h1 g hg)
 rw[<-WE]at hq;rcases Wj.1 hq with h1|h1
 ·exact(h.far g hg).2 q h1 hi
 have:=hm q h1 g hi;have:=(hl g hg).2;omega
theorem PZ(zs:List Int)(z:Int):ints (zs++[z])=ints zs++[.int .i64 z]:=by simp[ints]
theorem KLr.app{w wr w':ae}{R:Nat}{s:ByteArray}{st:RS}{base:Nat}{v v':Value}{qs ns:Q08}{zs:List Int}{vK vN:Value}(h:KLr w wr R s st base v v' qs ns zs vK)(hR:R<w.heap.size)(z:Int)(o:Obj)(hown:w'.ownsRow w.heap.size 2 1 vN (zs.length+1) (ints zs++[.int .i64 z]))(hg:(wr.alloc o).grownBy w' vK.ownBlock)(hat:vN.ownBlock=vK.ownBlock\/vN.ownBlock=some (wr.alloc o).heap.size):KLr w w' R s st base v v' qs ns (zs++[z]) vN:=by
 have hg0:=World.grownBy_alloc wr o none;have keep:∀k,k<wr.heap.size->vK.ownBlock≠some k->w'.heap[k]?=wr.heap[k]?:=fun k hk hne=>(hg.block k (VY hk hg0.size) (Ne.symm hne)).trans (hg0.block k hk (by simp));have hl:∀g,vK.ownBlock=some g->w.heap.size<=g/\g<wr.heap.size:=fun g hg=>h.own.lt g hg;have hs:wr.heap.size<=w'.heap.size:=Wh hg0.size hg.size;refine⟨h.rd.heap hs (keep R h.rd.rd.lt (fun e=>by have:=(hl R e).1;omega)) (fun g hg=>keep g (h.rd.own.lt g hg).2 (fun e=>(h.far g e).1 hg)) (fun q hq g hi=>keep g (h.rd.lie q hq g hi).2.1 (fun e=>(h.far g e).2 q hq hi)),?_,h.new,by rw[PZ,Wi,WJ];exact hown,fun g hgn=>?_,by simp⟩
 ·refine⟨⟨hg.os.trans (hg0.os.trans h.went.onl.os),hg.tape.trans (hg0.tape.trans h.went.onl.tape),hg.output.trans (hg0.output.trans h.went.onl.output),Wh h.went.onl.size hs,fun k hk h1 h2=>(keep k (VY hk h.went.onl.size) (fun e=>by have:=(hl k e).1;omega)).trans (h.went.onl.block k hk h1 h2)⟩,h.went.own⟩
 rcases hat with e|e
 ·exact h.far g (by rw[<-e];exact hgn)
 rw[e]at hgn;injection hgn with hgn;have hsz:wr.heap.size<=g:=by rw[<-hgn];exact hg0.size
 exact⟨fun e2=>by have:=(h.rd.own.lt g e2).2;omega,fun q hq hi=>by have:=(h.rd.lie q hq g hi).2.1;omega⟩
theorem KLr.node{w wr:ae}{R:Nat}{s:ByteArray}{st:RS}{base:Nat}{v v':Value}{qs ns:Q08}{zs:List Int}{vK:Value}(h:KLr w wr R s st base v v' qs ns zs vK)(hb:base<=w.heap.size)(k:Int):∃ad cap,vK=.slice ad zs.length cap/\NewQ base wr ⟨⟨k,[],⟨#[]⟩,⟨#[]⟩,zs⟩,none,0,ad,cap⟩/\∀g,qF ⟨⟨k,[],⟨#[]⟩,⟨#[]⟩,zs⟩,none,0,ad,cap⟩ g->w.heap.size<=g/\v'.ownBlock≠some g/\∀q∈qs++ns,¬qF q g:=by
 obtain⟨ad,cap,e,h2,h3,h4⟩:=Vo h.own rfl;have hA:∀g,¬bA ⟨⟨k,[],⟨#[]⟩,⟨#[]⟩,zs⟩,none,0,ad,cap⟩ g:=fun g hg=>hg.1 rfl;have hK:∀g,qF ⟨⟨k,[],⟨#[]⟩,⟨#[]⟩,zs⟩,none,0,ad,cap⟩ g->(w.heap.size<=g/\g<wr.heap.size/\jM wr g)/\vK.ownBlock=some g:=by
  rintro g (hg|hg)
  ·exact absurd hg (hA g)
  exact⟨h4 g hg.1 hg.2,by rw[e,show ad=some ⟨g,0,none⟩ from hg.2];rfl⟩
 refine⟨ad,cap,e,⟨fun h=>absurd rfl h,h3,⟨.inl rfl,h2⟩,fun g hg=>⟨Wh hb (hK g hg).1.1,(hK g hg).1.2⟩,fun g hg=>absurd hg (hA g),Wd _⟩,fun g hg=>⟨(hK g hg).1.1,h.far g (hK g hg).2⟩⟩
theorem KLr.kid{w wr:ae}{R:Nat}{s:ByteArray}{st:RS}{base:Nat}{v v':Value}{qs ns:Q08}{zs:List Int}{ad:Q02}{cap:Nat}(h:KLr w wr R s st base v v' qs ns zs (.slice ad zs.length cap))(hb:base<=w.heap.size)(k:Int):Cn wr base ⟨⟨k,[],⟨#[]⟩,⟨#[]⟩,zs⟩,none,0,ad,cap⟩:=Cn.mono (base:=w.heap.size) (.inr ⟨h.ne,h.own⟩) hb
theorem P5(w:ae)(z:Int)(g:Nat)(hg:w.heap.size=g):∀j u,[Value.int .i64 z][j]?=some u->(w.alloc (.cells #[.int .i64 z] 2)).cell? ((⟨g,0,none⟩:Addr).add j)=some u:=by
 intro j u hu;subst hg;rw[show(⟨w.heap.size,0,none⟩:Addr).add j=⟨w.heap.size,0+j,none⟩ by simp[Addr.add];omega,WB];have:=World.cell?_alloc_mark w #[.int .i64 z] 2 (0,0) j;rw[this];simpa using hu
theorem R8(R:Nat)(s:bZ)(st:RS)(base:Nat)(v:Value)(qs:Q08)(w:ae)(h:RdF w R s st base v qs)(hR:R<base)(hB:base<=w.heap.size)(hs:s.size<=1000)(x:Int×RS)(hx:x.2.p<=s.size)
  (hfirst:Calls prog 242 #[.pointer (some ⟨R,0,none⟩)] w (vF R s base v qs w x))
  (it:RS->Int×RS) (hlen:x.2.out.length+(s.size-x.2.p)<=5001)
  (hit:∀(st':RS) (v':Value) (qs':Q08) (w':World),RdF w' R s st' base v' qs'->base<=w'.heap.size->x.2.p+3<=st'.p->st'.p<=s.size->st'.out.length+(s.size-st'.p)<=5000->Calls prog 242 #[.pointer (some ⟨R,0,none⟩)] w' (vF R s base v' qs' w' (it st')))
  (hmono:∀st':RS,x.2.p+3<=st'.p->st'.p<=s.size->st'.p<=(it st').2.p/\(it st').2.p<=s.size/\(it st').2.out.length+st'.p<=st'.out.length+1+(it st').2.p) :
  Calls prog 226 #[.pointer (some ⟨R,0,none⟩)] w (vF R s base v qs w (rowP s it x)):=by
 obtain⟨iI,hiI,zI0,zI1,zI2⟩:=info_parts (P:=prog) (e:=2) (z:=.int .i64 0) (size:=1) (bytes:=8) (by kernel_rfl);have HII:Hid (prog.info? 2=some iI/\iI.zero=some (.int .i64 0)/\iI.size=1/\iI.bytes=8):=⟨hiI,zI0,zI1,zI2⟩;have HLEN:=ai hlen;have HITM:=ai hit;have HMONO:=ai hmono;clear hiI zI0 zI1 zI2 hlen hit hmono;have H:=ai h;have HX:=ai hx;have HIT:=ai hfirst;clear h hx hfirst;go_enter func226,ntmps226;go_wp2_with fail;refine HIT.out.mono ?_;rintro e w1 ⟨v1,ns,rfl,hF1,hW1,hns⟩;have Yc:=ai hF1;have HW1:=ai hW1;have HNS:=ai hns;clear hF1 hW1 hns HIT;go_wp2_with fail;go_loopw[4,5] (fun kd k wr=>∃(j nn:Nat),4<=j/\j<=7/\k=.int .i64 j/\kd=.int .i64 (ib s x.2.p j)/\Hid (wr=w1.drewN nn)) (fun _ k _=>7-(intOf k).toNat);case atStart=>exact⟨4,0,by omega,by omega,rfl,by rw[PW],rfl⟩
 obtain⟨j,nn,hj4,hj7,rfl,rfl,ZG⟩:=hrel;have hrd:RdC wr R s x.2.p x.2.bad v1:=by rw[ZG.out];exact Yc.out.rd.drewN nn
 have HRD:=ai hrd;have c0:=HRD.out.c0;have c1:=HRD.out.c1;have c2:=HRD.out.c2;clear hrd;by_cases hlt:j<7
 ·have hle:decide ((j:Int)<=6)=true:=by simp;omega
  have hle2:(j:Int)<=6:=by omega
  have hwr:IntKind.i64.wrap ((x.2.p:Int)+3)=(x.2.p:Int)+3:=by have:=HX.out;simp[IntKind.wrap,IntKind.bits,IntKind.signed];omega
  by_cases hK:ib s x.2.p j=0
  ·have hK0:(ib s x.2.p j==0)=true:=by simp[hK]
   by_cases aaa:x.2.p+3<=s.size
   ·have hd:decide ((x.2.p:Int)+3<=(s.size:Int))=true:=by simp;omega
    have hd2:(x.2.p:Int)+3<=(s.size:Int):=by omega
    have hnn:(0:Int)<=(x.2.p:Int):=by omega
    have hp1:(x.2.p:Int)<=(x.2.p:Int)+3:=by omega
    rw[hK];cases he:(s.extract x.2.p (x.2.p+3)).toList==(gJ j).toList
    case' true =>
     have EQ:=ai (J4 hj4 hlt hK (by rw[Bn _ aaa];exact he))
    case' false =>
     have EQ:=ai (DT hj4 hlt hK (by rw[Bn _ aaa];exact he))
    all_goals
     clear hK hK0;go_wp2_with fail;go_quiet ((go_at_call 243;exact Calls.quiet_of_same (mW _ _)));go_wp2;go_roundw;case rel=>exact⟨j+1,nn+nq,by omega,by omega,by go_num,by rw[EQ.out],by show _=_;rw[ZG.out,World.drewN_drewN]⟩
     simp[intOf]<;>omega
   have hd:decide ((x.2.p:Int)+3<=(s.size:Int))=false:=by simp;omega
   have EQ:=ai (DT hj4 hlt hK (M8 _ aaa));rw[hK];clear hK hK0;go_wp2_with fail;go_quiet ((go_at_call 243;exact Calls.quiet_of_same (mW _ _)));go_wp2;go_roundw;case rel=>exact⟨j+1,nn+nq,by omega,by omega,by go_num,by rw[EQ.out],by show _=_;rw[ZG.out,World.drewN_drewN]⟩
   simp[intOf]<;>omega
  have hK0:(ib s x.2.p j==0)=false:=by simp[hK]
  have EQ:=ai (Hd hj4 hlt hK);clear hK;go_wp2_with fail;go_quiet ((go_at_call 243;exact Calls.quiet_of_same (mW _ _)));go_wp2;go_roundw;case rel=>exact⟨j+1,nn+nq,by omega,by omega,by go_num,by rw[EQ.out],by show _=_;rw[ZG.out,World.drewN_drewN]⟩
  simp[intOf]<;>omega
 obtain rfl:j=7:=by omega
 rw[PX,show((7:Nat):Int)=(7:Int) from rfl];have hle:decide ((7:Int)<=6)=false:=by decide
 obtain⟨kd,hkd⟩:∃kd,kd=dz s x.2.p:=⟨_,rfl⟩;have HKD:=ai hkd;rw[<-hkd];clear hkd;by_cases hk:kd=0
 ·have hk0:(kd==0)=true:=by simp[hk]
  have EQ:=ai (Bo (it:=it) (.inl (HKD.out.symm.trans hk)));subst hk;have HF:=ai (Yc.out.heap (w':=wr) (by rw[ZG.out];exact V4 _) (by rw[ZG.out];rfl) (fun g _=>by rw[ZG.out];rfl) (fun q _ g _=>by rw[ZG.out];rfl));have HW:Hid (Went R v w v1 wr):=by rw[ZG.out];exact⟨⟨HW1.out.onl.os,HW1.out.onl.tape,HW1.out.onl.output,HW1.out.onl.size,HW1.out.onl.block⟩,HW1.out.own⟩
  go_wp2;exact bodyPost_ret (v:=.int .i64 x.1) (by simp[results,Tryz.results226,go_sem]) rfl (by rw[EQ.out];exact⟨v1,ns,rfl,HF.out,HW.out,HNS.out⟩)
 have hk0:(kd==0)=false:=by simp[hk]
 cases hb:x.2.bad;case true=>
  have EQ:=ai (Bo (it:=it) (x:=x) (s:=s) (.inr hb));rw[hb]at c2;have HF:=ai (Yc.out.heap (w':=wr) (by rw[ZG.out];exact V4 _) (by rw[ZG.out];rfl) (fun g _=>by rw[ZG.out];rfl) (fun q _ g _=>by rw[ZG.out];rfl));have HW:Hid (Went R v w v1 wr):=by rw[ZG.out];exact⟨⟨HW1.out.onl.os,HW1.out.onl.tape,HW1.out.onl.output,HW1.out.onl.size,HW1.out.onl.block⟩,HW1.out.own⟩
  go_wp2;exact bodyPost_ret (v:=.int .i64 x.1) (by simp[results,Tryz.results226,go_sem]) rfl (by rw[EQ.out];exact⟨v1,ns,rfl,HF.out,HW.out,HNS.out⟩)
 rw[hb]at c2;have Zl:Hid (¬(dz s x.2.p=0\/x.2.bad=true)):=by
  rintro(e|e)
  ·exact hk (HKD.out.trans e)
  rw[hb]at e;cases e
 have HF:=ai (Yc.out.heap (w':=wr) (by rw[ZG.out];exact V4 _) (by rw[ZG.out];rfl) (fun g _=>by rw[ZG.out];rfl) (fun q _ g _=>by rw[ZG.out];rfl));have HW:Hid (Went R v w v1 wr):=by rw[ZG.out];exact⟨⟨HW1.out.onl.os,HW1.out.onl.tape,HW1.out.onl.output,HW1.out.onl.size,HW1.out.onl.block⟩,HW1.out.own⟩
 have HWB:Hid (R<w.heap.size):=H.out.rd.lt;have HKL0:Hid (KLr w (wr.alloc (.cells #[.int .i64 x.1] 2)) R s x.2 base v v1 qs ns [x.1] (.slice (some ⟨wr.heap.size,0,none⟩) 1 1)):=by
  have hg0:=World.grownBy_alloc wr (.cells #[.int .i64 x.1] 2) none;refine⟨HF.out.heap hg0.size (hg0.block R HF.out.rd.lt (by simp)) (fun g hg=>hg0.block g (HF.out.own.lt g hg).2 (by simp)) (fun q hq g hi=>hg0.block g (HF.out.lie q hq g hi).2.1 (by simp)),HW.out.trans ((Onl.of_below ((V5 _ _).alloc (V4 _) _)).any v1),HNS.out,World.ownsRow_lit wr #[.int .i64 x.1] 1 HW.out.onl.size (by unfold maxLen;omega) (by simp),fun g hg=>?_,by simp⟩;simp[Value.ownBlock]at hg;subst hg;exact⟨fun e=>by have:=(HF.out.own.lt _ e).2;omega,fun q hq hi=>by have:=(HF.out.lie q hq _ hi).2.1;omega⟩
 clear HF HW HRD ZG Yc HW1 HNS;go_wp2_with fail;clear c0 c1 c2;go_loopw[6] (fun vK wq=>∃(n:Nat) (zs:List Int) (st':RS) (v':Value) (ms:Q08),Hid (st'.p<=s.size/\x.2.p<=st'.p/\s.size-st'.p<n/\zs.length<=st'.p+1/\st'.out.length+(s.size-st'.p)<=5001)/\Hid (il s it kd n zs st'=il s it kd (s.size+1) [x.1] x.2)/\Hid (KLr w wq R s st' base v v' qs ms zs vK)) (fun _ wq=>s.size-wat R wq);case atStart=>exact⟨s.size+1,[x.1],x.2,v1,ns,⟨HX.out,V4 _,by omega,by simp,HLEN.out⟩,rfl,HKL0.out⟩
 obtain⟨n,zs,st',v',ms,HB,HQ,Yp⟩:=hrel;clear HKL0;go_wp2_with fail;refine(mW _ _).mono ?_;rintro e w' ⟨rfl,rfl⟩;go_wp2_with fail;refine(mI R s (gJ kd) st'.p st'.bad v' _ Yp.out.rd.rd hs HB.out.1 (by simp[mE])).mono ?_;rintro e w5 ⟨rfl,hr5,hg5⟩;cases hc:nO s (gJ kd) st'.p st'.bad;case false=>
  have HK5:=ai (Yp.out.is HWB.out hg5 (Yp.out.rd.is_no hR hc hr5 hg5));rw[wh]at hc;have EQ:=ai (M9 (zs:=zs) (st:=st') Zl.out (by rw[<-HKD.out];exact HQ.out.symm.trans (PY hc)));obtain⟨ad,cap,rfl,hnq,hin⟩:=HK5.out.node hB kd;have HNQ:=ai hnq;have HIN:=ai hin;have hql:(qs++ms).length<=100000:=by have h1:=HK5.out.rd.out;have h2:=congrArg List.length h1;simp only[aj,Xc]at h2;have:=HB.out.2.2.2.2;omega
  clear hr5 hg5 hc hnq hin Yp;go_wp2_with fail;refine(Mi R s st' base v' (qs++ms) ⟨⟨kd,[],⟨#[]⟩,⟨#[]⟩,zs⟩,none,0,ad,cap⟩ w5 HK5.out.rd hR (Wh hB HK5.out.went.onl.size) hql HNQ.out (HK5.out.kid hB kd) (fun g hg=>(HIN.out g hg).2)).mono ?_;rintro e w6 ⟨v6,rfl,hF6,hW6⟩;have HF6:=ai hF6;have HW6:=ai (HK5.out.went.trans hW6);clear hF6 hW6;have HNEW:Hid (∀q∈ms++[(⟨⟨kd,[],⟨#[]⟩,⟨#[]⟩,zs⟩,none,0,ad,cap⟩:ER)],∀g,qF q g->w.heap.size<=g):=by
   intro q hq g hg;rcases Wj.1 hq with h1|h1
   ·exact HK5.out.new q h1 g hg
   rw[Wl]at h1;subst h1;exact(HIN.out g hg).1
  replace HF6:Hid (RdF w6 R s (tq ⟨kd,[],⟨#[]⟩,⟨#[]⟩,zs⟩ st') base v6 (qs++(ms++[(⟨⟨kd,[],⟨#[]⟩,⟨#[]⟩,zs⟩,none,0,ad,cap⟩:ER)]))):=by rw[<-WE];exact HF6.out
  go_wp2;exact bodyPost_ret (v:=.int .i64 (st'.out.length:Int)) (by simp[results,Tryz.results226,go_sem]) rfl (by rw[EQ.out,<-HKD.out];exact⟨v6,_,rfl,HF6.out,HW6.out,HNEW.out⟩)
 have hk5:=Yp.out.is HWB.out hg5 (Yp.out.rd.is_yes hR hc hr5 hg5);rw[wh]at hk5;have HK5:=ai hk5;have HPS:Hid (st'.p+3<=s.size):=by have:=Ag hc;rw[mE]at this;exact this
 have HPL:=ai Yp.out.rd.rd.place;obtain⟨m,hm⟩:∃m,n=m+1:=⟨n-1,by have:=HB.out.2.2.1;omega⟩;subst hm;rw[wh]at hc;have EQ:=ai ((Na (it:=it) (n:=m) (zs:=zs) hc).symm.trans HQ.out);have eP:(kM (aY kd) st').p=st'.p+3:=by unfold kM;rw[mX]
 have eO:(kM (aY kd) st').out=st'.out:=rfl;have a1:x.2.p+3<=(kM (aY kd) st').p:=by rw[eP];have:=HB.out.2.1;omega
 have a2:(kM (aY kd) st').p<=s.size:=by rw[eP];exact HPS.out
 have a3:(kM (aY kd) st').out.length+(s.size-(kM (aY kd) st').p)<=5000:=by rw[eP,eO];have:=HB.out.2.2.2.2;have:=HPS.out;omega
 have hmo:=HMONO.out (kM (aY kd) st') a1 a2;rw[eP,eO]at hmo;have hcall:=HITM.out (kM (aY kd) st') v' (qs++ms) w5 HK5.out.rd (Wh hB HK5.out.went.onl.size) a1 a2 a3;obtain⟨y,hy⟩:∃y,y=it (kM (aY kd) st'):=⟨_,rfl⟩;rw[<-hy]at hmo hcall EQ;have HMO:=ai hmo;have Ya:=ai hcall;clear hr5 hg5 hk5 hc Yp eP eO a1 a2 a3 hmo hcall hy;go_wp2_with fail;refine Ya.out.mono ?_;rintro e w6 ⟨v6,ns6,rfl,hF6,hW6,hn6⟩;have HK6:=ai (HK5.out.more HWB.out hF6 hW6 hn6);clear hF6 hW6 hn6 Ya HK5;obtain⟨W7,hW7⟩:∃W7,W7=w6.alloc (.cells #[.int .i64 y.1] 2):=⟨_,rfl⟩;have Z4:Hid (W7.ownsRow w.heap.size 2 1 u6 zs.length (ints zs)):=by rw[hW7];exact HK6.out.own.alloc _
 have HN7:Hid (∀j u,[Value.int .i64 y.1][j]?=some u->W7.cell? ((⟨w6.heap.size,0,none⟩:Addr).add j)=some u):=by rw[hW7];exact P5 w6 _ _ rfl
 have HS7:Hid (w.heap.size<=W7.heap.size):=by show _<=_;rw[hW7];exact Wh HK6.out.went.onl.size (World.grownBy_alloc w6 _ none).size
 have HW7:=ai hW7;have hzl:zs.length<=1001:=by have:=HB.out.2.2.2.1;have:=HB.out.1;omega
 go_wp2_with(at_builtin;rw[<-hW7];clear hW7;refine wpList_append_own_at _ rfl _ _ 186 rfl w.heap.size 2 iI (.int .i64 0) 1 8 underlying186 HII.out.1 HII.out.2.1 HII.out.2.2.1 HII.out.2.2.2 rfl (by decide) u6 zs.length (ints zs) rfl Z4.out ⟨w6.heap.size,0,none⟩ 1 1 [Value.int .i64 y.1] rfl rfl HN7.out (by intro u hu;simp at hu;subst hu;rfl) (by unfold maxLen;omega) (by omega) HS7.out ?_);intro vN w8 hown8 hgr8 _ hat8;have HK8:Hid (KLr w w8 R s y.2 base v v6 qs (ms++ns6) (zs++[y.1]) vN):=by
  rw[HW7.out]at hgr8 hat8;exact HK6.out.app HWB.out y.1 _ hown8 hgr8 hat8
 have HM:Hid (s.size-wat R w8<s.size-wat R w'):=by
  show _<_;rw[HK8.out.rd.rd.place,HPL.out];have:=HMO.out.1;have:=HMO.out.2.1;have:=HPS.out;omega
 clear hown8 hgr8 hat8 Z4 HN7 HS7 HW7 HK6;go_wp2;go_roundw;case rel=>exact⟨m,zs++[y.1],y.2,v6,ms++ns6,⟨HMO.out.2.1,by have:=HMO.out.1;have:=HB.out.2.1;omega,by have:=HB.out.2.2.1;have:=HMO.out.1;have:=HMO.out.2.1;omega,by have:=HB.out.2.2.2.1;have:=HMO.out.1;rw[Wi,WJ];omega,by have:=HB.out.2.2.2.2;have:=HMO.out;omega⟩,EQ.out,HK8.out⟩
 exact HM.out
theorem DU{s:ByteArray}{st:RS}(h:st.p<=s.size):st.p<=(bB s st).p/\(bB s st).p<=s.size:=⟨Nat.le_add_right _ _,kN s st.p h⟩
theorem Fq{s:ByteArray}{st:RS}(h:st.p<=s.size):st.p<=(aX s st).p/\(aX s st).p<=s.size/\(aX s st).out=st.out:=by
 unfold aX;cases e:lV s vw st;case false=>exact⟨V4 _,h,rfl⟩
 have h1:st.p+1<=s.size:=lm e;have:=kN s (st.p+1) h1;exact⟨by show st.p<=st.p+1+av s (st.p+1);omega,this,rfl⟩
theorem DV{s:ByteArray}:∀(n:Nat) (xs:Q0a) (st:RS),st.p<=s.size->st.p<=(dx s n xs st).2.p/\(dx s n xs st).2.p<=s.size/\(dx s n xs st).2.out=st.out:=by
 intro n
 induction n with
 | zero=>intro xs st h;exact⟨V4 _,h,rfl⟩
 | succ n ih =>
  intro xs st h;have h1:=DU h;have h2:=Fq h1.2;have h3:(aX s (bB s st)).out=st.out:=h2.2.2;unfold dx;by_cases hb:st.bad=true
  ·rw[if_pos hb];exact⟨V4 _,h,rfl⟩
  rw[if_neg hb];by_cases hc:lV s fu (aX s (bB s st))=true
  ·rw[if_pos hc];have h4:(aX s (bB s st)).p+1<=s.size:=lm hc;exact⟨by show st.p<=(aX s (bB s st)).p+1;omega,h4,h3⟩
  rw[if_neg hc];by_cases hm:lV s mH (aX s (bB s st))=true
  ·rw[if_pos hm];have h4:(aX s (bB s st)).p+1<=s.size:=lm hm;obtain⟨a,b,c⟩:=ih (xs++[⟨az s st.p,yT s (bB s st)⟩]) (kM mH (aX s (bB s st))) h4;have a':(aX s (bB s st)).p+1<=_:=a;exact⟨by omega,b,c.trans h3⟩
  rw[if_neg hm];obtain⟨a,b,c⟩:=ih (xs++[⟨az s st.p,yT s (bB s st)⟩]) (vz (aX s (bB s st))) h2.2.1;have a':(aX s (bB s st)).p<=_:=a;exact⟨by omega,b,c.trans h3⟩
def Bp(s:ByteArray)(k:Nat)(st st':RS):Prop:=st.p<=st'.p/\st'.p<=s.size/\st'.out.length+st.p<=st.out.length+k+st'.p
theorem Nb{s:ByteArray}{st:RS}(h:lV s fP st=true):Bp s 1 st (ry s st).2:=by
 have h1:(kM fP st).p<=s.size:=lm h;obtain⟨a,b,c⟩:=DV (s:=s) (s.size+1) [] (kM fP st) h1;have a':st.p+5<=_:=a;have c':_=st.out:=c;unfold ry Bp;cases e:dx s (s.size+1) [] (kM fP st) with
 | mk o st' =>
  rw[e]at a' b c';replace a':st.p+5<=st'.p:=a';replace b:st'.p<=s.size:=b;replace c':st'.out=st.out:=c';cases o with
  | none=>exact⟨by show st.p<=st'.p;omega,b,by show st'.out.length+_<=_+_+st'.p;rw[c'];omega⟩
  | some xs=>exact⟨by show st.p<=st'.p;omega,b,by show(st'.out++_).length+_<=_+_+st'.p;rw[c',Wi,WJ];omega⟩
theorem P6{s:ByteArray}{st:RS}(h:st.p<=s.size):Bp s 1 st (tq (eZ s st) (judged (eZ s st) (aK s st))):=by
 have h1:=DU h;have key:st.p<=(aK s st).p/\(aK s st).p<=s.size/\(aK s st).out=st.out:=by
  unfold aK;cases e:lV s pR (bB s st);case false=>exact⟨h1.1,h1.2,rfl⟩
  have h2:st.p+av s st.p+2<=s.size:=lm e;have:=kN s _ h2;exact⟨by show st.p<=st.p+av s st.p+2+av s (st.p+av s st.p+2);omega,this,rfl⟩
 have key2:(judged (eZ s st) (aK s st)).p=(aK s st).p/\(judged (eZ s st) (aK s st)).out=st.out:=by
  unfold judged;split
  ·exact⟨rfl,key.2.2⟩
  exact⟨rfl,key.2.2⟩
 refine⟨?_,?_,?_⟩
 ·show st.p<=(judged (eZ s st) (aK s st)).p;rw[key2.1];exact key.1
 ·show(judged (eZ s st) (aK s st)).p<=_;rw[key2.1];exact key.2.1
 show((judged (eZ s st) (aK s st)).out++_).length+_<=_+1+(judged (eZ s st) (aK s st)).p;rw[key2.1,key2.2,Wi,WJ];have:=key.1;omega
theorem Nc{s:ByteArray}{st:RS}{x:Int×RS}(h:Bp s 1 (kM jD st) x.2):Bp s 1 st (uA s x).2:=by
 obtain⟨a,b,c⟩:=h;replace a:st.p+1<=x.2.p:=a;replace c:x.2.out.length+(st.p+1)<=st.out.length+1+x.2.p:=c;unfold uA;cases e:lV s fu x.2;case false=>exact⟨by show st.p<=x.2.p;omega,b,by show x.2.out.length+st.p<=_+1+x.2.p;omega⟩
 have h2:x.2.p+1<=s.size:=lm e;exact⟨by show st.p<=x.2.p+1;omega,h2,by show x.2.out.length+st.p<=_+1+(x.2.p+1);omega⟩
theorem Nf{s:ByteArray}{it:RS->Int×RS}{k:Int}(hit:∀st,st.p<=s.size->Bp s 1 st (it st).2):∀(n:Nat) (zs:List Int) (st:RS),st.p<=s.size->Bp s 0 st (il s it k n zs st).2/\(0<n->lV s (aY k) st=true->(il s it k n zs st).2.out.length+st.p+2<=st.out.length+(il s it k n zs st).2.p):=by
 intro n
 induction n with
 | zero=>intro zs st h;exact⟨⟨V4 _,h,V4 _⟩,fun h=>absurd h (by omega)⟩
 | succ n ih =>
  intro zs st h;unfold il;cases e:lV s (aY k) st;case false=>exact⟨⟨V4 _,h,V4 _⟩,fun _ h=>by cases h⟩
  have h1:st.p+3<=s.size:=by have:=lm e;rw[mX]at this;exact this
  have eP:(kM (aY k) st).p=st.p+3:=by unfold kM;rw[mX]
  have eO:(kM (aY k) st).out=st.out:=rfl;obtain⟨a,b,c⟩:=hit (kM (aY k) st) (by rw[eP];exact h1);rw[eP]at a c;rw[eO]at c;obtain⟨⟨a2,b2,c2⟩,-⟩:=ih (zs++[(it (kM (aY k) st)).1]) (it (kM (aY k) st)).2 b;simp only[if_true];exact⟨⟨by omega,b2,by omega⟩,fun _ _=>by omega⟩
theorem J5{s:ByteArray}{p:Nat}(h:dz s p≠0):dX s (aY (dz s p)) p=true:=by
 unfold dz at h⊢;cases h1:dX s (aY 4) p;case true=>simpa using h1
 cases h2:dX s (aY 5) p;case true=>simpa[h1] using h2
 cases h3:dX s (aY 6) p;case true=>simpa[h1,h2] using h3
 simp[h1,h2,h3]at h
theorem R9{s:ByteArray}{it:RS->Int×RS}(hit:∀st,st.p<=s.size->Bp s 1 st (it st).2){st:RS}{x:Int×RS}(h:Bp s 1 st x.2):Bp s 1 st (rowP s it x).2:=by
 unfold rowP;by_cases hc:dz s x.2.p=0\/x.2.bad=true
 ·rw[if_pos hc];exact h
 rw[if_neg hc];have hsg:dz s x.2.p≠0:=fun e=>hc (.inl e)
 have hbd:x.2.bad=false:=by cases e:x.2.bad with
  | false=>rfl
  | true=>exact absurd (.inr e) hc
 have hyes:lV s (aY (dz s x.2.p)) x.2=true:=by unfold lV;rw[hbd,J5 hsg];rfl
 obtain⟨⟨a,b,c⟩,d⟩:=Nf hit (k:=dz s x.2.p) (s.size+1) [x.1] x.2 h.2.1;have d:=d (by omega) hyes;obtain⟨a1,b1,c1⟩:=h;refine⟨?_,b,?_⟩
 ·show st.p<=(il s it (dz s x.2.p) (s.size+1) [x.1] x.2).2.p;omega
 show((il s it (dz s x.2.p) (s.size+1) [x.1] x.2).2.out++_).length+_<=_+1+(il s it (dz s x.2.p) (s.size+1) [x.1] x.2).2.p;rw[Wi,WJ];omega
theorem Bq{s:ByteArray}{n:Nat}{st:RS}(h:lV s fP st=true):Ac s (n+1) false st=ry s st:=by
 unfold Ac ry;rw[if_pos h];cases dx s (s.size+1) [] (kM fP st) with
 | mk o st'=>cases o<;>rfl
theorem Br{s:ByteArray}{n:Nat}{st:RS}(h:lV s fP st=false)(h2:lV s jD st=true):Ac s (n+1) false st=uA s (Ac s n true (kM jD st)):=by
 conv=>lhs;unfold Ac
 rw[if_neg (by rw[h];decide),if_pos h2];rfl
theorem Bt{s:ByteArray}{n:Nat}{st:RS}(h:lV s fP st=false)(h2:lV s jD st=false):Ac s (n+1) false st=((st.out.length:Int),tq (eZ s st) (judged (eZ s st) (aK s st))):=by
 unfold Ac;rw[if_neg (by rw[h];decide),if_neg (by rw[h2];decide)]
theorem Fs{s:ByteArray}{n:Nat}{st:RS}:Ac s (n+1) true st=rowP s (Ac s n false) (Ac s n false st):=by
 conv=>lhs;unfold Ac
 rfl
theorem sM{s:ByteArray}:∀(n:Nat) (b:Bool) (st:RS),st.p<=s.size->Bp s 1 st (Ac s n b st).2:=by
 intro n
 induction n with
 | zero=>intro b st h;cases b<;>exact⟨V4 _,h,by show st.out.length+st.p<=st.out.length+1+st.p;omega⟩
 | succ n ih =>
  intro b st h;cases b;case true=>rw[Fs];exact R9 (fun st' h'=>ih false st' h') (ih false st h)
  cases h1:lV s fP st;case true=>rw[Bq h1];exact Nb h1
  cases h2:lV s jD st;case true=>rw[Br h1 h2];exact Nc (ih true (kM jD st) (lm h2))
  rw[Bt h1 h2];exact P6 h
theorem P7(R:Nat)(s:bZ)(base:Nat)(hR:R<base)(hs:s.size<=1000):∀n:Nat,
  (∀ (st:RS) (v:Value) (qs:Q08) (w:World),RdF w R s st base v qs->base<=w.heap.size->st.p<=s.size->st.out.length+(s.size-st.p)<=5000->2*(s.size-st.p)<n ->
   Calls prog 242 #[.pointer (some ⟨R,0,none⟩)] w (vF R s base v qs w (Ac s n false st))) /\
  (∀ (st:RS) (v:Value) (qs:Q08) (w:World),RdF w R s st base v qs->base<=w.heap.size->st.p<=s.size->st.out.length+(s.size-st.p)<=5000->2*(s.size-st.p)+1<n ->
   Calls prog 226 #[.pointer (some ⟨R,0,none⟩)] w (vF R s base v qs w (Ac s n true st))):=by
 intro n
 induction n with
 | zero=>exact⟨fun _ _ _ _ _ _ _ _ h=>absurd h (by omega),fun _ _ _ _ _ _ _ _ h=>absurd h (by omega)⟩
 | succ n ih =>
  refine⟨fun st v qs w h hB hp hb hn=>?_,fun st v qs w h hB hp hb hn=>?_⟩
  ·have hlen:qs.length=st.out.length:=by rw[<-h.out];simp[aj]
   cases h1:lV s fP st;case true=>rw[Bq h1];exact MI R s st base v qs w h hR hB hs hp (by omega) h1
   cases h2:lV s jD st;case true=>
    rw[Br h1 h2];have h3:st.p+1<=s.size:=lm h2;have h4:(kM jD st).p=st.p+1:=rfl;exact Pd R s st base v qs w h hR hs hp h1 h2 _ (sM n true (kM jD st) h3).2.1 fun w1 hw1 hsz=>ih.2 (kM jD st) v qs w1 hw1 (Wh hB hsz) h3 (by rw[h4];show st.out.length+_<=_;omega) (by rw[h4];omega)
   rw[Bt h1 h2];exact ME R s st base v qs w h hR hB hs hp (by omega) h1 h2
  rw[Fs];obtain⟨a,b,c⟩:=sM (s:=s) n false st hp;refine R8 R s st base v qs w h hR hB hs _ b (ih.1 st v qs w h hB hp hb (by omega)) _ (by omega) (fun st' v' qs' w' h' hB' h1 h2 h3=>ih.1 st' v' qs' w' h' hB' h2 h3 (by omega)) (fun st' h1 h2=>?_);obtain⟨a2,b2,c2⟩:=sM (s:=s) n false st' h2;exact⟨a2,b2,c2⟩
def Vr(s:ByteArray)(a:Al):Prop:=a.t.size<=s.size/\a.s.size<=s.size
def IV(s:ByteArray)(e:Ex):Prop:=e.allow.length<=s.size+1/\(∀a∈e.allow,Vr s a)/\e.over.size<=s.size/\e.name.size<=s.size/\e.kids.length<=s.size+2
theorem rJ(s:bZ)(p:Nat):(az s p).size<=s.size:=by
 unfold az;rw[ByteArray.size_extract];omega
theorem Sa(s:bZ)(st:RS):(yT s st).size<=s.size:=by
 unfold yT;split
 ·exact rJ s _
 exact Wd _
theorem Ng{s:ByteArray}:∀(n:Nat) (xs:Q0a) (st:RS) (ys:Q0a),(∀a∈xs,Vr s a)->(dx s n xs st).1=some ys->ys.length<=xs.length+n/\∀a∈ys,Vr s a:=by
 intro n
 induction n with
 | zero=>intro xs st ys _ h;cases h
 | succ n ih =>
  intro xs st ys hx h;have hx2:∀a∈xs++[(⟨az s st.p,yT s (bB s st)⟩:Al)],Vr s a:=by
   intro a ha;rcases Wj.1 ha with h1|h1
   ·exact hx a h1
   rw[Wl]at h1;subst h1;exact⟨rJ s _,Sa s _⟩
  unfold dx at h;by_cases hb:st.bad=true
  ·rw[if_pos hb]at h;cases h
  rw[if_neg hb]at h;by_cases hc:lV s fu (aX s (bB s st))=true
  ·rw[if_pos hc]at h;injection h with h;subst h;exact⟨by rw[Wi,WJ];omega,hx2⟩
  rw[if_neg hc]at h;have fin:∀st',(dx s n (xs++[⟨az s st.p,yT s (bB s st)⟩]) st').1=some ys->ys.length<=xs.length+(n+1)/\∀a∈ys,Vr s a:=fun st' h'=>by
   obtain⟨a,b⟩:=ih _ st' ys hx2 h';rw[Wi,WJ]at a;exact⟨by omega,b⟩
  by_cases hm:lV s mH (aX s (bB s st))=true
  ·rw[if_pos hm]at h;exact fin _ h
  rw[if_neg hm]at h;exact fin _ h
theorem Fu{s:ByteArray}{x:Ex}{st:RS}(h:∀e∈st.out,IV s e)(hx:IV s x):∀e∈(tq x st).out,IV s e:=by
 intro e he;rcases Wj.1 he with h1|h1
 ·exact h e h1
 rw[Wl]at h1;subst h1;exact hx
theorem P8{s:ByteArray}{st:RS}(hp:st.p+5<=s.size)(h:∀e∈st.out,IV s e):∀e∈(ry s st).2.out,IV s e:=by
 have hc:=(DV (s:=s) (s.size+1) [] (kM fP st) hp).2.2;have hs:=Ng (s:=s) (s.size+1) [] (kM fP st);unfold ry;cases e:dx s (s.size+1) [] (kM fP st) with
 | mk o st' =>
  rw[e]at hc hs;have hc':st'.out=st.out:=hc;cases o with
  | none=>show ∀e∈st'.out,IV s e;rw[hc'];exact h
  | some xs =>
   obtain⟨a,b⟩:=hs xs (fun a ha=>by cases ha) rfl;exact Fu (by rw[hc'];exact h) ⟨by simpa using a,b,Wd _,Wd _,Wd _⟩
theorem Sb{s:ByteArray}{st:RS}(h:∀e∈st.out,IV s e):∀e∈(tq (eZ s st) (judged (eZ s st) (aK s st))).out,IV s e:=by
 have h1:(judged (eZ s st) (aK s st)).out=st.out:=by
  have h2:(aK s st).out=st.out:=by unfold aK;split<;>rfl
  unfold judged;split<;>exact h2
 refine Fu (by rw[h1];exact h) ?_;unfold eZ;split
 ·exact⟨Wd _,fun a ha=>(by cases ha),rJ s _,rJ s _,Wd _⟩
 exact⟨Wd _,fun a ha=>(by cases ha),Wd _,rJ s _,Wd _⟩
theorem P9{s:ByteArray}{it:RS->Int×RS}{k:Int}(hit:∀st,(∀e∈st.out,IV s e)->st.p<=s.size->(∀e∈(it st).2.out,IV s e)/\(it st).2.p<=s.size):∀(n:Nat) (zs:List Int) (st:RS),(∀e∈st.out,IV s e)->st.p<=s.size->(∀e∈(il s it k n zs st).2.out,IV s e)/\(il s it k n zs st).1.length<=zs.length+n:=by
 intro n
 induction n with
 | zero=>intro zs st h _;exact⟨h,V4 _⟩
 | succ n ih =>
  intro zs st h hp;unfold il;cases e:lV s (aY k) st;case false=>exact⟨h,Nat.le_add_right _ _⟩
  have h1:(kM (aY k) st).p<=s.size:=lm e;obtain⟨a,b⟩:=hit (kM (aY k) st) h h1;obtain⟨a2,b2⟩:=ih (zs++[(it (kM (aY k) st)).1]) _ a b;rw[Wi,WJ]at b2;exact⟨a2,by simp only[if_true];omega⟩
theorem Qa{s:ByteArray}:∀(n:Nat) (b:Bool) (st:RS),st.p<=s.size->(∀e∈st.out,IV s e)->∀e∈(Ac s n b st).2.out,IV s e:=by
 intro n
 induction n with
 | zero=>intro b st _ h;cases b<;>exact h
 | succ n ih =>
  intro b st hp h;cases b;case true=>
   rw[Fs];unfold rowP;have hx:=ih false st hp h;have hxp:=(sM (s:=s) n false st hp).2.1;split
   ·exact hx
   obtain⟨a,b⟩:=P9 (s:=s) (it:=Ac s n false) (k:=dz s (Ac s n false st).2.p) (fun st' h1 h2=>⟨ih false st' h2 h1,(sM (s:=s) n false st' h2).2.1⟩) (s.size+1) [(Ac s n false st).1] (Ac s n false st).2 hx hxp;exact Fu a ⟨Wd _,fun a ha=>(by cases ha),Wd _,Wd _,Wh b (by simp only[WJ];omega)⟩
  cases h1:lV s fP st;case true=>rw[Bq h1];exact P8 (lm h1) h
  cases h2:lV s jD st;case true=>
   rw[Br h1 h2];have hx:=ih true (kM jD st) (lm h2) h;unfold uA;split
   ·exact hx
   exact hx
  rw[Bt h1 h2];exact Sb h
theorem IV.light{s:ByteArray}{e:Ex}(h:IV s e)(hs:s.size<=1000):e.light/\e.fits:=by
 obtain⟨h1,h2,h3,h4,h5⟩:=h;refine⟨⟨by omega,by omega⟩,⟨fun a ha=>⟨?_,?_⟩,?_,?_,?_,?_⟩⟩<;>unfold maxLen
 ·have:=(h2 a ha).1;omega
 ·have:=(h2 a ha).2;omega
 all_goals omega
def kV(s:ByteArray):RS:=(Ac s (2*s.size+2) true ⟨0,false,[]⟩).2
def mY(s:ByteArray):Bool:=decide (s.size<=1000) && !(kV s).bad && !decide ((kV s).p<s.size)&&aP (kV s).out&&((gZ (kV s).out).toList==s.toList)
def Vs(s:ByteArray)(w:World)(e:Ending)(w':World):Prop :=
 af w w'/\((mY s=false/\e=.returned (.tuple #[.slice none 0 0,.bool false]))\/(mY s=true/\∃(v:Value) (R:Nat) (qs:Q08),e=.returned (.tuple #[v,.bool true])/\RdF w' R s (kV s) (w.heap.size+1) v qs))
theorem Qb(w:ae)(s:bZ):RdF (w.alloc (.cells #[.string s,.int .i64 0,.bool false,.slice none 0 0] 326)) w.heap.size s ⟨0,false,[]⟩ (w.heap.size+1) (.slice none 0 0) []:=by
 refine⟨⟨by simp,by simp,by simp,by simp,by simp,fun j=>by simp⟩,World.ownsRow_nil _ _ _ _,rfl,?_,?_,?_,?_,?_,?_,?_,?_⟩
 ·intro q hq;cases hq
 ·intro q hq;cases hq
 ·intro q hq;cases hq
 ·intro q hq;cases hq
 ·intro q hq;cases hq
 ·intro x y hx;exact absurd hx (by simp)
 ·intro q hq;cases hq
 intro q hq;cases hq
theorem RdF.slE{w:ae}{R:Nat}{s:ByteArray}{st:RS}{base:Nat}{v:Value}{qs:Q08}(h:RdF w R s st base v qs):∃ad cap,v=.slice ad qs.length cap/\jv w ad qs:=Tz h.own rfl h.ok
theorem RdF.later{w w':ae}{R:Nat}{s:ByteArray}{st:RS}{base:Nat}{v:Value}{qs:Q08}(h:RdF w R s st base v qs)(hb:af w w'):RdF w' R s st base v qs :=
 h.heap hb.size (hb.block R h.rd.lt) (fun g hg=>hb.block g (h.own.lt g hg).2) (fun q hq g hi=>hb.block g (h.lie q hq g hi).2.1)
theorem xE(s:bZ)(w:ae):Calls prog 203 #[.string s] w (Vs s w):=by
 by_cases hs:s.size<=1000
 ·have hd0:decide ((1000:Int)<(s.size:Int))=false:=by simp;omega
  have HRD:=ai (Qb w s);have Ya:=ai ((P7 w.heap.size s (w.heap.size+1) (by omega) hs (2*s.size+2)).2 ⟨0,false,[]⟩ (.slice none 0 0) [] _ HRD.out (by simp) (Wd _) (by simp;omega) (by simp));have HSM:Hid (∀e∈(kV s).out,e.light/\e.fits):=fun e he=>(Qa (s:=s) _ true ⟨0,false,[]⟩ (Wd _) (fun e he=>by cases he) e he).light hs;have HFEW:=ai (sM (s:=s) (2*s.size+2) true ⟨0,false,[]⟩ (Wd _));go_enter func203,ntmps203;go_wp2_with fail;refine Ya.out.mono ?_;rintro e w1 ⟨v1,qs,rfl,hF1,hW1,-⟩;replace hF1:RdF w1 w.heap.size s (kV s) (w.heap.size+1) v1 qs:=hF1;have Yc:=ai hF1;have HB1:Hid (af w w1):=⟨hW1.onl.os,hW1.onl.tape,hW1.onl.output,by have:=hW1.onl.size;simp at this;omega,fun k hk=>(hW1.onl.block k (by simp;omega) (by omega) (by simp[Value.ownBlock])).trans ((World.grownBy_alloc w _ none).block k hk (by simp))⟩;obtain⟨ad,cap,rfl,hsl⟩:=hF1.slE;have ZZ:=ai hsl;have HOUT:=ai hF1.out;have hql:qs.length<=1048576:=by
   have h2:=congrArg List.length hF1.out;simp only[aj,Xc]at h2;have h3:(kV s).out.length+0<=0+1+(kV s).p:=HFEW.out.2.2;have h4:(kV s).p<=s.size:=HFEW.out.2.1;omega
  have HL:Hid (∀r∈qs,r.e.light):=fun r hr=>(HSM.out r.e (by rw[<-HOUT.out];exact Wp.2 ⟨r,hr,rfl⟩)).1;have HF:Hid (∀r∈qs,r.e.fits):=fun r hr=>(HSM.out r.e (by rw[<-HOUT.out];exact Wp.2 ⟨r,hr,rfl⟩)).2;have HRB:Hid (mY s=(!(kV s).bad && !decide ((kV s).p<s.size)&&aP (kV s).out&&((gZ (kV s).out).toList==s.toList))):=by show _=_;unfold mY;simp[hs]
  have c1:=hF1.rd.c1;have c2:=hF1.rd.c2;have c3:=hF1.rd.c3;clear hF1 hW1 hsl Ya HRD HSM HFEW;cases hb:(kV s).bad;case true=>
   rw[hb]at c2;have EQ:Hid (mY s=false):=by show _=_;rw[HRB.out,hb];rfl
   go_wp2;exact bodyPost_ret (v:=.tuple #[.slice none 0 0,.bool false]) (by simp[results,Tryz.results203,go_sem]) rfl ⟨HB1.out,.inl ⟨EQ.out,rfl⟩⟩
  rw[hb]at c2;by_cases hlt:(kV s).p<s.size
  ·have hd1:decide (((kV s).p:Int)<(s.size:Int))=true:=by simp;omega
   have EQ:Hid (mY s=false):=by show _=_;rw[HRB.out,hb,decide_eq_true hlt];rfl
   go_wp2;exact bodyPost_ret (v:=.tuple #[.slice none 0 0,.bool false]) (by simp[results,Tryz.results203,go_sem]) rfl ⟨HB1.out,.inl ⟨EQ.out,rfl⟩⟩
  have hd1:decide (((kV s).p:Int)<(s.size:Int))=false:=by simp;omega
  go_wp2_with fail;refine(mM ad cap qs w1 hql HL.out HF.out ZZ.out).mono ?_;rintro e w2 ⟨rfl,hB2⟩;have Yd:=ai (Yc.out.later hB2);have HB2:=ai (HB1.out.trans (hB2.mono HB1.out.size));have HSL2:=ai (ZZ.out.below hB2);have k3:=Yd.out.rd.c3;rw[HOUT.out];clear hB2;cases he:aP (kV s).out;case false=>
   have EQ:Hid (mY s=false):=by show _=_;rw[HRB.out,hb,decide_eq_false hlt,he];rfl
   go_wp2;exact bodyPost_ret (v:=.tuple #[.slice none 0 0,.bool false]) (by simp[results,Tryz.results203,go_sem]) rfl ⟨HB2.out,.inl ⟨EQ.out,rfl⟩⟩
  go_wp2_with fail;refine(oW ad cap qs w2 hql HL.out HF.out HSL2.out).mono ?_;rintro e w3 ⟨rfl,hB3⟩;have HF3:=ai (Yd.out.later hB3);have HB3:=ai (HB2.out.trans (hB3.mono HB2.out.size));have q3:=HF3.out.rd.c3;rw[HOUT.out];clear hB3;cases ht:(gZ (kV s).out).toList==s.toList;case false=>
   have ht2:(!(gZ (kV s).out).toList==s.toList)=true:=by rw[ht];rfl
   have EQ:Hid (mY s=false):=by show _=_;rw[HRB.out,ht,Bool.and_false]
   go_wp2;exact bodyPost_ret (v:=.tuple #[.slice none 0 0,.bool false]) (by simp[results,Tryz.results203,go_sem]) rfl ⟨HB3.out,.inl ⟨EQ.out,rfl⟩⟩
  have ht2:(!(gZ (kV s).out).toList==s.toList)=false:=by rw[ht];rfl
  have EQ:Hid (mY s=true):=by show _=_;rw[HRB.out,hb,decide_eq_false hlt,he,ht];rfl
  go_wp2;exact bodyPost_ret (v:=.tuple #[.slice ad qs.length cap,.bool true]) (by simp[results,Tryz.results203,go_sem]) rfl ⟨HB3.out,.inr ⟨EQ.out,_,_,qs,rfl,HF3.out⟩⟩
 have hd0:decide ((1000:Int)<(s.size:Int))=true:=by simp;omega
 have EQ:Hid (mY s=false):=by show _=_;unfold mY;rw[decide_eq_false hs];rfl
 go_enter func203,ntmps203;go_wp2;exact bodyPost_ret (v:=.tuple #[.slice none 0 0,.bool false]) (by simp[results,Tryz.results203,go_sem]) rfl ⟨V5 _ _,.inl ⟨EQ.out,rfl⟩⟩
theorem RdF.nod{w:ae}{R:Nat}{s:ByteArray}{st:RS}{base:Nat}{v:Value}{qs:Q08}(h:RdF w R s st base v qs):NodM w base v qs:=⟨h.own,h.zA,h.zK,h.ok,h.lie,h.one,h.two,h.cA⟩
section
variable  {α:Type}{T:TypeId}{size:Nat}{cells:α->List Value}{K:World->Nat->α->Prop}{I:α->Nat->Prop}{w w':World}{base:Nat}{v:Value}
theorem Bu{q q':α}{rs:List α}(hI:∀g,I q' g->I q g)(h:∀(x y:Nat) (hx:x<(q::rs).length) (hy:y<(q::rs).length),x≠y->∀g,I (q::rs)[x] g->¬I (q::rs)[y] g):
  ∀(x y:Nat) (hx:x<(q'::rs).length) (hy:y<(q'::rs).length),x≠y->∀g,I (q'::rs)[x] g->¬I (q'::rs)[y] g:=by
 intro x y hx hy hxy g h1 h2;cases x with
 | zero =>
  cases y with
  | zero=>exact hxy rfl
  | succ y=>exact h 0 (y+1) (by simp) (by simpa using hy) (by omega) g (hI g h1) h2
 | succ x =>
  cases y with
  | zero=>exact h (x+1) 0 (by simpa using hx) (by simp) (by omega) g h1 (hI g h2)
  | succ y=>exact h (x+1) (y+1) (by simpa using hx) (by simpa using hy) hxy g h1 h2
theorem XK.first(kd:Kid K I){q q':α}{rs:List α}{b n cap j:Nat}{u:Value}(h:XK T size cells K I w base (.slice (some ⟨b,0,none⟩) n cap) (q::rs))(hn:n=rs.length+1)
  (hq':∀w,K w base q->K w base q') (hI:∀g,I q' g->I q g) (hset:((q::rs).flatMap cells).set j u=(q'::rs).flatMap cells) :
  XK T size cells K I (w.setCell ⟨b,j,none⟩ u) base (.slice (some ⟨b,0,none⟩) n cap) (q'::rs):=by
 have own1:w.ownsRow base T size (.slice (some ⟨b,0,none⟩) n cap) n ((q::rs).flatMap cells):=by have:=h.own;rwa [show(q::rs).length=n by simp[hn]]at this
 obtain⟨own2,hg2⟩:=own1.stored j u;rw[hset]at own2;have hne:∀p∈q::rs,∀g,I p g->g≠b:=fun p hp g hi e=>h.head p hp g hi (by rw[e];rfl);have keep:∀p∈q::rs,K (w.setCell ⟨b,j,none⟩ u) base p:=fun p hp=>kd.heap w _ base p (h.kid p hp) hg2.size fun g hi=>Below.heap_setCell w _ u g (hne p hp g hi);refine⟨by simpa[hn] using own2,fun p hp=>?_,fun p hp g hi=>?_,Bu hI h.two⟩
 ·rcases Ws.1 hp with rfl|hp
  ·exact hq' _ (keep q (by simp))
  exact keep p (by simp[hp])
 rcases Ws.1 hp with rfl|hp
 ·exact h.head q (by simp) g (hI g hi)
 exact h.head p (by simp[hp]) g hi
theorem XK.firstIn(kd:Kid K I){q q':α}{rs:List α}(h:XK T size cells K I w base v (q::rs))(hs:w.heap.size<=w'.heap.size)(hh:∀g,¬I q g->w'.heap[g]?=w.heap[g]?)(hc:cells q'=cells q)(hk:K w' base q')(hI:∀g,I q' g->I q g):
  XK T size cells K I w' base v (q'::rs):=by
 refine⟨?_,fun p hp=>?_,fun p hp g hi=>?_,Bu hI h.two⟩
 ·have h1:=jB (w':=w') h.own fun g hg=>hh g fun hi=>h.head q (by simp) g hi hg;simpa[List.flatMap_cons,hc] using h1
 ·rcases Ws.1 hp with rfl|hp
  ·exact hk
  refine kd.heap w w' base p (h.kid p (by simp[hp])) hs fun g hi=>hh g fun hq=>?_;obtain⟨i,hi2,rfl⟩:=Xl hp;exact h.two 0 (i+1) (by simp) (by simp;omega) (by omega) g hq hi
 rcases Ws.1 hp with rfl|hp
 ·exact h.head q (by simp) g (hI g hi)
 exact h.head p (by simp[hp]) g hi
end
def ER.asK(x:ER)(k:Int):ER:={ x with e:={ x.e with kind:=k } }
theorem NodM.kind{w:ae}{base b n cap:Nat}{x:ER}{xs:Q08}(k:Int)(h:NodM w base (.slice (some ⟨b,0,none⟩) n cap) (x::xs))(hn:n=xs.length+1):NodM (w.setCell ⟨b,0,none⟩ (.int .i64 k)) base (.slice (some ⟨b,0,none⟩) n cap) (x.asK k::xs):=by
 have own1:w.ownsRow base 188 5 (.slice (some ⟨b,0,none⟩) n cap) n (jQ (x::xs)):=by have:=h.own;rwa [show(x::xs).length=n by simp[hn]]at this
 obtain⟨own2,hg2⟩:=own1.stored 0 (.int .i64 k);have hset:(jQ (x::xs)).set 0 (.int .i64 k)=jQ (x.asK k::xs):=by simp[jQ,ER.row,ER.asK]
 rw[hset]at own2;have hb:∀q∈x::xs,∀g,qF q g->g≠b:=fun q hq g hg e=>(h.lie q hq g hg).2.2.2 (by rw[e];rfl);have hsame:∀g,g≠b->(w.setCell ⟨b,0,none⟩ (.int .i64 k)).heap[g]?=w.heap[g]?:=fun g hg=>Below.heap_setCell w _ _ g hg;have hall:∀{P:ER->Prop},(∀q∈x::xs,P q)->(P x->P (x.asK k))->∀q∈x.asK k::xs,P q:=fun hP hx q hq=>by
  rcases Ws.1 hq with rfl|hq
  ·exact hx (hP x (by simp))
  exact hP q (by simp[hq])
 refine ⟨by simpa [hn] using own2,hall h.zA id,hall h.zK id,hall (P:=fun q=>q.ok _) (fun q hq=>su (h.ok q hq) hg2.size (h.zA q hq) (h.zK q hq) fun g hg=>hsame g (hb q hq g hg)) id,hall (P:=fun q=>∀ g,qF q g->base<=g/\g<(w.setCell ⟨b,0,none⟩ (.int .i64 k)).heap.size/\jM (w.setCell ⟨b,0,none⟩ (.int .i64 k)) g/\_) (fun q hq g hg=>by
  obtain⟨a1,a2,a3,a4⟩:=h.lie q hq g hg;exact⟨a1,VY a2 hg2.size,cz a3 (hsame g (hb q hq g hg)),a4⟩) id,hall h.one id,?_,hall h.cA id⟩
 exact Bu (I:=qF) (q:=x) (q':=x.asK k) (fun g hg=>hg) h.two
theorem iP.named{w:ae}{base b n cap:Nat}{t:TR}{ts:Q06}(nm:bZ)(h:iP w base (.slice (some ⟨b,0,none⟩) n cap) (t::ts))(hn:n=ts.length+1):iP (w.setCell ⟨b,0,none⟩ (.string nm)) base (.slice (some ⟨b,0,none⟩) n cap) (({ t with name:=nm }:TR)::ts) :=
 XK.first ow h hn (fun w hk=>hk) (fun g hg=>hg) (by simp[TR.cells,TR.vs])
def TR.asK(t:TR)(q:RR)(qs:Q07)(x:ER)(xs:Q08)(k:Int):TR:={ t with rows:={ q with rows:=x.asK k::xs }::qs }
theorem iP.kind{w:ae}{base b:Nat}{v:Value}{t:TR}{ts:Q06}{q:RR}{qs:Q07}{x:ER}{xs:Q08}(k:Int)(h:iP w base v (t::ts))(ht:t.rows=q::qs)(hq:q.rows=x::xs)(hb:q.ad=some ⟨b,0,none⟩):
  iP (w.setCell ⟨b,0,none⟩ (.int .i64 k)) base v (t.asK q qs x xs k::ts):=by
 have hkt:=h.kid t (by simp);have hR:Cv w base t.vs (q::qs):=by have:=hkt;unfold kT at this;rwa [ht]at this
 have hkq:=hR.kid q (by simp);have hN:NodM w base q.vs (x::xs):=by have:=hkq;unfold kR at this;rwa [hq]at this
 have hvq:q.vs=.slice (some ⟨b,0,none⟩) (xs.length+1) q.cap:=by unfold RR.vs;rw[hb,hq];rfl
 rw[hvq]at hN;have hN2:=hN.kind k rfl;have hsz:w.heap.size<=(w.setCell ⟨b,0,none⟩ (.int .i64 k)).heap.size:=by simp
 have hsame:∀g,g≠b->(w.setCell ⟨b,0,none⟩ (.int .i64 k)).heap[g]?=w.heap[g]?:=fun g hg=>Below.heap_setCell w _ _ g hg;have hib:iR q b:=.inl (by rw[hvq];rfl);have hvq2:({ q with rows:=x.asK k::xs }:RR).vs=q.vs:=by unfold RR.vs;rw[hq];rfl
 have hiR:∀g,iR { q with rows:=x.asK k::xs } g->iR q g:=fun g hg=>by
  rcases hg with hg|⟨y,hy,hg⟩
  ·exact .inl (by rw[<-hvq2];exact hg)
  rcases Ws.1 hy with rfl|hy
  ·exact .inr ⟨x,by rw[hq];simp,hg⟩
  exact .inr ⟨y,by rw[hq];simp[hy],hg⟩
 have hR2:Cv (w.setCell ⟨b,0,none⟩ (.int .i64 k)) base t.vs ({ q with rows:=x.asK k::xs }::qs):=XK.firstIn JZ hR hsz (fun g hg=>hsame g fun e=>hg (by rw[e];exact hib)) (by unfold RR.cells;rw[hvq2]) (by show NodM _ _ _ _;rw[hvq2,hvq];exact hN2) hiR;have hvt:(t.asK q qs x xs k).vs=t.vs:=by unfold TR.vs TR.asK;rw[ht];rfl
 have hit:iT t b:=.inr ⟨q,by rw[ht];simp,hib⟩;refine XK.firstIn ow h hsz (fun g hg=>hsame g fun e=>hg (by rw[e];exact hit)) (by unfold TR.cells;rw[hvt];rfl) (by show Cv _ _ _ _;rw[hvt];exact hR2) fun g hg=>?_;rcases hg with hg|⟨y,hy,hg⟩
 ·exact .inl (by rw[<-hvt];exact hg)
 rcases Ws.1 hy with rfl|hy
 ·exact .inr ⟨q,by rw[ht];simp,hiR g hg⟩
 exact .inr ⟨y,by rw[ht];simp[hy],hg⟩
open Maps
set_option maxRecDepth 8000 in
theorem xG(ad:Q02)(cap:Nat)(ts:Q05)(t:Tp)(w:ae)(hlen:ts.length<=1048576)(hs:Sl w ad ts):
  Calls prog 112 #[.slice ad ts.length cap,.agg #[.string t.a,.string t.b,.string t.r,.string t.c,.string t.d,.string t.s]] w fun e w'=>e=.returned (.bool (iB ts t))/\af w w':=by
 have HS:=aC hs;clear hs;obtain⟨W0,hW0⟩:∃W0,W0=w.alloc (.cells #[.string t.a,.string t.b,.string t.r,.string t.c,.string t.d,.string t.s] 29):=⟨_,rfl⟩;have HB0:=nC hW0;have HX0:Hid (W0.cell? ⟨w.heap.size,0,none⟩=some (.string t.a)/\W0.cell? ⟨w.heap.size,1,none⟩=some (.string t.b)/\W0.cell? ⟨w.heap.size,2,none⟩=some (.string t.r)/\W0.cell? ⟨w.heap.size,3,none⟩=some (.string t.c)/\W0.cell? ⟨w.heap.size,4,none⟩=some (.string t.d)/\W0.cell? ⟨w.heap.size,5,none⟩=some (.string t.s)/\w.heap.size<W0.heap.size):=by show _/\_;rw[hW0];refine⟨?_,?_,?_,?_,?_,?_,?_⟩<;>simp
 go_enter func112,ntmps112;go_wp2;rw[<-hW0];clear hW0;go_loopw[5] (fun i wr=>∃k:Nat,k<=ts.length/\i=.int .i64 k/\Hid (iB (ts.drop k) t=iB ts t)/\Hid (af W0 wr)) (fun i _=>ts.length-(intOf i).toNat);case atStart=>exact⟨0,Wd _,rfl,rfl,V5 _ _⟩
 obtain⟨k,hk,rfl,HP,HB⟩:=hrel;have Xz:Hid (af w wr):=HB0.out.trans (HB.out.mono HB0.out.size);by_cases hlt:k<ts.length
 ·rcases HS.out.below Xz.out with hnil|⟨b,off,rfl,hb,hr⟩
  ·rw[hnil]at hlt;simp at hlt
  obtain⟨t0,t1,t2,t3,t4,t5⟩:=hr k hlt;have x0:=mK HB.out HX0.out.2.2.2.2.2.2 HX0.out.1;have x1:=mK HB.out HX0.out.2.2.2.2.2.2 HX0.out.2.1;have x2:=mK HB.out HX0.out.2.2.2.2.2.2 HX0.out.2.2.1;have x3:=mK HB.out HX0.out.2.2.2.2.2.2 HX0.out.2.2.2.1;have x4:=mK HB.out HX0.out.2.2.2.2.2.2 HX0.out.2.2.2.2.1;have x5:=mK HB.out HX0.out.2.2.2.2.2.2 HX0.out.2.2.2.2.2.1;have hk1:=bC k;have hk2:(k:Int)<(ts.length:Int):=by omega
  have HD:Hid (iB ts t=(oq ts[k] t || iB (ts.drop (k+1)) t)):=by show _=_;rw[<-HP.out];exact MU hlt
  clear hr;cases hq:oq ts[k] t;case true=>
   have heq:=Ff ts[k] t hq;have HN:Hid (iB ts t=true):=by show _=_;rw[HD.out,hq];rfl
   clear hq;go_wp2_with fail;go_region_held3 (fun w'=>w'.cell? ⟨b,off+k*6,none⟩=some (.string ts[k].a)/\w'.cell? ⟨b,off+k*6+1,none⟩=some (.string ts[k].b)/\w'.cell? ⟨b,off+k*6+2,none⟩=some (.string ts[k].r)/\w'.cell? ⟨b,off+k*6+3,none⟩=some (.string ts[k].c)/\w'.cell? ⟨b,off+k*6+4,none⟩=some (.string ts[k].d)/\w'.cell? ⟨b,off+k*6+5,none⟩=some (.string ts[k].s)/\w'.cell? ⟨w.heap.size,0,none⟩=some (.string t.a)/\w'.cell? ⟨w.heap.size,1,none⟩=some (.string t.b)/\w'.cell? ⟨w.heap.size,2,none⟩=some (.string t.r)/\w'.cell? ⟨w.heap.size,3,none⟩=some (.string t.c)/\w'.cell? ⟨w.heap.size,4,none⟩=some (.string t.d)/\w'.cell? ⟨w.heap.size,5,none⟩=some (.string t.s)/\af wr w') (first|assumption|exact⟨t0,t1,t2,t3,t4,t5,x0,x1,x2,x3,x4,x5,(V5 _ _).drew⟩) (fail);rename_i hH;have HG:Hid (af wr _):=hH.2.2.2.2.2.2.2.2.2.2.2.2;clear hH t0 t1 t2 t3 t4 t5 x0 x1 x2 x3 x4 x5 heq;go_wp2;go_ret;exact⟨by rw[HN.out];rfl,Xz.out.trans (HG.out.mono Xz.out.size)⟩
  have heq:=Ff ts[k] t hq;have XA:Hid (iB (ts.drop (k+1)) t=iB ts t):=by show _=_;rw[HD.out,hq];rfl
  clear hq;go_wp2_with fail;go_region_held3 (fun w'=>w'.cell? ⟨b,off+k*6,none⟩=some (.string ts[k].a)/\w'.cell? ⟨b,off+k*6+1,none⟩=some (.string ts[k].b)/\w'.cell? ⟨b,off+k*6+2,none⟩=some (.string ts[k].r)/\w'.cell? ⟨b,off+k*6+3,none⟩=some (.string ts[k].c)/\w'.cell? ⟨b,off+k*6+4,none⟩=some (.string ts[k].d)/\w'.cell? ⟨b,off+k*6+5,none⟩=some (.string ts[k].s)/\w'.cell? ⟨w.heap.size,0,none⟩=some (.string t.a)/\w'.cell? ⟨w.heap.size,1,none⟩=some (.string t.b)/\w'.cell? ⟨w.heap.size,2,none⟩=some (.string t.r)/\w'.cell? ⟨w.heap.size,3,none⟩=some (.string t.c)/\w'.cell? ⟨w.heap.size,4,none⟩=some (.string t.d)/\w'.cell? ⟨w.heap.size,5,none⟩=some (.string t.s)/\af wr w') (first|assumption|exact⟨t0,t1,t2,t3,t4,t5,x0,x1,x2,x3,x4,x5,(V5 _ _).drew⟩) (fail);rename_i hH;have HG:Hid (af W0 _):=HB.out.trans (hH.2.2.2.2.2.2.2.2.2.2.2.2.mono HB.out.size);clear hH t0 t1 t2 t3 t4 t5 x0 x1 x2 x3 x4 x5 heq;go_wp2;go_roundw;case rel=>exact⟨k+1,by omega,by go_num,XA,HG⟩
  simp[intOf]<;>omega
 have HN:Hid (iB ts t=false):=by show _=_;rw[<-HP.out,Ww (by omega)];rfl
 go_wp2;go_ret;exact⟨by rw[HN.out];rfl,Xz.out⟩
theorem Qc{p:Prop}(h:p):Hid p:=h
set_option maxRecDepth 8000 in
theorem J6(ad:Q02)(cap:Nat)(ts:Q05)(t:Tp)(w:ae)(hlen:ts.length<=1048576)(hs:Sl w ad ts):
  Calls prog 113 #[.slice ad ts.length cap,.agg #[.string t.a,.string t.b,.string t.r,.string t.c,.string t.d,.string t.s]] w fun e w'=>∃(g c:Nat),e=.returned (.slice (some ⟨g,0,none⟩) (eD ts t).length c)/\w'.ownsRow (w.heap.size+1) 29 6 (.slice (some ⟨g,0,none⟩) (eD ts t).length c) (eD ts t).length (aF (eD ts t))/\af w w':=by
 obtain⟨iT,hiT,zT0,zT1,zT2⟩:=info_parts (P:=prog) (e:=29) (z:=.agg #[.string ⟨#[]⟩,.string ⟨#[]⟩,.string ⟨#[]⟩,.string ⟨#[]⟩,.string ⟨#[]⟩,.string ⟨#[]⟩]) (size:=6) (bytes:=96) (by kernel_rfl);have HIT:Hid (prog.info? 29=some iT/\iT.zero=some (.agg #[.string ⟨#[]⟩,.string ⟨#[]⟩,.string ⟨#[]⟩,.string ⟨#[]⟩,.string ⟨#[]⟩,.string ⟨#[]⟩])/\iT.size=6/\iT.bytes=96):=⟨hiT,zT0,zT1,zT2⟩;have HS:=aC hs;clear hs hiT zT0 zT1 zT2;obtain⟨W0,hW0⟩:∃W0,W0=w.alloc (.cells #[.string t.a,.string t.b,.string t.r,.string t.c,.string t.d,.string t.s] 29):=⟨_,rfl⟩;have HB0:=nC hW0;have HX0:Hid (W0.cell? ⟨w.heap.size,0,none⟩=some (.string t.a)/\W0.cell? ⟨w.heap.size,1,none⟩=some (.string t.b)/\W0.cell? ⟨w.heap.size,2,none⟩=some (.string t.r)/\W0.cell? ⟨w.heap.size,3,none⟩=some (.string t.c)/\W0.cell? ⟨w.heap.size,4,none⟩=some (.string t.d)/\W0.cell? ⟨w.heap.size,5,none⟩=some (.string t.s)/\w.heap.size<W0.heap.size):=by show _/\_;rw[hW0];refine⟨?_,?_,?_,?_,?_,?_,?_⟩<;>simp
 have YW:Hid (W0.heap.size=w.heap.size+1):=by show _=_;rw[hW0];simp
 have XO:Hid ((W0.alloc (.cells #[] 29)).ownsRow (w.heap.size+1) 29 6 (.slice (some ⟨w.heap.size+1,0,none⟩) 0 0) 0 (aF (eD (ts.take 0) t))):=by
  show World.ownsRow _ _ _ _ _ _ _;rw[<-YW.out];exact World.ownsRow_lit W0 #[] 0 (V4 _) (by unfold maxLen;omega) (by simp)
 have HB1:Hid (af W0 (W0.alloc (.cells #[] 29))):=(V5 _ _).alloc (V4 _) _;go_enter func113,ntmps113;go_wp2;rw[<-hW0];clear hW0;go_loopw[5,6] (fun v i wr=>∃k:Nat,k<=ts.length/\i=.int .i64 k/\Hid (wr.ownsRow (w.heap.size+1) 29 6 v (eD (ts.take k) t).length (aF (eD (ts.take k) t)))/\Hid (af w wr)/\Hid (wr.cell? ⟨w.heap.size,0,none⟩=some (.string t.a)/\wr.cell? ⟨w.heap.size,1,none⟩=some (.string t.b)/\wr.cell? ⟨w.heap.size,2,none⟩=some (.string t.r)/\wr.cell? ⟨w.heap.size,3,none⟩=some (.string t.c)/\wr.cell? ⟨w.heap.size,4,none⟩=some (.string t.d)/\wr.cell? ⟨w.heap.size,5,none⟩=some (.string t.s)/\w.heap.size<wr.heap.size)/\Hid (∃g c m,v=.slice (some ⟨g,0,none⟩) m c)) (fun _ i _=>ts.length-(intOf i).toNat);case atStart=>exact⟨0,Wd _,rfl,XO,HB0.out.trans (HB1.out.mono HB0.out.size),⟨mK HB1.out HX0.out.2.2.2.2.2.2 HX0.out.1,mK HB1.out HX0.out.2.2.2.2.2.2 HX0.out.2.1,mK HB1.out HX0.out.2.2.2.2.2.2 HX0.out.2.2.1,mK HB1.out HX0.out.2.2.2.2.2.2 HX0.out.2.2.2.1,mK HB1.out HX0.out.2.2.2.2.2.2 HX0.out.2.2.2.2.1,mK HB1.out HX0.out.2.2.2.2.2.2 HX0.out.2.2.2.2.2.1,VY HX0.out.2.2.2.2.2.2 HB1.out.size⟩,⟨_,_,_,rfl⟩⟩
 clear XO HB1;obtain⟨k,hk,rfl,HOW,Xz,HXB,HSV⟩:=hrel;by_cases hlt:k<ts.length
 ·rcases HS.out.below Xz.out with hnil|⟨b,off,rfl,hb,hr⟩
  ·rw[hnil]at hlt;simp at hlt
  obtain⟨t0,t1,t2,t3,t4,t5⟩:=hr k hlt;obtain⟨x0,x1,x2,x3,x4,x5,xl⟩:=HXB.out;have hk1:=bC k;have hk2:(k:Int)<(ts.length:Int):=by omega
  have hdl:=MV ts t k;have HDT:=JM (t:=t) hlt;clear hr;cases hq:oq ts[k] t;case true=>
   have heq:=PO ts[k] t (v:=false) (by rw[hq];rfl);have HE:Hid (eD (ts.take (k+1)) t=eD (ts.take k) t):=by show _=_;rw[HDT,hq];simp
   clear hq HDT;go_wp2_with fail;go_region_held3 (fun w'=>w'.cell? ⟨b,off+k*6,none⟩=some (.string ts[k].a)/\w'.cell? ⟨b,off+k*6+1,none⟩=some (.string ts[k].b)/\w'.cell? ⟨b,off+k*6+2,none⟩=some (.string ts[k].r)/\w'.cell? ⟨b,off+k*6+3,none⟩=some (.string ts[k].c)/\w'.cell? ⟨b,off+k*6+4,none⟩=some (.string ts[k].d)/\w'.cell? ⟨b,off+k*6+5,none⟩=some (.string ts[k].s)/\w'.cell? ⟨w.heap.size,0,none⟩=some (.string t.a)/\w'.cell? ⟨w.heap.size,1,none⟩=some (.string t.b)/\w'.cell? ⟨w.heap.size,2,none⟩=some (.string t.r)/\w'.cell? ⟨w.heap.size,3,none⟩=some (.string t.c)/\w'.cell? ⟨w.heap.size,4,none⟩=some (.string t.d)/\w'.cell? ⟨w.heap.size,5,none⟩=some (.string t.s)/\af wr w') (first|assumption|exact⟨t0,t1,t2,t3,t4,t5,x0,x1,x2,x3,x4,x5,(V5 _ _).drew⟩) (fail);clear t0 t1 t2 t3 t4 t5 heq;have Xv:Hid (wr.drew.ownsRow (w.heap.size+1) 29 6 u5 (eD (ts.take (k+1)) t).length (aF (eD (ts.take (k+1)) t))):=by
    show World.ownsRow _ _ _ _ _ _ _;rw[HE.out];exact HOW.out.drew
   have HB2:Hid (af w wr.drew):=Xz.out.drew;have YH:Hid (wr.drew.cell? ⟨w.heap.size,0,none⟩=some (.string t.a)/\wr.drew.cell? ⟨w.heap.size,1,none⟩=some (.string t.b)/\wr.drew.cell? ⟨w.heap.size,2,none⟩=some (.string t.r)/\wr.drew.cell? ⟨w.heap.size,3,none⟩=some (.string t.c)/\wr.drew.cell? ⟨w.heap.size,4,none⟩=some (.string t.d)/\wr.drew.cell? ⟨w.heap.size,5,none⟩=some (.string t.s)/\w.heap.size<wr.drew.heap.size):=HXB.out;rename_i hH;clear hH x0 x1 x2 x3 x4 x5;go_wp2;go_roundw;case rel=>exact⟨k+1,by omega,by go_num,Xv,HB2,YH,HSV⟩
   simp[intOf]<;>omega
  have heq:=PO ts[k] t (v:=true) (by rw[hq];rfl);have HE:Hid (eD (ts.take (k+1)) t=eD (ts.take k) t++[ts[k]]):=by show _=_;rw[HDT,hq];simp
  clear hq HDT;go_wp2_with fail;go_region_held3 (fun w'=>w'.cell? ⟨b,off+k*6,none⟩=some (.string ts[k].a)/\w'.cell? ⟨b,off+k*6+1,none⟩=some (.string ts[k].b)/\w'.cell? ⟨b,off+k*6+2,none⟩=some (.string ts[k].r)/\w'.cell? ⟨b,off+k*6+3,none⟩=some (.string ts[k].c)/\w'.cell? ⟨b,off+k*6+4,none⟩=some (.string ts[k].d)/\w'.cell? ⟨b,off+k*6+5,none⟩=some (.string ts[k].s)/\w'.cell? ⟨w.heap.size,0,none⟩=some (.string t.a)/\w'.cell? ⟨w.heap.size,1,none⟩=some (.string t.b)/\w'.cell? ⟨w.heap.size,2,none⟩=some (.string t.r)/\w'.cell? ⟨w.heap.size,3,none⟩=some (.string t.c)/\w'.cell? ⟨w.heap.size,4,none⟩=some (.string t.d)/\w'.cell? ⟨w.heap.size,5,none⟩=some (.string t.s)/\af wr w') (first|assumption|exact⟨t0,t1,t2,t3,t4,t5,x0,x1,x2,x3,x4,x5,(V5 _ _).drew⟩) (fail);clear heq x0 x1 x2 x3 x4 x5;rename_i hH;clear hH;obtain⟨wd,hwd⟩:∃wd,wd=wr.drew:=⟨_,rfl⟩;have HOD:Hid (wd.ownsRow (w.heap.size+1) 29 6 u5 (eD (ts.take k) t).length (aF (eD (ts.take k) t))):=by rw[hwd];exact HOW.out.drew
  have HBD:Hid (af w wd):=by rw[hwd];exact Xz.out.drew
  have HXD:Hid (wd.cell? ⟨w.heap.size,0,none⟩=some (.string t.a)/\wd.cell? ⟨w.heap.size,1,none⟩=some (.string t.b)/\wd.cell? ⟨w.heap.size,2,none⟩=some (.string t.r)/\wd.cell? ⟨w.heap.size,3,none⟩=some (.string t.c)/\wd.cell? ⟨w.heap.size,4,none⟩=some (.string t.d)/\wd.cell? ⟨w.heap.size,5,none⟩=some (.string t.s)/\w.heap.size<wd.heap.size):=by rw[hwd];exact HXB.out
  have HTD:Hid (wd.cell? ⟨b,off+k*6,none⟩=some (.string ts[k].a)/\wd.cell? ⟨b,off+k*6+1,none⟩=some (.string ts[k].b)/\wd.cell? ⟨b,off+k*6+2,none⟩=some (.string ts[k].r)/\wd.cell? ⟨b,off+k*6+3,none⟩=some (.string ts[k].c)/\wd.cell? ⟨b,off+k*6+4,none⟩=some (.string ts[k].d)/\wd.cell? ⟨b,off+k*6+5,none⟩=some (.string ts[k].s)):=by rw[hwd];exact⟨t0,t1,t2,t3,t4,t5⟩
  rw[<-hwd];clear hwd t0 t1 t2 t3 t4 t5;obtain⟨t0,t1,t2,t3,t4,t5⟩:=HTD.out;obtain⟨W6,hW6⟩:∃W6,W6=wd.alloc (.cells #[.string ts[k].a,.string ts[k].b,.string ts[k].r,.string ts[k].c,.string ts[k].d,.string ts[k].s] 29):=⟨_,rfl⟩;have Yf:Hid (W6.ownsRow (w.heap.size+1) 29 6 u5 (eD (ts.take k) t).length (aF (eD (ts.take k) t))):=by rw[hW6];exact HOD.out.alloc _
  have YZ:Hid (∀j u,ts[k].row[j]?=some u->W6.cell? ((⟨wd.heap.size,0,none⟩:Addr).add j)=some u):=by rw[hW6];exact xA wd ts[k]
  have YB:Hid (af wd W6):=by rw[hW6];exact(V5 _ _).alloc (V4 _) _
  have HBD6:Hid (af w W6):=HBD.out.trans (YB.out.mono HBD.out.size);go_wp2_with(at_builtin;rw[<-hW6];clear hW6;refine wpList_append_own_at _ rfl _ _ 25 rfl (w.heap.size+1) 29 iT (.agg #[.string ⟨#[]⟩,.string ⟨#[]⟩,.string ⟨#[]⟩,.string ⟨#[]⟩,.string ⟨#[]⟩,.string ⟨#[]⟩]) 6 96 underlying25 HIT.out.1 HIT.out.2.1 HIT.out.2.2.1 HIT.out.2.2.2 rfl (by decide) u5 _ (aF (eD (ts.take k) t)) rfl Yf.out ⟨wd.heap.size,0,none⟩ 1 1 ts[k].row rfl rfl YZ.out (vW _) (by unfold maxLen;omega) (by omega) (Wh (Nat.succ_le_of_lt HXD.out.2.2.2.2.2.2) YB.out.size) ?_);intro v7 w7 YS Y4 _ _;have HSV7:Hid (∃g c m,v7=.slice (some ⟨g,0,none⟩) m c):=by
   rcases YS.2 with⟨-,h0⟩|⟨g,cp,cur,e,-⟩
   ·omega
   exact⟨g,cp,_,e⟩
  have hne:some w.heap.size≠u5.ownBlock:=fun e=>by have:=(HOD.out.lt w.heap.size e.symm).1;omega
  have HB7:Hid (af w w7):=HBD6.out.grown Y4 HBD6.out.size (fun g hg=>by have:=(HOD.out.lt g hg).1;omega);have Z4:Hid (w7.ownsRow (w.heap.size+1) 29 6 v7 (eD (ts.take (k+1)) t).length (aF (eD (ts.take (k+1)) t))):=by
   show World.ownsRow _ _ _ _ _ _ _;rw[HE.out,uJ,Wi];exact YS
  have HX7:Hid (w7.cell? ⟨w.heap.size,0,none⟩=some (.string t.a)/\w7.cell? ⟨w.heap.size,1,none⟩=some (.string t.b)/\w7.cell? ⟨w.heap.size,2,none⟩=some (.string t.r)/\w7.cell? ⟨w.heap.size,3,none⟩=some (.string t.c)/\w7.cell? ⟨w.heap.size,4,none⟩=some (.string t.d)/\w7.cell? ⟨w.heap.size,5,none⟩=some (.string t.s)/\w.heap.size<w7.heap.size):=⟨Y4.cell (mK YB.out HXD.out.2.2.2.2.2.2 HXD.out.1) hne,Y4.cell (mK YB.out HXD.out.2.2.2.2.2.2 HXD.out.2.1) hne,Y4.cell (mK YB.out HXD.out.2.2.2.2.2.2 HXD.out.2.2.1) hne,Y4.cell (mK YB.out HXD.out.2.2.2.2.2.2 HXD.out.2.2.2.1) hne,Y4.cell (mK YB.out HXD.out.2.2.2.2.2.2 HXD.out.2.2.2.2.1) hne,Y4.cell (mK YB.out HXD.out.2.2.2.2.2.2 HXD.out.2.2.2.2.2.1) hne,VY HXD.out.2.2.2.2.2.2 (Wh YB.out.size Y4.size)⟩;clear YS Y4 t0 t1 t2 t3 t4 t5;go_wp2;go_roundw;case rel=>exact⟨k+1,by omega,by go_num,Z4,HB7,HX7,HSV7⟩
  simp[intOf]<;>omega
 obtain rfl:k=ts.length:=by omega
 have HE:Hid (ts.take ts.length=ts):=by show _=_;rw[Wo]
 have hown:=HOW.out;rw[HE.out]at hown;obtain⟨g,c,m,hv⟩:=HSV.out;obtain⟨XB,cap',hv2,-,-⟩:=GQ hown rfl;rw[hv]at hv2;injection hv2 with _ em _;subst em;subst hv;have HOF:=Qc hown;clear hown;go_wp2;go_ret;exact⟨g,c,rfl,HOF.out,Xz.out⟩
end Go.Proofs.YtcgdckphpjfmhaaGreatDoor
namespace Go.Proofs.YtcgdckphpjfmhaaGreatDoor
open ChangeShapes WideShapes ChangeAt RowKit
open Pl
attribute [local go_sem ↓] Go.wp_at_zero Go.wp_at_succ
structure BelowD(B:Nat)(w w':World):Prop where
 b:Below B w w'
 d:w.drawn<=w'.drawn
theorem BelowD.size{B:Nat}{w w':ae}(h:BelowD B w w'):w.heap.size<=w'.heap.size:=h.b.size
theorem BelowD.refl(B:Nat)(w:ae):BelowD B w w:=⟨V5 B w,V4 _⟩
theorem BelowD.trans{B:Nat}{a b c:ae}(h:BelowD B a b)(k:BelowD B b c):BelowD B a c:=⟨h.b.trans k.b,Wh h.d k.d⟩
theorem BelowD.mono{B B':Nat}{w w':ae}(h:BelowD B w w')(hB:B'<=B):BelowD B' w w':=⟨h.b.mono hB,h.d⟩
theorem BelowD.drew{B:Nat}{a w:ae}(h:BelowD B a w):BelowD B a w.drew:=⟨h.b.drew,Wh h.d (Nat.le_succ _)⟩
theorem BelowD.alloc{B:Nat}{a w:ae}(h:BelowD B a w)(hB:B<=w.heap.size)(o:Obj):BelowD B a (w.alloc o):=⟨h.b.alloc hB o,h.d⟩
theorem BelowD.cell{B:Nat}{w w':ae}(h:BelowD B w w'){p:Addr}(hp:p.block<B):w'.cell? p=w.cell? p:=h.b.cell hp
theorem BelowD.frozen{B:Nat}{w w':ae}(h:BelowD B w w'){p:Addr}(hp:p.block<B):w'.frozen? p=w.frozen? p:=h.b.frozen hp
theorem BelowD.grew{w w':ae}(h:BelowD w.heap.size w w'):∃q os,w'=Go.Sort.grow (w.drewN q) os:=by
 obtain⟨⟨h1,h2,h3,h4,h5⟩,h6⟩:=h;refine⟨w'.drawn-w.drawn,w'.heap.extract w.heap.size w'.heap.size,?_⟩;obtain⟨hp,tp,dr,os,ou⟩:=w';simp only at h1 h2 h3 h4 h5 h6;subst h1 h2 h3;simp only[Go.Sort.grow,World.drewN,World.mk.injEq,true_and,and_true];refine⟨?_,by omega⟩;apply Array.ext
 ·simp;omega
 intro i hi hj;by_cases hlt:i<w.heap.size
 ·have:=h5 i hlt;rw[WX hi,WX hlt]at this;injection this with this;rw[this,Array.getElem_append_left hlt]
 rw[Array.getElem_append_right (by omega)];simp;congr 1;omega
theorem uL{W w1:ae}(hb:BelowD W.heap.size W w1):(∀b o,b<W.heap.size->w1.cell? ⟨b,o,none⟩=W.cell? ⟨b,o,none⟩)/\(∀b o,b<W.heap.size->w1.frozen? ⟨b,o,none⟩=W.frozen? ⟨b,o,none⟩) :=
 ⟨fun b o h=>hb.cell (p:=⟨b,o,none⟩) h,fun b o h=>hb.frozen (p:=⟨b,o,none⟩) h⟩
theorem fH(t i:bZ)(w:ae)(ht:t.size<=maxLen)(hi:i.size<=maxLen):
  Calls prog 178 #[.agg #[.string t,.string i]] w fun e w'=>e=.returned (.bool (eX t i))/\BelowD w.heap.size w w':=by
 by_cases hn:aR t=true
 all_goals
  go_enter func178,ntmps178;go_wp2_with(first|(go_at_call 170;refine(aO _ _ ht).mono ?_;rintro e w' ⟨rfl,rfl⟩)|(go_at_call 214;refine(zU _ _ hi).mono ?_;rintro e w' ⟨rfl,rfl⟩));go_ret;exact⟨ah (by simp[eX,hn]),(BelowD.refl _ _).alloc (V4 _) _⟩
theorem xH(t i:bZ)(w:ae)(ht:t.size<=maxLen)(hi:i.size<=maxLen):
  Calls prog 191 #[.agg #[.string t,.string i]] w fun e w'=>e=.returned (.string (aB t i))/\BelowD w.heap.size w w':=by
 by_cases hn:eX t i=true
 ·obtain⟨h1,h2⟩:=zt hn;have HT:Hid (aB t i=t++⟨#[58]⟩++i):=nG hn;go_enter func191,ntmps191;go_wp2_with(go_at_call 178;refine(fH _ _ _ ht hi).mono ?_;rintro e w' ⟨rfl,hb⟩;obtain⟨hc,hf⟩:=uL hb);go_ret;exact⟨gp HT.out.symm,((BelowD.refl _ _).alloc (V4 _) _).trans (hb.mono (by simp))⟩
 have hn':eX t i=false:=by simpa using hn
 have HT:Hid (aB t i=⟨#[]⟩):=ut hn';clear hn;go_enter func191,ntmps191;go_wp2_with(go_at_call 178;refine(fH _ _ _ ht hi).mono ?_;rintro e w' ⟨rfl,hb⟩;obtain⟨hc,hf⟩:=uL hb);go_ret;exact⟨gp HT.out.symm,((BelowD.refl _ _).alloc (V4 _) _).trans (hb.mono (by simp))⟩
theorem wm(a b r c d s:bZ)(w:ae)(ha:a.size<=maxLen)(hb:b.size<=maxLen)(hr:r.size<=maxLen)(hc:c.size<=maxLen)(hd:d.size<=maxLen)(hs:s.size<=maxLen):
  Calls prog 128 #[.agg #[.string a,.string b,.string r,.string c,.string d,.string s]] w fun e w'=>e=.returned (.bool (bz a b r c d s))/\BelowD w.heap.size w w':=by
 by_cases h1:eX a b=true
 ·by_cases h2:aR r=true
  ·by_cases h3:eX c d=true
   ·have HT:Hid (bz a b r c d s=uY s):=zR h1 h2 h3;go_enter func128,ntmps128;go_wp2_with fail;refine(fH _ _ _ ha hb).mono ?_;rintro e w1 ⟨rfl,hb1⟩;obtain⟨hc1,hf1⟩:=uL hb1;have hz1:w.heap.size<w1.heap.size:=by have:=hb1.size;simp at this;omega
    go_wp2_with fail;refine(aO _ _ hr).mono ?_;rintro e w1' ⟨rfl,rfl⟩;go_wp2_with fail;refine(fH _ _ _ hc hd).mono ?_;rintro e w2 ⟨rfl,hb2⟩;obtain⟨hc2,hf2⟩:=uL hb2;have hz2:w.heap.size<w2.heap.size:=by have:=hb2.size;omega
    go_wp2_with(go_at_call 179;refine(CX _ _ hs).mono ?_;rintro e w3 ⟨rfl,rfl⟩)
    all_goals go_ret
    all_goals exact⟨ah (HT.out.trans (by simp[uY, *])).symm,((BelowD.refl _ _).alloc (V4 _) _).trans ((hb1.mono (by simp)).trans (hb2.mono (by omega)))⟩
   have h3':eX c d=false:=by simpa using h3
   have HT:Hid (bz a b r c d s=false):=zQ h3';clear h3;go_enter func128,ntmps128;go_wp2_with fail;refine(fH _ _ _ ha hb).mono ?_;rintro e w1 ⟨rfl,hb1⟩;obtain⟨hc1,hf1⟩:=uL hb1;have hz1:w.heap.size<w1.heap.size:=by have:=hb1.size;simp at this;omega
   go_wp2_with fail;refine(aO _ _ hr).mono ?_;rintro e w1' ⟨rfl,rfl⟩;go_wp2_with fail;refine(fH _ _ _ hc hd).mono ?_;rintro e w2 ⟨rfl,hb2⟩;go_wp2;go_ret;exact⟨ah HT.out.symm,((BelowD.refl _ _).alloc (V4 _) _).trans ((hb1.mono (by simp)).trans (hb2.mono (by omega)))⟩
  have h2':aR r=false:=by simpa using h2
  have HT:Hid (bz a b r c d s=false):=zP h2';clear h2;go_enter func128,ntmps128;go_wp2_with fail;refine(fH _ _ _ ha hb).mono ?_;rintro e w1 ⟨rfl,hb1⟩;obtain⟨hc1,hf1⟩:=uL hb1;go_wp2_with fail;refine(aO _ _ hr).mono ?_;rintro e w1' ⟨rfl,rfl⟩;go_wp2;go_ret;exact⟨ah HT.out.symm,((BelowD.refl _ _).alloc (V4 _) _).trans (hb1.mono (by simp))⟩
 have h1':eX a b=false:=by simpa using h1
 have HT:Hid (bz a b r c d s=false):=zM h1';clear h1;go_enter func128,ntmps128;go_wp2_with fail;refine(fH _ _ _ ha hb).mono ?_;rintro e w1 ⟨rfl,hb1⟩;go_wp2;go_ret;exact⟨ah HT.out.symm,((BelowD.refl _ _).alloc (V4 _) _).trans (hb1.mono (by simp))⟩
theorem Uw{w W w':ae}{n:Nat}{x0 x1 x2 x3 x4 x5:Value}(h:W.cell? ⟨n,0,none⟩=some x0/\W.cell? ⟨n,1,none⟩=some x1/\W.cell? ⟨n,2,none⟩=some x2/\W.cell? ⟨n,3,none⟩=some x3/\W.cell? ⟨n,4,none⟩=some x4/\W.cell? ⟨n,5,none⟩=some x5/\n<W.heap.size/\BelowD n w W)(hb:BelowD W.heap.size W w'):w'.cell? ⟨n,0,none⟩=some x0/\w'.cell? ⟨n,1,none⟩=some x1/\w'.cell? ⟨n,2,none⟩=some x2/\w'.cell? ⟨n,3,none⟩=some x3/\w'.cell? ⟨n,4,none⟩=some x4/\w'.cell? ⟨n,5,none⟩=some x5/\n<w'.heap.size/\BelowD n w w':=by
 obtain⟨h0,h1,h2,h3,h4,h5,hn,hB⟩:=h;have hc:∀o,w'.cell? ⟨n,o,none⟩=W.cell? ⟨n,o,none⟩:=fun o=>hb.cell (p:=⟨n,o,none⟩) hn;refine⟨by rw[hc];exact h0,by rw[hc];exact h1,by rw[hc];exact h2,by rw[hc];exact h3,by rw[hc];exact h4,by rw[hc];exact h5,VY hn hb.size,hB.trans (hb.mono (Xr hn))⟩
theorem xI(a b r c d s:bZ)(w:ae)(ha:a.size<=maxLen)(hb:b.size<=maxLen)(hr:r.size<=maxLen)(hc:c.size<=maxLen)(hd:d.size<=maxLen)(hs:s.size<=maxLen):
  Calls prog 148 #[.agg #[.string a,.string b,.string r,.string c,.string d,.string s]] w fun e w'=>e=.returned (.string (aZ a b r c d s))/\BelowD w.heap.size w w':=by
 by_cases hn:bz a b r c d s=true
 ·obtain⟨h1,h2,h3,h4⟩:=jW hn;have hx:=iE a b;have hy:=iE c d;have ZJ:=(oH h2).2;have hs12:=Ez h4;clear h1 h2 h3 h4;go_enter func148,ntmps148;go_wp2_with fail;refine(wm _ _ _ _ _ _ _ ha hb hr hc hd hs).mono ?_;rintro e w1 ⟨rfl,hb1⟩;obtain⟨hc1,hf1⟩:=uL hb1;have hz1:w.heap.size<w1.heap.size:=by have:=hb1.size;simp at this;omega
  have k:∀o v,(w.alloc (.cells #[.string a,.string b,.string r,.string c,.string d,.string s] 29)).cell? ⟨w.heap.size,o,none⟩=some v->w1.cell? ⟨w.heap.size,o,none⟩=some v:=fun o v h=>by rw[hc1 _ _ (by simp)];exact h
  have k0:=k 0 (.string a) (by simp);have k1:=k 1 (.string b) (by simp);have k2:=k 2 (.string r) (by simp);have k3:=k 3 (.string c) (by simp);have k4:=k 4 (.string d) (by simp);have k5:=k 5 (.string s) (by simp);have HB1:BelowD w.heap.size w w1:=((BelowD.refl _ _).alloc (V4 _) _).trans (hb1.mono (by simp));clear k hb1 hc1 hf1;have q1:(9223372036854775807<(aB a b).size+1)=False:=by simp;omega
  have q2:(9223372036854775807<(aB a b).size+1+r.size)=False:=by simp;omega
  have q3:(9223372036854775807<(aB a b).size+1+r.size+1)=False:=by simp;omega
  have q4:(9223372036854775807<(aB a b).size+1+r.size+1+(aB c d).size)=False:=by simp;omega
  go_wp2_with fail
  go_region_held3 (fun w'=>w'.cell? ⟨w.heap.size,0,none⟩=some (.string a)/\w'.cell? ⟨w.heap.size,1,none⟩=some (.string b)/\w'.cell? ⟨w.heap.size,2,none⟩=some (.string r)/\w'.cell? ⟨w.heap.size,3,none⟩=some (.string c)/\w'.cell? ⟨w.heap.size,4,none⟩=some (.string d)/\w'.cell? ⟨w.heap.size,5,none⟩=some (.string s)/\w.heap.size<w'.heap.size/\BelowD w.heap.size w w')
   (first|exact Uw (by assumption) hbx|exact⟨k0,k1,k2,k3,k4,k5,hz1,HB1.drew⟩)
   (first|(go_at_call 191;refine(xH _ _ _ (by assumption) (by assumption)).mono ?_;rintro e w' ⟨rfl,hbx⟩))
  rename_i hH;obtain⟨g0,g1,g2,g3,g4,g5,gz,gB⟩:=hH;clear k0 k1 k2 k3 k4 k5 hbx q1 q2 q3 q4 HB1;by_cases he:s.toList.isEmpty=true
  ·have HT:Hid (aZ a b r c d s=_):=nH hn he;go_wp2;go_ret;exact⟨gp HT.out.symm,gB⟩
  have he':s.toList.isEmpty=false:=by simpa using he
  have HT:Hid (aZ a b r c d s=_):=nI hn he';clear he;go_wp2;go_ret;exact⟨gp (HT.out.trans (by simp only[WV])).symm,gB⟩
 have hn':bz a b r c d s=false:=by simpa using hn
 have HT:Hid (aZ a b r c d s=⟨#[]⟩):=uu hn';clear hn;go_enter func148,ntmps148;go_wp2_with fail;refine(wm _ _ _ _ _ _ _ ha hb hr hc hd hs).mono ?_;rintro e w1 ⟨rfl,hb1⟩;go_wp2;go_ret;exact⟨gp HT.out.symm,((BelowD.refl _ _).alloc (V4 _) _).trans (hb1.mono (by simp))⟩
theorem Sc{w W w':ae}{n m k:Nat}{x0 x1 x2 x3 x4 x5 y0 y1 y2 y3 y4 y5:Value}(hk:k<=n)(h:W.cell? ⟨n,0,none⟩=some x0/\W.cell? ⟨n,1,none⟩=some x1/\W.cell? ⟨n,2,none⟩=some x2/\W.cell? ⟨n,3,none⟩=some x3/\W.cell? ⟨n,4,none⟩=some x4/\W.cell? ⟨n,5,none⟩=some x5/\W.cell? ⟨m,0,none⟩=some y0/\W.cell? ⟨m,1,none⟩=some y1/\W.cell? ⟨m,2,none⟩=some y2/\W.cell? ⟨m,3,none⟩=some y3/\W.cell? ⟨m,4,none⟩=some y4/\W.cell? ⟨m,5,none⟩=some y5/\n<W.heap.size/\m<W.heap.size/\BelowD k w W)(hb:BelowD W.heap.size W w'):w'.cell? ⟨n,0,none⟩=some x0/\w'.cell? ⟨n,1,none⟩=some x1/\w'.cell? ⟨n,2,none⟩=some x2/\w'.cell? ⟨n,3,none⟩=some x3/\w'.cell? ⟨n,4,none⟩=some x4/\w'.cell? ⟨n,5,none⟩=some x5/\w'.cell? ⟨m,0,none⟩=some y0/\w'.cell? ⟨m,1,none⟩=some y1/\w'.cell? ⟨m,2,none⟩=some y2/\w'.cell? ⟨m,3,none⟩=some y3/\w'.cell? ⟨m,4,none⟩=some y4/\w'.cell? ⟨m,5,none⟩=some y5/\n<w'.heap.size/\m<w'.heap.size/\BelowD k w w':=by
 obtain⟨h0,h1,h2,h3,h4,h5,h6,h7,h8,h9,h10,h11,hn,hm,hB⟩:=h;have hc:∀o,w'.cell? ⟨n,o,none⟩=W.cell? ⟨n,o,none⟩:=fun o=>hb.cell (p:=⟨n,o,none⟩) hn;have hd:∀o,w'.cell? ⟨m,o,none⟩=W.cell? ⟨m,o,none⟩:=fun o=>hb.cell (p:=⟨m,o,none⟩) hm;exact⟨by rw[hc];exact h0,by rw[hc];exact h1,by rw[hc];exact h2,by rw[hc];exact h3,by rw[hc];exact h4,by rw[hc];exact h5,by rw[hd];exact h6,by rw[hd];exact h7,by rw[hd];exact h8,by rw[hd];exact h9,by rw[hd];exact h10,by rw[hd];exact h11,VY hn hb.size,VY hm hb.size,hB.trans (hb.mono (by omega))⟩
theorem LB(w:ae)(o1 o2:Obj):BelowD w.heap.size w ((w.alloc o1).alloc o2) :=
 ((BelowD.refl _ _).alloc (V4 _) _).alloc (by simp) _
theorem uM(a b r c d s a' b' r' c' d' s':bZ)(w:ae)(ha:a.size<=maxLen)(hb:b.size<=maxLen)(hr:r.size<=maxLen)(hc:c.size<=maxLen)(hd:d.size<=maxLen)(hs:s.size<=maxLen)(ga:a'.size<=maxLen)(gb:b'.size<=maxLen)(gr:r'.size<=maxLen)(gc:c'.size<=maxLen)(gd:d'.size<=maxLen)(gs:s'.size<=maxLen):
  Calls prog 86 #[.agg #[.string a,.string b,.string r,.string c,.string d,.string s],.agg #[.string a',.string b',.string r',.string c',.string d',.string s']] w fun e w'=>e=.returned (.int .i64 (GI a b r c d s a' b' r' c' d' s'))/\BelowD w.heap.size w w':=by
 have H0:((w.alloc (.cells #[.string a,.string b,.string r,.string c,.string d,.string s] 29)).alloc (.cells #[.string a',.string b',.string r',.string c',.string d',.string s'] 29)).drew.cell? ⟨w.heap.size,0,none⟩=some (.string a)/\((w.alloc (.cells #[.string a,.string b,.string r,.string c,.string d,.string s] 29)).alloc (.cells #[.string a',.string b',.string r',.string c',.string d',.string s'] 29)).drew.cell? ⟨w.heap.size,1,none⟩=some (.string b)/\((w.alloc (.cells #[.string a,.string b,.string r,.string c,.string d,.string s] 29)).alloc (.cells #[.string a',.string b',.string r',.string c',.string d',.string s'] 29)).drew.cell? ⟨w.heap.size,2,none⟩=some (.string r)/\((w.alloc (.cells #[.string a,.string b,.string r,.string c,.string d,.string s] 29)).alloc (.cells #[.string a',.string b',.string r',.string c',.string d',.string s'] 29)).drew.cell? ⟨w.heap.size,3,none⟩=some (.string c)/\((w.alloc (.cells #[.string a,.string b,.string r,.string c,.string d,.string s] 29)).alloc (.cells #[.string a',.string b',.string r',.string c',.string d',.string s'] 29)).drew.cell? ⟨w.heap.size,4,none⟩=some (.string d)/\((w.alloc (.cells #[.string a,.string b,.string r,.string c,.string d,.string s] 29)).alloc (.cells #[.string a',.string b',.string r',.string c',.string d',.string s'] 29)).drew.cell? ⟨w.heap.size,5,none⟩=some (.string s)/\((w.alloc (.cells #[.string a,.string b,.string r,.string c,.string d,.string s] 29)).alloc (.cells #[.string a',.string b',.string r',.string c',.string d',.string s'] 29)).drew.cell? ⟨w.heap.size+1,0,none⟩=some (.string a')/\((w.alloc (.cells #[.string a,.string b,.string r,.string c,.string d,.string s] 29)).alloc (.cells #[.string a',.string b',.string r',.string c',.string d',.string s'] 29)).drew.cell? ⟨w.heap.size+1,1,none⟩=some (.string b')/\((w.alloc (.cells #[.string a,.string b,.string r,.string c,.string d,.string s] 29)).alloc (.cells #[.string a',.string b',.string r',.string c',.string d',.string s'] 29)).drew.cell? ⟨w.heap.size+1,2,none⟩=some (.string r')/\((w.alloc (.cells #[.string a,.string b,.string r,.string c,.string d,.string s] 29)).alloc (.cells #[.string a',.string b',.string r',.string c',.string d',.string s'] 29)).drew.cell? ⟨w.heap.size+1,3,none⟩=some (.string c')/\((w.alloc (.cells #[.string a,.string b,.string r,.string c,.string d,.string s] 29)).alloc (.cells #[.string a',.string b',.string r',.string c',.string d',.string s'] 29)).drew.cell? ⟨w.heap.size+1,4,none⟩=some (.string d')/\((w.alloc (.cells #[.string a,.string b,.string r,.string c,.string d,.string s] 29)).alloc (.cells #[.string a',.string b',.string r',.string c',.string d',.string s'] 29)).drew.cell? ⟨w.heap.size+1,5,none⟩=some (.string s')/\w.heap.size<((w.alloc (.cells #[.string a,.string b,.string r,.string c,.string d,.string s] 29)).alloc (.cells #[.string a',.string b',.string r',.string c',.string d',.string s'] 29)).drew.heap.size/\w.heap.size+1<((w.alloc (.cells #[.string a,.string b,.string r,.string c,.string d,.string s] 29)).alloc (.cells #[.string a',.string b',.string r',.string c',.string d',.string s'] 29)).drew.heap.size/\BelowD w.heap.size w (((w.alloc (.cells #[.string a,.string b,.string r,.string c,.string d,.string s] 29)).alloc (.cells #[.string a',.string b',.string r',.string c',.string d',.string s'] 29)).drew):=by
  refine⟨?_,?_,?_,?_,?_,?_,?_,?_,?_,?_,?_,?_,?_,?_,?_⟩
  all_goals first|exact(LB _ _ _).drew|(simp;done)|(simp;omega)
 go_enter func86,ntmps86;go_wp2_with fail
 go_region_held3 (fun w'=>w'.cell? ⟨w.heap.size,0,none⟩=some (.string a)/\w'.cell? ⟨w.heap.size,1,none⟩=some (.string b)/\w'.cell? ⟨w.heap.size,2,none⟩=some (.string r)/\w'.cell? ⟨w.heap.size,3,none⟩=some (.string c)/\w'.cell? ⟨w.heap.size,4,none⟩=some (.string d)/\w'.cell? ⟨w.heap.size,5,none⟩=some (.string s)/\w'.cell? ⟨w.heap.size+1,0,none⟩=some (.string a')/\w'.cell? ⟨w.heap.size+1,1,none⟩=some (.string b')/\w'.cell? ⟨w.heap.size+1,2,none⟩=some (.string r')/\w'.cell? ⟨w.heap.size+1,3,none⟩=some (.string c')/\w'.cell? ⟨w.heap.size+1,4,none⟩=some (.string d')/\w'.cell? ⟨w.heap.size+1,5,none⟩=some (.string s')/\w.heap.size<w'.heap.size/\w.heap.size+1<w'.heap.size/\BelowD w.heap.size w w')
  (first|assumption|exact Sc (V4 _) (by assumption) hbx|exact H0)
  (first|(go_at_call 148;refine(xI _ _ _ _ _ _ _ (by assumption) (by assumption) (by assumption) (by assumption) (by assumption) (by assumption)).mono ?_;rintro e w' ⟨rfl,hbx⟩)|(go_at_call 147;refine(Tryz.strings_Compare _ _ _).mono ?_;rintro e w' ⟨rfl,rfl⟩))
 rename_i hH;obtain⟨-,-,-,-,-,-,-,-,-,-,-,-,-,-,gB⟩:=hH;go_wp2;go_ret;exact⟨rfl,gB⟩
end Go.Proofs.YtcgdckphpjfmhaaGreatDoor
namespace Go.Proofs.YtcgdckphpjfmhaaGreatDoor
open ChangeShapes WideShapes ChangeAt RowKit
open Pl
attribute [local go_sem ↓] Go.wp_at_zero Go.wp_at_succ
theorem Nh(a b r c d:bZ)(w:ae):
  Calls prog 167 #[.agg #[.string a,.string b,.string r,.string c,.string d]] w fun e w'=>e=.returned (.agg #[.string a,.string b,.string r,.string c,.string d,.string ⟨#[]⟩])/\af w w':=by
 go_enter func167,ntmps167;go_wp2;exact bodyPost_ret (v:=.agg #[.string a,.string b,.string r,.string c,.string d,.string ⟨#[]⟩]) (by simp[results,Tryz.results167,go_sem, *]) rfl ⟨rfl,by
  repeat(first|exact V5 _ _|refine Below.setCell ?_ (by first|(simp;done)|(simp;omega)) _|refine Below.alloc ?_ (by first|(simp;done)|(simp;omega)) _)⟩
theorem Sd{w W w':ae}{n m k:Nat}{x0 x1 x2 x3 x4 y0 y1 y2 y3 y4:Value}(hk:k<=n)(h:W.cell? ⟨n,0,none⟩=some x0/\W.cell? ⟨n,1,none⟩=some x1/\W.cell? ⟨n,2,none⟩=some x2/\W.cell? ⟨n,3,none⟩=some x3/\W.cell? ⟨n,4,none⟩=some x4/\W.cell? ⟨m,0,none⟩=some y0/\W.cell? ⟨m,1,none⟩=some y1/\W.cell? ⟨m,2,none⟩=some y2/\W.cell? ⟨m,3,none⟩=some y3/\W.cell? ⟨m,4,none⟩=some y4/\n<W.heap.size/\m<W.heap.size/\Below k w W)(hb:af W w'):w'.cell? ⟨n,0,none⟩=some x0/\w'.cell? ⟨n,1,none⟩=some x1/\w'.cell? ⟨n,2,none⟩=some x2/\w'.cell? ⟨n,3,none⟩=some x3/\w'.cell? ⟨n,4,none⟩=some x4/\w'.cell? ⟨m,0,none⟩=some y0/\w'.cell? ⟨m,1,none⟩=some y1/\w'.cell? ⟨m,2,none⟩=some y2/\w'.cell? ⟨m,3,none⟩=some y3/\w'.cell? ⟨m,4,none⟩=some y4/\n<w'.heap.size/\m<w'.heap.size/\Below k w w':=by
 obtain⟨h0,h1,h2,h3,h4,h5,h6,h7,h8,h9,hn,hm,hB⟩:=h;have hc:∀o,w'.cell? ⟨n,o,none⟩=W.cell? ⟨n,o,none⟩:=fun o=>hb.cell (p:=⟨n,o,none⟩) hn;have hd:∀o,w'.cell? ⟨m,o,none⟩=W.cell? ⟨m,o,none⟩:=fun o=>hb.cell (p:=⟨m,o,none⟩) hm;exact⟨by rw[hc];exact h0,by rw[hc];exact h1,by rw[hc];exact h2,by rw[hc];exact h3,by rw[hc];exact h4,by rw[hd];exact h5,by rw[hd];exact h6,by rw[hd];exact h7,by rw[hd];exact h8,by rw[hd];exact h9,VY hn hb.size,VY hm hb.size,hB.trans (hb.mono (by omega))⟩
theorem Vt(a b r c d a' b' r' c' d':bZ)(w W:ae)(hW:W=((w.alloc (.cells #[.string a,.string b,.string r,.string c,.string d] 43)).alloc (.cells #[.string a',.string b',.string r',.string c',.string d'] 43))):W.drew.cell? ⟨w.heap.size,0,none⟩=some (.string a)/\W.drew.cell? ⟨w.heap.size,1,none⟩=some (.string b)/\W.drew.cell? ⟨w.heap.size,2,none⟩=some (.string r)/\W.drew.cell? ⟨w.heap.size,3,none⟩=some (.string c)/\W.drew.cell? ⟨w.heap.size,4,none⟩=some (.string d)/\W.drew.cell? ⟨w.heap.size+1,0,none⟩=some (.string a')/\W.drew.cell? ⟨w.heap.size+1,1,none⟩=some (.string b')/\W.drew.cell? ⟨w.heap.size+1,2,none⟩=some (.string r')/\W.drew.cell? ⟨w.heap.size+1,3,none⟩=some (.string c')/\W.drew.cell? ⟨w.heap.size+1,4,none⟩=some (.string d')/\w.heap.size<W.drew.heap.size/\w.heap.size+1<W.drew.heap.size/\af w W.drew:=by
 subst hW;refine⟨?_,?_,?_,?_,?_,?_,?_,?_,?_,?_,?_,?_,?_⟩
 all_goals first|exact(AU _ _ _).drew|(simp;done)|(simp;omega)
theorem wu(a b r c d a' b' r' c' d':bZ)(w:ae)(ha:a.size<=maxLen)(hb:b.size<=maxLen)(hr:r.size<=maxLen)(hc:c.size<=maxLen)(hd:d.size<=maxLen)(ga:a'.size<=maxLen)(gb:b'.size<=maxLen)(gr:r'.size<=maxLen)(gc:c'.size<=maxLen)(gd:d'.size<=maxLen):
  Calls prog 115 #[.agg #[.string a,.string b,.string r,.string c,.string d],.agg #[.string a',.string b',.string r',.string c',.string d']] w fun e w'=>e=.returned (.bool (fQ a b r c d ⟨#[]⟩ a' b' r' c' d' ⟨#[]⟩))/\af w w':=by
 have he0:(⟨#[]⟩:ByteArray).size<=maxLen:=by decide
 have H0:=Vt a b r c d a' b' r' c' d' w _ rfl;go_enter func115,ntmps115;go_wp2_with fail
 go_region_held3 (fun w'=>w'.cell? ⟨w.heap.size,0,none⟩=some (.string a)/\w'.cell? ⟨w.heap.size,1,none⟩=some (.string b)/\w'.cell? ⟨w.heap.size,2,none⟩=some (.string r)/\w'.cell? ⟨w.heap.size,3,none⟩=some (.string c)/\w'.cell? ⟨w.heap.size,4,none⟩=some (.string d)/\w'.cell? ⟨w.heap.size+1,0,none⟩=some (.string a')/\w'.cell? ⟨w.heap.size+1,1,none⟩=some (.string b')/\w'.cell? ⟨w.heap.size+1,2,none⟩=some (.string r')/\w'.cell? ⟨w.heap.size+1,3,none⟩=some (.string c')/\w'.cell? ⟨w.heap.size+1,4,none⟩=some (.string d')/\w.heap.size<w'.heap.size/\w.heap.size+1<w'.heap.size/\af w w')
  (first|assumption|exact Sd (V4 _) (by assumption) hbx|exact H0)
  (first|(go_at_call 167;refine(Nh _ _ _ _ _ _).mono ?_;rintro e w' ⟨rfl,hbx⟩)|(go_at_call 164;refine(oo _ _ _ _ _ _ _ _ _ _ _ _ _ (by assumption) (by assumption) (by assumption) (by assumption) (by assumption) (by assumption) (by assumption) (by assumption) (by assumption) (by assumption) (by assumption) (by assumption)).mono ?_;rintro e w' ⟨rfl,hbx⟩))
 rename_i hJ;obtain⟨-,-,-,-,-,-,-,-,-,-,-,-,gB⟩:=hJ;go_wp2;go_ret;exact⟨rfl,gB⟩
end Go.Proofs.YtcgdckphpjfmhaaGreatDoor
