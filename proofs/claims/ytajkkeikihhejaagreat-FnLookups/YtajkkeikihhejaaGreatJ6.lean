/- Rows that are copied: what stays theirs. -/
import Derived.Test.YtajkkeikihhejaaGreatSq
import Derived.Test.YtajkkeikihhejaaGreatToOwn
import Derived.OwnWalk
import Derived.Maps.AppendAt
namespace Go.Proofs.YtajkkeikihhejaaGreat
open Go.ChangeShapes Go.WideShapes Go.ChangeAt Go.RowKit Go.Maps
open Pl
theorem ED.add {S:Nat→Prop} {b:Nat} {wr wn:ae} {qs:List ER} (h:ED b wr qs) (hc:Chg S wr wn) (hb:b < wr.heap.size) {q:ER} (zA:q.e.allow ≠ []→∃ g,q.adA=some ⟨g,0,none⟩) (zK:q.e.kids ≠ []→∃ g,q.adK=some ⟨g,0,none⟩) (hone:∀ g,bA q g→¬ bK q g) (hq:∀ g,pI q g→wr.heap.size≤g∧g < wn.heap.size∧jN wn g):ED b wn (qs ++ [q]):=by
 refine ⟨⟨?_,?_,?_,?_,?_⟩,?_⟩
 ·intro r hr; rw [SI,SG] at hr;rcases hr with hr | rfl
  ·exact h.1.zeroA r hr
  exact zA
 ·intro r hr; rw [SI,SG] at hr;rcases hr with hr | rfl
  ·exact h.1.zeroK r hr
  exact zK
 ·intro r hr; rw [SI,SG] at hr;rcases hr with hr | rfl
  ·exact h.1.head r hr
  intro hg; have:=(hq b hg).1; omega
 ·intro r hr; rw [SI,SG] at hr;rcases hr with hr | rfl
  ·exact h.1.one r hr
  exact hone
 ·intro x y hx hy hne g hgx Vf;rw [SE,List.length_singleton] at hx hy;by_cases ex:x < qs.length
  ·rw [Ta ex] at hgx;by_cases ey:y < qs.length
   ·rw [Ta ey] at Vf;exact h.1.two x y ex ey hne g hgx Vf
   rw [Tf (by omega)] at Vf;have e1:=(hq g (by simpa using Vf)).1;have e2:=(h.2 _ (Sw ex) g hgx).2.1;omega
  rw [Tf (by omega)] at hgx;have e1:=(hq g (by simpa using hgx)).1;have ey:y < qs.length:=by omega
  rw [Ta ey] at Vf;have e2:=(h.2 _ (Sw ey) g Vf).2.1;omega
 intro r hr g hg; rw [SI,SG] at hr;rcases hr with hr | rfl
 ·obtain ⟨a1,a2,a3⟩:=h.2 r hr g hg;exact ⟨a1,Sv a2 hc.size,hc.free g a2 a3⟩
 obtain ⟨a1,a2,a3⟩:=hq g hg;exact ⟨by omega,a2,a3⟩
theorem RN {w:ae} {base n:Nat} {v:Value} {xs:List Al} (h:w.ownsRow base 43 2 v n (pairs xs)) (hn:n=xs.length):∃ ad cap,v=.slice ad xs.length cap∧kw w ad xs∧(xs ≠ []→∃ g,ad=some ⟨g,0,none⟩)∧∀ g,xs ≠ []→ad=some ⟨g,0,none⟩→base≤g∧g < w.heap.size∧jN w g:=by
 subst hn;have h2:=h;rcases h.2 with ⟨rfl,h0⟩ | ⟨g,cap,cur,rfl,hbg,hg,hnc,-⟩
 ·have hx:xs=[]:=SX.1 h0;subst hx;exact ⟨none,0,rfl,.inl rfl,fun h=>absurd rfl h,fun _ h=>absurd rfl h⟩
 have hlt:=h2.lt g rfl;refine ⟨some ⟨g,0,none⟩,cap,rfl,.inr ⟨g,0,rfl,hlt.2,fun i hi=>?_⟩,fun _=>⟨g,rfl⟩,fun g' _ e=>?_⟩
 ·have hl:=qO xs;obtain ⟨p0,p1⟩:=tZ xs i hi;refine ⟨?_,?_⟩
  ·rw [h2.cellAt (0 + i * 2) (by omega),Td]; exact p0
  rw [h2.cellAt (0 + i * 2 + 1) (by omega),Td]; exact p1
 injection e with e; injection e with e1 e2;subst e1;exact ⟨hlt.1,hlt.2,fun y=>h2.frozenAt y⟩
theorem RO {w:ae} {base n:Nat} {v:Value} {zs:List Int} (h:w.ownsRow base 2 1 v n (ints zs)) (hn:n=zs.length):∃ ad cap,v=.slice ad zs.length cap∧vH w ad zs∧(zs ≠ []→∃ g,ad=some ⟨g,0,none⟩)∧∀ g,zs ≠ []→ad=some ⟨g,0,none⟩→base≤g∧g < w.heap.size∧jN w g:=by
 subst hn;have h2:=h;rcases h.2 with ⟨rfl,h0⟩ | ⟨g,cap,cur,rfl,hbg,hg,hnc,-⟩
 ·have hx:zs=[]:=SX.1 h0;subst hx;exact ⟨none,0,rfl,.inl rfl,fun h=>absurd rfl h,fun _ h=>absurd rfl h⟩
 have hlt:=h2.lt g rfl;refine ⟨some ⟨g,0,none⟩,cap,rfl,.inr ⟨g,0,rfl,hlt.2,fun i hi=>?_⟩,fun _=>⟨g,rfl⟩,fun g' _ e=>?_⟩
 ·rw [h2.cellAt (0 + i) (by omega),Td]; simp [ints,hi]
 injection e with e; injection e with e1 e2;subst e1;exact ⟨hlt.1,hlt.2,fun y=>h2.frozenAt y⟩
theorem kw.grown {w w':ae} {row:Option Nat} {ad:Option Addr} {xs:List Al} (h:kw w ad xs) (hg:w.grownBy w' row) (hn:∀ g o,xs ≠ []→ad=some ⟨g,o,none⟩→some g ≠ row):kw w' ad xs:=by
 rcases h with h | ⟨b,off,e,hb,hr⟩
 ·exact .inl h
 by_cases hx:xs=[]
 ·exact .inl hx
 exact .inr ⟨b,off,e,Sv hb hg.size,fun i hi=>⟨hg.cell (hr i hi).1 (hn b off hx e),hg.cell (hr i hi).2 (hn b off hx e)⟩⟩
theorem vH.grown {w w':ae} {row:Option Nat} {ad:Option Addr} {zs:List Int} (h:vH w ad zs) (hg:w.grownBy w' row) (hn:∀ g o,zs ≠ []→ad=some ⟨g,o,none⟩→some g ≠ row):vH w' ad zs:=by
 rcases h with h | ⟨b,off,e,hb,hr⟩
 ·exact .inl h
 by_cases hx:zs=[]
 ·exact .inl hx
 exact .inr ⟨b,off,e,Sv hb hg.size,fun i hi=>hg.cell (hr i hi) (hn b off hx e)⟩
structure Beside (w:ae) (v:Value) (q:ER):Prop where
 ok:q.ok w
 zA:q.e.allow ≠ []→∃ g,q.adA=some ⟨g,0,none⟩
 zK:q.e.kids ≠ []→∃ g,q.adK=some ⟨g,0,none⟩
 lt:∀ g,pI q g→g < w.heap.size∧v.ownBlock ≠ some g
theorem Beside.below {w w':ae} {v:Value} {q:ER} (h:Beside w v q) (hb:af w w'):Beside w' v q :=
 ⟨h.ok.below hb,h.zA,h.zK,fun g hg=>⟨Sv (h.lt g hg).1 hb.size,(h.lt g hg).2⟩⟩
theorem Beside.grown {w w':ae} {v v':Value} {q:ER} (h:Beside w v q) (hg:w.grownBy w' v.ownBlock) (hv:v'.ownBlock=v.ownBlock ∨ v'.ownBlock=some w.heap.size):Beside w' v' q:=by
 refine ⟨⟨h.ok.1.grown hg fun g o hne e=>?_,h.ok.2.grown hg fun g o hne e=>?_⟩,h.zA,h.zK,fun g hi=>⟨Sv (h.lt g hi).1 hg.size,?_⟩⟩
 ·obtain ⟨g0,e0⟩:=h.zA hne;rw [e0] at e; injection e with e; injection e with e1 e2;subst e1;exact fun e=>(h.lt g0 (.inl ⟨hne,e0⟩)).2 e.symm
 ·obtain ⟨g0,e0⟩:=h.zK hne;rw [e0] at e; injection e with e; injection e with e1 e2;subst e1;exact fun e=>(h.lt g0 (.inr ⟨hne,e0⟩)).2 e.symm
 rcases hv with e | e
 ·rw [e]; exact (h.lt g hi).2
 rw [e]; intro e2; injection e2 with e2; have:=(h.lt g hi).1; omega
theorem Qr {w:ae} {base n:Nat} {v:Value} {qs:List ER} (h:w.ownsRow base 39 5 v n (jJ qs)) (hn:n=qs.length) (hok:∀ q ∈ qs,q.ok w):∃ ad cap,v=.slice ad qs.length cap∧jk w ad qs:=by
 subst hn;have h2:=h;rcases h.2 with ⟨rfl,h0⟩ | ⟨g,cap,cur,rfl,hbg,hg,hnc,-⟩
 ·exact ⟨none,0,by rw [h0],.inl (SX.1 h0)⟩
 have hlt:=h2.lt g rfl;refine ⟨some ⟨g,0,none⟩,cap,rfl,.inr ⟨g,0,rfl,hlt.2,fun i hi=>?_,hok⟩⟩;have hl:=vI qs;have key:∀ j,j < 5→w.cell? ⟨g,0 + i * 5 + j,none⟩=(qs[i]).row[j]?:=fun j hj=>by
  rw [h2.cellAt (0 + i * 5 + j) (by omega),← yH qs i hi j hj,Td]
 exact ⟨key 0 (by omega),key 1 (by omega),key 2 (by omega),key 3 (by omega),key 4 (by omega)⟩
theorem JW (w:ae) (q:ER):∀ j u,q.row[j]?=some u→(w.alloc (.cells #[.int .i64 q.e.kind,.slice q.adA q.e.allow.length q.capA,.string q.e.over,.string q.e.name,.slice q.adK q.e.kids.length q.capK] 39)).cell? ((⟨w.heap.size,0,none⟩:Addr).add j)=some u:=by
 intro j u hu;rw [show (⟨w.heap.size,0,none⟩:Addr).add j=⟨w.heap.size,0 + j,none⟩ by simp [Addr.add]; omega,Td];have:=World.cell?_alloc_mark w #[.int .i64 q.e.kind,.slice q.adA q.e.allow.length q.capA,.string q.e.over,.string q.e.name,.slice q.adK q.e.kids.length q.capK] 39 (0,0) j;rw [this];simpa [ER.row] using hu
theorem Mq (q:ER):∀ u ∈ q.row,u.oneCell'=true:=by
 intro u hu;simp [ER.row] at hu;rcases hu with rfl | rfl | rfl | rfl | rfl <;> rfl
set_option maxRecDepth 100000
theorem kw.heap {w w':ae} {ad:Option Addr} {xs:List Al} (h:kw w ad xs) (hs:w.heap.size≤w'.heap.size) (hz:xs ≠ []→∃ g,ad=some ⟨g,0,none⟩) (hn:∀ g,xs ≠ []→ad=some ⟨g,0,none⟩→w'.heap[g]?=w.heap[g]?):kw w' ad xs:=by
 rcases h with h | ⟨b,off,e,hb,hr⟩
 ·exact .inl h
 by_cases hx:xs=[]
 ·exact .inl hx
 obtain ⟨g,eg⟩:=hz hx;have e2:=e;rw [eg] at e; injection e with e; injection e with e1 e3;subst e1;have hh:=hn g hx eg;exact .inr ⟨g,off,e2,Sv hb hs,fun i hi=>⟨(Tc (w:=w) (a:=⟨g,_,none⟩) hh).trans (hr i hi).1,(Tc (w:=w) (a:=⟨g,_,none⟩) hh).trans (hr i hi).2⟩⟩
theorem vH.heap {w w':ae} {ad:Option Addr} {xs:List Int} (h:vH w ad xs) (hs:w.heap.size≤w'.heap.size) (hz:xs ≠ []→∃ g,ad=some ⟨g,0,none⟩) (hn:∀ g,xs ≠ []→ad=some ⟨g,0,none⟩→w'.heap[g]?=w.heap[g]?):vH w' ad xs:=by
 rcases h with h | ⟨b,off,e,hb,hr⟩
 ·exact .inl h
 by_cases hx:xs=[]
 ·exact .inl hx
 obtain ⟨g,eg⟩:=hz hx;have e2:=e;rw [eg] at e; injection e with e; injection e with e1 e3;subst e1;have hh:=hn g hx eg;exact .inr ⟨g,off,e2,Sv hb hs,fun i hi=>(Tc (w:=w) (a:=⟨g,_,none⟩) hh).trans (hr i hi)⟩
theorem qQ {w w':ae} {q:ER} (h:q.ok w) (hs:w.heap.size≤w'.heap.size) (zA:q.e.allow ≠ []→∃ g,q.adA=some ⟨g,0,none⟩) (zK:q.e.kids ≠ []→∃ g,q.adK=some ⟨g,0,none⟩) (hn:∀ g,pI q g→w'.heap[g]?=w.heap[g]?):q.ok w' :=
 ⟨h.1.heap hs zA fun g h1 h2=>hn g (.inl ⟨h1,h2⟩),h.2.heap hs zK fun g h1 h2=>hn g (.inr ⟨h1,h2⟩)⟩
theorem cu {w w':ae} {g:Nat} (h:jN w g) (hh:w'.heap[g]?=w.heap[g]?):jN w' g:=fun j=>(World.frozen?_of_block (w:=w) (a:=⟨g,j,none⟩) hh).trans (h j)
theorem jm {w w':ae} {base:Nat} {e:TypeId} {size:Nat} {v:Value} {n:Nat} {xs:List Value} (h:w.ownsRow base e size v n xs) (hh:∀ g,v.ownBlock=some g→w'.heap[g]?=w.heap[g]?):w'.ownsRow base e size v n xs:=by
 refine ⟨h.1,?_⟩;rcases h.2 with hl | ⟨g,cap,cur,rfl,h1,h2,h3⟩
 ·exact .inl hl
 exact .inr ⟨g,cap,cur,rfl,h1,(hh g rfl).trans h2,h3⟩
structure NewQ (X:Nat) (w:ae) (q:ER):Prop where
 zA:q.e.allow ≠ []→∃ g,q.adA=some ⟨g,0,none⟩
 zK:q.e.kids ≠ []→∃ g,q.adK=some ⟨g,0,none⟩
 ok:q.ok w
 lie:∀ g,pI q g→X≤g∧g < w.heap.size∧jN w g
 one:∀ g,bA q g→¬ bK q g
 cA:q.e.allow.length≤q.capA
theorem Gy (qs:List ER) (q:ER):jJ (qs ++ [q])=jJ qs ++ q.row:=by simp [jJ]
set_option linter.unusedVariables false
structure Kid {α:Type} (K:World→Nat→α→Prop) (I:α→Nat→Prop):Prop where
 heap:∀ (w w':ae) (base:Nat) (q:α),K w base q→w.heap.size≤w'.heap.size→(∀ g,I q g→w'.heap[g]?=w.heap[g]?)→K w' base q
 lt:∀ (w:ae) (base:Nat) (q:α),K w base q→∀ g,I q g→base≤g∧g < w.heap.size
def EE {α:Type} (I:α→Nat→Prop) (v:Value) (rs:List α) (g:Nat):Prop:=v.ownBlock=some g ∨ ∃ q ∈ rs,I q g
structure TN {α:Type} (T:TypeId) (size:Nat) (cells:α→List Value) (K:World→Nat→α→Prop) (I:α→Nat→Prop) (w:ae) (base:Nat) (v:Value) (rs:List α):Prop where
 own:w.ownsRow base T size v rs.length (rs.flatMap cells)
 kid:∀ q ∈ rs,K w base q
 head:∀ q ∈ rs,∀ g,I q g→v.ownBlock ≠ some g
 two:∀ (x y:Nat) (hx:x < rs.length) (hy:y < rs.length),x ≠ y→∀ g,I rs[x] g→¬ I rs[y] g
section
variable {α:Type} {T:TypeId} {size:Nat} {cells:α→List Value} {K:World→Nat→α→Prop} {I:α→Nat→Prop} {w w':ae} {base:Nat} {v:Value} {rs:List α}
theorem TN.lt (kd:Kid K I) (h:TN T size cells K I w base v rs) {g:Nat} (hg:EE I v rs g):base≤g∧g < w.heap.size:=by
 rcases hg with hg | ⟨q,hq,hg⟩
 ·exact h.own.lt g hg
 exact kd.lt w base q (h.kid q hq) g hg
theorem TN.heap (kd:Kid K I) (h:TN T size cells K I w base v rs) (hs:w.heap.size≤w'.heap.size) (hh:∀ g,EE I v rs g→w'.heap[g]?=w.heap[g]?):TN T size cells K I w' base v rs where
 own:=jm h.own fun g hg=>hh g (.inl hg)
 kid q hq:=kd.heap w w' base q (h.kid q hq) hs fun g hg=>hh g (.inr ⟨q,hq,hg⟩)
 head:=h.head
 two:=h.two
theorem TN.below (kd:Kid K I) (h:TN T size cells K I w base v rs) (hb:af w w'):TN T size cells K I w' base v rs :=
 h.heap kd hb.size fun g hg=>hb.block g (h.lt kd hg).2
theorem Ms (w:ae) (base:Nat):TN T size cells K I w base (.slice none 0 0) [] :=
 ⟨World.ownsRow_nil _ _ _ _,fun q hq=>(by cases hq),fun q hq=>(by cases hq),fun x y hx=>absurd hx (by simp)⟩
theorem EF {rs:List α} {q:α} (h:∀ (x y:Nat) (hx:x < rs.length) (hy:y < rs.length),x ≠ y→∀ g,I rs[x] g→¬ I rs[y] g) (hq:∀ p ∈ rs,∀ g,I p g→¬ I q g) :
  ∀ (x y:Nat) (hx:x < (rs ++ [q]).length) (hy:y < (rs ++ [q]).length),x ≠ y→∀ g,I (rs ++ [q])[x] g→¬ I (rs ++ [q])[y] g:=by
 intro x y hx hy hxy g h1 h2;rw [SE,List.length_singleton] at hx hy;by_cases ex:x < rs.length
 ·rw [Ta ex] at h1;by_cases ey:y < rs.length
  ·rw [Ta ey] at h2;exact h x y ex ey hxy g h1 h2
  have:y=rs.length:=by omega
  subst this;rw [Tf (Sy _)] at h2;simp at h2;exact hq _ (Sw ex) g h1 h2
 have:x=rs.length:=by omega
 subst this;rw [Tf (Sy _)] at h1;simp at h1;have ey:y < rs.length:=by omega
 rw [Ta ey] at h2;exact hq _ (Sw ey) g h2 h1
theorem Mt {rs:List α} {q:α} (h:∀ (x y:Nat) (hx:x < (rs ++ [q]).length) (hy:y < (rs ++ [q]).length),x ≠ y→∀ g,I (rs ++ [q])[x] g→¬ I (rs ++ [q])[y] g) :
  (∀ (x y:Nat) (hx:x < rs.length) (hy:y < rs.length),x ≠ y→∀ g,I rs[x] g→¬ I rs[y] g)∧∀ p ∈ rs,∀ g,I p g→¬ I q g:=by
 refine ⟨fun x y hx hy hxy g h1 h2=>?_,fun p hp g h1 h2=>?_⟩
 ·exact h x y (by simp; omega) (by simp; omega) hxy g (by rw [Ta hx]; exact h1) (by rw [Ta hy]; exact h2)
 obtain ⟨x,hx,rfl⟩:=Tv hp;exact h x rs.length (by simp; omega) (by simp) (by omega) g (by rw [Ta hx]; exact h1) (by rw [Tf (Sy _)]; simpa using h2)
theorem TN.snoc (kd:Kid K I) (h:TN T size cells K I w base v rs) {q:α} {v':Value} (hown:w'.ownsRow base T size v' (rs.length + 1) (rs.flatMap cells ++ cells q)) (hg:w.grownBy w' v.ownBlock) (hat:v'.ownBlock=v.ownBlock ∨ ∃ g,v'.ownBlock=some g∧w.heap.size≤g)
  (hq:K w base q) (hv:∀ g,I q g→v.ownBlock ≠ some g) (hr:∀ p ∈ rs,∀ g,I p g→¬ I q g):TN T size cells K I w' base v' (rs ++ [q]):=by
 have keep:∀ (p:α),K w base p→(∀ g,I p g→v.ownBlock ≠ some g)→K w' base p:=fun p hp hn=>kd.heap w w' base p hp hg.size fun g hi=>hg.block g (kd.lt w base p hp g hi).2 (fun e=>hn g hi e.symm);have apart:∀ (p:α),K w base p→(∀ g,I p g→v.ownBlock ≠ some g)→∀ g,I p g→v'.ownBlock ≠ some g:=fun p hp hn g hi=>by
  rcases hat with e | ⟨g',e,hge⟩
  ·rw [e]; exact hn g hi
  rw [e]; intro e2; injection e2 with e2; have:=(kd.lt w base p hp g hi).2; omega
 refine ⟨by simpa using hown,fun p hp=>?_,fun p hp=>?_,EF h.two hr⟩
 ·rcases SI.1 hp with hp | hp
  ·exact keep p (h.kid p hp) (h.head p hp)
  rw [SG] at hp; subst hp; exact keep _ hq hv
 rcases SI.1 hp with hp | hp
 ·exact apart p (h.kid p hp) (h.head p hp)
 rw [SG] at hp; subst hp; exact apart _ hq hv
theorem TN.last (kd:Kid K I) {xs:List α} {q q':α} {b n cap j:Nat} {u:Value} {w1:ae} {row:Option Nat} (h:TN T size cells K I w base (.slice (some ⟨b,0,none⟩) n cap) (xs ++ [q])) (hn:n=xs.length + 1)
  (hg:w.grownBy w1 row) (hrow:∀ r,row=some r→I q r) (hq':K w1 base q') (hI:∀ g,I q' g→I q g ∨ (g ≠ b∧∀ p ∈ xs,¬ I p g)) (hset:((xs ++ [q]).flatMap cells).set j u=(xs ++ [q']).flatMap cells) :
  TN T size cells K I (w1.setCell ⟨b,j,none⟩ u) base (.slice (some ⟨b,0,none⟩) n cap) (xs ++ [q']):=by
 have hbl:b < w.heap.size:=(h.own.lt b rfl).2;have hq:=h.kid q (by simp);have Yf:∀ g,I q g→g ≠ b:=fun g hi e=>h.head q (by simp) g hi (by rw [e]; rfl);have hq'b:∀ g,I q' g→g ≠ b:=fun g hi e=>by
  rcases hI g hi with h2 | h2
  ·exact Yf g h2 e
  exact h2.1 e
 have hb1:w1.heap[b]?=w.heap[b]?:=hg.block b hbl (fun e=>Yf b (hrow b e.symm) rfl);have XJ:w1.ownsRow base T size (.slice (some ⟨b,0,none⟩) n cap) (xs ++ [q]).length ((xs ++ [q]).flatMap cells):=jm h.own fun g hgo=>by
  have e:b=g:=by simpa [Value.ownBlock] using hgo
  rw [← e]; exact hb1
 have hlen:(xs ++ [q]).length=n:=by simp [hn]
 rw [hlen] at XJ;obtain ⟨WC,hg2⟩:=XJ.stored j u;rw [hset] at WC;obtain ⟨ht1,ht2⟩:=Mt h.two;have h2s:∀ g,g ≠ b→(w1.setCell ⟨b,j,none⟩ u).heap[g]?=w1.heap[g]?:=fun g hne=>Below.heap_setCell w1 _ u g hne;refine ⟨by simpa [hn] using WC,fun p hp=>?_,fun p hp g hi=>?_,EF ht1 fun p hp g hi hi'=>?_⟩
 ·rcases SI.1 hp with hp | hp
  ·have hkp:=h.kid p (by simp [hp]);refine kd.heap w _ base p hkp (SF hg.size hg2.size) fun g hi=>?_;have hl:=(kd.lt w base p hkp g hi).2;rw [h2s g (fun e=>h.head p (by simp [hp]) g hi (by rw [e]; rfl))];exact hg.block g hl (fun e=>ht2 p hp g hi (hrow g e.symm))
  rw [SG] at hp; subst hp;exact kd.heap w1 _ base _ hq' hg2.size fun g hi=>h2s g (hq'b g hi)
 ·intro e;have e:b=g:=by simpa [Value.ownBlock] using e
  rcases SI.1 hp with hp | hp
  ·exact h.head p (by simp [hp]) g hi (by rw [← e]; rfl)
  rw [SG] at hp; subst hp;exact hq'b g hi e.symm
 rcases hI g hi' with h2 | h2
 ·exact ht2 p hp g hi h2
 exact h2.2 p hp hi
end
structure NodM (w:ae) (base:Nat) (v:Value) (qs:List ER):Prop where
 own:w.ownsRow base 39 5 v qs.length (jJ qs)
 zA:∀ q ∈ qs,q.e.allow ≠ []→∃ g,q.adA=some ⟨g,0,none⟩
 zK:∀ q ∈ qs,q.e.kids ≠ []→∃ g,q.adK=some ⟨g,0,none⟩
 ok:∀ q ∈ qs,q.ok w
 lie:∀ q ∈ qs,∀ g,pI q g→base≤g∧g < w.heap.size∧jN w g∧v.ownBlock ≠ some g
 one:∀ q ∈ qs,∀ g,bA q g→¬ bK q g
 two:∀ (x y:Nat) (hx:x < qs.length) (hy:y < qs.length),x ≠ y→∀ g,pI qs[x] g→¬ pI qs[y] g
 cA:∀ q ∈ qs,q.e.allow.length≤q.capA
theorem NodM.mono {w:ae} {base base':Nat} {v:Value} {qs:List ER} (h:NodM w base v qs) (hb:base'≤base):NodM w base' v qs :=
 ⟨⟨h.own.1,by
  rcases h.own.2 with hl | ⟨g,cap,cur,e,h1,h2⟩
  ·exact .inl hl
  exact .inr ⟨g,cap,cur,e,SF hb h1,h2⟩⟩,h.zA,h.zK,h.ok,fun q hq g hg=>⟨SF hb (h.lie q hq g hg).1,(h.lie q hq g hg).2⟩,h.one,h.two,h.cA⟩
def RR.vs (q:RR):Value:=.slice q.ad q.rows.length q.cap
def TR.vs (q:TR):Value:=.slice q.ad q.rows.length q.cap
def kR (w:ae) (base:Nat) (q:RR):Prop:=NodM w base q.vs q.rows
def iR (q:RR):Nat→Prop:=EE pI q.vs q.rows
theorem Gz:Kid kR iR where
 heap w w' base q h hs hh:={
  own:=jm h.own fun g hg=>hh g (.inl hg)
  zA:=h.zA
  zK:=h.zK
  ok:=fun x hx=>qQ (h.ok x hx) hs (h.zA x hx) (h.zK x hx) fun g hg=>hh g (.inr ⟨x,hx,hg⟩)
  lie:=fun x hx g hg=>by
   obtain ⟨a1,a2,a3,a4⟩:=h.lie x hx g hg;exact ⟨a1,Sv a2 hs,cu a3 (hh g (.inr ⟨x,hx,hg⟩)),a4⟩
  one:=h.one
  two:=h.two
  cA:=h.cA }
 lt w base q h g hg:=by
  rcases hg with hg | ⟨x,hx,hg⟩
  ·exact h.own.lt g hg
  exact ⟨(h.lie x hx g hg).1,(h.lie x hx g hg).2.1⟩
def RR.cells (q:RR):List Value:=[.string q.name,q.vs]
def TR.cells (q:TR):List Value:=[.string q.name,q.vs]
abbrev Bd:=TN 147 2 RR.cells kR iR
def kT (w:ae) (base:Nat) (q:TR):Prop:=Bd w base q.vs q.rows
def iT (q:TR):Nat→Prop:=EE iR q.vs q.rows
theorem mE:Kid kT iT where
 heap w w' base q h hs hh:=TN.heap Gz h hs hh
 lt w base q h g hg:=TN.lt Gz h hg
abbrev ig:=TN 127 2 TR.cells kT iT
theorem qR {α:Type} {cells:α→List Value} (h2:∀ q,(cells q).length=2):∀ (rs:List α) (i:Nat) (h:i < rs.length) (j:Nat),j < 2→(rs.flatMap cells)[i * 2 + j]?=(cells rs[i])[j]?
 | [],i,h,_,_=>by simp at h
 | r::rs,0,_,j,hj=>by
  simp only [List.flatMap_cons,Nat.zero_mul,Td,List.getElem_cons_zero];rw [List.getElem?_append_left (by rw [h2]; exact hj)]
 | r::rs,i + 1,h,j,hj=>by
  have:=qR h2 rs i (by simpa using h) j hj;simp only [List.flatMap_cons,List.getElem_cons_succ];rw [List.getElem?_append_right (by rw [h2]; omega),h2,← this];congr 1;omega
theorem oz {α:Type} {cells:α→List Value} (h2:∀ q,(cells q).length=2):∀ (rs:List α),(rs.flatMap cells).length=rs.length * 2
 | []=>rfl
 | r::rs=>by simp only [List.flatMap_cons,SE,h2,oz h2 rs,List.length_cons]; omega
theorem QN {w:ae} {base:Nat} {q:TR} (h:kT w base q):Mj w q.ad q.rows:=by
 by_cases hz:q.rows=[]
 ·exact .inl hz
 rcases h.own.2 with ⟨-,h0⟩ | ⟨g,cap,cur,e,-⟩
 ·exact absurd (SX.1 h0) hz
 have h3:=h.own;unfold TR.vs at e h3;injection e with e1 e2 e3;rw [e1] at h3;refine .inr ⟨g,0,e1,(h3.lt g rfl).2,fun i hi=>?_,fun r hr=>?_⟩
 ·have hl:(q.rows.flatMap RR.cells).length=q.rows.length * 2:=oz (fun _=>rfl) _;have key:∀ j,j < 2→w.cell? ⟨g,0 + i * 2 + j,none⟩=(RR.cells q.rows[i])[j]?:=fun j hj=>by
   rw [h3.cellAt (0 + i * 2 + j) (by omega),← qR (fun _=>rfl) q.rows i hi j hj,Td]
  exact ⟨key 0 (by omega),key 1 (by omega)⟩
 have hk:=h.kid r hr;obtain ⟨ad,cap',e4,hsl⟩:=Qr hk.own rfl hk.ok;unfold RR.vs at e4;injection e4 with e5 e6 e7;show jk w r.ad r.rows;rw [e5]; exact hsl
theorem Mv {w:ae} {base size n cap:Nat} {e:TypeId} {ad:Option Addr} {xs:List Value} (h:w.ownsRow base e size (.slice ad n cap) n xs):n≤cap:=by
 rcases h.2 with ⟨e1,h0⟩ | ⟨g,cap',cur,e1,-,-,hnc,-⟩
 ·injection e1 with _ e2 e3; omega
 injection e1 with _ e2 e3; omega
theorem ig.read {w:ae} {base:Nat} {v:Value} {rs:List TR} (h:ig w base v rs):∃ ad cap,v=.slice ad rs.length cap∧mD w ad rs∧∀ r ∈ rs,r.caps:=by
 have hc:∀ r ∈ rs,r.caps:=fun r hr=>⟨Mv (h.kid r hr).own,fun q hq=>⟨Mv ((h.kid r hr).kid q hq).own,((h.kid r hr).kid q hq).cA⟩⟩;rcases h.own.2 with ⟨rfl,h0⟩ | ⟨g,cap,cur,rfl,-⟩
 ·exact ⟨none,0,by rw [h0],.inl (SX.1 h0),hc⟩
 have h3:=h.own;refine ⟨some ⟨g,0,none⟩,cap,rfl,.inr ⟨g,0,rfl,(h3.lt g rfl).2,fun i hi=>?_,fun r hr=>QN (h.kid r hr)⟩,hc⟩;have hl:(rs.flatMap TR.cells).length=rs.length * 2:=oz (fun _=>rfl) _;have key:∀ j,j < 2→w.cell? ⟨g,0 + i * 2 + j,none⟩=(TR.cells rs[i])[j]?:=fun j hj=>by
  rw [h3.cellAt (0 + i * 2 + j) (by omega),← qR (fun _=>rfl) rs i hi j hj,Td]
 exact ⟨key 0 (by omega),key 1 (by omega)⟩
def jo (x y:Al):Bool:=x.t.toList == y.t.toList && x.s.toList == y.s.toList
def EG (a:Al):Bool:=aQ a.t && tY a.s
def dI (xs:List Al) (k:Nat) (a:Al):Bool:=(xs.take k).any fun x=>jo x a
theorem oC (xs:List Al) (k:Nat) (a:Al) (h:k < xs.length):dI xs (k + 1) a=(dI xs k a || jo xs[k] a):=by
 unfold dI; rw [SA h,List.any_append]; simp
theorem oD (xs:List Al) (a:Al):dI xs 0 a=false:=by simp [dI]
def Be (xs:List Al):Nat→Bool
 | 0=>true
 | k + 1=>Be xs k && (xs[k]?.map fun a=>EG a && !dI xs k a).getD true
theorem uf (xs:List Al) (k:Nat) (h:k < xs.length):Be xs (k + 1)=(Be xs k && (EG xs[k] && !dI xs k xs[k])):=by
 simp [Be,h]
theorem mH (xs:List Al) (k:Nat) (h:k < xs.length) (hb:(EG xs[k] && !dI xs k xs[k])=false):∀ n,k < n→Be xs n=false
 | 0,hn=>by omega
 | n + 1,hn=>by
  by_cases e:n=k
  ·subst e; rw [uf _ _ h,hb]; simp
  simp [Be,mH xs k h hb n (by omega)]
def dR (xs:List Al):Bool:=decide (1≤xs.length) && decide (xs.length≤6) && Be xs xs.length
def ay (e:Ex):Bool :=
 if e.kind=1 then dR e.allow && e.over.toList.isEmpty && e.name.toList.isEmpty && decide (e.kids.length=0)
 else if e.kind=2 then aQ e.name && decide (e.allow.length=0) && e.over.toList.isEmpty && decide (e.kids.length=0)
 else if e.kind=3 then aQ e.over && aQ e.name && decide (e.allow.length=0) && decide (e.kids.length=0)
 else if e.kind=4 ∨ e.kind=5 then decide (2≤e.kids.length) && decide (e.kids.length≤5) && decide (e.allow.length=0) && e.over.toList.isEmpty && e.name.toList.isEmpty
 else if e.kind=6 then decide (e.kids.length=2) && decide (e.allow.length=0) && e.over.toList.isEmpty && e.name.toList.isEmpty
 else false
def dE (f:Int→Int):List Int→Int→Int
 | [],at'=>at' + 1
 | k::ks,at'=>if at' < 0 ∨ k ≠ at' then -1 else if f at' < 0 then -1 else dE f ks (f at' - 1)
def lN (es:List Ex) (n:Nat):List Int:=(es[n]?.map Ex.kids).getD []
def aH (es:List Ex) (n:Nat):Int:=dE (fun x=>if _h:0≤x∧x.toNat < n then aH es x.toNat else -1) (lN es n).reverse ((n:Int) - 1)
def dQ (es:List Ex) (n:Nat) (x:Int):Int:=if 0≤x∧x.toNat < n then aH es x.toNat else -1
theorem jO (es:List Ex) (n:Nat):aH es n=dE (dQ es n) (lN es n).reverse ((n:Int) - 1):=by
 rw [aH];rfl
theorem BD {f:Int→Int} (hf:∀ x,0≤x→f x≤x):∀ (ks:List Int) (a:Int),-1≤a→dE f ks a≤a + 1
 | [],a,_=>by simp [dE]
 | k::ks,a,ha=>by
  unfold dE;split
  ·omega
  rename_i h;split
  ·omega
  rename_i h2;have h0:0≤a:=by omega
  have:=BD hf ks (f a - 1) (by omega);have:=hf a h0;omega
theorem nD (es:List Ex) (n:Nat):aH es n≤n:=by
 induction n using Nat.strongRecOn with
 | ind n ih =>
  rw [jO];have:=BD (f:=dQ es n) (fun x hx=>by
   unfold dQ;split
   ·rename_i h; have:=ih x.toNat h.2; omega
   omega) (lN es n).reverse ((n:Int) - 1) (by omega)
  omega
theorem Mw (es:List Ex) (n:Nat) (x:Int) (hx:0≤x):dQ es n x≤x:=by
 unfold dQ;split
 ·have:=nD es x.toNat; omega
 omega
theorem rU {es:List Ex} {n:Nat} (ih:∀ m,m < n→0≤aH es m→∀ j:Nat,aH es m≤j→j≤m→0≤aH es j) :
  ∀ (ks:List Int) (a:Int),a < n→0≤dE (dQ es n) ks a→∀ j:Nat,dE (dQ es n) ks a≤j→(j:Int)≤a→0≤aH es j
 | [],a,ha,h,j,h1,h2=>by simp [dE] at h1; omega
 | k::ks,a,ha,h,j,h1,h2=>by
  unfold dE at h h1;split at h
  ·omega
  rename_i c;rw [if_neg c] at h1;split at h
  ·omega
  rename_i c2;rw [if_neg c2] at h1;have h0:0≤a:=by omega
  have hF:dQ es n a=aH es a.toNat:=by unfold dQ; rw [if_pos ⟨h0,by omega⟩]
  rw [hF] at h h1 c2;by_cases hj:aH es a.toNat≤j
  ·exact ih a.toNat (by omega) (by omega) j hj (by omega)
  exact rU ih ks (aH es a.toNat - 1) (by have:=nD es a.toNat; omega) h j h1 (by omega)
theorem rV (es:List Ex) (n:Nat):0≤aH es n→∀ j:Nat,aH es n≤j→j≤n→0≤aH es j:=by
 induction n using Nat.strongRecOn with
 | ind n ih =>
  intro h j h1 h2;by_cases e:j=n
  ·subst e; exact h
  rw [jO] at h h1;exact rU ih _ _ (by omega) h j h1 (by omega)
def kM (es:List Ex) (i:Nat):Bool:=(lN es i).all fun k=>decide (0≤k) && decide (k≤(i:Int) - 1)
theorem wV {es:List Ex} {n:Nat}:∀ (ks:List Int) (a:Int),a < n→0≤dE (dQ es n) ks a→∀ k ∈ ks,0≤k∧k≤a
 | [],_,_,_,k,hk=>by cases hk
 | x::ks,a,ha,h,k,hk=>by
  unfold dE at h;split at h
  ·omega
  rename_i c;split at h
  ·omega
  rename_i c2;have h0:0≤a:=by omega
  rcases List.mem_cons.1 hk with rfl | hk
  ·omega
  have hl:=Mw es n a h0;have:=wV ks (dQ es n a - 1) (by omega) h k hk;omega
theorem JX (es:List Ex) (i:Nat) (h:0≤aH es i):kM es i=true:=by
 unfold kM;rw [SQ];intro k hk;rw [jO] at h;have:=wV _ _ (by omega) h k (by simpa using hk);simp; omega
def Mx (es:List Ex) (n:Nat):Prop:=∀ j,j < n→0≤aH es j
def own (es:List Ex):Nat:=(es.filter fun e=>decide (e.kind=1)).length
def gF (es:List Ex) (k:Nat):Nat:=own (es.take k)
theorem yI (es:List Ex) (k:Nat) (h:k < es.length):gF es (k + 1)=gF es k + (if es[k].kind=1 then 1 else 0):=by
 unfold gF own;rw [SA h,Tu,SE];by_cases e:es[k].kind=1 <;> simp [e]
theorem ug (es:List Ex) (k:Nat):gF es k≤k:=by
 unfold gF own;exact SF (List.length_filter_le ..) (by simp; omega)
def jq (es:List Ex) (k:Nat):Bool:=(es.take k).all ay
theorem uh (es:List Ex) (k:Nat) (h:k < es.length):jq es (k + 1)=(jq es k && ay es[k]):=by
 unfold jq; rw [SA h,List.all_append]; simp
theorem BF (es:List Ex) (k:Nat) (h:k < es.length) (hb:ay es[k]=false):es.all ay=false:=by
 rw [Bool.eq_false_iff]; intro h2; rw [SQ] at h2; have:=h2 es[k] (Sw h); rw [hb] at this; cases this
def iZ (es:List Ex) (k:Nat):Bool:=(List.range k).all (kM es)
theorem EH (es:List Ex) (k:Nat):iZ es (k + 1)=(iZ es k && kM es k):=by simp [iZ,List.range_succ]
theorem MB (es:List Ex) (k:Nat) (h:k < es.length) (hb:kM es k=false):iZ es es.length=false:=by
 rw [Bool.eq_false_iff]; intro h2; unfold iZ at h2; rw [SQ] at h2; have:=h2 k (by simpa using h); rw [hb] at this; cases this
def aN (es:List Ex):Bool:=decide (1≤es.length) && decide (es.length≤15) && es.all ay && iZ es es.length && decide (own es≤1) && decide (aH es (es.length - 1)=0)
def jr (es:List Ex):Bool:=(List.range es.length).all fun j=>decide (0≤aH es j)
def kW (es:List Ex):Bool:=decide (1≤es.length) && decide (es.length≤15) && es.all ay && decide (own es≤1) && (jr es && decide (aH es (es.length - 1)=0))
theorem vJ (es:List Ex):aN es=kW es:=by
 by_cases h1:1≤es.length
 ·by_cases ht:aH es (es.length - 1)=0
  ·have ha:jr es=true:=by
    unfold jr;rw [SQ];intro j hj;have hj':j < es.length:=by simpa using hj
    simpa using rV es (es.length - 1) (by omega) j (by omega) (by omega)
   have hk:iZ es es.length=true:=by
    unfold iZ;rw [SQ];intro j hj;have hj':j < es.length:=by simpa using hj
    exact JX es j (rV es (es.length - 1) (by omega) j (by omega) (by omega))
   simp [aN,kW,ht,ha,hk,h1]
  simp [aN,kW,ht]
 simp [aN,kW,h1]
end Go.Proofs.YtajkkeikihhejaaGreat
