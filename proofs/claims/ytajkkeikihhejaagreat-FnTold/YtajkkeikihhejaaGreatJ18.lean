/- Lists in memory whose elements hold lists again, each in a row and in a block of its own: one more at the end, another last one. Expressions, relations and types as such lists. -/
import Derived.Test.YtajkkeikihhejaaGreatSq
import Derived.Test.YtajkkeikihhejaaGreatJ17
import Derived.Test.YtajkkeikihhejaaGreatJ12
import Derived.Sort.Grow
open Go.Proofs.Tryz
set_option maxHeartbeats 80000000
namespace Go.Proofs.YtajkkeikihhejaaGreat
set_option maxRecDepth 100000
set_option linter.unusedVariables false
open Go.ChangeShapes Go.WideShapes Go.ChangeAt Go.RowKit
open Pl
structure Kid {α:Type} (K:World→Nat→α→Prop) (I:α→Nat→Prop):Prop where
 heap:∀ (w w':World) (base:Nat) (q:α),K w base q→w.heap.size≤w'.heap.size→(∀ g,I q g→w'.heap[g]?=w.heap[g]?)→K w' base q
 lt:∀ (w:World) (base:Nat) (q:α),K w base q→∀ g,I q g→base≤g∧g < w.heap.size
def F7 {α:Type} (I:α→Nat→Prop) (v:Value) (rs:List α) (g:Nat):Prop:=v.ownBlock=some g ∨ ∃ q ∈ rs,I q g
structure UO {α:Type} (T:TypeId) (size:Nat) (cells:α→List Value) (K:World→Nat→α→Prop) (I:α→Nat→Prop) (w:World) (base:Nat) (v:Value) (rs:List α):Prop where
 own:w.ownsRow base T size v rs.length (rs.flatMap cells)
 kid:∀ q ∈ rs,K w base q
 head:∀ q ∈ rs,∀ g,I q g→v.ownBlock ≠ some g
 two:∀ (x y:Nat) (hx:x < rs.length) (hy:y < rs.length),x ≠ y→∀ g,I rs[x] g→¬ I rs[y] g
section
variable {α:Type} {T:TypeId} {size:Nat} {cells:α→List Value} {K:World→Nat→α→Prop} {I:α→Nat→Prop} {w w':World} {base:Nat} {v:Value} {rs:List α}
theorem UO.lt (kd:Kid K I) (h:UO T size cells K I w base v rs) {g:Nat} (hg:F7 I v rs g):base≤g∧g < w.heap.size:=by
 rcases hg with hg | ⟨q,hq,hg⟩
 ·exact h.own.lt g hg
 exact kd.lt w base q (h.kid q hq) g hg
theorem UO.heap (kd:Kid K I) (h:UO T size cells K I w base v rs) (hs:w.heap.size≤w'.heap.size) (hh:∀ g,F7 I v rs g→w'.heap[g]?=w.heap[g]?):UO T size cells K I w' base v rs where
 own:=jG h.own fun g hg=>hh g (.inl hg)
 kid q hq:=kd.heap w w' base q (h.kid q hq) hs fun g hg=>hh g (.inr ⟨q,hq,hg⟩)
 head:=h.head
 two:=h.two
theorem UO.below (kd:Kid K I) (h:UO T size cells K I w base v rs) (hb:ag w w'):UO T size cells K I w' base v rs :=
 h.heap kd hb.size fun g hg=>hb.block g (h.lt kd hg).2
theorem Ov (w:af) (base:Nat):UO T size cells K I w base (.slice none 0 0) [] :=
 ⟨World.ownsRow_nil _ _ _ _,fun q hq=>(by cases hq),fun q hq=>(by cases hq),fun x y hx=>absurd hx (by simp)⟩
theorem F8 {rs:List α} {q:α} (h:∀ (x y:Nat) (hx:x < rs.length) (hy:y < rs.length),x ≠ y→∀ g,I rs[x] g→¬ I rs[y] g) (hq:∀ p ∈ rs,∀ g,I p g→¬ I q g) :
  ∀ (x y:Nat) (hx:x < (rs ++ [q]).length) (hy:y < (rs ++ [q]).length),x ≠ y→∀ g,I (rs ++ [q])[x] g→¬ I (rs ++ [q])[y] g:=by
 intro x y hx hy hxy g h1 h2;rw [T9,List.length_singleton] at hx hy;by_cases ex:x < rs.length
 ·rw [Uk ex] at h1;by_cases ey:y < rs.length
  ·rw [Uk ey] at h2;exact h x y ex ey hxy g h1 h2
  have:y=rs.length:=by omega
  subst this;rw [Ur (TS _)] at h2;simp at h2;exact hq _ (TQ ex) g h1 h2
 have:x=rs.length:=by omega
 subst this;rw [Ur (TS _)] at h1;simp at h1;have ey:y < rs.length:=by omega
 rw [Uk ey] at h2;exact hq _ (TQ ey) g h2 h1
theorem Ow {rs:List α} {q:α} (h:∀ (x y:Nat) (hx:x < (rs ++ [q]).length) (hy:y < (rs ++ [q]).length),x ≠ y→∀ g,I (rs ++ [q])[x] g→¬ I (rs ++ [q])[y] g) :
  (∀ (x y:Nat) (hx:x < rs.length) (hy:y < rs.length),x ≠ y→∀ g,I rs[x] g→¬ I rs[y] g)∧∀ p ∈ rs,∀ g,I p g→¬ I q g:=by
 refine ⟨fun x y hx hy hxy g h1 h2=>?_,fun p hp g h1 h2=>?_⟩
 ·exact h x y (by simp; omega) (by simp; omega) hxy g (by rw [Uk hx]; exact h1) (by rw [Uk hy]; exact h2)
 obtain ⟨x,hx,rfl⟩:=Uu hp;exact h x rs.length (by simp; omega) (by simp) (by omega) g (by rw [Uk hx]; exact h1) (by rw [Ur (TS _)]; simpa using h2)
theorem UO.snoc (kd:Kid K I) (h:UO T size cells K I w base v rs) {q:α} {v':Value} (hown:w'.ownsRow base T size v' (rs.length + 1) (rs.flatMap cells ++ cells q)) (hg:w.grownBy w' v.ownBlock) (hat:v'.ownBlock=v.ownBlock ∨ ∃ g,v'.ownBlock=some g∧w.heap.size≤g)
  (hq:K w base q) (hv:∀ g,I q g→v.ownBlock ≠ some g) (hr:∀ p ∈ rs,∀ g,I p g→¬ I q g):UO T size cells K I w' base v' (rs ++ [q]):=by
 have keep:∀ (p:α),K w base p→(∀ g,I p g→v.ownBlock ≠ some g)→K w' base p:=fun p hp hn=>kd.heap w w' base p hp hg.size fun g hi=>hg.block g (kd.lt w base p hp g hi).2 (fun e=>hn g hi e.symm);have apart:∀ (p:α),K w base p→(∀ g,I p g→v.ownBlock ≠ some g)→∀ g,I p g→v'.ownBlock ≠ some g:=fun p hp hn g hi=>by
  rcases hat with e | ⟨g',e,hge⟩
  ·rw [e]; exact hn g hi
  rw [e]; intro e2; injection e2 with e2; have:=(kd.lt w base p hp g hi).2; omega
 refine ⟨by simpa using hown,fun p hp=>?_,fun p hp=>?_,F8 h.two hr⟩
 ·rcases Uc.1 hp with hp | hp
  ·exact keep p (h.kid p hp) (h.head p hp)
  rw [Ua] at hp; subst hp; exact keep _ hq hv
 rcases Uc.1 hp with hp | hp
 ·exact apart p (h.kid p hp) (h.head p hp)
 rw [Ua] at hp; subst hp; exact apart _ hq hv
theorem UO.last (kd:Kid K I) {xs:List α} {q q':α} {b n cap j:Nat} {u:Value} {w1:af} {row:Option Nat} (h:UO T size cells K I w base (.slice (some ⟨b,0,none⟩) n cap) (xs ++ [q])) (hn:n=xs.length + 1)
  (hg:w.grownBy w1 row) (hrow:∀ r,row=some r→I q r) (hq':K w1 base q') (hI:∀ g,I q' g→I q g ∨ (g ≠ b∧∀ p ∈ xs,¬ I p g)) (hset:((xs ++ [q]).flatMap cells).set j u=(xs ++ [q']).flatMap cells) :
  UO T size cells K I (w1.setCell ⟨b,j,none⟩ u) base (.slice (some ⟨b,0,none⟩) n cap) (xs ++ [q']):=by
 have hbl:b < w.heap.size:=(h.own.lt b rfl).2;have hq:=h.kid q (by simp);have YX:∀ g,I q g→g ≠ b:=fun g hi e=>h.head q (by simp) g hi (by rw [e]; rfl);have hq'b:∀ g,I q' g→g ≠ b:=fun g hi e=>by
  rcases hI g hi with h2 | h2
  ·exact YX g h2 e
  exact h2.1 e
 have hb1:w1.heap[b]?=w.heap[b]?:=hg.block b hbl (fun e=>YX b (hrow b e.symm) rfl);have YA:w1.ownsRow base T size (.slice (some ⟨b,0,none⟩) n cap) (xs ++ [q]).length ((xs ++ [q]).flatMap cells):=jG h.own fun g hgo=>by
  have e:b=g:=by simpa [Value.ownBlock] using hgo
  rw [← e]; exact hb1
 have hlen:(xs ++ [q]).length=n:=by simp [hn]
 rw [hlen] at YA;obtain ⟨Xu,hg2⟩:=YA.stored j u;rw [hset] at Xu;obtain ⟨ht1,ht2⟩:=Ow h.two;have h2s:∀ g,g ≠ b→(w1.setCell ⟨b,j,none⟩ u).heap[g]?=w1.heap[g]?:=fun g hne=>Below.heap_setCell w1 _ u g hne;refine ⟨by simpa [hn] using Xu,fun p hp=>?_,fun p hp g hi=>?_,F8 ht1 fun p hp g hi hi'=>?_⟩
 ·rcases Uc.1 hp with hp | hp
  ·have hkp:=h.kid p (by simp [hp]);refine kd.heap w _ base p hkp (TZ hg.size hg2.size) fun g hi=>?_;have hl:=(kd.lt w base p hkp g hi).2;rw [h2s g (fun e=>h.head p (by simp [hp]) g hi (by rw [e]; rfl))];exact hg.block g hl (fun e=>ht2 p hp g hi (hrow g e.symm))
  rw [Ua] at hp; subst hp;exact kd.heap w1 _ base _ hq' hg2.size fun g hi=>h2s g (hq'b g hi)
 ·intro e;have e:b=g:=by simpa [Value.ownBlock] using e
  rcases Uc.1 hp with hp | hp
  ·exact h.head p (by simp [hp]) g hi (by rw [← e]; rfl)
  rw [Ua] at hp; subst hp;exact hq'b g hi e.symm
 rcases hI g hi' with h2 | h2
 ·exact ht2 p hp g hi h2
 exact h2.2 p hp hi
end
structure NodM (w:World) (base:Nat) (v:Value) (qs:List ER):Prop where
 own:w.ownsRow base 39 5 v qs.length (gZ qs)
 zA:∀ q ∈ qs,q.e.allow ≠ []→∃ g,q.adA=some ⟨g,0,none⟩
 zK:∀ q ∈ qs,q.e.kids ≠ []→∃ g,q.adK=some ⟨g,0,none⟩
 ok:∀ q ∈ qs,q.ok w
 lie:∀ q ∈ qs,∀ g,oJ q g→base≤g∧g < w.heap.size∧gY w g∧v.ownBlock ≠ some g
 one:∀ q ∈ qs,∀ g,bA q g→¬ bK q g
 two:∀ (x y:Nat) (hx:x < qs.length) (hy:y < qs.length),x ≠ y→∀ g,oJ qs[x] g→¬ oJ qs[y] g
 cA:∀ q ∈ qs,q.e.allow.length≤q.capA
theorem NodM.mono {w:af} {base base':Nat} {v:Value} {qs:List ER} (h:NodM w base v qs) (hb:base'≤base):NodM w base' v qs :=
 ⟨⟨h.own.1,by
  rcases h.own.2 with hl | ⟨g,cap,cur,e,h1,h2⟩
  ·exact .inl hl
  exact .inr ⟨g,cap,cur,e,TZ hb h1,h2⟩⟩,h.zA,h.zK,h.ok,fun q hq g hg=>⟨TZ hb (h.lie q hq g hg).1,(h.lie q hq g hg).2⟩,h.one,h.two,h.cA⟩
def RR.vs (q:RR):Value:=.slice q.ad q.rows.length q.cap
def TR.vs (q:TR):Value:=.slice q.ad q.rows.length q.cap
def kR (w:World) (base:Nat) (q:RR):Prop:=NodM w base q.vs q.rows
def iR (q:RR):Nat→Prop:=F7 oJ q.vs q.rows
theorem IQ:Kid kR iR where
 heap w w' base q h hs hh:={
  own:=jG h.own fun g hg=>hh g (.inl hg)
  zA:=h.zA
  zK:=h.zK
  ok:=fun x hx=>rD (h.ok x hx) hs (h.zA x hx) (h.zK x hx) fun g hg=>hh g (.inr ⟨x,hx,hg⟩)
  lie:=fun x hx g hg=>by
   obtain ⟨a1,a2,a3,a4⟩:=h.lie x hx g hg;exact ⟨a1,TP a2 hs,dh a3 (hh g (.inr ⟨x,hx,hg⟩)),a4⟩
  one:=h.one
  two:=h.two
  cA:=h.cA }
 lt w base q h g hg:=by
  rcases hg with hg | ⟨x,hx,hg⟩
  ·exact h.own.lt g hg
  exact ⟨(h.lie x hx g hg).1,(h.lie x hx g hg).2.1⟩
def RR.cells (q:RR):List Value:=[.string q.name,q.vs]
def TR.cells (q:TR):List Value:=[.string q.name,q.vs]
abbrev BF:=UO 147 2 RR.cells kR iR
def kT (w:World) (base:Nat) (q:TR):Prop:=BF w base q.vs q.rows
def iT (q:TR):Nat→Prop:=F7 iR q.vs q.rows
theorem mH:Kid kT iT where
 heap w w' base q h hs hh:=UO.heap IQ h hs hh
 lt w base q h g hg:=UO.lt IQ h hg
abbrev iL:=UO 127 2 TR.cells kT iT
theorem rE {α:Type} {cells:α→List Value} (h2:∀ q,(cells q).length=2):∀ (rs:List α) (i:Nat) (h:i < rs.length) (j:Nat),j < 2→(rs.flatMap cells)[i * 2 + j]?=(cells rs[i])[j]?
 | [],i,h,_,_=>by simp at h
 | r::rs,0,_,j,hj=>by
  simp only [List.flatMap_cons,Nat.zero_mul,Um,List.getElem_cons_zero];rw [List.getElem?_append_left (by rw [h2]; exact hj)]
 | r::rs,i + 1,h,j,hj=>by
  have:=rE h2 rs i (by simpa using h) j hj;simp only [List.flatMap_cons,List.getElem_cons_succ];rw [List.getElem?_append_right (by rw [h2]; omega),h2,← this];congr 1;omega
theorem o9 {α:Type} {cells:α→List Value} (h2:∀ q,(cells q).length=2):∀ (rs:List α),(rs.flatMap cells).length=rs.length * 2
 | []=>rfl
 | r::rs=>by simp only [List.flatMap_cons,T9,h2,o9 h2 rs,List.length_cons]; omega
theorem Sn {w:af} {base:Nat} {q:TR} (h:kT w base q):M8 w q.ad q.rows:=by
 by_cases hz:q.rows=[]
 ·exact .inl hz
 rcases h.own.2 with ⟨-,h0⟩ | ⟨g,cap,cur,e,-⟩
 ·exact absurd (Ui.1 h0) hz
 have h3:=h.own;unfold TR.vs at e h3;injection e with e1 e2 e3;rw [e1] at h3;refine .inr ⟨g,0,e1,(h3.lt g rfl).2,fun i hi=>?_,fun r hr=>?_⟩
 ·have hl:(q.rows.flatMap RR.cells).length=q.rows.length * 2:=o9 (fun _=>rfl) _;have key:∀ j,j < 2→w.cell? ⟨g,0 + i * 2 + j,none⟩=(RR.cells q.rows[i])[j]?:=fun j hj=>by
   rw [h3.cellAt (0 + i * 2 + j) (by omega),← rE (fun _=>rfl) q.rows i hi j hj,Um]
  exact ⟨key 0 (by omega),key 1 (by omega)⟩
 have hk:=h.kid r hr;obtain ⟨ad,cap',e4,hsl⟩:=RF hk.own rfl hk.ok;unfold RR.vs at e4;injection e4 with e5 e6 e7;show iH w r.ad r.rows;rw [e5]; exact hsl
theorem Ox {w:af} {base size n cap:Nat} {e:TypeId} {ad:Option Addr} {xs:List Value} (h:w.ownsRow base e size (.slice ad n cap) n xs):n≤cap:=by
 rcases h.2 with ⟨e1,h0⟩ | ⟨g,cap',cur,e1,-,-,hnc,-⟩
 ·injection e1 with _ e2 e3; omega
 injection e1 with _ e2 e3; omega
theorem iL.read {w:af} {base:Nat} {v:Value} {rs:List TR} (h:iL w base v rs):∃ ad cap,v=.slice ad rs.length cap∧kW w ad rs∧∀ r ∈ rs,r.caps:=by
 have hc:∀ r ∈ rs,r.caps:=fun r hr=>⟨Ox (h.kid r hr).own,fun q hq=>⟨Ox ((h.kid r hr).kid q hq).own,((h.kid r hr).kid q hq).cA⟩⟩;rcases h.own.2 with ⟨rfl,h0⟩ | ⟨g,cap,cur,rfl,-⟩
 ·exact ⟨none,0,by rw [h0],.inl (Ui.1 h0),hc⟩
 have h3:=h.own;refine ⟨some ⟨g,0,none⟩,cap,rfl,.inr ⟨g,0,rfl,(h3.lt g rfl).2,fun i hi=>?_,fun r hr=>Sn (h.kid r hr)⟩,hc⟩;have hl:(rs.flatMap TR.cells).length=rs.length * 2:=o9 (fun _=>rfl) _;have key:∀ j,j < 2→w.cell? ⟨g,0 + i * 2 + j,none⟩=(TR.cells rs[i])[j]?:=fun j hj=>by
  rw [h3.cellAt (0 + i * 2 + j) (by omega),← rE (fun _=>rfl) rs i hi j hj,Um]
 exact ⟨key 0 (by omega),key 1 (by omega)⟩
section
variable {α:Type} {T:TypeId} {size:Nat} {cells:α→List Value} {K:World→Nat→α→Prop} {I:α→Nat→Prop} {w w':World} {base:Nat} {v:Value}
theorem zZ {q q':α} {rs:List α} (hI:∀ g,I q' g→I q g) (h:∀ (x y:Nat) (hx:x < (q::rs).length) (hy:y < (q::rs).length),x ≠ y→∀ g,I (q::rs)[x] g→¬ I (q::rs)[y] g) :
  ∀ (x y:Nat) (hx:x < (q'::rs).length) (hy:y < (q'::rs).length),x ≠ y→∀ g,I (q'::rs)[x] g→¬ I (q'::rs)[y] g:=by
 intro x y hx hy hxy g h1 h2;cases x with
 | zero =>
  cases y with
  | zero=>exact hxy rfl
  | succ y=>exact h 0 (y + 1) (by simp) (by simpa using hy) (by omega) g (hI g h1) h2
 | succ x =>
  cases y with
  | zero=>exact h (x + 1) 0 (by simpa using hx) (by simp) (by omega) g h1 (hI g h2)
  | succ y=>exact h (x + 1) (y + 1) (by simpa using hx) (by simpa using hy) hxy g h1 h2
theorem UO.first (kd:Kid K I) {q q':α} {rs:List α} {b n cap j:Nat} {u:Value} (h:UO T size cells K I w base (.slice (some ⟨b,0,none⟩) n cap) (q::rs)) (hn:n=rs.length + 1)
  (hq':∀ w,K w base q→K w base q') (hI:∀ g,I q' g→I q g) (hset:((q::rs).flatMap cells).set j u=(q'::rs).flatMap cells) :
  UO T size cells K I (w.setCell ⟨b,j,none⟩ u) base (.slice (some ⟨b,0,none⟩) n cap) (q'::rs):=by
 have YA:w.ownsRow base T size (.slice (some ⟨b,0,none⟩) n cap) n ((q::rs).flatMap cells):=by have:=h.own; rwa [show (q::rs).length=n by simp [hn]] at this
 obtain ⟨Xu,hg2⟩:=YA.stored j u;rw [hset] at Xu;have hne:∀ p ∈ q::rs,∀ g,I p g→g ≠ b:=fun p hp g hi e=>h.head p hp g hi (by rw [e]; rfl);have keep:∀ p ∈ q::rs,K (w.setCell ⟨b,j,none⟩ u) base p:=fun p hp=>kd.heap w _ base p (h.kid p hp) hg2.size fun g hi=>Below.heap_setCell w _ u g (hne p hp g hi);refine ⟨by simpa [hn] using Xu,fun p hp=>?_,fun p hp g hi=>?_,zZ hI h.two⟩
 ·rcases List.mem_cons.1 hp with rfl | hp
  ·exact hq' _ (keep q (by simp))
  exact keep p (by simp [hp])
 rcases List.mem_cons.1 hp with rfl | hp
 ·exact h.head q (by simp) g (hI g hi)
 exact h.head p (by simp [hp]) g hi
theorem UO.firstIn (kd:Kid K I) {q q':α} {rs:List α} (h:UO T size cells K I w base v (q::rs)) (hs:w.heap.size≤w'.heap.size) (hh:∀ g,¬ I q g→w'.heap[g]?=w.heap[g]?) (hc:cells q'=cells q) (hk:K w' base q') (hI:∀ g,I q' g→I q g) :
  UO T size cells K I w' base v (q'::rs):=by
 refine ⟨?_,fun p hp=>?_,fun p hp g hi=>?_,zZ hI h.two⟩
 ·have h1:=jG (w':=w') h.own fun g hg=>hh g fun hi=>h.head q (by simp) g hi hg;simpa [List.flatMap_cons,hc] using h1
 ·rcases List.mem_cons.1 hp with rfl | hp
  ·exact hk
  refine kd.heap w w' base p (h.kid p (by simp [hp])) hs fun g hi=>hh g fun hq=>?_;obtain ⟨i,hi2,rfl⟩:=Uu hp;exact h.two 0 (i + 1) (by simp) (by simp; omega) (by omega) g hq hi
 rcases List.mem_cons.1 hp with rfl | hp
 ·exact h.head q (by simp) g (hI g hi)
 exact h.head p (by simp [hp]) g hi
end
def ER.asK (x:ER) (k:Int):ER:={ x with e:={ x.e with kind:=k } }
theorem NodM.kind {w:af} {base b n cap:Nat} {x:ER} {xs:List ER} (k:Int) (h:NodM w base (.slice (some ⟨b,0,none⟩) n cap) (x::xs)) (hn:n=xs.length + 1):NodM (w.setCell ⟨b,0,none⟩ (.int .i64 k)) base (.slice (some ⟨b,0,none⟩) n cap) (x.asK k::xs):=by
 have YA:w.ownsRow base 39 5 (.slice (some ⟨b,0,none⟩) n cap) n (gZ (x::xs)):=by have:=h.own; rwa [show (x::xs).length=n by simp [hn]] at this
 obtain ⟨Xu,hg2⟩:=YA.stored 0 (.int .i64 k);have hset:(gZ (x::xs)).set 0 (.int .i64 k)=gZ (x.asK k::xs):=by simp [gZ,ER.row,ER.asK]
 rw [hset] at Xu;have hb:∀ q ∈ x::xs,∀ g,oJ q g→g ≠ b:=fun q hq g hg e=>(h.lie q hq g hg).2.2.2 (by rw [e]; rfl);have hsame:∀ g,g ≠ b→(w.setCell ⟨b,0,none⟩ (.int .i64 k)).heap[g]?=w.heap[g]?:=fun g hg=>Below.heap_setCell w _ _ g hg;have hall:∀ {P:ER→Prop},(∀ q ∈ x::xs,P q)→(P x→P (x.asK k))→∀ q ∈ x.asK k::xs,P q:=fun hP hx q hq=>by
  rcases List.mem_cons.1 hq with rfl | hq
  ·exact hx (hP x (by simp))
  exact hP q (by simp [hq])
 refine ⟨by simpa [hn] using Xu,hall h.zA id,hall h.zK id,hall (P:=fun q=>q.ok _) (fun q hq=>rD (h.ok q hq) hg2.size (h.zA q hq) (h.zK q hq) fun g hg=>hsame g (hb q hq g hg)) id,hall (P:=fun q=>∀ g,oJ q g→base≤g∧g < (w.setCell ⟨b,0,none⟩ (.int .i64 k)).heap.size∧gY (w.setCell ⟨b,0,none⟩ (.int .i64 k)) g∧_) (fun q hq g hg=>by
  obtain ⟨a1,a2,a3,a4⟩:=h.lie q hq g hg;exact ⟨a1,TP a2 hg2.size,dh a3 (hsame g (hb q hq g hg)),a4⟩) id,hall h.one id,?_,hall h.cA id⟩
 exact zZ (I:=oJ) (q:=x) (q':=x.asK k) (fun g hg=>hg) h.two
theorem iL.named {w:af} {base b n cap:Nat} {t:TR} {ts:List TR} (nm:bF) (h:iL w base (.slice (some ⟨b,0,none⟩) n cap) (t::ts)) (hn:n=ts.length + 1):iL (w.setCell ⟨b,0,none⟩ (.string nm)) base (.slice (some ⟨b,0,none⟩) n cap) (({ t with name:=nm }:TR)::ts) :=
 UO.first mH h hn (fun w hk=>hk) (fun g hg=>hg) (by simp [TR.cells,TR.vs])
def TR.asK (t:TR) (q:RR) (qs:List RR) (x:ER) (xs:List ER) (k:Int):TR:={ t with rows:={ q with rows:=x.asK k::xs }::qs }
theorem iL.kind {w:af} {base b:Nat} {v:Value} {t:TR} {ts:List TR} {q:RR} {qs:List RR} {x:ER} {xs:List ER} (k:Int) (h:iL w base v (t::ts)) (ht:t.rows=q::qs) (hq:q.rows=x::xs) (hb:q.ad=some ⟨b,0,none⟩) :
  iL (w.setCell ⟨b,0,none⟩ (.int .i64 k)) base v (t.asK q qs x xs k::ts):=by
 have hkt:=h.kid t (by simp);have hR:BF w base t.vs (q::qs):=by have:=hkt; unfold kT at this; rwa [ht] at this
 have hkq:=hR.kid q (by simp);have hN:NodM w base q.vs (x::xs):=by have:=hkq; unfold kR at this; rwa [hq] at this
 have hvq:q.vs=.slice (some ⟨b,0,none⟩) (xs.length + 1) q.cap:=by unfold RR.vs; rw [hb,hq]; rfl
 rw [hvq] at hN;have hN2:=hN.kind k rfl;have hsz:w.heap.size≤(w.setCell ⟨b,0,none⟩ (.int .i64 k)).heap.size:=by simp
 have hsame:∀ g,g ≠ b→(w.setCell ⟨b,0,none⟩ (.int .i64 k)).heap[g]?=w.heap[g]?:=fun g hg=>Below.heap_setCell w _ _ g hg;have hib:iR q b:=.inl (by rw [hvq]; rfl);have hvq2:({ q with rows:=x.asK k::xs }:RR).vs=q.vs:=by unfold RR.vs; rw [hq]; rfl
 have Y0:∀ g,iR { q with rows:=x.asK k::xs } g→iR q g:=fun g hg=>by
  rcases hg with hg | ⟨y,hy,hg⟩
  ·exact .inl (by rw [← hvq2]; exact hg)
  rcases List.mem_cons.1 hy with rfl | hy
  ·exact .inr ⟨x,by rw [hq]; simp,hg⟩
  exact .inr ⟨y,by rw [hq]; simp [hy],hg⟩
 have hR2:BF (w.setCell ⟨b,0,none⟩ (.int .i64 k)) base t.vs ({ q with rows:=x.asK k::xs }::qs):=UO.firstIn IQ hR hsz (fun g hg=>hsame g fun e=>hg (by rw [e]; exact hib)) (by unfold RR.cells; rw [hvq2]) (by show NodM _ _ _ _; rw [hvq2,hvq]; exact hN2) Y0;have hvt:(t.asK q qs x xs k).vs=t.vs:=by unfold TR.vs TR.asK; rw [ht]; rfl
 have hit:iT t b:=.inr ⟨q,by rw [ht]; simp,hib⟩;refine UO.firstIn mH h hsz (fun g hg=>hsame g fun e=>hg (by rw [e]; exact hit)) (by unfold TR.cells; rw [hvt]; rfl) (by show BF _ _ _ _; rw [hvt]; exact hR2) fun g hg=>?_;rcases hg with hg | ⟨y,hy,hg⟩
 ·exact .inl (by rw [← hvt]; exact hg)
 rcases List.mem_cons.1 hy with rfl | hy
 ·exact .inr ⟨q,by rw [ht]; simp,Y0 g hg⟩
 exact .inr ⟨y,by rw [ht]; simp [hy],hg⟩
open Go.Maps
set_option maxRecDepth 8000 in
theorem Lu (b off cap:Nat) (ts:List Tp) (t:Tp) (w:af) (hlen:ts.length≤1000) (hcap:ts.length≤cap) (hs:kJ w b off ts) (hb:b < w.heap.size) (hf:∀ x ∈ ts,x.fits) (ht:t.fits) :
  Calls prog 129 #[.slice (some ⟨b,off,none⟩) ts.length cap,.agg #[.string t.a,.string t.b,.string t.r,.string t.c,.string t.d,.string t.s]] w fun e w'=>∃ v:Value,e=.returned v∧w'.ownsRow w.heap.size 46 6 v (jL ts t).length (bH (jL ts t))∧ag w w':=by
 obtain ⟨iT,hiT,zT0,zT1,zT2⟩:=info_parts (P:=prog) (e:=46) (z:=.agg #[.string ⟨#[]⟩,.string ⟨#[]⟩,.string ⟨#[]⟩,.string ⟨#[]⟩,.string ⟨#[]⟩,.string ⟨#[]⟩]) (size:=6) (bytes:=96) (by kernel_rfl);have HIT:Hid (prog.info? 46=some iT∧iT.zero=some (.agg #[.string ⟨#[]⟩,.string ⟨#[]⟩,.string ⟨#[]⟩,.string ⟨#[]⟩,.string ⟨#[]⟩,.string ⟨#[]⟩])∧iT.size=6∧iT.bytes=96):=⟨hiT,zT0,zT1,zT2⟩;have HS:=az hs;have HF:=az hf;have HT:Hid t.fits:=ht;clear hs hf ht hiT zT0 zT1 zT2;obtain ⟨W0,hW0⟩:∃ W0,W0=w.alloc (.cells #[.string t.a,.string t.b,.string t.r,.string t.c,.string t.d,.string t.s] 46):=⟨_,rfl⟩;have HB0:=qY hW0;have HX0:Hid (tZ W0 w.heap.size t):=by show tZ _ _ _; rw [hW0]; exact El w t _
 go_enter func129,ntmps129;go_wp2;rw [← hW0];clear hW0;go_loopw [5] (fun i wr=>∃ k:Nat,k≤ts.length∧i=.int .i64 k∧Hid (∀ i (h:i < ts.length),i < k→ts[i].ahead t=true)∧Hid (ag w wr)∧Hid (tZ wr w.heap.size t)) (fun i _=>ts.length - (intOf i).toNat);case atStart=>exact ⟨0,TW _,rfl,fun i h hi=>by omega,HB0,HX0⟩
 clear HX0 HB0;obtain ⟨k,hk,rfl,HU,HB,HX⟩:=hrel;have hk1:=bB k;by_cases hlt:k < ts.length
 ·have hk2:(k:Int) < (ts.length:Int):=by omega
  obtain ⟨t0,t1,t2,t3,t4,t5⟩:=(HS.out.below HB.out hb) k hlt;obtain ⟨x0,x1,x2,x3,x4,x5,xl⟩:=HX.out;have hbr:b < wr.heap.size:=TP hb HB.out.size;obtain ⟨f0,f1,f2,f3,f4,f5⟩:=HF.out _ (TQ hlt);obtain ⟨e0,e1,e2,e3,e4,e5⟩:=HT.out;have HA:Hid (∀ W,Calls prog 137 #[.agg #[.string ts[k].a,.string ts[k].b,.string ts[k].r,.string ts[k].c,.string ts[k].d,.string ts[k].s],.agg #[.string t.a,.string t.b,.string t.r,.string t.c,.string t.d,.string t.s]] W fun e w'=>e=.returned (.bool (ts[k].ahead t))∧ag W w'):=fun W=>nD _ _ _ _ _ _ _ _ _ _ _ _ W f0 f1 f2 f3 f4 f5 e0 e1 e2 e3 e4 e5;clear f0 f1 f2 f3 f4 f5 e0 e1 e2 e3 e4 e5;have H0:wr.drew.cell? ⟨b,off + k * 6,none⟩=some (.string ts[k].a)∧wr.drew.cell? ⟨b,off + k * 6 + 1,none⟩=some (.string ts[k].b)∧wr.drew.cell? ⟨b,off + k * 6 + 2,none⟩=some (.string ts[k].r)∧wr.drew.cell? ⟨b,off + k * 6 + 3,none⟩=some (.string ts[k].c)∧wr.drew.cell? ⟨b,off + k * 6 + 4,none⟩=some (.string ts[k].d)∧wr.drew.cell? ⟨b,off + k * 6 + 5,none⟩=some (.string ts[k].s)∧wr.drew.cell? ⟨w.heap.size,0,none⟩=some (.string t.a)∧wr.drew.cell? ⟨w.heap.size,1,none⟩=some (.string t.b)∧wr.drew.cell? ⟨w.heap.size,2,none⟩=some (.string t.r)∧wr.drew.cell? ⟨w.heap.size,3,none⟩=some (.string t.c)∧wr.drew.cell? ⟨w.heap.size,4,none⟩=some (.string t.d)∧wr.drew.cell? ⟨w.heap.size,5,none⟩=some (.string t.s)∧b < wr.drew.heap.size∧w.heap.size < wr.drew.heap.size∧ag w wr.drew:=⟨t0,t1,t2,t3,t4,t5,x0,x1,x2,x3,x4,x5,hbr,xl,HB.out.drew⟩;clear t0 t1 t2 t3 t4 t5 x0 x1 x2 x3 x4 x5;generalize hq:ts[k].ahead t=q at HA;cases q;case true=>
   have HQ:Hid (ts[k].ahead t=true):=hq;clear hq;go_wp2_with fail
   go_region_held3 (fun w'=>w'.cell? ⟨b,off + k * 6,none⟩=some (.string ts[k].a)∧w'.cell? ⟨b,off + k * 6 + 1,none⟩=some (.string ts[k].b)∧w'.cell? ⟨b,off + k * 6 + 2,none⟩=some (.string ts[k].r)∧w'.cell? ⟨b,off + k * 6 + 3,none⟩=some (.string ts[k].c)∧w'.cell? ⟨b,off + k * 6 + 4,none⟩=some (.string ts[k].d)∧w'.cell? ⟨b,off + k * 6 + 5,none⟩=some (.string ts[k].s)∧w'.cell? ⟨w.heap.size,0,none⟩=some (.string t.a)∧w'.cell? ⟨w.heap.size,1,none⟩=some (.string t.b)∧w'.cell? ⟨w.heap.size,2,none⟩=some (.string t.r)∧w'.cell? ⟨w.heap.size,3,none⟩=some (.string t.c)∧w'.cell? ⟨w.heap.size,4,none⟩=some (.string t.d)∧w'.cell? ⟨w.heap.size,5,none⟩=some (.string t.s)∧b < w'.heap.size∧w.heap.size < w'.heap.size∧ag w w')
    (first | assumption | exact Ko (by assumption) hbx | exact H0)
    (first | (go_at_call 137; refine (HA.out _).mono ?_; rintro e w' ⟨rfl,hbx⟩))
   rename_i hH;obtain ⟨-,-,-,-,-,-,x0,x1,x2,x3,x4,x5,-,xl,gB⟩:=hH;have HB2:=fE gB;have Xh:=fE (Oj x0 x1 x2 x3 x4 x5 xl);have Yw:Hid (∀ i (h:i < ts.length),i < k + 1→ts[i].ahead t=true):=fun i h hi=>by
    by_cases e:i=k
    ·subst e; exact HQ.out
    exact HU.out i h (by omega)
   clear x0 x1 x2 x3 x4 x5 gB hbx H0 HA HQ HU HB HX;go_wp2;go_roundw;case rel=>exact ⟨k + 1,by omega,by go_num,Yw,HB2,Xh⟩
   simp [intOf] <;> omega
  have HQ:Hid (ts[k].ahead t=false):=hq;clear hq;go_wp2_with fail
  go_region_held3 (fun w'=>w'.cell? ⟨b,off + k * 6,none⟩=some (.string ts[k].a)∧w'.cell? ⟨b,off + k * 6 + 1,none⟩=some (.string ts[k].b)∧w'.cell? ⟨b,off + k * 6 + 2,none⟩=some (.string ts[k].r)∧w'.cell? ⟨b,off + k * 6 + 3,none⟩=some (.string ts[k].c)∧w'.cell? ⟨b,off + k * 6 + 4,none⟩=some (.string ts[k].d)∧w'.cell? ⟨b,off + k * 6 + 5,none⟩=some (.string ts[k].s)∧w'.cell? ⟨w.heap.size,0,none⟩=some (.string t.a)∧w'.cell? ⟨w.heap.size,1,none⟩=some (.string t.b)∧w'.cell? ⟨w.heap.size,2,none⟩=some (.string t.r)∧w'.cell? ⟨w.heap.size,3,none⟩=some (.string t.c)∧w'.cell? ⟨w.heap.size,4,none⟩=some (.string t.d)∧w'.cell? ⟨w.heap.size,5,none⟩=some (.string t.s)∧b < w'.heap.size∧w.heap.size < w'.heap.size∧ag w w')
   (first | assumption | exact Ko (by assumption) hbx | exact H0)
   (first | (go_at_call 137; refine (HA.out _).mono ?_; rintro e w' ⟨rfl,hbx⟩))
  rename_i hH;obtain ⟨-,-,-,-,-,-,x0,x1,x2,x3,x4,x5,-,xl,gB⟩:=hH;have HP:=fE (Kn ts t k hk HU.out (fun _=>HQ.out));have UG:=fE gB;have HXW:=fE (Oj x0 x1 x2 x3 x4 x5 xl);clear hbx H0 HA HQ HU HB HX gB x0 x1 x2 x3 x4 x5;obtain ⟨W1,hW1⟩:∃ W1,W1=w'.alloc (.cells #[] 46):=⟨_,rfl⟩;have Vg:Hid (W1.ownsRow w'.heap.size 46 6 (.slice (some ⟨w'.heap.size,0,none⟩) 0 0) 0 []):=by
   show World.ownsRow _ _ _ _ _ _ _;rw [hW1];exact World.ownsRow_lit w' #[] 0 (TS _) (by unfold maxLen; omega) (by simp)
  have Vo:=qY hW1;have HR1:Hid (kJ W1 b off ts):=(HS.out.below UG.out hb).below Vo.out (TP hb UG.out.size);have Xi:=az (HXW.out.below Vo.out);have HB1:Hid (ag w W1):=UG.out.trans (Vo.out.mono UG.out.size);have hWs:w.heap.size < w'.heap.size:=HXW.out.2.2.2.2.2.2;have hb1:b < W1.heap.size:=TP hb HB1.out.size;have hkc:k≤cap:=by omega
  have hz1:w'.heap.size≤W1.heap.size:=Vo.out.size;clear UG HXW Vo;go_wp2_with (at_builtin; rw [← hW1]; clear hW1; refine wpList_append_own_at _ rfl _ _ 25 rfl w'.heap.size 46 iT (.agg #[.string ⟨#[]⟩,.string ⟨#[]⟩,.string ⟨#[]⟩,.string ⟨#[]⟩,.string ⟨#[]⟩,.string ⟨#[]⟩]) 6 96 underlying25 HIT.out.1 HIT.out.2.1 HIT.out.2.2.1 HIT.out.2.2.2 rfl (by decide) _ 0 [] rfl Vg.out ⟨b,off,none⟩ k cap (bH (ts.take k)) rfl (by rw [jf,Ut]; congr 1; omega) (tK (CO HR1.out k)) (rC _) (by unfold maxLen; omega) (by omega) hz1 ?_);intro v2 w2 hown2 U0 _ _;have UB:Hid (w2.ownsRow w'.heap.size 46 6 v2 k (bH (ts.take k))):=by
   show World.ownsRow _ _ _ _ _ _ _
   first | exact hown2 | (rw [Um,List.nil_append] at hown2; exact hown2)
  have hne:some w.heap.size ≠ Value.ownBlock (.slice (some ⟨w'.heap.size,0,none⟩) 0 0):=fun e=>by simp [Value.ownBlock] at e; omega
  have hnb:some b ≠ Value.ownBlock (.slice (some ⟨w'.heap.size,0,none⟩) 0 0):=fun e=>by simp [Value.ownBlock] at e; omega
  have Xh:Hid (tZ w2 w.heap.size t):=Xi.out.grown U0 hne;have HR2:Hid (kJ w2 b off ts):=o8 HR1.out U0 hb1 hnb;have HB2:Hid (ag w w2):=HB1.out.grown U0 HB1.out.size (fun g hg=>by simp [Value.ownBlock] at hg; omega);have hz2:w'.heap.size≤w2.heap.size:=TZ hz1 U0.size;clear hown2 U0 Vg Xi HR1 HB1 hne hnb;obtain ⟨x0,x1,x2,x3,x4,x5,xl2⟩:=Xh.out;obtain ⟨W3,hW3⟩:∃ W3,W3=w2.alloc (.cells #[.string t.a,.string t.b,.string t.r,.string t.c,.string t.d,.string t.s] 46):=⟨_,rfl⟩;have UX:Hid (W3.ownsRow w'.heap.size 46 6 v2 k (bH (ts.take k))):=by show World.ownsRow _ _ _ _ _ _ _; rw [hW3]; exact UB.out.alloc _
  have Wi:Hid (∀ j u,t.row[j]?=some u→W3.cell? ((⟨w2.heap.size,0,none⟩:Addr).add j)=some u):=by show ∀ j u,_; rw [hW3]; exact CL w2 t
  have WT:=qY hW3;have HB3:Hid (ag w W3):=HB2.out.trans (WT.out.mono HB2.out.size);have HR3:Hid (kJ W3 b off ts):=HR2.out.below WT.out (TP hb HB2.out.size);have hz3:w'.heap.size≤W3.heap.size:=TZ hz2 WT.out.size;have hb3:b < W3.heap.size:=TP hb HB3.out.size;clear WT HB2 HR2 Xh hb1 hz1 hz2;go_wp2_with (at_builtin; rw [← hW3]; clear hW3; refine wpList_append_own_at _ rfl _ _ 25 rfl w'.heap.size 46 iT (.agg #[.string ⟨#[]⟩,.string ⟨#[]⟩,.string ⟨#[]⟩,.string ⟨#[]⟩,.string ⟨#[]⟩,.string ⟨#[]⟩]) 6 96 underlying25 HIT.out.1 HIT.out.2.1 HIT.out.2.2.1 HIT.out.2.2.2 rfl (by decide) v2 k (bH (ts.take k)) rfl UX.out ⟨w2.heap.size,0,none⟩ 1 1 t.row rfl rfl Wi.out (zW _) (by unfold maxLen; omega) (by omega) hz3 ?_);intro v4 w4 U1 Vp _ _;have hnb:some b ≠ v2.ownBlock:=fun e=>by have:=(UB.out.lt b e.symm).1; omega
  have HR4:Hid (kJ w4 b off ts):=o8 HR3.out Vp hb3 hnb;have Vi:Hid (ag w w4):=HB3.out.grown Vp HB3.out.size (fun g hg=>by have:=(UB.out.lt g hg).1; omega);have UR:=az U1;have Xj:w'.heap.size≤w4.heap.size:=TZ hz3 Vp.size;clear U1 Vp UX UB Wi HB3 HR3 hb3 hz3 hnb x0 x1 x2 x3 x4 x5 xl2;have hdl:(ts.drop k).length=ts.length - k:=List.length_drop;clear hdl;go_wp2_with (at_builtin; refine wpList_append_own_at _ rfl _ _ 25 rfl w'.heap.size 46 iT (.agg #[.string ⟨#[]⟩,.string ⟨#[]⟩,.string ⟨#[]⟩,.string ⟨#[]⟩,.string ⟨#[]⟩,.string ⟨#[]⟩]) 6 96 underlying25 HIT.out.1 HIT.out.2.1 HIT.out.2.2.1 HIT.out.2.2.2 rfl (by decide) v4 (k + 1) (bH (ts.take k) ++ t.row) rfl UR.out ⟨b,off + k * 6,none⟩ (ts.length - k) (cap - k) (bH (ts.drop k)) rfl (by rw [jf,List.length_drop]) (tK (Lj HR4.out k)) (rC _) (by unfold maxLen; omega) (by omega) Xj ?_);intro v5 w5 hown5 hgr5 _ _;have VQ:Hid (ag w w5):=Vi.out.grown hgr5 Vi.out.size (fun g hg=>by have:=(UR.out.lt g hg).1; omega);have hlp:(jL ts t).length=k + 1 + (ts.length - k):=by rw [HP.out]; simp; omega
  have hown6:w5.ownsRow w'.heap.size 46 6 v5 (jL ts t).length (bH (jL ts t)):=by
   rw [hlp,HP.out,show ts.take k ++ t::ts.drop k=(ts.take k ++ [t]) ++ ts.drop k by simp,uQ,zV]; first | exact hown5 | (rw [List.append_assoc]; exact hown5)
  have Vh:=fE (fB hown6 (Nat.le_of_lt hWs));clear hown5 hown6 hgr5 hlp;go_wp2;go_ret;exact ⟨v5,rfl,Vh.out,VQ.out⟩
 have hd:decide ((k:Int) < (ts.length:Int))=false:=by simp; omega
 go_wp2_with fail;go_quiet (fail);have HP:=fE (Kn ts t k hk HU.out (fun h=>absurd h hlt));obtain ⟨W9,Yo⟩:∃ W9,wr.drewN nq=W9:=⟨_,rfl⟩;have UG:Hid (ag w W9):=by show Below _ _ _; rw [← Yo]; exact ⟨HB.out.os,HB.out.tape,HB.out.output,HB.out.size,HB.out.block⟩
 have HXW:Hid (tZ W9 w.heap.size t):=by show tZ _ _ _; rw [← Yo]; exact HX.out
 rw [Yo];clear Yo HU HB HX hd;obtain ⟨W1,hW1⟩:∃ W1,W1=W9.alloc (.cells #[] 46):=⟨_,rfl⟩;have Vg:Hid (W1.ownsRow W9.heap.size 46 6 (.slice (some ⟨W9.heap.size,0,none⟩) 0 0) 0 []):=by
  show World.ownsRow _ _ _ _ _ _ _;rw [hW1];exact World.ownsRow_lit W9 #[] 0 (TS _) (by unfold maxLen; omega) (by simp)
 have Vo:=qY hW1;have HR1:Hid (kJ W1 b off ts):=(HS.out.below UG.out hb).below Vo.out (TP hb UG.out.size);have Xi:=az (HXW.out.below Vo.out);have HB1:Hid (ag w W1):=UG.out.trans (Vo.out.mono UG.out.size);have hWs:w.heap.size < W9.heap.size:=HXW.out.2.2.2.2.2.2;have hb1:b < W1.heap.size:=TP hb HB1.out.size;have hkc:k≤cap:=by omega
 have hz1:W9.heap.size≤W1.heap.size:=Vo.out.size;clear UG HXW Vo;go_wp2_with (at_builtin; rw [← hW1]; clear hW1; refine wpList_append_own_at _ rfl _ _ 25 rfl W9.heap.size 46 iT (.agg #[.string ⟨#[]⟩,.string ⟨#[]⟩,.string ⟨#[]⟩,.string ⟨#[]⟩,.string ⟨#[]⟩,.string ⟨#[]⟩]) 6 96 underlying25 HIT.out.1 HIT.out.2.1 HIT.out.2.2.1 HIT.out.2.2.2 rfl (by decide) _ 0 [] rfl Vg.out ⟨b,off,none⟩ k cap (bH (ts.take k)) rfl (by rw [jf,Ut]; congr 1; omega) (tK (CO HR1.out k)) (rC _) (by unfold maxLen; omega) (by omega) hz1 ?_);intro v2 w2 hown2 U0 _ _;have UB:Hid (w2.ownsRow W9.heap.size 46 6 v2 k (bH (ts.take k))):=by
  show World.ownsRow _ _ _ _ _ _ _
  first | exact hown2 | (rw [Um,List.nil_append] at hown2; exact hown2)
 have hne:some w.heap.size ≠ Value.ownBlock (.slice (some ⟨W9.heap.size,0,none⟩) 0 0):=fun e=>by simp [Value.ownBlock] at e; omega
 have hnb:some b ≠ Value.ownBlock (.slice (some ⟨W9.heap.size,0,none⟩) 0 0):=fun e=>by simp [Value.ownBlock] at e; omega
 have Xh:Hid (tZ w2 w.heap.size t):=Xi.out.grown U0 hne;have HR2:Hid (kJ w2 b off ts):=o8 HR1.out U0 hb1 hnb;have HB2:Hid (ag w w2):=HB1.out.grown U0 HB1.out.size (fun g hg=>by simp [Value.ownBlock] at hg; omega);have hz2:W9.heap.size≤w2.heap.size:=TZ hz1 U0.size;clear hown2 U0 Vg Xi HR1 HB1 hne hnb;obtain ⟨x0,x1,x2,x3,x4,x5,xl2⟩:=Xh.out;obtain ⟨W3,hW3⟩:∃ W3,W3=w2.alloc (.cells #[.string t.a,.string t.b,.string t.r,.string t.c,.string t.d,.string t.s] 46):=⟨_,rfl⟩;have UX:Hid (W3.ownsRow W9.heap.size 46 6 v2 k (bH (ts.take k))):=by show World.ownsRow _ _ _ _ _ _ _; rw [hW3]; exact UB.out.alloc _
 have Wi:Hid (∀ j u,t.row[j]?=some u→W3.cell? ((⟨w2.heap.size,0,none⟩:Addr).add j)=some u):=by show ∀ j u,_; rw [hW3]; exact CL w2 t
 have WT:=qY hW3;have HB3:Hid (ag w W3):=HB2.out.trans (WT.out.mono HB2.out.size);have HR3:Hid (kJ W3 b off ts):=HR2.out.below WT.out (TP hb HB2.out.size);have hz3:W9.heap.size≤W3.heap.size:=TZ hz2 WT.out.size;have hb3:b < W3.heap.size:=TP hb HB3.out.size;clear WT HB2 HR2 Xh hb1 hz1 hz2;go_wp2_with (at_builtin; rw [← hW3]; clear hW3; refine wpList_append_own_at _ rfl _ _ 25 rfl W9.heap.size 46 iT (.agg #[.string ⟨#[]⟩,.string ⟨#[]⟩,.string ⟨#[]⟩,.string ⟨#[]⟩,.string ⟨#[]⟩,.string ⟨#[]⟩]) 6 96 underlying25 HIT.out.1 HIT.out.2.1 HIT.out.2.2.1 HIT.out.2.2.2 rfl (by decide) v2 k (bH (ts.take k)) rfl UX.out ⟨w2.heap.size,0,none⟩ 1 1 t.row rfl rfl Wi.out (zW _) (by unfold maxLen; omega) (by omega) hz3 ?_);intro v4 w4 U1 Vp _ _;have hnb:some b ≠ v2.ownBlock:=fun e=>by have:=(UB.out.lt b e.symm).1; omega
 have HR4:Hid (kJ w4 b off ts):=o8 HR3.out Vp hb3 hnb;have Vi:Hid (ag w w4):=HB3.out.grown Vp HB3.out.size (fun g hg=>by have:=(UB.out.lt g hg).1; omega);have UR:=az U1;have Xj:W9.heap.size≤w4.heap.size:=TZ hz3 Vp.size;clear U1 Vp UX UB Wi HB3 HR3 hb3 hz3 hnb x0 x1 x2 x3 x4 x5 xl2;have hdl:(ts.drop k).length=ts.length - k:=List.length_drop;clear hdl;by_cases hce:cap=k
 all_goals
  go_wp2_with (at_builtin; refine wpList_append_own_at _ rfl _ _ 25 rfl W9.heap.size 46 iT (.agg #[.string ⟨#[]⟩,.string ⟨#[]⟩,.string ⟨#[]⟩,.string ⟨#[]⟩,.string ⟨#[]⟩,.string ⟨#[]⟩]) 6 96 underlying25 HIT.out.1 HIT.out.2.1 HIT.out.2.2.1 HIT.out.2.2.2 rfl (by decide) v4 (k + 1) (bH (ts.take k) ++ t.row) rfl UR.out _ (ts.length - k) _ (bH (ts.drop k)) rfl (by rw [jf,List.length_drop]) (Ll (by omega) _ _) (rC _) (by unfold maxLen; omega) (by omega) Xj ?_);intro v5 w5 hown5 hgr5 _ _;have VQ:Hid (ag w w5):=Vi.out.grown hgr5 Vi.out.size (fun g hg=>by have:=(UR.out.lt g hg).1; omega);have hlp:(jL ts t).length=k + 1 + (ts.length - k):=by rw [HP.out]; simp; omega
  have hown6:w5.ownsRow W9.heap.size 46 6 v5 (jL ts t).length (bH (jL ts t)):=by
   rw [hlp,HP.out,show ts.take k ++ t::ts.drop k=(ts.take k ++ [t]) ++ ts.drop k by simp,uQ,zV]; first | exact hown5 | (rw [List.append_assoc]; exact hown5)
  have Vh:=fE (fB hown6 (Nat.le_of_lt hWs));clear hown5 hown6 hgr5 hlp;go_wp2;go_ret;exact ⟨v5,rfl,Vh.out,VQ.out⟩
set_option maxRecDepth 8000 in
theorem Lv (ad:Option Addr) (cap:Nat) (ts:List Tp) (t:Tp) (w:af) (hlen:ts.length≤1048576) (hs:Sl w ad ts) :
  Calls prog 128 #[.slice ad ts.length cap,.agg #[.string t.a,.string t.b,.string t.r,.string t.c,.string t.d,.string t.s]] w fun e w'=>e=.returned (.bool (l7 ts t))∧ag w w':=by
 have HS:=az hs;clear hs;obtain ⟨W0,hW0⟩:∃ W0,W0=w.alloc (.cells #[.string t.a,.string t.b,.string t.r,.string t.c,.string t.d,.string t.s] 46):=⟨_,rfl⟩;have HB0:=qY hW0;have HX0:Hid (W0.cell? ⟨w.heap.size,0,none⟩=some (.string t.a)∧W0.cell? ⟨w.heap.size,1,none⟩=some (.string t.b)∧W0.cell? ⟨w.heap.size,2,none⟩=some (.string t.r)∧W0.cell? ⟨w.heap.size,3,none⟩=some (.string t.c)∧W0.cell? ⟨w.heap.size,4,none⟩=some (.string t.d)∧W0.cell? ⟨w.heap.size,5,none⟩=some (.string t.s)∧w.heap.size < W0.heap.size):=by show _∧_; rw [hW0]; refine ⟨?_,?_,?_,?_,?_,?_,?_⟩ <;> simp
 go_enter func128,ntmps128;go_wp2;rw [← hW0];clear hW0;go_loopw [5] (fun i wr=>∃ k:Nat,k≤ts.length∧i=.int .i64 k∧Hid (l7 (ts.drop k) t=l7 ts t)∧Hid (ag W0 wr)) (fun i _=>ts.length - (intOf i).toNat);case atStart=>exact ⟨0,TW _,rfl,rfl,TT _ _⟩
 obtain ⟨k,hk,rfl,HP,HB⟩:=hrel;have UG:Hid (ag w wr):=HB0.out.trans (HB.out.mono HB0.out.size);by_cases hlt:k < ts.length
 ·rcases HS.out.below UG.out with hnil | ⟨b,off,rfl,hb,hr⟩
  ·rw [hnil] at hlt; simp at hlt
  obtain ⟨t0,t1,t2,t3,t4,t5⟩:=hr k hlt;have x0:=mK HB.out HX0.out.2.2.2.2.2.2 HX0.out.1;have x1:=mK HB.out HX0.out.2.2.2.2.2.2 HX0.out.2.1;have x2:=mK HB.out HX0.out.2.2.2.2.2.2 HX0.out.2.2.1;have x3:=mK HB.out HX0.out.2.2.2.2.2.2 HX0.out.2.2.2.1;have x4:=mK HB.out HX0.out.2.2.2.2.2.2 HX0.out.2.2.2.2.1;have x5:=mK HB.out HX0.out.2.2.2.2.2.2 HX0.out.2.2.2.2.2.1;have hk1:=bB k;have hk2:(k:Int) < (ts.length:Int):=by omega
  have HD:Hid (l7 ts t=(Ej ts[k] t || l7 (ts.drop (k + 1)) t)):=by show _=_; rw [← HP.out]; exact CK hlt
  clear hr;cases hq:Ej ts[k] t;case true=>
   have heq:=IJ ts[k] t hq;have HN:Hid (l7 ts t=true):=by show _=_; rw [HD.out,hq]; rfl
   clear hq;go_wp2_with fail;go_region_held3 (fun w'=>w'.cell? ⟨b,off + k * 6,none⟩=some (.string ts[k].a)∧w'.cell? ⟨b,off + k * 6 + 1,none⟩=some (.string ts[k].b)∧w'.cell? ⟨b,off + k * 6 + 2,none⟩=some (.string ts[k].r)∧w'.cell? ⟨b,off + k * 6 + 3,none⟩=some (.string ts[k].c)∧w'.cell? ⟨b,off + k * 6 + 4,none⟩=some (.string ts[k].d)∧w'.cell? ⟨b,off + k * 6 + 5,none⟩=some (.string ts[k].s)∧w'.cell? ⟨w.heap.size,0,none⟩=some (.string t.a)∧w'.cell? ⟨w.heap.size,1,none⟩=some (.string t.b)∧w'.cell? ⟨w.heap.size,2,none⟩=some (.string t.r)∧w'.cell? ⟨w.heap.size,3,none⟩=some (.string t.c)∧w'.cell? ⟨w.heap.size,4,none⟩=some (.string t.d)∧w'.cell? ⟨w.heap.size,5,none⟩=some (.string t.s)∧ag wr w') (first | assumption | exact ⟨t0,t1,t2,t3,t4,t5,x0,x1,x2,x3,x4,x5,(TT _ _).drew⟩) (fail);rename_i hH;have HG:Hid (ag wr _):=hH.2.2.2.2.2.2.2.2.2.2.2.2;clear hH t0 t1 t2 t3 t4 t5 x0 x1 x2 x3 x4 x5 heq;go_wp2;go_ret;exact ⟨by rw [HN.out]; rfl,UG.out.trans (HG.out.mono UG.out.size)⟩
  have heq:=IJ ts[k] t hq;have UI:Hid (l7 (ts.drop (k + 1)) t=l7 ts t):=by show _=_; rw [HD.out,hq]; rfl
  clear hq;go_wp2_with fail;go_region_held3 (fun w'=>w'.cell? ⟨b,off + k * 6,none⟩=some (.string ts[k].a)∧w'.cell? ⟨b,off + k * 6 + 1,none⟩=some (.string ts[k].b)∧w'.cell? ⟨b,off + k * 6 + 2,none⟩=some (.string ts[k].r)∧w'.cell? ⟨b,off + k * 6 + 3,none⟩=some (.string ts[k].c)∧w'.cell? ⟨b,off + k * 6 + 4,none⟩=some (.string ts[k].d)∧w'.cell? ⟨b,off + k * 6 + 5,none⟩=some (.string ts[k].s)∧w'.cell? ⟨w.heap.size,0,none⟩=some (.string t.a)∧w'.cell? ⟨w.heap.size,1,none⟩=some (.string t.b)∧w'.cell? ⟨w.heap.size,2,none⟩=some (.string t.r)∧w'.cell? ⟨w.heap.size,3,none⟩=some (.string t.c)∧w'.cell? ⟨w.heap.size,4,none⟩=some (.string t.d)∧w'.cell? ⟨w.heap.size,5,none⟩=some (.string t.s)∧ag wr w') (first | assumption | exact ⟨t0,t1,t2,t3,t4,t5,x0,x1,x2,x3,x4,x5,(TT _ _).drew⟩) (fail);rename_i hH;have HG:Hid (ag W0 _):=HB.out.trans (hH.2.2.2.2.2.2.2.2.2.2.2.2.mono HB.out.size);clear hH t0 t1 t2 t3 t4 t5 x0 x1 x2 x3 x4 x5 heq;go_wp2;go_roundw;case rel=>exact ⟨k + 1,by omega,by go_num,UI,HG⟩
  simp [intOf] <;> omega
 have HN:Hid (l7 ts t=false):=by show _=_; rw [← HP.out,List.drop_of_length_le (by omega)]; rfl
 go_wp2;go_ret;exact ⟨by rw [HN.out]; rfl,UG.out⟩
def rV (ts:List Tp) (t:Tp):Bool:=dJ ts && t.ok && !l7 ts t && !(ts.length == 40)
def BG (ts:List Tp) (t:Tp):List Tp:=if rV ts t then jL ts t else []
theorem z8 {ts:List Tp} {t:Tp} (h:rV ts t=true):BG ts t=jL ts t:=by simp [BG,h]
theorem rF {ts:List Tp} {t:Tp} (h:rV ts t=false):BG ts t=[]:=by simp [BG,h]
def Sq (w w':World) (e:Ending) (L:List Tp) (f:Bool):Prop:=∃ v:Value,e=.returned (.tuple #[v,.bool f])∧w'.ownsRow w.heap.size 46 6 v L.length (bH L)∧ag w w'
theorem sj (b off cap:Nat) (ts:List Tp) (t:Tp) (w:af) (hlen:ts.length≤1048576) (hcap:ts.length≤cap) (hs:kJ w b off ts) (hb:b < w.heap.size) (hf:∀ x ∈ ts,x.fits) (ht:t.fits) :
  Calls prog 88 #[.slice (some ⟨b,off,none⟩) ts.length cap,.agg #[.string t.a,.string t.b,.string t.r,.string t.c,.string t.d,.string t.s]] w fun e w'=>Sq w w' e (BG ts t) (rV ts t):=by
 have HF:=fE hf;have UL:=fE ht;obtain ⟨W0,hW0⟩:∃ W0,W0=w.alloc (.cells #[.string t.a,.string t.b,.string t.r,.string t.c,.string t.d,.string t.s] 46):=⟨_,rfl⟩;have HB0:=qY hW0;have HX0:Hid (tZ W0 w.heap.size t):=by show tZ _ _ _; rw [hW0]; exact El w t _
 have HS:=fE hs;have SL:Hid (∀ W:World,ag w W→Sl W (some ⟨b,off,none⟩) ts):=fun W hB=>.inr ⟨b,off,rfl,TP hb hB.size,HS.out.below hB hb⟩;have U5:ts.length≤maxLen:=by unfold maxLen; omega
 have HT:=fE (nY (some ⟨b,off,none⟩) cap ts W0 U5 (SL.out _ HB0.out) hf);clear hs hf U5 ht;go_enter func88,ntmps88;go_wp2_with fail;rw [← hW0]; clear hW0;refine HT.out.mono ?_;rintro e w1 ⟨he,hb1⟩;have HB1:=jP HB0 hb1;have Xi:=az (HX0.out.below hb1);clear HT HX0 HB0 hb1;cases h1:dJ ts;case false=>
  rw [h1] at he; subst he;have HR:Hid (rV ts t=false):=by show _=_; simp [rV,h1]
  have HL:Hid (BG ts t=[]):=rF HR.out;clear h1;go_wp2
  go_ret2
  exact ⟨.slice none 0 0,by rw [HR.out]; rfl,by rw [HL.out]; exact World.ownsRow_nil _ _ _ _,HB1.out⟩
 rw [h1] at he; subst he;obtain ⟨x0,x1,x2,x3,x4,x5,xl⟩:=Xi.out;have H1:=fE h1;obtain ⟨e0,e1,e2,e3,e4,e5⟩:=UL.out;have HH:=fE (dX t.a t.b t.r t.c t.d t.s w1 e0 e1 e2 e3 e4 e5);clear h1 e0 e1 e2 e3 e4 e5;go_wp2_with fail;refine HH.out.mono ?_;rintro e w2 ⟨he,hb2⟩;have HB2:=jP HB1 hb2;have Xh:=az (Xi.out.below hb2);clear HH Xi HB1 hb2 x0 x1 x2 x3 x4 x5 xl;cases h2:t.ok;case false=>
  have h2':bI t.a t.b t.r t.c t.d t.s=false:=h2;rw [h2'] at he; subst he;have HR:Hid (rV ts t=false):=by show _=_; simp [rV,H1.out,h2]
  have HL:Hid (BG ts t=[]):=rF HR.out;clear h2 h2';go_wp2
  go_ret2
  exact ⟨.slice none 0 0,by rw [HR.out]; rfl,by rw [HL.out]; exact World.ownsRow_nil _ _ _ _,HB2.out⟩
 have h2':bI t.a t.b t.r t.c t.d t.s=true:=h2;rw [h2'] at he; subst he;have H2:=fE h2;obtain ⟨x0,x1,x2,x3,x4,x5,xl⟩:=Xh.out;have HH:=fE (Lv (some ⟨b,off,none⟩) cap ts t w2 hlen (SL.out _ HB2.out));clear h2 h2';go_wp2_with fail;refine HH.out.mono ?_;rintro e w3 ⟨he,hb3⟩;have HB3:=jP HB2 hb3;have Z5:=az (Xh.out.below hb3);clear HH Xh HB2 hb3 x0 x1 x2 x3 x4 x5 xl;cases h3:l7 ts t;case true=>
  rw [h3] at he; subst he;have HR:Hid (rV ts t=false):=by show _=_; simp [rV,H1.out,H2.out,h3]
  have HL:Hid (BG ts t=[]):=rF HR.out;clear h3;go_wp2
  go_ret2
  exact ⟨.slice none 0 0,by rw [HR.out]; rfl,by rw [HL.out]; exact World.ownsRow_nil _ _ _ _,HB3.out⟩
 rw [h3] at he; subst he;have H3:=fE h3;clear h3;by_cases h4:ts.length=40
 ·have HR:Hid (rV ts t=false):=by show _=_; simp [rV,H1.out,H2.out,H3.out,h4]
  have HL:Hid (BG ts t=[]):=rF HR.out;have h5:((ts.length:Int) == 40)=true:=by simp; omega
  have H4:=fE h4;clear h4;go_wp2
  go_ret2
  exact ⟨.slice none 0 0,by rw [HR.out]; rfl,by rw [HL.out]; exact World.ownsRow_nil _ _ _ _,HB3.out⟩
 have HR:Hid (rV ts t=true):=by show _=_; simp [rV,H1.out,H2.out,H3.out,h4]
 have HL:Hid (BG ts t=jL ts t):=z8 HR.out;have h5:((ts.length:Int) == 40)=false:=by simp; omega
 have h40:=Li H1.out;obtain ⟨x0,x1,x2,x3,x4,x5,xl⟩:=Z5.out;have HP:=fE (Lu b off cap ts t w3 (by omega) hcap (HS.out.below HB3.out hb) (TP hb HB3.out.size) HF.out UL.out);clear Z5;go_wp2_with fail;refine HP.out.mono ?_;rintro e w4 ⟨v4,rfl,hs4,hb4⟩;have HS4:=fE hs4;clear hs4 HP x0 x1 x2 x3 x4 x5 xl;go_wp2
 go_ret2
 exact ⟨v4,by rw [HR.out]; rfl,by rw [HL.out]; exact fB HS4.out HB3.out.size,HB3.out.trans (hb4.mono HB3.out.size)⟩
def Tp.short (t:Tp):Prop:=t.a.size≤20∧t.b.size≤20∧t.r.size≤20∧t.c.size≤20∧t.d.size≤20∧t.s.size≤20
theorem Tp.short.fits {t:Tp} (h:t.short):t.fits:=by unfold Tp.short at h; unfold Tp.fits maxLen; omega
def qH (ts:List Tp):Prop:=∀ t ∈ ts,t.short
theorem qH.fits {ts:List Tp} (h:qH ts):∀ t ∈ ts,t.fits:=fun t ht=>(h t ht).fits
theorem Lx:qH []:=fun t ht=>by cases ht
theorem rG (ts:List Tp) (t:Tp):(jL ts t).length=ts.length + 1:=by
 induction ts with
 | nil=>rfl
 | cons x xs ih =>
  unfold jL;split
  ·simp [ih]
  simp
theorem qH.put {ts:List Tp} {t:Tp} (h:qH ts) (ht:t.short):qH (jL ts t):=fun x hx=>by
 rcases (Oi ts t x).1 hx with rfl | k
 ·exact ht
 exact h x k
theorem og {w w':af} {R base n:Nat} {v:Value} {xs:List Value} (h:w.ownsRow base 46 6 v n xs) (hR:R < base) (hO:Only R w w'):w'.ownsRow base 46 6 v n xs :=
 h.kept hO (.inr fun e=>by have:=(h.lt R e).1; omega)
theorem mU {w:af} {base g n c:Nat} {ts:List Tp} (h:w.ownsRow base 46 6 (.slice (some ⟨g,0,none⟩) n c) n (bH ts)) (hn:n=ts.length):kJ w g 0 ts∧g < w.heap.size∧n≤c∧base≤g:=by
 have hlt:=h.lt g rfl;refine ⟨?_,hlt.2,?_,hlt.1⟩
 ·subst hn;intro i hi;have key:∀ j,j < 6→w.cell? ⟨g,0 + i * 6 + j,none⟩=(ts[i]).row[j]?:=fun j hj=>by
   rw [h.cellAt (0 + i * 6 + j) (by have:=jf ts; omega),← uP ts i hi j hj,Um]
  exact ⟨key 0 (by omega),key 1 (by omega),key 2 (by omega),key 3 (by omega),key 4 (by omega),key 5 (by omega)⟩
 rcases h.2 with ⟨e,-⟩ | ⟨g',cap',cur,e,-,-,hle,-⟩
 ·cases e
 injection e with e1 e2 e3; omega
theorem su {W:af} {base:Nat} {e:TypeId} {size:Nat} {v:Value} {k:Nat} {xs:List Value} (h:W.ownsRow base e size v (k + 1) xs):∃ g cap,v=.slice (some ⟨g,0,none⟩) (k + 1) cap:=by
 rcases h.2 with ⟨_,h0⟩ | ⟨g,cap,_,rfl,_⟩
 ·omega
 exact ⟨g,cap,rfl⟩
theorem Rd.grown {w w':af} {R:Nat} {ad:Option Addr} {len cap:Nat} {row:Option Nat} (h:Rd w R ad len cap) (hg:w.grownBy w' row) (hR:some R ≠ row) (hb:0 < len→∀ b off,ad=some ⟨b,off,none⟩→some b ≠ row):Rd w' R ad len cap where
 lt:=TP h.lt hg.size
 code:=hg.cell h.code hR
 place:=by obtain ⟨p,hp,hl⟩:=h.place; exact ⟨p,hg.cell hp hR,hl⟩
 free:=(World.frozen?_of_block (w:=w) (a:=⟨R,1,none⟩) (hg.block R h.lt hR)).trans h.free
 bytes h0:=by
  obtain ⟨b,off,e,hne,hbl,hc⟩:=h.bytes h0;refine ⟨b,off,e,hne,TP hbl hg.size,fun i hi=>?_⟩;obtain ⟨c,c0,c1,hcc⟩:=hc i hi;exact ⟨c,c0,c1,hg.cell hcc (hb h0 b off e)⟩
 small:=h.small
end Go.Proofs.YtajkkeikihhejaaGreat
namespace Go.Proofs.YtajkkeikihhejaaGreat
open Go.ChangeShapes Go.WideShapes Go.ChangeAt Go.RowKit
open Pl
attribute [local go_sem ↓] Go.wp_at_zero Go.wp_at_succ
structure BelowD (B:Nat) (w w':World):Prop where
 b:Below B w w'
 d:w.drawn≤w'.drawn
theorem BelowD.size {B:Nat} {w w':af} (h:BelowD B w w'):w.heap.size≤w'.heap.size:=h.b.size
theorem BelowD.refl (B:Nat) (w:af):BelowD B w w:=⟨TT B w,TS _⟩
theorem BelowD.trans {B:Nat} {a b c:af} (h:BelowD B a b) (k:BelowD B b c):BelowD B a c:=⟨h.b.trans k.b,TZ h.d k.d⟩
theorem BelowD.mono {B B':Nat} {w w':af} (h:BelowD B w w') (hB:B'≤B):BelowD B' w w':=⟨h.b.mono hB,h.d⟩
theorem BelowD.drew {B:Nat} {a w:af} (h:BelowD B a w):BelowD B a w.drew:=⟨h.b.drew,TZ h.d (Nat.le_succ _)⟩
theorem BelowD.alloc {B:Nat} {a w:af} (h:BelowD B a w) (hB:B≤w.heap.size) (o:Obj):BelowD B a (w.alloc o):=⟨h.b.alloc hB o,h.d⟩
theorem BelowD.cell {B:Nat} {w w':af} (h:BelowD B w w') {p:Addr} (hp:p.block < B):w'.cell? p=w.cell? p:=h.b.cell hp
theorem BelowD.frozen {B:Nat} {w w':af} (h:BelowD B w w') {p:Addr} (hp:p.block < B):w'.frozen? p=w.frozen? p:=h.b.frozen hp
theorem BelowD.grew {w w':af} (h:BelowD w.heap.size w w'):∃ q os,w'=Go.Sort.grow (w.drewN q) os:=by
 obtain ⟨⟨h1,h2,h3,h4,h5⟩,h6⟩:=h;refine ⟨w'.drawn - w.drawn,w'.heap.extract w.heap.size w'.heap.size,?_⟩;obtain ⟨hp,tp,dr,os,ou⟩:=w';simp only at h1 h2 h3 h4 h5 h6;subst h1 h2 h3;simp only [Go.Sort.grow,World.drewN,World.mk.injEq,true_and,and_true];refine ⟨?_,by omega⟩;apply Array.ext
 ·simp; omega
 intro i hi hj;by_cases hlt:i < w.heap.size
 ·have:=h5 i hlt;rw [Uv hi,Uv hlt] at this;injection this with this;rw [this,Array.getElem_append_left hlt]
 rw [Array.getElem_append_right (by omega)];simp;congr 1;omega
theorem tN {W w1:af} (hb:BelowD W.heap.size W w1):(∀ b o,b < W.heap.size→w1.cell? ⟨b,o,none⟩=W.cell? ⟨b,o,none⟩)∧(∀ b o,b < W.heap.size→w1.frozen? ⟨b,o,none⟩=W.frozen? ⟨b,o,none⟩) :=
 ⟨fun b o h=>hb.cell (p:=⟨b,o,none⟩) h,fun b o h=>hb.frozen (p:=⟨b,o,none⟩) h⟩
theorem fC (t i:bF) (w:af) (ht:t.size≤maxLen) (hi:i.size≤maxLen) :
  Calls prog 161 #[.agg #[.string t,.string i]] w fun e w'=>e=.returned (.bool (eH t i))∧BelowD w.heap.size w w':=by
 by_cases hn:aP t=true
 all_goals
  go_enter func161,ntmps161;go_wp2_with (first | (go_at_call 162; refine (aL _ _ ht).mono ?_; rintro e w' ⟨rfl,rfl⟩) | (go_at_call 208; refine (zL _ _ hi).mono ?_; rintro e w' ⟨rfl,rfl⟩));go_ret;exact ⟨ah (by simp [eH,hn]),(BelowD.refl _ _).alloc (TS _) _⟩
theorem wL (t i:bF) (w:af) (ht:t.size≤maxLen) (hi:i.size≤maxLen) :
  Calls prog 207 #[.agg #[.string t,.string i]] w fun e w'=>e=.returned (.string (aB t i))∧BelowD w.heap.size w w':=by
 by_cases hn:eH t i=true
 ·obtain ⟨h1,h2⟩:=yD hn;have HT:Hid (aB t i=t ++ ⟨#[58]⟩ ++ i):=mJ hn;go_enter func207,ntmps207;go_wp2_with (go_at_call 161; refine (fC _ _ _ ht hi).mono ?_; rintro e w' ⟨rfl,hb⟩; obtain ⟨hc,hf⟩:=tN hb);go_ret;exact ⟨gu HT.out.symm,((BelowD.refl _ _).alloc (TS _) _).trans (hb.mono (by simp))⟩
 have hn':eH t i=false:=by simpa using hn
 have HT:Hid (aB t i=⟨#[]⟩):=sM hn';clear hn;go_enter func207,ntmps207;go_wp2_with (go_at_call 161; refine (fC _ _ _ ht hi).mono ?_; rintro e w' ⟨rfl,hb⟩; obtain ⟨hc,hf⟩:=tN hb);go_ret;exact ⟨gu HT.out.symm,((BelowD.refl _ _).alloc (TS _) _).trans (hb.mono (by simp))⟩
theorem uS (a b r c d s:bF) (w:af) (ha:a.size≤maxLen) (hb:b.size≤maxLen) (hr:r.size≤maxLen) (hc:c.size≤maxLen) (hd:d.size≤maxLen) (hs:s.size≤maxLen) :
  Calls prog 108 #[.agg #[.string a,.string b,.string r,.string c,.string d,.string s]] w fun e w'=>e=.returned (.bool (bI a b r c d s))∧BelowD w.heap.size w w':=by
 by_cases h1:eH a b=true
 ·by_cases h2:aP r=true
  ·by_cases h3:eH c d=true
   ·have HT:Hid (bI a b r c d s=uj s):=yR h1 h2 h3;go_enter func108,ntmps108;go_wp2_with fail;refine (fC _ _ _ ha hb).mono ?_;rintro e w1 ⟨rfl,hb1⟩;obtain ⟨hc1,hf1⟩:=tN hb1;have hz1:w.heap.size < w1.heap.size:=by have:=hb1.size; simp at this; omega
    go_wp2_with fail;refine (aL _ _ hr).mono ?_;rintro e w1' ⟨rfl,rfl⟩;go_wp2_with fail;refine (fC _ _ _ hc hd).mono ?_;rintro e w2 ⟨rfl,hb2⟩;obtain ⟨hc2,hf2⟩:=tN hb2;have hz2:w.heap.size < w2.heap.size:=by have:=hb2.size; omega
    go_wp2_with (go_at_call 163; refine (CJ _ _ hs).mono ?_; rintro e w3 ⟨rfl,rfl⟩)
    all_goals go_ret
    all_goals exact ⟨ah (HT.out.trans (by simp [uj, *])).symm,((BelowD.refl _ _).alloc (TS _) _).trans ((hb1.mono (by simp)).trans (hb2.mono (by omega)))⟩
   have h3':eH c d=false:=by simpa using h3
   have HT:Hid (bI a b r c d s=false):=yQ h3';clear h3;go_enter func108,ntmps108;go_wp2_with fail;refine (fC _ _ _ ha hb).mono ?_;rintro e w1 ⟨rfl,hb1⟩;obtain ⟨hc1,hf1⟩:=tN hb1;have hz1:w.heap.size < w1.heap.size:=by have:=hb1.size; simp at this; omega
   go_wp2_with fail;refine (aL _ _ hr).mono ?_;rintro e w1' ⟨rfl,rfl⟩;go_wp2_with fail;refine (fC _ _ _ hc hd).mono ?_;rintro e w2 ⟨rfl,hb2⟩;go_wp2;go_ret;exact ⟨ah HT.out.symm,((BelowD.refl _ _).alloc (TS _) _).trans ((hb1.mono (by simp)).trans (hb2.mono (by omega)))⟩
  have h2':aP r=false:=by simpa using h2
  have HT:Hid (bI a b r c d s=false):=yP h2';clear h2;go_enter func108,ntmps108;go_wp2_with fail;refine (fC _ _ _ ha hb).mono ?_;rintro e w1 ⟨rfl,hb1⟩;obtain ⟨hc1,hf1⟩:=tN hb1;go_wp2_with fail;refine (aL _ _ hr).mono ?_;rintro e w1' ⟨rfl,rfl⟩;go_wp2;go_ret;exact ⟨ah HT.out.symm,((BelowD.refl _ _).alloc (TS _) _).trans (hb1.mono (by simp))⟩
 have h1':eH a b=false:=by simpa using h1
 have HT:Hid (bI a b r c d s=false):=yO h1';clear h1;go_enter func108,ntmps108;go_wp2_with fail;refine (fC _ _ _ ha hb).mono ?_;rintro e w1 ⟨rfl,hb1⟩;go_wp2;go_ret;exact ⟨ah HT.out.symm,((BelowD.refl _ _).alloc (TS _) _).trans (hb1.mono (by simp))⟩
theorem Sr {w W w':af} {n:Nat} {x0 x1 x2 x3 x4 x5:Value} (h:W.cell? ⟨n,0,none⟩=some x0∧W.cell? ⟨n,1,none⟩=some x1∧W.cell? ⟨n,2,none⟩=some x2∧W.cell? ⟨n,3,none⟩=some x3∧W.cell? ⟨n,4,none⟩=some x4∧W.cell? ⟨n,5,none⟩=some x5∧n < W.heap.size∧BelowD n w W) (hb:BelowD W.heap.size W w'):w'.cell? ⟨n,0,none⟩=some x0∧w'.cell? ⟨n,1,none⟩=some x1∧w'.cell? ⟨n,2,none⟩=some x2∧w'.cell? ⟨n,3,none⟩=some x3∧w'.cell? ⟨n,4,none⟩=some x4∧w'.cell? ⟨n,5,none⟩=some x5∧n < w'.heap.size∧BelowD n w w':=by
 obtain ⟨h0,h1,h2,h3,h4,h5,hn,hB⟩:=h;have hc:∀ o,w'.cell? ⟨n,o,none⟩=W.cell? ⟨n,o,none⟩:=fun o=>hb.cell (p:=⟨n,o,none⟩) hn;refine ⟨by rw [hc]; exact h0,by rw [hc]; exact h1,by rw [hc]; exact h2,by rw [hc]; exact h3,by rw [hc]; exact h4,by rw [hc]; exact h5,TP hn hb.size,hB.trans (hb.mono (Nat.le_of_lt hn))⟩
theorem wM (a b r c d s:bF) (w:af) (ha:a.size≤maxLen) (hb:b.size≤maxLen) (hr:r.size≤maxLen) (hc:c.size≤maxLen) (hd:d.size≤maxLen) (hs:s.size≤maxLen) :
  Calls prog 160 #[.agg #[.string a,.string b,.string r,.string c,.string d,.string s]] w fun e w'=>e=.returned (.string (aX a b r c d s))∧BelowD w.heap.size w w':=by
 by_cases hn:bI a b r c d s=true
 ·obtain ⟨h1,h2,h3,h4⟩:=jR hn;have hx:=iB a b;have hy:=iB c d;have WR:=(nI h2).2;have hs12:=DN h4;clear h1 h2 h3 h4;go_enter func160,ntmps160;go_wp2_with fail;refine (uS _ _ _ _ _ _ _ ha hb hr hc hd hs).mono ?_;rintro e w1 ⟨rfl,hb1⟩;obtain ⟨hc1,hf1⟩:=tN hb1;have hz1:w.heap.size < w1.heap.size:=by have:=hb1.size; simp at this; omega
  have k:∀ o v,(w.alloc (.cells #[.string a,.string b,.string r,.string c,.string d,.string s] 46)).cell? ⟨w.heap.size,o,none⟩=some v→w1.cell? ⟨w.heap.size,o,none⟩=some v:=fun o v h=>by rw [hc1 _ _ (by simp)]; exact h
  have k0:=k 0 (.string a) (by simp);have k1:=k 1 (.string b) (by simp);have k2:=k 2 (.string r) (by simp);have k3:=k 3 (.string c) (by simp);have k4:=k 4 (.string d) (by simp);have k5:=k 5 (.string s) (by simp);have HB1:BelowD w.heap.size w w1:=((BelowD.refl _ _).alloc (TS _) _).trans (hb1.mono (by simp));clear k hb1 hc1 hf1;have q1:(9223372036854775807 < (aB a b).size + 1)=False:=by simp; omega
  have q2:(9223372036854775807 < (aB a b).size + 1 + r.size)=False:=by simp; omega
  have q3:(9223372036854775807 < (aB a b).size + 1 + r.size + 1)=False:=by simp; omega
  have q4:(9223372036854775807 < (aB a b).size + 1 + r.size + 1 + (aB c d).size)=False:=by simp; omega
  go_wp2_with fail
  go_region_held3 (fun w'=>w'.cell? ⟨w.heap.size,0,none⟩=some (.string a)∧w'.cell? ⟨w.heap.size,1,none⟩=some (.string b)∧w'.cell? ⟨w.heap.size,2,none⟩=some (.string r)∧w'.cell? ⟨w.heap.size,3,none⟩=some (.string c)∧w'.cell? ⟨w.heap.size,4,none⟩=some (.string d)∧w'.cell? ⟨w.heap.size,5,none⟩=some (.string s)∧w.heap.size < w'.heap.size∧BelowD w.heap.size w w')
   (first | exact Sr (by assumption) hbx | exact ⟨k0,k1,k2,k3,k4,k5,hz1,HB1.drew⟩)
   (first | (go_at_call 207; refine (wL _ _ _ (by assumption) (by assumption)).mono ?_; rintro e w' ⟨rfl,hbx⟩))
  rename_i hH;obtain ⟨g0,g1,g2,g3,g4,g5,gz,gB⟩:=hH;clear k0 k1 k2 k3 k4 k5 hbx q1 q2 q3 q4 HB1;by_cases he:s.toList.isEmpty=true
  ·have HT:Hid (aX a b r c d s=_):=mM hn he;go_wp2;go_ret;exact ⟨gu HT.out.symm,gB⟩
  have he':s.toList.isEmpty=false:=by simpa using he
  have HT:Hid (aX a b r c d s=_):=mP hn he';clear he;go_wp2;go_ret;exact ⟨gu (HT.out.trans (by simp only [ByteArray.append_assoc])).symm,gB⟩
 have hn':bI a b r c d s=false:=by simpa using hn
 have HT:Hid (aX a b r c d s=⟨#[]⟩):=sN hn';clear hn;go_enter func160,ntmps160;go_wp2_with fail;refine (uS _ _ _ _ _ _ _ ha hb hr hc hd hs).mono ?_;rintro e w1 ⟨rfl,hb1⟩;go_wp2;go_ret;exact ⟨gu HT.out.symm,((BelowD.refl _ _).alloc (TS _) _).trans (hb1.mono (by simp))⟩
theorem Qw {w W w':af} {n m k:Nat} {x0 x1 x2 x3 x4 x5 y0 y1 y2 y3 y4 y5:Value} (hk:k≤n) (h:W.cell? ⟨n,0,none⟩=some x0∧W.cell? ⟨n,1,none⟩=some x1∧W.cell? ⟨n,2,none⟩=some x2∧W.cell? ⟨n,3,none⟩=some x3∧W.cell? ⟨n,4,none⟩=some x4∧W.cell? ⟨n,5,none⟩=some x5∧W.cell? ⟨m,0,none⟩=some y0∧W.cell? ⟨m,1,none⟩=some y1∧W.cell? ⟨m,2,none⟩=some y2∧W.cell? ⟨m,3,none⟩=some y3∧W.cell? ⟨m,4,none⟩=some y4∧W.cell? ⟨m,5,none⟩=some y5∧n < W.heap.size∧m < W.heap.size∧BelowD k w W) (hb:BelowD W.heap.size W w'):w'.cell? ⟨n,0,none⟩=some x0∧w'.cell? ⟨n,1,none⟩=some x1∧w'.cell? ⟨n,2,none⟩=some x2∧w'.cell? ⟨n,3,none⟩=some x3∧w'.cell? ⟨n,4,none⟩=some x4∧w'.cell? ⟨n,5,none⟩=some x5∧w'.cell? ⟨m,0,none⟩=some y0∧w'.cell? ⟨m,1,none⟩=some y1∧w'.cell? ⟨m,2,none⟩=some y2∧w'.cell? ⟨m,3,none⟩=some y3∧w'.cell? ⟨m,4,none⟩=some y4∧w'.cell? ⟨m,5,none⟩=some y5∧n < w'.heap.size∧m < w'.heap.size∧BelowD k w w':=by
 obtain ⟨h0,h1,h2,h3,h4,h5,h6,h7,h8,h9,h10,h11,hn,hm,hB⟩:=h;have hc:∀ o,w'.cell? ⟨n,o,none⟩=W.cell? ⟨n,o,none⟩:=fun o=>hb.cell (p:=⟨n,o,none⟩) hn;have hd:∀ o,w'.cell? ⟨m,o,none⟩=W.cell? ⟨m,o,none⟩:=fun o=>hb.cell (p:=⟨m,o,none⟩) hm;exact ⟨by rw [hc]; exact h0,by rw [hc]; exact h1,by rw [hc]; exact h2,by rw [hc]; exact h3,by rw [hc]; exact h4,by rw [hc]; exact h5,by rw [hd]; exact h6,by rw [hd]; exact h7,by rw [hd]; exact h8,by rw [hd]; exact h9,by rw [hd]; exact h10,by rw [hd]; exact h11,TP hn hb.size,TP hm hb.size,hB.trans (hb.mono (by omega))⟩
theorem Ku (w:af) (o1 o2:Obj):BelowD w.heap.size w ((w.alloc o1).alloc o2) :=
 ((BelowD.refl _ _).alloc (TS _) _).alloc (by simp) _
theorem tO (a b r c d s a' b' r' c' d' s':bF) (w:af) (ha:a.size≤maxLen) (hb:b.size≤maxLen) (hr:r.size≤maxLen) (hc:c.size≤maxLen) (hd:d.size≤maxLen) (hs:s.size≤maxLen) (ga:a'.size≤maxLen) (gb:b'.size≤maxLen) (gr:r'.size≤maxLen) (gc:c'.size≤maxLen) (gd:d'.size≤maxLen) (gs:s'.size≤maxLen) :
  Calls prog 106 #[.agg #[.string a,.string b,.string r,.string c,.string d,.string s],.agg #[.string a',.string b',.string r',.string c',.string d',.string s']] w fun e w'=>e=.returned (.int .i64 (IG a b r c d s a' b' r' c' d' s'))∧BelowD w.heap.size w w':=by
 have H0:((w.alloc (.cells #[.string a,.string b,.string r,.string c,.string d,.string s] 46)).alloc (.cells #[.string a',.string b',.string r',.string c',.string d',.string s'] 46)).drew.cell? ⟨w.heap.size,0,none⟩=some (.string a)∧((w.alloc (.cells #[.string a,.string b,.string r,.string c,.string d,.string s] 46)).alloc (.cells #[.string a',.string b',.string r',.string c',.string d',.string s'] 46)).drew.cell? ⟨w.heap.size,1,none⟩=some (.string b)∧((w.alloc (.cells #[.string a,.string b,.string r,.string c,.string d,.string s] 46)).alloc (.cells #[.string a',.string b',.string r',.string c',.string d',.string s'] 46)).drew.cell? ⟨w.heap.size,2,none⟩=some (.string r)∧((w.alloc (.cells #[.string a,.string b,.string r,.string c,.string d,.string s] 46)).alloc (.cells #[.string a',.string b',.string r',.string c',.string d',.string s'] 46)).drew.cell? ⟨w.heap.size,3,none⟩=some (.string c)∧((w.alloc (.cells #[.string a,.string b,.string r,.string c,.string d,.string s] 46)).alloc (.cells #[.string a',.string b',.string r',.string c',.string d',.string s'] 46)).drew.cell? ⟨w.heap.size,4,none⟩=some (.string d)∧((w.alloc (.cells #[.string a,.string b,.string r,.string c,.string d,.string s] 46)).alloc (.cells #[.string a',.string b',.string r',.string c',.string d',.string s'] 46)).drew.cell? ⟨w.heap.size,5,none⟩=some (.string s)∧((w.alloc (.cells #[.string a,.string b,.string r,.string c,.string d,.string s] 46)).alloc (.cells #[.string a',.string b',.string r',.string c',.string d',.string s'] 46)).drew.cell? ⟨w.heap.size + 1,0,none⟩=some (.string a')∧((w.alloc (.cells #[.string a,.string b,.string r,.string c,.string d,.string s] 46)).alloc (.cells #[.string a',.string b',.string r',.string c',.string d',.string s'] 46)).drew.cell? ⟨w.heap.size + 1,1,none⟩=some (.string b')∧((w.alloc (.cells #[.string a,.string b,.string r,.string c,.string d,.string s] 46)).alloc (.cells #[.string a',.string b',.string r',.string c',.string d',.string s'] 46)).drew.cell? ⟨w.heap.size + 1,2,none⟩=some (.string r')∧((w.alloc (.cells #[.string a,.string b,.string r,.string c,.string d,.string s] 46)).alloc (.cells #[.string a',.string b',.string r',.string c',.string d',.string s'] 46)).drew.cell? ⟨w.heap.size + 1,3,none⟩=some (.string c')∧((w.alloc (.cells #[.string a,.string b,.string r,.string c,.string d,.string s] 46)).alloc (.cells #[.string a',.string b',.string r',.string c',.string d',.string s'] 46)).drew.cell? ⟨w.heap.size + 1,4,none⟩=some (.string d')∧((w.alloc (.cells #[.string a,.string b,.string r,.string c,.string d,.string s] 46)).alloc (.cells #[.string a',.string b',.string r',.string c',.string d',.string s'] 46)).drew.cell? ⟨w.heap.size + 1,5,none⟩=some (.string s')∧w.heap.size < ((w.alloc (.cells #[.string a,.string b,.string r,.string c,.string d,.string s] 46)).alloc (.cells #[.string a',.string b',.string r',.string c',.string d',.string s'] 46)).drew.heap.size∧w.heap.size + 1 < ((w.alloc (.cells #[.string a,.string b,.string r,.string c,.string d,.string s] 46)).alloc (.cells #[.string a',.string b',.string r',.string c',.string d',.string s'] 46)).drew.heap.size∧BelowD w.heap.size w (((w.alloc (.cells #[.string a,.string b,.string r,.string c,.string d,.string s] 46)).alloc (.cells #[.string a',.string b',.string r',.string c',.string d',.string s'] 46)).drew):=by
  refine ⟨?_,?_,?_,?_,?_,?_,?_,?_,?_,?_,?_,?_,?_,?_,?_⟩
  all_goals first | exact (Ku _ _ _).drew | (simp; done) | (simp; omega)
 go_enter func106,ntmps106;go_wp2_with fail
 go_region_held3 (fun w'=>w'.cell? ⟨w.heap.size,0,none⟩=some (.string a)∧w'.cell? ⟨w.heap.size,1,none⟩=some (.string b)∧w'.cell? ⟨w.heap.size,2,none⟩=some (.string r)∧w'.cell? ⟨w.heap.size,3,none⟩=some (.string c)∧w'.cell? ⟨w.heap.size,4,none⟩=some (.string d)∧w'.cell? ⟨w.heap.size,5,none⟩=some (.string s)∧w'.cell? ⟨w.heap.size + 1,0,none⟩=some (.string a')∧w'.cell? ⟨w.heap.size + 1,1,none⟩=some (.string b')∧w'.cell? ⟨w.heap.size + 1,2,none⟩=some (.string r')∧w'.cell? ⟨w.heap.size + 1,3,none⟩=some (.string c')∧w'.cell? ⟨w.heap.size + 1,4,none⟩=some (.string d')∧w'.cell? ⟨w.heap.size + 1,5,none⟩=some (.string s')∧w.heap.size < w'.heap.size∧w.heap.size + 1 < w'.heap.size∧BelowD w.heap.size w w')
  (first | assumption | exact Qw (TS _) (by assumption) hbx | exact H0)
  (first | (go_at_call 160; refine (wM _ _ _ _ _ _ _ (by assumption) (by assumption) (by assumption) (by assumption) (by assumption) (by assumption)).mono ?_; rintro e w' ⟨rfl,hbx⟩) | (go_at_call 159; refine (Tryz.strings_Compare _ _ _).mono ?_; rintro e w' ⟨rfl,rfl⟩))
 rename_i hH;obtain ⟨-,-,-,-,-,-,-,-,-,-,-,-,-,-,gB⟩:=hH;go_wp2;go_ret;exact ⟨rfl,gB⟩
end Go.Proofs.YtajkkeikihhejaaGreat
namespace Go.Proofs.YtajkkeikihhejaaGreat
open Go.ChangeShapes Go.WideShapes Go.ChangeAt Go.RowKit
open Pl
attribute [local go_sem ↓] Go.wp_at_zero Go.wp_at_succ
theorem LA (a b r c d:bF) (w:af) :
  Calls prog 181 #[.agg #[.string a,.string b,.string r,.string c,.string d]] w fun e w'=>e=.returned (.agg #[.string a,.string b,.string r,.string c,.string d,.string ⟨#[]⟩])∧ag w w':=by
 go_enter func181,ntmps181;go_wp2;exact bodyPost_ret (v:=.agg #[.string a,.string b,.string r,.string c,.string d,.string ⟨#[]⟩]) (by simp [results,Tryz.results181,go_sem, *]) rfl ⟨rfl,by
  repeat (first | exact TT _ _ | refine Below.setCell ?_ (by first | (simp; done) | (simp; omega)) _ | refine Below.alloc ?_ (by first | (simp; done) | (simp; omega)) _)⟩
theorem Qx {w W w':af} {n m k:Nat} {x0 x1 x2 x3 x4 y0 y1 y2 y3 y4:Value} (hk:k≤n) (h:W.cell? ⟨n,0,none⟩=some x0∧W.cell? ⟨n,1,none⟩=some x1∧W.cell? ⟨n,2,none⟩=some x2∧W.cell? ⟨n,3,none⟩=some x3∧W.cell? ⟨n,4,none⟩=some x4∧W.cell? ⟨m,0,none⟩=some y0∧W.cell? ⟨m,1,none⟩=some y1∧W.cell? ⟨m,2,none⟩=some y2∧W.cell? ⟨m,3,none⟩=some y3∧W.cell? ⟨m,4,none⟩=some y4∧n < W.heap.size∧m < W.heap.size∧Below k w W) (hb:ag W w'):w'.cell? ⟨n,0,none⟩=some x0∧w'.cell? ⟨n,1,none⟩=some x1∧w'.cell? ⟨n,2,none⟩=some x2∧w'.cell? ⟨n,3,none⟩=some x3∧w'.cell? ⟨n,4,none⟩=some x4∧w'.cell? ⟨m,0,none⟩=some y0∧w'.cell? ⟨m,1,none⟩=some y1∧w'.cell? ⟨m,2,none⟩=some y2∧w'.cell? ⟨m,3,none⟩=some y3∧w'.cell? ⟨m,4,none⟩=some y4∧n < w'.heap.size∧m < w'.heap.size∧Below k w w':=by
 obtain ⟨h0,h1,h2,h3,h4,h5,h6,h7,h8,h9,hn,hm,hB⟩:=h;have hc:∀ o,w'.cell? ⟨n,o,none⟩=W.cell? ⟨n,o,none⟩:=fun o=>hb.cell (p:=⟨n,o,none⟩) hn;have hd:∀ o,w'.cell? ⟨m,o,none⟩=W.cell? ⟨m,o,none⟩:=fun o=>hb.cell (p:=⟨m,o,none⟩) hm;exact ⟨by rw [hc]; exact h0,by rw [hc]; exact h1,by rw [hc]; exact h2,by rw [hc]; exact h3,by rw [hc]; exact h4,by rw [hd]; exact h5,by rw [hd]; exact h6,by rw [hd]; exact h7,by rw [hd]; exact h8,by rw [hd]; exact h9,TP hn hb.size,TP hm hb.size,hB.trans (hb.mono (by omega))⟩
theorem Tt (a b r c d a' b' r' c' d':bF) (w W:af) (hW:W=((w.alloc (.cells #[.string a,.string b,.string r,.string c,.string d] 29)).alloc (.cells #[.string a',.string b',.string r',.string c',.string d'] 29))):W.drew.cell? ⟨w.heap.size,0,none⟩=some (.string a)∧W.drew.cell? ⟨w.heap.size,1,none⟩=some (.string b)∧W.drew.cell? ⟨w.heap.size,2,none⟩=some (.string r)∧W.drew.cell? ⟨w.heap.size,3,none⟩=some (.string c)∧W.drew.cell? ⟨w.heap.size,4,none⟩=some (.string d)∧W.drew.cell? ⟨w.heap.size + 1,0,none⟩=some (.string a')∧W.drew.cell? ⟨w.heap.size + 1,1,none⟩=some (.string b')∧W.drew.cell? ⟨w.heap.size + 1,2,none⟩=some (.string r')∧W.drew.cell? ⟨w.heap.size + 1,3,none⟩=some (.string c')∧W.drew.cell? ⟨w.heap.size + 1,4,none⟩=some (.string d')∧w.heap.size < W.drew.heap.size∧w.heap.size + 1 < W.drew.heap.size∧ag w W.drew:=by
 subst hW;refine ⟨?_,?_,?_,?_,?_,?_,?_,?_,?_,?_,?_,?_,?_⟩
 all_goals first | exact (zR _ _ _).drew | (simp; done) | (simp; omega)
theorem uT (a b r c d a' b' r' c' d':bF) (w:af) (ha:a.size≤maxLen) (hb:b.size≤maxLen) (hr:r.size≤maxLen) (hc:c.size≤maxLen) (hd:d.size≤maxLen) (ga:a'.size≤maxLen) (gb:b'.size≤maxLen) (gr:r'.size≤maxLen) (gc:c'.size≤maxLen) (gd:d'.size≤maxLen) :
  Calls prog 130 #[.agg #[.string a,.string b,.string r,.string c,.string d],.agg #[.string a',.string b',.string r',.string c',.string d']] w fun e w'=>e=.returned (.bool (fU a b r c d ⟨#[]⟩ a' b' r' c' d' ⟨#[]⟩))∧ag w w':=by
 have he0:(⟨#[]⟩:ByteArray).size≤maxLen:=by decide
 have H0:=Tt a b r c d a' b' r' c' d' w _ rfl;go_enter func130,ntmps130;go_wp2_with fail
 go_region_held3 (fun w'=>w'.cell? ⟨w.heap.size,0,none⟩=some (.string a)∧w'.cell? ⟨w.heap.size,1,none⟩=some (.string b)∧w'.cell? ⟨w.heap.size,2,none⟩=some (.string r)∧w'.cell? ⟨w.heap.size,3,none⟩=some (.string c)∧w'.cell? ⟨w.heap.size,4,none⟩=some (.string d)∧w'.cell? ⟨w.heap.size + 1,0,none⟩=some (.string a')∧w'.cell? ⟨w.heap.size + 1,1,none⟩=some (.string b')∧w'.cell? ⟨w.heap.size + 1,2,none⟩=some (.string r')∧w'.cell? ⟨w.heap.size + 1,3,none⟩=some (.string c')∧w'.cell? ⟨w.heap.size + 1,4,none⟩=some (.string d')∧w.heap.size < w'.heap.size∧w.heap.size + 1 < w'.heap.size∧ag w w')
  (first | assumption | exact Qx (TS _) (by assumption) hbx | exact H0)
  (first | (go_at_call 181; refine (LA _ _ _ _ _ _).mono ?_; rintro e w' ⟨rfl,hbx⟩) | (go_at_call 137; refine (nD _ _ _ _ _ _ _ _ _ _ _ _ _ (by assumption) (by assumption) (by assumption) (by assumption) (by assumption) (by assumption) (by assumption) (by assumption) (by assumption) (by assumption) (by assumption) (by assumption)).mono ?_; rintro e w' ⟨rfl,hbx⟩))
 rename_i hJ;obtain ⟨-,-,-,-,-,-,-,-,-,-,-,-,gB⟩:=hJ;go_wp2;go_ret;exact ⟨rfl,gB⟩
end Go.Proofs.YtajkkeikihhejaaGreat
namespace Go.Proofs.YtajkkeikihhejaaGreat
open Go.ChangeShapes Go.WideShapes Go.ChangeAt Go.RowKit Go.Maps
open Pl
set_option maxRecDepth 8000 in
theorem Em (ad:Option Addr) (cap:Nat) (rs:List ER) (w:af) (hlen:rs.length≤15) (hs:iH w ad rs) (hl:∀ r ∈ rs,r.e.light) :
  Calls prog 54 #[.slice ad rs.length cap] w fun e w'=>∃ rs':List ER,e=.returned (.slice (some ⟨w.heap.size,0,none⟩) rs'.length rs'.length)∧aj rs'=aj rs∧iH w' (some ⟨w.heap.size,0,none⟩) rs'∧qG w.heap.size w' rs'∧gY w' w.heap.size∧w.heap.size < w'.heap.size∧ag w w':=by
 obtain ⟨inf,z,hi,hz0,hz1,hz2⟩:=RX (t:=39) (n:=5) (b:=88) (by kernel_rfl);obtain ⟨iA,hiA,zA0,zA1,zA2⟩:=info_parts (P:=prog) (e:=43) (z:=.agg #[.string ⟨#[]⟩,.string ⟨#[]⟩]) (size:=2) (bytes:=32) (by kernel_rfl);obtain ⟨iI,hiI,zI0,zI1,zI2⟩:=info_parts (P:=prog) (e:=2) (z:=.int .i64 0) (size:=1) (bytes:=8) (by kernel_rfl);have WG:=az hs;have XQ:=az hl;have YB:Hid (prog.info? 43=some iA∧iA.zero=some (.agg #[.string ⟨#[]⟩,.string ⟨#[]⟩])∧iA.size=2∧iA.bytes=32):=⟨hiA,zA0,zA1,zA2⟩;have Z6:Hid (prog.info? 2=some iI∧iI.zero=some (.int .i64 0)∧iI.size=1∧iI.bytes=8):=⟨hiI,zI0,zI1,zI2⟩;clear hs hl hiA zA0 zA1 zA2 hiI zI0 zI1 zI2;go_enter func54,ntmps54;go_wp2_with (at_make; refine wpList_make_full _ rfl _ _ 33 rfl w.heap.size 39 inf z 5 underlying33 hi hz0 hz1 .i64 .i64 _ _ rs.length rfl rfl rfl rfl (by rw [hz2]; omega) (by unfold maxLen; omega) (TS _) ?_; intro w0 hown0 Vu);have F0:Fil w w0 w.heap.size (rs.length * 5) []:=Np hown0 Vu;clear hown0 Vu hi hz0 hz1 hz2;go_loopw [11] (fun i wr=>∃ (k:Nat) (qs:List ER),k≤rs.length∧i=.int .i64 k∧Hid (qs.length=k∧aj qs=(aj rs).take k∧(∀ q ∈ qs,q.ok wr))∧Hid (qG w.heap.size wr qs)∧Hid (Fil w wr w.heap.size (rs.length * 5) (gZ qs))) (fun i _=>rs.length - (intOf i).toNat);case atStart=>exact ⟨0,[],TW _,rfl,⟨rfl,by simp [aj],(fun q hq=>by cases hq)⟩,qG.nil _ _,F0⟩
 clear F0;obtain ⟨k,qs,hk,rfl,HQ,HO,HF⟩:=hrel;by_cases hlt:k < rs.length
 ·rcases WG.out.below HF.out.below with hnil | ⟨b,off,UF,hb,hr,hok⟩
  ·rw [hnil] at hlt; simp at hlt
  obtain ⟨t0,t1,t2,t3,t4⟩:=hr k hlt;have Vz:Hid (rs[k].ok wr):=hok rs[k] (TQ hlt);have hlg:=XQ.out rs[k] (TQ hlt);have lA:rs[k].e.allow.length≤1048576:=hlg.1;have lK:rs[k].e.kids.length≤1048576:=hlg.2;have hk1:=bB k;have hk2:(k:Int) < (rs.length:Int):=by omega
  obtain ⟨W1,hW1⟩:∃ W1,W1=wr.alloc (.cells #[.int .i64 rs[k].e.kind,.slice rs[k].adA rs[k].e.allow.length rs[k].capA,.string rs[k].e.over,.string rs[k].e.name,.slice rs[k].adK rs[k].e.kids.length rs[k].capK] 39):=⟨_,rfl⟩;have HB1:=qY hW1;have hgl:wr.heap.size < W1.heap.size:=by rw [hW1]; simp
  have HSA1:Hid (jM W1 rs[k].adA rs[k].e.allow):=Vz.out.1.below HB1.out;have p0:W1.cell? ⟨wr.heap.size,0,none⟩=some (.int .i64 rs[k].e.kind):=by rw [hW1]; simp
  have p1:W1.cell? ⟨wr.heap.size,1,none⟩=some (.slice rs[k].adA rs[k].e.allow.length rs[k].capA):=by rw [hW1]; simp
  have p2:W1.cell? ⟨wr.heap.size,2,none⟩=some (.string rs[k].e.over):=by rw [hW1]; simp
  have p3:W1.cell? ⟨wr.heap.size,3,none⟩=some (.string rs[k].e.name):=by rw [hW1]; simp
  have p4:W1.cell? ⟨wr.heap.size,4,none⟩=some (.slice rs[k].adK rs[k].e.kids.length rs[k].capK):=by rw [hW1]; simp
  have fp:∀ y,W1.frozen? ⟨wr.heap.size,y,none⟩=false:=fun y=>by rw [hW1]; simp
  have WU:Hid (W1.cell? ⟨wr.heap.size,0,none⟩=some (.int .i64 rs[k].e.kind)∧W1.cell? ⟨wr.heap.size,1,none⟩=some (.slice rs[k].adA rs[k].e.allow.length rs[k].capA)∧W1.cell? ⟨wr.heap.size,2,none⟩=some (.string rs[k].e.over)∧W1.cell? ⟨wr.heap.size,3,none⟩=some (.string rs[k].e.name)∧W1.cell? ⟨wr.heap.size,4,none⟩=some (.slice rs[k].adK rs[k].e.kids.length rs[k].capK)∧∀ y,W1.frozen? ⟨wr.heap.size,y,none⟩=false):=⟨p0,p1,p2,p3,p4,fp⟩;clear p0 p1 p2 p3 p4 fp;rw [UF];clear hr hok hlg;go_wp2_with (at_builtin; rw [← hW1]; clear hW1; refine l8 _ rfl _ _ 36 rfl 43 iA (.agg #[.string ⟨#[]⟩,.string ⟨#[]⟩]) 2 32 underlying36 YB.out.1 YB.out.2.1 YB.out.2.2.1 YB.out.2.2.2 rfl (by decide) rfl rs[k].adA rs[k].e.allow.length rs[k].capA (pairs rs[k].e.allow) rfl (ll _) HSA1.out.none0 (Sk HSA1.out) (Oq _) (by unfold maxLen; omega) (by omega) ?_);intro v2 w2 hown2 U0;have HB2:Hid (ag W1 w2):=(TT _ _).grown U0 (TS _) (fun k hk=>by cases hk);obtain ⟨adA,cpA,rfl,hsA,hzA,hoA⟩:=RB (by simpa using hown2) (by simp);have HSA2:=az hsA;have HZA:Hid (rs[k].e.allow ≠ []→∃ g,adA=some ⟨g,0,none⟩):=hzA;have HOA:Hid (∀ g,rs[k].e.allow ≠ []→adA=some ⟨g,0,none⟩→W1.heap.size≤g∧g < w2.heap.size∧gY w2 g):=hoA;have x0:w2.cell? ⟨wr.heap.size,0,none⟩=some (.int .i64 rs[k].e.kind):=kept HB2.out hgl WU.out.1;have x1:w2.cell? ⟨wr.heap.size,1,none⟩=some (.slice rs[k].adA rs[k].e.allow.length rs[k].capA):=kept HB2.out hgl WU.out.2.1;have x2:w2.cell? ⟨wr.heap.size,2,none⟩=some (.string rs[k].e.over):=kept HB2.out hgl WU.out.2.2.1;have x3:w2.cell? ⟨wr.heap.size,3,none⟩=some (.string rs[k].e.name):=kept HB2.out hgl WU.out.2.2.2.1;have x4:w2.cell? ⟨wr.heap.size,4,none⟩=some (.slice rs[k].adK rs[k].e.kids.length rs[k].capK):=kept HB2.out hgl WU.out.2.2.2.2.1;have fx:∀ y,w2.frozen? ⟨wr.heap.size,y,none⟩=false:=fun y=>Nq HB2.out hgl (WU.out.2.2.2.2.2 y);clear hown2 U0 hsA hzA hoA;obtain ⟨W3,hW3⟩:∃ W3,W3=w2.setCell ⟨wr.heap.size,1,none⟩ (.slice adA rs[k].e.allow.length cpA):=⟨_,rfl⟩;have HB3:Hid (ag wr W3):=by
   show Below _ _ _;rw [hW3];exact (HB1.out.trans (HB2.out.mono (Nat.le_of_lt hgl))).setCell (TS _) _
  have Xv:Hid (Chg (fun g=>g=wr.heap.size) w2 W3):=by rw [hW3]; exact Chg.set _ rfl
  have HSK3:Hid (pW W3 rs[k].adK rs[k].e.kids):=Vz.out.2.below HB3.out;have YC:wr.heap.size < W3.heap.size:=by rw [hW3]; simp only [World.size_setCell]; exact TP hgl HB2.out.size
  have Wj:Hid (W3.cell? ⟨wr.heap.size,0,none⟩=some (.int .i64 rs[k].e.kind)∧W3.cell? ⟨wr.heap.size,1,none⟩=some (.slice adA rs[k].e.allow.length cpA)∧W3.cell? ⟨wr.heap.size,2,none⟩=some (.string rs[k].e.over)∧W3.cell? ⟨wr.heap.size,3,none⟩=some (.string rs[k].e.name)∧W3.cell? ⟨wr.heap.size,4,none⟩=some (.slice rs[k].adK rs[k].e.kids.length rs[k].capK)∧∀ y,W3.frozen? ⟨wr.heap.size,y,none⟩=false):=by
   rw [hW3];exact ⟨by rw [lN (by omega)]; exact x0,xq x1,by rw [lN (by omega)]; exact x2,by rw [lN (by omega)]; exact x3,by rw [lN (by omega)]; exact x4,fun y=>by simpa using fx y⟩
  go_wp2_with (at_builtin; rw [← hW3]; clear hW3; refine l8 _ rfl _ _ 37 rfl 2 iI (.int .i64 0) 1 8 underlying37 Z6.out.1 Z6.out.2.1 Z6.out.2.2.1 Z6.out.2.2.2 rfl (by decide) rfl rs[k].adK rs[k].e.kids.length rs[k].capK (ints rs[k].e.kids) rfl (by simp [ints]) HSK3.out.none0 (Sm HSK3.out) (Qu _) (by unfold maxLen; omega) (by omega) ?_);intro v4 w4 U1 Vp;have Vi:Hid (ag W3 w4):=(TT _ _).grown Vp (TS _) (fun k hk=>by cases hk);obtain ⟨adK,cpK,rfl,hsK,hzK,hoK⟩:=RD (by simpa using U1) (by simp);have HSK4:=az hsK;have HZK:Hid (rs[k].e.kids ≠ []→∃ g,adK=some ⟨g,0,none⟩):=hzK;have HOKK:Hid (∀ g,rs[k].e.kids ≠ []→adK=some ⟨g,0,none⟩→W3.heap.size≤g∧g < w4.heap.size∧gY w4 g):=hoK;have y0:w4.cell? ⟨wr.heap.size,0,none⟩=some (.int .i64 rs[k].e.kind):=kept Vi.out YC Wj.out.1;have y1:w4.cell? ⟨wr.heap.size,1,none⟩=some (.slice adA rs[k].e.allow.length cpA):=kept Vi.out YC Wj.out.2.1;have y2:w4.cell? ⟨wr.heap.size,2,none⟩=some (.string rs[k].e.over):=kept Vi.out YC Wj.out.2.2.1;have y3:w4.cell? ⟨wr.heap.size,3,none⟩=some (.string rs[k].e.name):=kept Vi.out YC Wj.out.2.2.2.1;have y4:w4.cell? ⟨wr.heap.size,4,none⟩=some (.slice rs[k].adK rs[k].e.kids.length rs[k].capK):=kept Vi.out YC Wj.out.2.2.2.2.1;have fy:∀ y,w4.frozen? ⟨wr.heap.size,y,none⟩=false:=fun y=>Nq Vi.out YC (Wj.out.2.2.2.2.2 y);clear U1 Vp hsK hzK hoK x0 x1 x2 x3 x4 fx t0 t1 t2 t3 t4;obtain ⟨W5,Vb⟩:∃ W5,W5=w4.setCell ⟨wr.heap.size,4,none⟩ (.slice adK rs[k].e.kids.length cpK):=⟨_,rfl⟩;have VQ:Hid (ag wr W5):=by
   show Below _ _ _;rw [Vb];exact (HB3.out.trans (Vi.out.mono HB3.out.size)).setCell (TS _) _
  have Wy:Hid (Chg (fun g=>g=wr.heap.size) w4 W5):=by rw [Vb]; exact Chg.set _ rfl
  obtain ⟨q,hq⟩:∃ q:ER,q=⟨rs[k].e,adA,cpA,adK,cpK⟩:=⟨_,rfl⟩;have HCA5:Hid (Chg (fun g=>g=wr.heap.size) w2 W5):=Xv.out.trans ((Chg.of Vi.out).trans Wy.out);have HQOK:Hid (q.ok W5):=by
   rw [hq];refine ⟨HSA2.out.chg HCA5.out fun g o hne e=>?_,HSK4.out.chg Wy.out fun g o hne e=>?_⟩
   ·obtain ⟨g0,e0⟩:=HZA.out hne;rw [e0] at e; injection e with e; injection e with e1 e2;have:=(HOA.out g0 hne e0).1;omega
   obtain ⟨g0,e0⟩:=HZK.out hne;rw [e0] at e; injection e with e; injection e with e1 e2;have:=(HOKK.out g0 hne e0).1;omega
  have HQR:Hid (∀ g,oJ q g→wr.heap.size < g∧g < W5.heap.size∧gY W5 g):=by
   rw [hq];rintro g (⟨hne,e⟩ | ⟨hne,e⟩)
   ·obtain ⟨a1,a2,a3⟩:=HOA.out g hne e;exact ⟨by omega,TP a2 HCA5.out.size,HCA5.out.free g a2 a3⟩
   obtain ⟨a1,a2,a3⟩:=HOKK.out g hne e;exact ⟨by omega,TP a2 Wy.out.size,Wy.out.free g a2 a3⟩
  have HQ1:Hid (∀ g,bA q g→¬ bK q g):=by
   rw [hq];rintro g ⟨hne,e⟩ ⟨hne2,e2⟩;obtain ⟨a1,a2,a3⟩:=HOA.out g hne e;obtain ⟨b1,b2,b3⟩:=HOKK.out g hne2 e2;have:=Xv.out.size;omega
  have HQZ:Hid ((q.e.allow ≠ []→∃ g,q.adA=some ⟨g,0,none⟩)∧(q.e.kids ≠ []→∃ g,q.adK=some ⟨g,0,none⟩)):=by rw [hq]; exact ⟨HZA.out,HZK.out⟩
  have F1:=HF.out.later VQ.out;have F4:=HF.out.later (HB3.out.trans (Vi.out.mono HB3.out.size));have fz:=F4.free;obtain ⟨v0,u0⟩:=Option.isSome_iff_exists.mp (F4.there (k * 5) (by omega));obtain ⟨v1,u1⟩:=Option.isSome_iff_exists.mp (F4.there (k * 5 + 1) (by omega));obtain ⟨v2,u2⟩:=Option.isSome_iff_exists.mp (F4.there (k * 5 + 2) (by omega));obtain ⟨v3,u3⟩:=Option.isSome_iff_exists.mp (F4.there (k * 5 + 3) (by omega));obtain ⟨v4,u4⟩:=Option.isSome_iff_exists.mp (F4.there (k * 5 + 4) (by omega));have hne1:(wr.heap.size=w.heap.size)=False:=by have:=HF.out.lt; simp; omega
  have hne2:(w.heap.size=wr.heap.size)=False:=by have:=HF.out.lt; simp; omega
  have hpl:(gZ qs).length=k * 5:=by rw [q8,HQ.out.1]
  have F2:=((((F1.put (.int .i64 rs[k].e.kind) (o:=k * 5) hpl.symm (by omega)).put (.slice adA rs[k].e.allow.length cpA) (o:=k * 5 + 1) (by simp [hpl]) (by omega)).put (.string rs[k].e.over) (o:=k * 5 + 2) (by simp [hpl]) (by omega)).put (.string rs[k].e.name) (o:=k * 5 + 3) (by simp [hpl]) (by omega)).put (.slice adK rs[k].e.kids.length cpK) (o:=k * 5 + 4) (by simp [hpl]) (by omega);have e5:((((gZ qs ++ [.int .i64 rs[k].e.kind]) ++ [.slice adA rs[k].e.allow.length cpA]) ++ [.string rs[k].e.over]) ++ [.string rs[k].e.name]) ++ [.slice adK rs[k].e.kids.length cpK]=gZ (qs ++ [q]):=by rw [hq]; simp [gZ,ER.row]
  rw [e5] at F2;obtain ⟨wn,hwn⟩:∃ wn,wn=((((W5.setCell ⟨w.heap.size,k * 5,none⟩ (.int .i64 rs[k].e.kind)).setCell ⟨w.heap.size,k * 5 + 1,none⟩ (.slice adA rs[k].e.allow.length cpA)).setCell ⟨w.heap.size,k * 5 + 2,none⟩ (.string rs[k].e.over)).setCell ⟨w.heap.size,k * 5 + 3,none⟩ (.string rs[k].e.name)).setCell ⟨w.heap.size,k * 5 + 4,none⟩ (.slice adK rs[k].e.kids.length cpK):=⟨_,rfl⟩;have HCW:Hid (Chg (fun g=>g=w.heap.size) W5 wn):=by rw [hwn]; exact ((((Chg.set (S:=fun g=>g=w.heap.size) _ rfl).trans (Chg.set _ rfl)).trans (Chg.set _ rfl)).trans (Chg.set _ rfl)).trans (Chg.set _ rfl)
  have UB:Hid (qG w.heap.size wn (qs ++ [q])):=HO.out.add ((Chg.of VQ.out).trans HCW.out) HF.out.lt HQZ.out.1 HQZ.out.2 HQ1.out fun g hg=>by
   obtain ⟨a1,a2,a3⟩:=HQR.out g hg;exact ⟨by omega,TP a2 HCW.out.size,HCW.out.free g a2 a3⟩
  have HQ2:Hid ((qs ++ [q]).length=k + 1∧aj (qs ++ [q])=(aj rs).take (k + 1)∧∀ p ∈ qs ++ [q],p.ok wn):=by
   obtain ⟨h1,h2,h3⟩:=HQ.out;refine ⟨by simp [h1],?_,?_⟩
   ·rw [TV (by rw [aT]; exact hlt),← h2];simp [aj,hq]
   intro p hp;have hin:∀ g,oJ p g→w.heap.size < g:=fun g hg=>(UB.out.2 p hp g hg).1;have hzA:=UB.out.1.zeroA p hp;have hzK:=UB.out.1.zeroK p hp;have hp5:p.ok W5:=by
    rw [Uc,Ua] at hp;rcases hp with hp | rfl
    ·exact (h3 p hp).below VQ.out
    exact HQOK.out
   refine hp5.chg HCW.out (fun g o hne e=>?_) (fun g o hne e=>?_)
   ·obtain ⟨g0,e0⟩:=hzA hne;have e':=e;rw [e0] at e'; injection e' with e'; injection e' with e1 e2;have:=hin g0 (.inl ⟨hne,e0⟩);omega
   obtain ⟨g0,e0⟩:=hzK hne;have e':=e;rw [e0] at e'; injection e' with e'; injection e' with e1 e2;have:=hin g0 (.inr ⟨hne,e0⟩);omega
  rw [← hwn] at F2;have VI:=az F2;have HWN:Hid (wn=((((W5.setCell ⟨w.heap.size,k * 5,none⟩ (.int .i64 rs[k].e.kind)).setCell ⟨w.heap.size,k * 5 + 1,none⟩ (.slice adA rs[k].e.allow.length cpA)).setCell ⟨w.heap.size,k * 5 + 2,none⟩ (.string rs[k].e.over)).setCell ⟨w.heap.size,k * 5 + 3,none⟩ (.string rs[k].e.name)).setCell ⟨w.heap.size,k * 5 + 4,none⟩ (.slice adK rs[k].e.kids.length cpK)):=hwn;have HW5:Hid (W5=w4.setCell ⟨wr.heap.size,4,none⟩ (.slice adK rs[k].e.kids.length cpK)):=Vb;clear F1 F2 F4 hpl e5 hq hwn Vb;go_wp2;rw [← HW5.out,← HWN.out];go_roundw;case rel=>exact ⟨k + 1,qs ++ [q],by omega,by go_num,HQ2,UB,VI⟩
  simp [intOf]; omega
 obtain rfl:k=rs.length:=by omega
 obtain ⟨h1,h2,h3⟩:=HQ.out;have HQ3:Hid (qs.length=rs.length):=h1;have HE3:Hid (aj qs=aj rs):=by rw [← aT rs,Ug] at h2; exact h2
 have HS3:Hid (iH wr (some ⟨w.heap.size,0,none⟩) qs):=by
  have F:=HF.out;rw [← h1] at F;exact F.rows fun r hr=>h3 r hr
 have HB3:Hid (ag w wr):=HF.out.below;have HFH:Hid (gY wr w.heap.size):=HF.out.free;have ZK:Hid (w.heap.size < wr.heap.size):=HF.out.lt;clear h1 h2 h3;go_wp2;go_ret;exact ⟨qs,by rw [HQ3.out]; rfl,HE3.out,HS3.out,HO.out,HFH.out,ZK.out,HB3.out⟩
open Go.Sort
set_option maxRecDepth 100000
theorem En (ad:Option Addr) (cap:Nat) (ts:List Tp) (t:Tp) (w:af) (hlen:ts.length≤1048576) (hs:Sl w ad ts) :
  Calls prog 15 #[.slice ad ts.length cap,.agg #[.string t.a,.string t.b,.string t.r,.string t.c,.string t.d,.string t.s]] w fun e w'=>e=.returned (.bool (l7 ts t))∧ag w w':=by
 have HS:=pU hs;clear hs;obtain ⟨W0,hW0⟩:∃ W0,W0=w.alloc (.cells #[.string t.a,.string t.b,.string t.r,.string t.c,.string t.d,.string t.s] 46):=⟨_,rfl⟩;have HB0:=qY hW0;have HX0:Hid (∀ j (hj:j < 6),W0.cell? ⟨w.heap.size,j,none⟩=some (t.row[j]'hj)):=fun j hj=>by
  have hc:=TI (i:=j) (by omega);rw [hW0];rcases hc with rfl | rfl | rfl | rfl | rfl | rfl <;> simp [Tp.row]
 go_enter func15,ntmps15;go_wp2;rw [← hW0];clear hW0;go_loopw [5] (fun i wr=>∃ k:Nat,k≤ts.length∧i=.int .i64 k∧Hid (l7 (ts.drop k) t=l7 ts t)∧Hid (ag W0 wr)) (fun i _=>ts.length - (intOf i).toNat);case atStart=>exact ⟨0,TW _,rfl,rfl,TT _ _⟩
 obtain ⟨k,hk,rfl,HP,HB⟩:=hrel;have UG:Hid (ag w wr):=HB0.out.trans (HB.out.mono HB0.out.size);by_cases hlt:k < ts.length
 ·rcases HS.out.below UG.out with hnil | ⟨b,off,rfl,hb,hr⟩
  ·rw [hnil] at hlt; simp at hlt
  obtain ⟨t0,t1,t2,t3,t4,t5⟩:=hr k hlt;have x0:=cell_regrown (cell_later HB.out (HX0.out 0 (by omega)));have x1:=cell_regrown (cell_later HB.out (HX0.out 1 (by omega)));have x2:=cell_regrown (cell_later HB.out (HX0.out 2 (by omega)));have x3:=cell_regrown (cell_later HB.out (HX0.out 3 (by omega)));have x4:=cell_regrown (cell_later HB.out (HX0.out 4 (by omega)));have x5:=cell_regrown (cell_later HB.out (HX0.out 5 (by omega)));simp only [Tp.row,List.getElem_cons_zero,List.getElem_cons_succ] at x0 x1 x2 x3 x4 x5;replace t0:=cell_regrown t0;replace t1:=cell_regrown t1;replace t2:=cell_regrown t2;replace t3:=cell_regrown t3;replace t4:=cell_regrown t4;replace t5:=cell_regrown t5;have hk1:=bB k;have hk2:(k:Int) < (ts.length:Int):=by omega
  have HD:Hid (l7 ts t=(Ej ts[k] t || l7 (ts.drop (k + 1)) t)):=by show _=_; rw [← HP.out]; exact CK hlt
  have Va:Hid (∀ d os,ag W0 (grow (redrawn wr d) os)):=fun d os=>HB.out.trans ((below_regrown wr d os).mono HB.out.size);clear hr;obtain ⟨q,hq⟩:∃ q,Ej ts[k] t=q:=⟨_,rfl⟩;have heq:=IJ ts[k] t hq;rw [hq] at HD;clear hq;go_wp2_with fail;refine wp_region_quiet_below (by kernel_rfl) (by kernel_rfl) ?_
  repeat (go_big_quiet_step (fail))
  refine wpQuiet_nil ?_;rintro _ ⟨⟨dq,osq⟩,rfl⟩;cases q;case true=>
   go_wp2;go_ret;exact ⟨by rw [HD.out]; rfl,HB0.out.trans ((Va.out dq osq).mono HB0.out.size)⟩
  go_wp2;go_roundw;case rel=>exact ⟨k + 1,by omega,by go_num,HD.out.symm,Va.out dq osq⟩
  simp [intOf] <;> omega
 have HE:Hid (l7 ts t=false):=by
  show _=_;rw [← HP.out,List.drop_of_length_le (by omega)]; rfl
 go_wp2;go_ret;exact ⟨by rw [HE.out]; rfl,UG.out⟩
end Go.Proofs.YtajkkeikihhejaaGreat
