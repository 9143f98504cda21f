/- Lists in memory whose elements hold lists again, each in a row and in a block of its own: one more at the end, another last one. Expressions, relations and types as such lists. -/
import Derived.Test.YtajkkeikihhejaaGreatSq
import Derived.Test.YtajkkeikihhejaaGreatJ7
import Derived.Test.YtajkkeikihhejaaGreatJ17
import Derived.Sort.Grow
import Derived.Test.YtajkkeikihhejaaGreatShelfS
open Go.Proofs.Tryz
set_option maxHeartbeats 80000000
namespace Go.Proofs.YtajkkeikihhejaaGreat
set_option maxRecDepth 100000
set_option linter.unusedVariables false
open Go.ChangeShapes Go.WideShapes Go.ChangeAt Go.RowKit
open Pl
structure Kid {α:Type} (K:World→Nat→α→Prop) (I:α→Nat→Prop):Prop where
 heap:∀ (w w':World) (base:Nat) (q:α),K w base q→w.heap.size≤w'.heap.size→(∀ g,I q g→w'.heap[g]?=w.heap[g]?)→K w' base q
 lt:∀ (w:World) (base:Nat) (q:α),K w base q→∀ g,I q g→base≤g∧g < w.heap.size
def Gz {α:Type} (I:α→Nat→Prop) (v:Value) (rs:List α) (g:Nat):Prop:=v.ownBlock=some g ∨ ∃ q ∈ rs,I q g
structure UO {α:Type} (T:TypeId) (size:Nat) (cells:α→List Value) (K:World→Nat→α→Prop) (I:α→Nat→Prop) (w:World) (base:Nat) (v:Value) (rs:List α):Prop where
 own:w.ownsRow base T size v rs.length (rs.flatMap cells)
 kid:∀ q ∈ rs,K w base q
 head:∀ q ∈ rs,∀ g,I q g→v.ownBlock ≠ some g
 two:∀ (x y:Nat) (hx:x < rs.length) (hy:y < rs.length),x ≠ y→∀ g,I rs[x] g→¬ I rs[y] g
section
variable {α:Type} {T:TypeId} {size:Nat} {cells:α→List Value} {K:World→Nat→α→Prop} {I:α→Nat→Prop} {w w':World} {base:Nat} {v:Value} {rs:List α}
theorem UO.lt (kd:Kid K I) (h:UO T size cells K I w base v rs) {g:Nat} (hg:Gz I v rs g):base≤g∧g < w.heap.size:=by
 rcases hg with hg | ⟨q,hq,hg⟩
 ·exact h.own.lt g hg
 exact kd.lt w base q (h.kid q hq) g hg
theorem UO.heap (kd:Kid K I) (h:UO T size cells K I w base v rs) (hs:w.heap.size≤w'.heap.size) (hh:∀ g,Gz I v rs g→w'.heap[g]?=w.heap[g]?):UO T size cells K I w' base v rs where
 own:=jE h.own fun g hg=>hh g (.inl hg)
 kid q hq:=kd.heap w w' base q (h.kid q hq) hs fun g hg=>hh g (.inr ⟨q,hq,hg⟩)
 head:=h.head
 two:=h.two
theorem UO.below (kd:Kid K I) (h:UO T size cells K I w base v rs) (hb:ag w w'):UO T size cells K I w' base v rs :=
 h.heap kd hb.size fun g hg=>hb.block g (h.lt kd hg).2
theorem Pf (w:af) (base:Nat):UO T size cells K I w base (.slice none 0 0) [] :=
 ⟨World.ownsRow_nil _ _ _ _,fun q hq=>(by cases hq),fun q hq=>(by cases hq),fun x y hx=>absurd hx (by simp)⟩
theorem GD {rs:List α} {q:α} (h:∀ (x y:Nat) (hx:x < rs.length) (hy:y < rs.length),x ≠ y→∀ g,I rs[x] g→¬ I rs[y] g) (hq:∀ p ∈ rs,∀ g,I p g→¬ I q g) :
  ∀ (x y:Nat) (hx:x < (rs ++ [q]).length) (hy:y < (rs ++ [q]).length),x ≠ y→∀ g,I (rs ++ [q])[x] g→¬ I (rs ++ [q])[y] g:=by
 intro x y hx hy hxy g h1 h2;rw [T9,List.length_singleton] at hx hy;by_cases ex:x < rs.length
 ·rw [Uk ex] at h1;by_cases ey:y < rs.length
  ·rw [Uk ey] at h2;exact h x y ex ey hxy g h1 h2
  have:y=rs.length:=by omega
  subst this;rw [Ur (TS _)] at h2;simp at h2;exact hq _ (TQ ex) g h1 h2
 have:x=rs.length:=by omega
 subst this;rw [Ur (TS _)] at h1;simp at h1;have ey:y < rs.length:=by omega
 rw [Uk ey] at h2;exact hq _ (TQ ey) g h2 h1
theorem Pg {rs:List α} {q:α} (h:∀ (x y:Nat) (hx:x < (rs ++ [q]).length) (hy:y < (rs ++ [q]).length),x ≠ y→∀ g,I (rs ++ [q])[x] g→¬ I (rs ++ [q])[y] g) :
  (∀ (x y:Nat) (hx:x < rs.length) (hy:y < rs.length),x ≠ y→∀ g,I rs[x] g→¬ I rs[y] g)∧∀ p ∈ rs,∀ g,I p g→¬ I q g:=by
 refine ⟨fun x y hx hy hxy g h1 h2=>?_,fun p hp g h1 h2=>?_⟩
 ·exact h x y (by simp; omega) (by simp; omega) hxy g (by rw [Uk hx]; exact h1) (by rw [Uk hy]; exact h2)
 obtain ⟨x,hx,rfl⟩:=Uu hp;exact h x rs.length (by simp; omega) (by simp) (by omega) g (by rw [Uk hx]; exact h1) (by rw [Ur (TS _)]; simpa using h2)
theorem UO.snoc (kd:Kid K I) (h:UO T size cells K I w base v rs) {q:α} {v':Value} (hown:w'.ownsRow base T size v' (rs.length + 1) (rs.flatMap cells ++ cells q)) (hg:w.grownBy w' v.ownBlock) (hat:v'.ownBlock=v.ownBlock ∨ ∃ g,v'.ownBlock=some g∧w.heap.size≤g)
  (hq:K w base q) (hv:∀ g,I q g→v.ownBlock ≠ some g) (hr:∀ p ∈ rs,∀ g,I p g→¬ I q g):UO T size cells K I w' base v' (rs ++ [q]):=by
 have keep:∀ (p:α),K w base p→(∀ g,I p g→v.ownBlock ≠ some g)→K w' base p:=fun p hp hn=>kd.heap w w' base p hp hg.size fun g hi=>hg.block g (kd.lt w base p hp g hi).2 (fun e=>hn g hi e.symm);have apart:∀ (p:α),K w base p→(∀ g,I p g→v.ownBlock ≠ some g)→∀ g,I p g→v'.ownBlock ≠ some g:=fun p hp hn g hi=>by
  rcases hat with e | ⟨g',e,hge⟩
  ·rw [e]; exact hn g hi
  rw [e]; intro e2; injection e2 with e2; have:=(kd.lt w base p hp g hi).2; omega
 refine ⟨by simpa using hown,fun p hp=>?_,fun p hp=>?_,GD h.two hr⟩
 ·rcases Uc.1 hp with hp | hp
  ·exact keep p (h.kid p hp) (h.head p hp)
  rw [Ua] at hp; subst hp; exact keep _ hq hv
 rcases Uc.1 hp with hp | hp
 ·exact apart p (h.kid p hp) (h.head p hp)
 rw [Ua] at hp; subst hp; exact apart _ hq hv
theorem UO.last (kd:Kid K I) {xs:List α} {q q':α} {b n cap j:Nat} {u:Value} {w1:af} {row:Option Nat} (h:UO T size cells K I w base (.slice (some ⟨b,0,none⟩) n cap) (xs ++ [q])) (hn:n=xs.length + 1)
  (hg:w.grownBy w1 row) (hrow:∀ r,row=some r→I q r) (hq':K w1 base q') (hI:∀ g,I q' g→I q g ∨ (g ≠ b∧∀ p ∈ xs,¬ I p g)) (hset:((xs ++ [q]).flatMap cells).set j u=(xs ++ [q']).flatMap cells) :
  UO T size cells K I (w1.setCell ⟨b,j,none⟩ u) base (.slice (some ⟨b,0,none⟩) n cap) (xs ++ [q']):=by
 have hbl:b < w.heap.size:=(h.own.lt b rfl).2;have hq:=h.kid q (by simp);have YX:∀ g,I q g→g ≠ b:=fun g hi e=>h.head q (by simp) g hi (by rw [e]; rfl);have hq'b:∀ g,I q' g→g ≠ b:=fun g hi e=>by
  rcases hI g hi with h2 | h2
  ·exact YX g h2 e
  exact h2.1 e
 have hb1:w1.heap[b]?=w.heap[b]?:=hg.block b hbl (fun e=>YX b (hrow b e.symm) rfl);have YR:w1.ownsRow base T size (.slice (some ⟨b,0,none⟩) n cap) (xs ++ [q]).length ((xs ++ [q]).flatMap cells):=jE h.own fun g hgo=>by
  have e:b=g:=by simpa [Value.ownBlock] using hgo
  rw [← e]; exact hb1
 have hlen:(xs ++ [q]).length=n:=by simp [hn]
 rw [hlen] at YR;obtain ⟨XM,hg2⟩:=YR.stored j u;rw [hset] at XM;obtain ⟨ht1,ht2⟩:=Pg h.two;have h2s:∀ g,g ≠ b→(w1.setCell ⟨b,j,none⟩ u).heap[g]?=w1.heap[g]?:=fun g hne=>Below.heap_setCell w1 _ u g hne;refine ⟨by simpa [hn] using XM,fun p hp=>?_,fun p hp g hi=>?_,GD ht1 fun p hp g hi hi'=>?_⟩
 ·rcases Uc.1 hp with hp | hp
  ·have hkp:=h.kid p (by simp [hp]);refine kd.heap w _ base p hkp (TZ hg.size hg2.size) fun g hi=>?_;have hl:=(kd.lt w base p hkp g hi).2;rw [h2s g (fun e=>h.head p (by simp [hp]) g hi (by rw [e]; rfl))];exact hg.block g hl (fun e=>ht2 p hp g hi (hrow g e.symm))
  rw [Ua] at hp; subst hp;exact kd.heap w1 _ base _ hq' hg2.size fun g hi=>h2s g (hq'b g hi)
 ·intro e;have e:b=g:=by simpa [Value.ownBlock] using e
  rcases Uc.1 hp with hp | hp
  ·exact h.head p (by simp [hp]) g hi (by rw [← e]; rfl)
  rw [Ua] at hp; subst hp;exact hq'b g hi e.symm
 rcases hI g hi' with h2 | h2
 ·exact ht2 p hp g hi h2
 exact h2.2 p hp hi
end
structure NodM (w:World) (base:Nat) (v:Value) (qs:List ER):Prop where
 own:w.ownsRow base 39 5 v qs.length (gZ qs)
 zA:∀ q ∈ qs,q.e.allow ≠ []→∃ g,q.adA=some ⟨g,0,none⟩
 zK:∀ q ∈ qs,q.e.kids ≠ []→∃ g,q.adK=some ⟨g,0,none⟩
 ok:∀ q ∈ qs,q.ok w
 lie:∀ q ∈ qs,∀ g,oJ q g→base≤g∧g < w.heap.size∧gY w g∧v.ownBlock ≠ some g
 one:∀ q ∈ qs,∀ g,bA q g→¬ bK q g
 two:∀ (x y:Nat) (hx:x < qs.length) (hy:y < qs.length),x ≠ y→∀ g,oJ qs[x] g→¬ oJ qs[y] g
 cA:∀ q ∈ qs,q.e.allow.length≤q.capA
theorem NodM.mono {w:af} {base base':Nat} {v:Value} {qs:List ER} (h:NodM w base v qs) (hb:base'≤base):NodM w base' v qs :=
 ⟨⟨h.own.1,by
  rcases h.own.2 with hl | ⟨g,cap,cur,e,h1,h2⟩
  ·exact .inl hl
  exact .inr ⟨g,cap,cur,e,TZ hb h1,h2⟩⟩,h.zA,h.zK,h.ok,fun q hq g hg=>⟨TZ hb (h.lie q hq g hg).1,(h.lie q hq g hg).2⟩,h.one,h.two,h.cA⟩
def RR.vs (q:RR):Value:=.slice q.ad q.rows.length q.cap
def TR.vs (q:TR):Value:=.slice q.ad q.rows.length q.cap
def kR (w:World) (base:Nat) (q:RR):Prop:=NodM w base q.vs q.rows
def iR (q:RR):Nat→Prop:=Gz oJ q.vs q.rows
theorem JF:Kid kR iR where
 heap w w' base q h hs hh:={
  own:=jE h.own fun g hg=>hh g (.inl hg)
  zA:=h.zA
  zK:=h.zK
  ok:=fun x hx=>ru (h.ok x hx) hs (h.zA x hx) (h.zK x hx) fun g hg=>hh g (.inr ⟨x,hx,hg⟩)
  lie:=fun x hx g hg=>by
   obtain ⟨a1,a2,a3,a4⟩:=h.lie x hx g hg;exact ⟨a1,TP a2 hs,df a3 (hh g (.inr ⟨x,hx,hg⟩)),a4⟩
  one:=h.one
  two:=h.two
  cA:=h.cA }
 lt w base q h g hg:=by
  rcases hg with hg | ⟨x,hx,hg⟩
  ·exact h.own.lt g hg
  exact ⟨(h.lie x hx g hg).1,(h.lie x hx g hg).2.1⟩
def RR.cells (q:RR):List Value:=[.string q.name,q.vs]
def TR.cells (q:TR):List Value:=[.string q.name,q.vs]
abbrev BL:=UO 147 2 RR.cells kR iR
def kT (w:World) (base:Nat) (q:TR):Prop:=BL w base q.vs q.rows
def iT (q:TR):Nat→Prop:=Gz iR q.vs q.rows
theorem mI:Kid kT iT where
 heap w w' base q h hs hh:=UO.heap JF h hs hh
 lt w base q h g hg:=UO.lt JF h hg
abbrev iM:=UO 127 2 TR.cells kT iT
theorem rM {α:Type} {cells:α→List Value} (h2:∀ q,(cells q).length=2):∀ (rs:List α) (i:Nat) (h:i < rs.length) (j:Nat),j < 2→(rs.flatMap cells)[i * 2 + j]?=(cells rs[i])[j]?
 | [],i,h,_,_=>by simp at h
 | r::rs,0,_,j,hj=>by
  simp only [List.flatMap_cons,Nat.zero_mul,Um,List.getElem_cons_zero];rw [List.getElem?_append_left (by rw [h2]; exact hj)]
 | r::rs,i + 1,h,j,hj=>by
  have:=rM h2 rs i (by simpa using h) j hj;simp only [List.flatMap_cons,List.getElem_cons_succ];rw [List.getElem?_append_right (by rw [h2]; omega),h2,← this];congr 1;omega
theorem pz {α:Type} {cells:α→List Value} (h2:∀ q,(cells q).length=2):∀ (rs:List α),(rs.flatMap cells).length=rs.length * 2
 | []=>rfl
 | r::rs=>by simp only [List.flatMap_cons,T9,h2,pz h2 rs,List.length_cons]; omega
theorem Su {w:af} {base:Nat} {q:TR} (h:kT w base q):M8 w q.ad q.rows:=by
 by_cases hz:q.rows=[]
 ·exact .inl hz
 rcases h.own.2 with ⟨-,h0⟩ | ⟨g,cap,cur,e,-⟩
 ·exact absurd (Ui.1 h0) hz
 have h3:=h.own;unfold TR.vs at e h3;injection e with e1 e2 e3;rw [e1] at h3;refine .inr ⟨g,0,e1,(h3.lt g rfl).2,fun i hi=>?_,fun r hr=>?_⟩
 ·have hl:(q.rows.flatMap RR.cells).length=q.rows.length * 2:=pz (fun _=>rfl) _;have key:∀ j,j < 2→w.cell? ⟨g,0 + i * 2 + j,none⟩=(RR.cells q.rows[i])[j]?:=fun j hj=>by
   rw [h3.cellAt (0 + i * 2 + j) (by omega),← rM (fun _=>rfl) q.rows i hi j hj,Um]
  exact ⟨key 0 (by omega),key 1 (by omega)⟩
 have hk:=h.kid r hr;obtain ⟨ad,cap',e4,hsl⟩:=Rt hk.own rfl hk.ok;unfold RR.vs at e4;injection e4 with e5 e6 e7;show iH w r.ad r.rows;rw [e5]; exact hsl
theorem Ph {w:af} {base size n cap:Nat} {e:TypeId} {ad:Option Addr} {xs:List Value} (h:w.ownsRow base e size (.slice ad n cap) n xs):n≤cap:=by
 rcases h.2 with ⟨e1,h0⟩ | ⟨g,cap',cur,e1,-,-,hnc,-⟩
 ·injection e1 with _ e2 e3; omega
 injection e1 with _ e2 e3; omega
theorem iM.read {w:af} {base:Nat} {v:Value} {rs:List TR} (h:iM w base v rs):∃ ad cap,v=.slice ad rs.length cap∧kW w ad rs∧∀ r ∈ rs,r.caps:=by
 have hc:∀ r ∈ rs,r.caps:=fun r hr=>⟨Ph (h.kid r hr).own,fun q hq=>⟨Ph ((h.kid r hr).kid q hq).own,((h.kid r hr).kid q hq).cA⟩⟩;rcases h.own.2 with ⟨rfl,h0⟩ | ⟨g,cap,cur,rfl,-⟩
 ·exact ⟨none,0,by rw [h0],.inl (Ui.1 h0),hc⟩
 have h3:=h.own;refine ⟨some ⟨g,0,none⟩,cap,rfl,.inr ⟨g,0,rfl,(h3.lt g rfl).2,fun i hi=>?_,fun r hr=>Su (h.kid r hr)⟩,hc⟩;have hl:(rs.flatMap TR.cells).length=rs.length * 2:=pz (fun _=>rfl) _;have key:∀ j,j < 2→w.cell? ⟨g,0 + i * 2 + j,none⟩=(TR.cells rs[i])[j]?:=fun j hj=>by
  rw [h3.cellAt (0 + i * 2 + j) (by omega),← rM (fun _=>rfl) rs i hi j hj,Um]
 exact ⟨key 0 (by omega),key 1 (by omega)⟩
section
variable {α:Type} {T:TypeId} {size:Nat} {cells:α→List Value} {K:World→Nat→α→Prop} {I:α→Nat→Prop} {w w':World} {base:Nat} {v:Value}
theorem A7 {q q':α} {rs:List α} (hI:∀ g,I q' g→I q g) (h:∀ (x y:Nat) (hx:x < (q::rs).length) (hy:y < (q::rs).length),x ≠ y→∀ g,I (q::rs)[x] g→¬ I (q::rs)[y] g) :
  ∀ (x y:Nat) (hx:x < (q'::rs).length) (hy:y < (q'::rs).length),x ≠ y→∀ g,I (q'::rs)[x] g→¬ I (q'::rs)[y] g:=by
 intro x y hx hy hxy g h1 h2;cases x with
 | zero =>
  cases y with
  | zero=>exact hxy rfl
  | succ y=>exact h 0 (y + 1) (by simp) (by simpa using hy) (by omega) g (hI g h1) h2
 | succ x =>
  cases y with
  | zero=>exact h (x + 1) 0 (by simpa using hx) (by simp) (by omega) g h1 (hI g h2)
  | succ y=>exact h (x + 1) (y + 1) (by simpa using hx) (by simpa using hy) hxy g h1 h2
theorem UO.first (kd:Kid K I) {q q':α} {rs:List α} {b n cap j:Nat} {u:Value} (h:UO T size cells K I w base (.slice (some ⟨b,0,none⟩) n cap) (q::rs)) (hn:n=rs.length + 1)
  (hq':∀ w,K w base q→K w base q') (hI:∀ g,I q' g→I q g) (hset:((q::rs).flatMap cells).set j u=(q'::rs).flatMap cells) :
  UO T size cells K I (w.setCell ⟨b,j,none⟩ u) base (.slice (some ⟨b,0,none⟩) n cap) (q'::rs):=by
 have YR:w.ownsRow base T size (.slice (some ⟨b,0,none⟩) n cap) n ((q::rs).flatMap cells):=by have:=h.own; rwa [show (q::rs).length=n by simp [hn]] at this
 obtain ⟨XM,hg2⟩:=YR.stored j u;rw [hset] at XM;have hne:∀ p ∈ q::rs,∀ g,I p g→g ≠ b:=fun p hp g hi e=>h.head p hp g hi (by rw [e]; rfl);have keep:∀ p ∈ q::rs,K (w.setCell ⟨b,j,none⟩ u) base p:=fun p hp=>kd.heap w _ base p (h.kid p hp) hg2.size fun g hi=>Below.heap_setCell w _ u g (hne p hp g hi);refine ⟨by simpa [hn] using XM,fun p hp=>?_,fun p hp g hi=>?_,A7 hI h.two⟩
 ·rcases List.mem_cons.1 hp with rfl | hp
  ·exact hq' _ (keep q (by simp))
  exact keep p (by simp [hp])
 rcases List.mem_cons.1 hp with rfl | hp
 ·exact h.head q (by simp) g (hI g hi)
 exact h.head p (by simp [hp]) g hi
theorem UO.firstIn (kd:Kid K I) {q q':α} {rs:List α} (h:UO T size cells K I w base v (q::rs)) (hs:w.heap.size≤w'.heap.size) (hh:∀ g,¬ I q g→w'.heap[g]?=w.heap[g]?) (hc:cells q'=cells q) (hk:K w' base q') (hI:∀ g,I q' g→I q g) :
  UO T size cells K I w' base v (q'::rs):=by
 refine ⟨?_,fun p hp=>?_,fun p hp g hi=>?_,A7 hI h.two⟩
 ·have h1:=jE (w':=w') h.own fun g hg=>hh g fun hi=>h.head q (by simp) g hi hg;simpa [List.flatMap_cons,hc] using h1
 ·rcases List.mem_cons.1 hp with rfl | hp
  ·exact hk
  refine kd.heap w w' base p (h.kid p (by simp [hp])) hs fun g hi=>hh g fun hq=>?_;obtain ⟨i,hi2,rfl⟩:=Uu hp;exact h.two 0 (i + 1) (by simp) (by simp; omega) (by omega) g hq hi
 rcases List.mem_cons.1 hp with rfl | hp
 ·exact h.head q (by simp) g (hI g hi)
 exact h.head p (by simp [hp]) g hi
end
def ER.asK (x:ER) (k:Int):ER:={ x with e:={ x.e with kind:=k } }
theorem NodM.kind {w:af} {base b n cap:Nat} {x:ER} {xs:List ER} (k:Int) (h:NodM w base (.slice (some ⟨b,0,none⟩) n cap) (x::xs)) (hn:n=xs.length + 1):NodM (w.setCell ⟨b,0,none⟩ (.int .i64 k)) base (.slice (some ⟨b,0,none⟩) n cap) (x.asK k::xs):=by
 have YR:w.ownsRow base 39 5 (.slice (some ⟨b,0,none⟩) n cap) n (gZ (x::xs)):=by have:=h.own; rwa [show (x::xs).length=n by simp [hn]] at this
 obtain ⟨XM,hg2⟩:=YR.stored 0 (.int .i64 k);have hset:(gZ (x::xs)).set 0 (.int .i64 k)=gZ (x.asK k::xs):=by simp [gZ,ER.row,ER.asK]
 rw [hset] at XM;have hb:∀ q ∈ x::xs,∀ g,oJ q g→g ≠ b:=fun q hq g hg e=>(h.lie q hq g hg).2.2.2 (by rw [e]; rfl);have hsame:∀ g,g ≠ b→(w.setCell ⟨b,0,none⟩ (.int .i64 k)).heap[g]?=w.heap[g]?:=fun g hg=>Below.heap_setCell w _ _ g hg;have hall:∀ {P:ER→Prop},(∀ q ∈ x::xs,P q)→(P x→P (x.asK k))→∀ q ∈ x.asK k::xs,P q:=fun hP hx q hq=>by
  rcases List.mem_cons.1 hq with rfl | hq
  ·exact hx (hP x (by simp))
  exact hP q (by simp [hq])
 refine ⟨by simpa [hn] using XM,hall h.zA id,hall h.zK id,hall (P:=fun q=>q.ok _) (fun q hq=>ru (h.ok q hq) hg2.size (h.zA q hq) (h.zK q hq) fun g hg=>hsame g (hb q hq g hg)) id,hall (P:=fun q=>∀ g,oJ q g→base≤g∧g < (w.setCell ⟨b,0,none⟩ (.int .i64 k)).heap.size∧gY (w.setCell ⟨b,0,none⟩ (.int .i64 k)) g∧_) (fun q hq g hg=>by
  obtain ⟨a1,a2,a3,a4⟩:=h.lie q hq g hg;exact ⟨a1,TP a2 hg2.size,df a3 (hsame g (hb q hq g hg)),a4⟩) id,hall h.one id,?_,hall h.cA id⟩
 exact A7 (I:=oJ) (q:=x) (q':=x.asK k) (fun g hg=>hg) h.two
theorem iM.named {w:af} {base b n cap:Nat} {t:TR} {ts:List TR} (nm:bH) (h:iM w base (.slice (some ⟨b,0,none⟩) n cap) (t::ts)) (hn:n=ts.length + 1):iM (w.setCell ⟨b,0,none⟩ (.string nm)) base (.slice (some ⟨b,0,none⟩) n cap) (({ t with name:=nm }:TR)::ts) :=
 UO.first mI h hn (fun w hk=>hk) (fun g hg=>hg) (by simp [TR.cells,TR.vs])
def TR.asK (t:TR) (q:RR) (qs:List RR) (x:ER) (xs:List ER) (k:Int):TR:={ t with rows:={ q with rows:=x.asK k::xs }::qs }
theorem iM.kind {w:af} {base b:Nat} {v:Value} {t:TR} {ts:List TR} {q:RR} {qs:List RR} {x:ER} {xs:List ER} (k:Int) (h:iM w base v (t::ts)) (ht:t.rows=q::qs) (hq:q.rows=x::xs) (hb:q.ad=some ⟨b,0,none⟩) :
  iM (w.setCell ⟨b,0,none⟩ (.int .i64 k)) base v (t.asK q qs x xs k::ts):=by
 have hkt:=h.kid t (by simp);have hR:BL w base t.vs (q::qs):=by have:=hkt; unfold kT at this; rwa [ht] at this
 have hkq:=hR.kid q (by simp);have hN:NodM w base q.vs (x::xs):=by have:=hkq; unfold kR at this; rwa [hq] at this
 have hvq:q.vs=.slice (some ⟨b,0,none⟩) (xs.length + 1) q.cap:=by unfold RR.vs; rw [hb,hq]; rfl
 rw [hvq] at hN;have hN2:=hN.kind k rfl;have hsz:w.heap.size≤(w.setCell ⟨b,0,none⟩ (.int .i64 k)).heap.size:=by simp
 have hsame:∀ g,g ≠ b→(w.setCell ⟨b,0,none⟩ (.int .i64 k)).heap[g]?=w.heap[g]?:=fun g hg=>Below.heap_setCell w _ _ g hg;have hib:iR q b:=.inl (by rw [hvq]; rfl);have hvq2:({ q with rows:=x.asK k::xs }:RR).vs=q.vs:=by unfold RR.vs; rw [hq]; rfl
 have Y0:∀ g,iR { q with rows:=x.asK k::xs } g→iR q g:=fun g hg=>by
  rcases hg with hg | ⟨y,hy,hg⟩
  ·exact .inl (by rw [← hvq2]; exact hg)
  rcases List.mem_cons.1 hy with rfl | hy
  ·exact .inr ⟨x,by rw [hq]; simp,hg⟩
  exact .inr ⟨y,by rw [hq]; simp [hy],hg⟩
 have hR2:BL (w.setCell ⟨b,0,none⟩ (.int .i64 k)) base t.vs ({ q with rows:=x.asK k::xs }::qs):=UO.firstIn JF hR hsz (fun g hg=>hsame g fun e=>hg (by rw [e]; exact hib)) (by unfold RR.cells; rw [hvq2]) (by show NodM _ _ _ _; rw [hvq2,hvq]; exact hN2) Y0;have hvt:(t.asK q qs x xs k).vs=t.vs:=by unfold TR.vs TR.asK; rw [ht]; rfl
 have hit:iT t b:=.inr ⟨q,by rw [ht]; simp,hib⟩;refine UO.firstIn mI h hsz (fun g hg=>hsame g fun e=>hg (by rw [e]; exact hit)) (by unfold TR.cells; rw [hvt]; rfl) (by show BL _ _ _ _; rw [hvt]; exact hR2) fun g hg=>?_;rcases hg with hg | ⟨y,hy,hg⟩
 ·exact .inl (by rw [← hvt]; exact hg)
 rcases List.mem_cons.1 hy with rfl | hy
 ·exact .inr ⟨q,by rw [ht]; simp,Y0 g hg⟩
 exact .inr ⟨y,by rw [ht]; simp [hy],hg⟩
open Go.Maps
def Fc.fits (t:Fc):Prop:=t.a.size≤maxLen∧t.b.size≤maxLen∧t.r.size≤maxLen∧t.c.size≤maxLen∧t.d.size≤maxLen
def oC (k:Fc):Value:=.agg #[.string k.a,.string k.b,.string k.r,.string k.c,.string k.d]
theorem Pi (x y:Fc) (h:oC x=oC y):x=y:=by
 unfold oC at h;injection h with h;have h1:=congrArg Array.toList h;simp at h1;obtain ⟨xa,xb,xr,xc,xd⟩:=x;obtain ⟨ya,yb,yr,yc,yd⟩:=y;simp only at h1;obtain ⟨rfl,rfl,rfl,rfl,rfl⟩:=h1;rfl
theorem Pj:laidOutB prog=true:=by kernel_rfl
theorem Sv:(29:TypeId) < prog.types.size:=of_decide_eq_true (by kernel_rfl)
theorem QM:(match prog.underlying 29 with | some (.array _ _) | some (.struct _)=>true | _=>false)=true:=by rw [underlying29]
set_option maxRecDepth 100000 in
theorem QN:WideMaps.KeyLaw prog 29:=deep_law_laid Pj (m:=3) (by omega) Sv (by kernel_rfl) QM
theorem Pk:Keyed prog 29:=Keyed.of_law QN
theorem QO:prog.keyType 29=true:=by kernel_rfl
theorem GG:prog.cellsOf 29=5:=by kernel_rfl
theorem Mf:prog.cellsOf 27=2:=by kernel_rfl
theorem Mg:prog.cellsOf 9=1:=by kernel_rfl
theorem Mh:2≤prog.types.size:=of_decide_eq_true (by kernel_rfl)
theorem JG:∃ n,prog.types.size=n + 2:=⟨prog.types.size - 2,by have:=Mh; omega⟩
set_option maxRecDepth 100000 in
theorem GH (k:Fc) (h:k.fits):∃ kl,keyOf prog 29 (oC k)=some kl:=by
 obtain ⟨n,hn⟩:=JG;obtain ⟨h0,h1,h2,h3,h4⟩:=h;refine ⟨.string (keyBytes [.string k.a.data.toList,.string k.b.data.toList,.string k.r.data.toList,.string k.c.data.toList,.string k.d.data.toList]),?_⟩;unfold keyOf;rw [underlying29];simp only [QO,oC,Value.formed,underlying29,GG,hn,Value.cells];simp +decide [Program.keyLits,underlying29,underlying27,underlying9,GG,Mf,Mg,h0,h1,h2,h3,h4]
theorem Pm (w:af):(zeroValue 113).run prog w=.ok (.agg #[]) w:=by kernel_rfl
theorem GI (b n:Nat) (M:Fc→Option Value) (f:Fc) (w:af) (hf:f.fits) (hV:aM oC prog 29 w b n M) (hM:∀ v,M f=some v→v=.agg #[]) :
  Calls prog 65 #[.map (some b),.agg #[.string f.a,.string f.b,.string f.r,.string f.c,.string f.d]] w fun e w'=>e=.returned (.bool (M f).isSome)∧ag w w':=by
 obtain ⟨kl,hkl⟩:=GH f hf;have Vm:Hid (keyOf prog 29 (oC f)=some kl):=hkl;have HM:Hid ((M f).getD (.agg #[])=.agg #[]):=by
  show _=_;cases e:M f with
  | none=>rfl
  | some v=>exact hM v e
 obtain ⟨W,hW⟩:∃ W,W=w.alloc (.cells #[.string f.a,.string f.b,.string f.r,.string f.c,.string f.d] 29):=⟨_,rfl⟩;have HB:=qY hW;have HV:=az (hV.below HB.out);have HB2:Hid (ag w (W.alloc (.cells #[] 113))):=HB.out.alloc HB.out.size _;clear hkl hV hM;go_enter func65,ntmps65;go_wp2_with (at_lookup; rw [← hW]; clear hW; refine bZ _ rfl _ _ 107 rfl 29 113 Pk underlying107 (Pm _) b n M rfl HV.out f kl rfl Vm.out ?_; rw [HM.out]);go_ret;exact ⟨rfl,HB2.out⟩
end Go.Proofs.YtajkkeikihhejaaGreat
namespace Go.Proofs.YtajkkeikihhejaaGreat
open Go.ChangeShapes Go.WideShapes Go.ChangeAt Go.RowKit
open Pl
attribute [local go_sem ↓] Go.wp_at_zero Go.wp_at_succ
structure BelowD (B:Nat) (w w':World):Prop where
 b:Below B w w'
 d:w.drawn≤w'.drawn
theorem BelowD.size {B:Nat} {w w':af} (h:BelowD B w w'):w.heap.size≤w'.heap.size:=h.b.size
theorem BelowD.refl (B:Nat) (w:af):BelowD B w w:=⟨TT B w,TS _⟩
theorem BelowD.trans {B:Nat} {a b c:af} (h:BelowD B a b) (k:BelowD B b c):BelowD B a c:=⟨h.b.trans k.b,TZ h.d k.d⟩
theorem BelowD.mono {B B':Nat} {w w':af} (h:BelowD B w w') (hB:B'≤B):BelowD B' w w':=⟨h.b.mono hB,h.d⟩
theorem BelowD.drew {B:Nat} {a w:af} (h:BelowD B a w):BelowD B a w.drew:=⟨h.b.drew,TZ h.d (Nat.le_succ _)⟩
theorem BelowD.alloc {B:Nat} {a w:af} (h:BelowD B a w) (hB:B≤w.heap.size) (o:Obj):BelowD B a (w.alloc o):=⟨h.b.alloc hB o,h.d⟩
theorem BelowD.cell {B:Nat} {w w':af} (h:BelowD B w w') {p:Addr} (hp:p.block < B):w'.cell? p=w.cell? p:=h.b.cell hp
theorem BelowD.frozen {B:Nat} {w w':af} (h:BelowD B w w') {p:Addr} (hp:p.block < B):w'.frozen? p=w.frozen? p:=h.b.frozen hp
theorem BelowD.grew {w w':af} (h:BelowD w.heap.size w w'):∃ q os,w'=Go.Sort.grow (w.drewN q) os:=by
 obtain ⟨⟨h1,h2,h3,h4,h5⟩,h6⟩:=h;refine ⟨w'.drawn - w.drawn,w'.heap.extract w.heap.size w'.heap.size,?_⟩;obtain ⟨hp,tp,dr,os,ou⟩:=w';simp only at h1 h2 h3 h4 h5 h6;subst h1 h2 h3;simp only [Go.Sort.grow,World.drewN,World.mk.injEq,true_and,and_true];refine ⟨?_,by omega⟩;apply Array.ext
 ·simp; omega
 intro i hi hj;by_cases hlt:i < w.heap.size
 ·have:=h5 i hlt;rw [Uv hi,Uv hlt] at this;injection this with this;rw [this,Array.getElem_append_left hlt]
 rw [Array.getElem_append_right (by omega)];simp;congr 1;omega
theorem tX {W w1:af} (hb:BelowD W.heap.size W w1):(∀ b o,b < W.heap.size→w1.cell? ⟨b,o,none⟩=W.cell? ⟨b,o,none⟩)∧(∀ b o,b < W.heap.size→w1.frozen? ⟨b,o,none⟩=W.frozen? ⟨b,o,none⟩) :=
 ⟨fun b o h=>hb.cell (p:=⟨b,o,none⟩) h,fun b o h=>hb.frozen (p:=⟨b,o,none⟩) h⟩
theorem fD (t i:bH) (w:af) (ht:t.size≤maxLen) (hi:i.size≤maxLen) :
  Calls prog 161 #[.agg #[.string t,.string i]] w fun e w'=>e=.returned (.bool (eH t i))∧BelowD w.heap.size w w':=by
 by_cases hn:aP t=true
 all_goals
  go_enter func161,ntmps161;go_wp2_with (first | (go_at_call 162; refine (aL _ _ ht).mono ?_; rintro e w' ⟨rfl,rfl⟩) | (go_at_call 208; refine (yP _ _ hi).mono ?_; rintro e w' ⟨rfl,rfl⟩));go_ret;exact ⟨ah (by simp [eH,hn]),(BelowD.refl _ _).alloc (TS _) _⟩
theorem wU (t i:bH) (w:af) (ht:t.size≤maxLen) (hi:i.size≤maxLen) :
  Calls prog 207 #[.agg #[.string t,.string i]] w fun e w'=>e=.returned (.string (aB t i))∧BelowD w.heap.size w w':=by
 by_cases hn:eH t i=true
 ·obtain ⟨h1,h2⟩:=yF hn;have HT:Hid (aB t i=t ++ ⟨#[58]⟩ ++ i):=mM hn;go_enter func207,ntmps207;go_wp2_with (go_at_call 161; refine (fD _ _ _ ht hi).mono ?_; rintro e w' ⟨rfl,hb⟩; obtain ⟨hc,hf⟩:=tX hb);go_ret;exact ⟨gu HT.out.symm,((BelowD.refl _ _).alloc (TS _) _).trans (hb.mono (by simp))⟩
 have hn':eH t i=false:=by simpa using hn
 have HT:Hid (aB t i=⟨#[]⟩):=sO hn';clear hn;go_enter func207,ntmps207;go_wp2_with (go_at_call 161; refine (fD _ _ _ ht hi).mono ?_; rintro e w' ⟨rfl,hb⟩; obtain ⟨hc,hf⟩:=tX hb);go_ret;exact ⟨gu HT.out.symm,((BelowD.refl _ _).alloc (TS _) _).trans (hb.mono (by simp))⟩
theorem vH (a b r c d s:bH) (w:af) (ha:a.size≤maxLen) (hb:b.size≤maxLen) (hr:r.size≤maxLen) (hc:c.size≤maxLen) (hd:d.size≤maxLen) (hs:s.size≤maxLen) :
  Calls prog 108 #[.agg #[.string a,.string b,.string r,.string c,.string d,.string s]] w fun e w'=>e=.returned (.bool (bI a b r c d s))∧BelowD w.heap.size w w':=by
 by_cases h1:eH a b=true
 ·by_cases h2:aP r=true
  ·by_cases h3:eH c d=true
   ·have HT:Hid (bI a b r c d s=uC s):=zh h1 h2 h3;go_enter func108,ntmps108;go_wp2_with fail;refine (fD _ _ _ ha hb).mono ?_;rintro e w1 ⟨rfl,hb1⟩;obtain ⟨hc1,hf1⟩:=tX hb1;have hz1:w.heap.size < w1.heap.size:=by have:=hb1.size; simp at this; omega
    go_wp2_with fail;refine (aL _ _ hr).mono ?_;rintro e w1' ⟨rfl,rfl⟩;go_wp2_with fail;refine (fD _ _ _ hc hd).mono ?_;rintro e w2 ⟨rfl,hb2⟩;obtain ⟨hc2,hf2⟩:=tX hb2;have hz2:w.heap.size < w2.heap.size:=by have:=hb2.size; omega
    go_wp2_with (go_at_call 163; refine (Ck _ _ hs).mono ?_; rintro e w3 ⟨rfl,rfl⟩)
    all_goals go_ret
    all_goals exact ⟨ah (HT.out.trans (by simp [uC, *])).symm,((BelowD.refl _ _).alloc (TS _) _).trans ((hb1.mono (by simp)).trans (hb2.mono (by omega)))⟩
   have h3':eH c d=false:=by simpa using h3
   have HT:Hid (bI a b r c d s=false):=zg h3';clear h3;go_enter func108,ntmps108;go_wp2_with fail;refine (fD _ _ _ ha hb).mono ?_;rintro e w1 ⟨rfl,hb1⟩;obtain ⟨hc1,hf1⟩:=tX hb1;have hz1:w.heap.size < w1.heap.size:=by have:=hb1.size; simp at this; omega
   go_wp2_with fail;refine (aL _ _ hr).mono ?_;rintro e w1' ⟨rfl,rfl⟩;go_wp2_with fail;refine (fD _ _ _ hc hd).mono ?_;rintro e w2 ⟨rfl,hb2⟩;go_wp2;go_ret;exact ⟨ah HT.out.symm,((BelowD.refl _ _).alloc (TS _) _).trans ((hb1.mono (by simp)).trans (hb2.mono (by omega)))⟩
  have h2':aP r=false:=by simpa using h2
  have HT:Hid (bI a b r c d s=false):=zf h2';clear h2;go_enter func108,ntmps108;go_wp2_with fail;refine (fD _ _ _ ha hb).mono ?_;rintro e w1 ⟨rfl,hb1⟩;obtain ⟨hc1,hf1⟩:=tX hb1;go_wp2_with fail;refine (aL _ _ hr).mono ?_;rintro e w1' ⟨rfl,rfl⟩;go_wp2;go_ret;exact ⟨ah HT.out.symm,((BelowD.refl _ _).alloc (TS _) _).trans (hb1.mono (by simp))⟩
 have h1':eH a b=false:=by simpa using h1
 have HT:Hid (bI a b r c d s=false):=ze h1';clear h1;go_enter func108,ntmps108;go_wp2_with fail;refine (fD _ _ _ ha hb).mono ?_;rintro e w1 ⟨rfl,hb1⟩;go_wp2;go_ret;exact ⟨ah HT.out.symm,((BelowD.refl _ _).alloc (TS _) _).trans (hb1.mono (by simp))⟩
theorem Sw {w W w':af} {n:Nat} {x0 x1 x2 x3 x4 x5:Value} (h:W.cell? ⟨n,0,none⟩=some x0∧W.cell? ⟨n,1,none⟩=some x1∧W.cell? ⟨n,2,none⟩=some x2∧W.cell? ⟨n,3,none⟩=some x3∧W.cell? ⟨n,4,none⟩=some x4∧W.cell? ⟨n,5,none⟩=some x5∧n < W.heap.size∧BelowD n w W) (hb:BelowD W.heap.size W w'):w'.cell? ⟨n,0,none⟩=some x0∧w'.cell? ⟨n,1,none⟩=some x1∧w'.cell? ⟨n,2,none⟩=some x2∧w'.cell? ⟨n,3,none⟩=some x3∧w'.cell? ⟨n,4,none⟩=some x4∧w'.cell? ⟨n,5,none⟩=some x5∧n < w'.heap.size∧BelowD n w w':=by
 obtain ⟨h0,h1,h2,h3,h4,h5,hn,hB⟩:=h;have hc:∀ o,w'.cell? ⟨n,o,none⟩=W.cell? ⟨n,o,none⟩:=fun o=>hb.cell (p:=⟨n,o,none⟩) hn;refine ⟨by rw [hc]; exact h0,by rw [hc]; exact h1,by rw [hc]; exact h2,by rw [hc]; exact h3,by rw [hc]; exact h4,by rw [hc]; exact h5,TP hn hb.size,hB.trans (hb.mono (Nat.le_of_lt hn))⟩
theorem wV (a b r c d s:bH) (w:af) (ha:a.size≤maxLen) (hb:b.size≤maxLen) (hr:r.size≤maxLen) (hc:c.size≤maxLen) (hd:d.size≤maxLen) (hs:s.size≤maxLen) :
  Calls prog 160 #[.agg #[.string a,.string b,.string r,.string c,.string d,.string s]] w fun e w'=>e=.returned (.string (aX a b r c d s))∧BelowD w.heap.size w w':=by
 by_cases hn:bI a b r c d s=true
 ·obtain ⟨h1,h2,h3,h4⟩:=jS hn;have hx:=iC a b;have hy:=iC c d;have WR:=(nM h2).2;have hs12:=DW h4;clear h1 h2 h3 h4;go_enter func160,ntmps160;go_wp2_with fail;refine (vH _ _ _ _ _ _ _ ha hb hr hc hd hs).mono ?_;rintro e w1 ⟨rfl,hb1⟩;obtain ⟨hc1,hf1⟩:=tX hb1;have hz1:w.heap.size < w1.heap.size:=by have:=hb1.size; simp at this; omega
  have k:∀ o v,(w.alloc (.cells #[.string a,.string b,.string r,.string c,.string d,.string s] 46)).cell? ⟨w.heap.size,o,none⟩=some v→w1.cell? ⟨w.heap.size,o,none⟩=some v:=fun o v h=>by rw [hc1 _ _ (by simp)]; exact h
  have k0:=k 0 (.string a) (by simp);have k1:=k 1 (.string b) (by simp);have k2:=k 2 (.string r) (by simp);have k3:=k 3 (.string c) (by simp);have k4:=k 4 (.string d) (by simp);have k5:=k 5 (.string s) (by simp);have HB1:BelowD w.heap.size w w1:=((BelowD.refl _ _).alloc (TS _) _).trans (hb1.mono (by simp));clear k hb1 hc1 hf1;have q1:(9223372036854775807 < (aB a b).size + 1)=False:=by simp; omega
  have q2:(9223372036854775807 < (aB a b).size + 1 + r.size)=False:=by simp; omega
  have q3:(9223372036854775807 < (aB a b).size + 1 + r.size + 1)=False:=by simp; omega
  have q4:(9223372036854775807 < (aB a b).size + 1 + r.size + 1 + (aB c d).size)=False:=by simp; omega
  go_wp2_with fail
  go_region_held3 (fun w'=>w'.cell? ⟨w.heap.size,0,none⟩=some (.string a)∧w'.cell? ⟨w.heap.size,1,none⟩=some (.string b)∧w'.cell? ⟨w.heap.size,2,none⟩=some (.string r)∧w'.cell? ⟨w.heap.size,3,none⟩=some (.string c)∧w'.cell? ⟨w.heap.size,4,none⟩=some (.string d)∧w'.cell? ⟨w.heap.size,5,none⟩=some (.string s)∧w.heap.size < w'.heap.size∧BelowD w.heap.size w w')
   (first | exact Sw (by assumption) hbx | exact ⟨k0,k1,k2,k3,k4,k5,hz1,HB1.drew⟩)
   (first | (go_at_call 207; refine (wU _ _ _ (by assumption) (by assumption)).mono ?_; rintro e w' ⟨rfl,hbx⟩))
  rename_i hH;obtain ⟨g0,g1,g2,g3,g4,g5,gz,gB⟩:=hH;clear k0 k1 k2 k3 k4 k5 hbx q1 q2 q3 q4 HB1;by_cases he:s.toList.isEmpty=true
  ·have HT:Hid (aX a b r c d s=_):=mP hn he;go_wp2;go_ret;exact ⟨gu HT.out.symm,gB⟩
  have he':s.toList.isEmpty=false:=by simpa using he
  have HT:Hid (aX a b r c d s=_):=mQ hn he';clear he;go_wp2;go_ret;exact ⟨gu (HT.out.trans (by simp only [ByteArray.append_assoc])).symm,gB⟩
 have hn':bI a b r c d s=false:=by simpa using hn
 have HT:Hid (aX a b r c d s=⟨#[]⟩):=sP hn';clear hn;go_enter func160,ntmps160;go_wp2_with fail;refine (vH _ _ _ _ _ _ _ ha hb hr hc hd hs).mono ?_;rintro e w1 ⟨rfl,hb1⟩;go_wp2;go_ret;exact ⟨gu HT.out.symm,((BelowD.refl _ _).alloc (TS _) _).trans (hb1.mono (by simp))⟩
theorem QP {w W w':af} {n m k:Nat} {x0 x1 x2 x3 x4 x5 y0 y1 y2 y3 y4 y5:Value} (hk:k≤n) (h:W.cell? ⟨n,0,none⟩=some x0∧W.cell? ⟨n,1,none⟩=some x1∧W.cell? ⟨n,2,none⟩=some x2∧W.cell? ⟨n,3,none⟩=some x3∧W.cell? ⟨n,4,none⟩=some x4∧W.cell? ⟨n,5,none⟩=some x5∧W.cell? ⟨m,0,none⟩=some y0∧W.cell? ⟨m,1,none⟩=some y1∧W.cell? ⟨m,2,none⟩=some y2∧W.cell? ⟨m,3,none⟩=some y3∧W.cell? ⟨m,4,none⟩=some y4∧W.cell? ⟨m,5,none⟩=some y5∧n < W.heap.size∧m < W.heap.size∧BelowD k w W) (hb:BelowD W.heap.size W w'):w'.cell? ⟨n,0,none⟩=some x0∧w'.cell? ⟨n,1,none⟩=some x1∧w'.cell? ⟨n,2,none⟩=some x2∧w'.cell? ⟨n,3,none⟩=some x3∧w'.cell? ⟨n,4,none⟩=some x4∧w'.cell? ⟨n,5,none⟩=some x5∧w'.cell? ⟨m,0,none⟩=some y0∧w'.cell? ⟨m,1,none⟩=some y1∧w'.cell? ⟨m,2,none⟩=some y2∧w'.cell? ⟨m,3,none⟩=some y3∧w'.cell? ⟨m,4,none⟩=some y4∧w'.cell? ⟨m,5,none⟩=some y5∧n < w'.heap.size∧m < w'.heap.size∧BelowD k w w':=by
 obtain ⟨h0,h1,h2,h3,h4,h5,h6,h7,h8,h9,h10,h11,hn,hm,hB⟩:=h;have hc:∀ o,w'.cell? ⟨n,o,none⟩=W.cell? ⟨n,o,none⟩:=fun o=>hb.cell (p:=⟨n,o,none⟩) hn;have hd:∀ o,w'.cell? ⟨m,o,none⟩=W.cell? ⟨m,o,none⟩:=fun o=>hb.cell (p:=⟨m,o,none⟩) hm;exact ⟨by rw [hc]; exact h0,by rw [hc]; exact h1,by rw [hc]; exact h2,by rw [hc]; exact h3,by rw [hc]; exact h4,by rw [hc]; exact h5,by rw [hd]; exact h6,by rw [hd]; exact h7,by rw [hd]; exact h8,by rw [hd]; exact h9,by rw [hd]; exact h10,by rw [hd]; exact h11,TP hn hb.size,TP hm hb.size,hB.trans (hb.mono (by omega))⟩
theorem Kz (w:af) (o1 o2:Obj):BelowD w.heap.size w ((w.alloc o1).alloc o2) :=
 ((BelowD.refl _ _).alloc (TS _) _).alloc (by simp) _
theorem tY (a b r c d s a' b' r' c' d' s':bH) (w:af) (ha:a.size≤maxLen) (hb:b.size≤maxLen) (hr:r.size≤maxLen) (hc:c.size≤maxLen) (hd:d.size≤maxLen) (hs:s.size≤maxLen) (ga:a'.size≤maxLen) (gb:b'.size≤maxLen) (gr:r'.size≤maxLen) (gc:c'.size≤maxLen) (gd:d'.size≤maxLen) (gs:s'.size≤maxLen) :
  Calls prog 106 #[.agg #[.string a,.string b,.string r,.string c,.string d,.string s],.agg #[.string a',.string b',.string r',.string c',.string d',.string s']] w fun e w'=>e=.returned (.int .i64 (Iz a b r c d s a' b' r' c' d' s'))∧BelowD w.heap.size w w':=by
 have H0:((w.alloc (.cells #[.string a,.string b,.string r,.string c,.string d,.string s] 46)).alloc (.cells #[.string a',.string b',.string r',.string c',.string d',.string s'] 46)).drew.cell? ⟨w.heap.size,0,none⟩=some (.string a)∧((w.alloc (.cells #[.string a,.string b,.string r,.string c,.string d,.string s] 46)).alloc (.cells #[.string a',.string b',.string r',.string c',.string d',.string s'] 46)).drew.cell? ⟨w.heap.size,1,none⟩=some (.string b)∧((w.alloc (.cells #[.string a,.string b,.string r,.string c,.string d,.string s] 46)).alloc (.cells #[.string a',.string b',.string r',.string c',.string d',.string s'] 46)).drew.cell? ⟨w.heap.size,2,none⟩=some (.string r)∧((w.alloc (.cells #[.string a,.string b,.string r,.string c,.string d,.string s] 46)).alloc (.cells #[.string a',.string b',.string r',.string c',.string d',.string s'] 46)).drew.cell? ⟨w.heap.size,3,none⟩=some (.string c)∧((w.alloc (.cells #[.string a,.string b,.string r,.string c,.string d,.string s] 46)).alloc (.cells #[.string a',.string b',.string r',.string c',.string d',.string s'] 46)).drew.cell? ⟨w.heap.size,4,none⟩=some (.string d)∧((w.alloc (.cells #[.string a,.string b,.string r,.string c,.string d,.string s] 46)).alloc (.cells #[.string a',.string b',.string r',.string c',.string d',.string s'] 46)).drew.cell? ⟨w.heap.size,5,none⟩=some (.string s)∧((w.alloc (.cells #[.string a,.string b,.string r,.string c,.string d,.string s] 46)).alloc (.cells #[.string a',.string b',.string r',.string c',.string d',.string s'] 46)).drew.cell? ⟨w.heap.size + 1,0,none⟩=some (.string a')∧((w.alloc (.cells #[.string a,.string b,.string r,.string c,.string d,.string s] 46)).alloc (.cells #[.string a',.string b',.string r',.string c',.string d',.string s'] 46)).drew.cell? ⟨w.heap.size + 1,1,none⟩=some (.string b')∧((w.alloc (.cells #[.string a,.string b,.string r,.string c,.string d,.string s] 46)).alloc (.cells #[.string a',.string b',.string r',.string c',.string d',.string s'] 46)).drew.cell? ⟨w.heap.size + 1,2,none⟩=some (.string r')∧((w.alloc (.cells #[.string a,.string b,.string r,.string c,.string d,.string s] 46)).alloc (.cells #[.string a',.string b',.string r',.string c',.string d',.string s'] 46)).drew.cell? ⟨w.heap.size + 1,3,none⟩=some (.string c')∧((w.alloc (.cells #[.string a,.string b,.string r,.string c,.string d,.string s] 46)).alloc (.cells #[.string a',.string b',.string r',.string c',.string d',.string s'] 46)).drew.cell? ⟨w.heap.size + 1,4,none⟩=some (.string d')∧((w.alloc (.cells #[.string a,.string b,.string r,.string c,.string d,.string s] 46)).alloc (.cells #[.string a',.string b',.string r',.string c',.string d',.string s'] 46)).drew.cell? ⟨w.heap.size + 1,5,none⟩=some (.string s')∧w.heap.size < ((w.alloc (.cells #[.string a,.string b,.string r,.string c,.string d,.string s] 46)).alloc (.cells #[.string a',.string b',.string r',.string c',.string d',.string s'] 46)).drew.heap.size∧w.heap.size + 1 < ((w.alloc (.cells #[.string a,.string b,.string r,.string c,.string d,.string s] 46)).alloc (.cells #[.string a',.string b',.string r',.string c',.string d',.string s'] 46)).drew.heap.size∧BelowD w.heap.size w (((w.alloc (.cells #[.string a,.string b,.string r,.string c,.string d,.string s] 46)).alloc (.cells #[.string a',.string b',.string r',.string c',.string d',.string s'] 46)).drew):=by
  refine ⟨?_,?_,?_,?_,?_,?_,?_,?_,?_,?_,?_,?_,?_,?_,?_⟩
  all_goals first | exact (Kz _ _ _).drew | (simp; done) | (simp; omega)
 go_enter func106,ntmps106;go_wp2_with fail
 go_region_held3 (fun w'=>w'.cell? ⟨w.heap.size,0,none⟩=some (.string a)∧w'.cell? ⟨w.heap.size,1,none⟩=some (.string b)∧w'.cell? ⟨w.heap.size,2,none⟩=some (.string r)∧w'.cell? ⟨w.heap.size,3,none⟩=some (.string c)∧w'.cell? ⟨w.heap.size,4,none⟩=some (.string d)∧w'.cell? ⟨w.heap.size,5,none⟩=some (.string s)∧w'.cell? ⟨w.heap.size + 1,0,none⟩=some (.string a')∧w'.cell? ⟨w.heap.size + 1,1,none⟩=some (.string b')∧w'.cell? ⟨w.heap.size + 1,2,none⟩=some (.string r')∧w'.cell? ⟨w.heap.size + 1,3,none⟩=some (.string c')∧w'.cell? ⟨w.heap.size + 1,4,none⟩=some (.string d')∧w'.cell? ⟨w.heap.size + 1,5,none⟩=some (.string s')∧w.heap.size < w'.heap.size∧w.heap.size + 1 < w'.heap.size∧BelowD w.heap.size w w')
  (first | assumption | exact QP (TS _) (by assumption) hbx | exact H0)
  (first | (go_at_call 160; refine (wV _ _ _ _ _ _ _ (by assumption) (by assumption) (by assumption) (by assumption) (by assumption) (by assumption)).mono ?_; rintro e w' ⟨rfl,hbx⟩) | (go_at_call 159; refine (Tryz.strings_Compare _ _ _).mono ?_; rintro e w' ⟨rfl,rfl⟩))
 rename_i hH;obtain ⟨-,-,-,-,-,-,-,-,-,-,-,-,-,-,gB⟩:=hH;go_wp2;go_ret;exact ⟨rfl,gB⟩
end Go.Proofs.YtajkkeikihhejaaGreat
namespace Go.Proofs.YtajkkeikihhejaaGreat
set_option maxRecDepth 100000
set_option linter.unusedVariables false
open Go.ChangeShapes Go.WideShapes Go.ChangeAt Go.RowKit Go.Maps Go.Shelf Go.Sort
open Pl
theorem qO (f:Fc) (w:af) :
  Calls prog 107 #[.agg #[.string f.a,.string f.b,.string f.r,.string f.c,.string f.d]] w fun e w'=>e=.returned (.agg #[.string f.a,.string f.b,.string f.r,.string f.c,.string f.d,.string ⟨#[]⟩])∧BelowD w.heap.size w w':=by
 go_enter func107,ntmps107;go_wp2;exact bodyPost_ret (v:=.agg #[.string f.a,.string f.b,.string f.r,.string f.c,.string f.d,.string ⟨#[]⟩]) (by simp [results,Tryz.results107,go_sem, *]) rfl ⟨rfl,⟨by
  repeat (first | exact TT _ _ | refine Below.setCell ?_ (by first | (simp; done) | (simp; omega)) _ | refine Below.alloc ?_ (by first | (simp; done) | (simp; omega)) _),TS _⟩⟩
def QQ (x y:Fc):Int:=Iz x.a x.b x.r x.c x.d ⟨#[]⟩ y.a y.b y.r y.c y.d ⟨#[]⟩
theorem QR {w W w':af} {n m:Nat} {x0 x1 x2 x3 x4 y0 y1 y2 y3 y4:Value} (h:W.cell? ⟨n,0,none⟩=some x0∧W.cell? ⟨n,1,none⟩=some x1∧W.cell? ⟨n,2,none⟩=some x2∧W.cell? ⟨n,3,none⟩=some x3∧W.cell? ⟨n,4,none⟩=some x4∧W.cell? ⟨m,0,none⟩=some y0∧W.cell? ⟨m,1,none⟩=some y1∧W.cell? ⟨m,2,none⟩=some y2∧W.cell? ⟨m,3,none⟩=some y3∧W.cell? ⟨m,4,none⟩=some y4∧BelowD w.heap.size w W) (hb:BelowD W.heap.size W w'):w'.cell? ⟨n,0,none⟩=some x0∧w'.cell? ⟨n,1,none⟩=some x1∧w'.cell? ⟨n,2,none⟩=some x2∧w'.cell? ⟨n,3,none⟩=some x3∧w'.cell? ⟨n,4,none⟩=some x4∧w'.cell? ⟨m,0,none⟩=some y0∧w'.cell? ⟨m,1,none⟩=some y1∧w'.cell? ⟨m,2,none⟩=some y2∧w'.cell? ⟨m,3,none⟩=some y3∧w'.cell? ⟨m,4,none⟩=some y4∧BelowD w.heap.size w w':=by
 obtain ⟨h0,h1,h2,h3,h4,g0,g1,g2,g3,g4,hB⟩:=h;exact ⟨bf hb.b (aF h0) h0,bf hb.b (aF h1) h1,bf hb.b (aF h2) h2,bf hb.b (aF h3) h3,bf hb.b (aF h4) h4,bf hb.b (aF g0) g0,bf hb.b (aF g1) g1,bf hb.b (aF g2) g2,bf hb.b (aF g3) g3,bf hb.b (aF g4) g4,hB.trans (hb.mono hB.size)⟩
theorem wW (x y:Fc) (w:af) (hx:x.fits) (hy:y.fits) :
  Calls prog 61 #[.agg #[.string x.a,.string x.b,.string x.r,.string x.c,.string x.d],.agg #[.string y.a,.string y.b,.string y.r,.string y.c,.string y.d]] w fun e w'=>e=.returned (.int .i64 (QQ x y))∧BelowD w.heap.size w w':=by
 have he0:(⟨#[]⟩:ByteArray).size≤maxLen:=by decide
 obtain ⟨x0,x1,x2,x3,x4⟩:=hx;obtain ⟨y0,y1,y2,y3,y4⟩:=hy;obtain ⟨W0,hW0⟩:∃ W0,W0=(w.alloc (.cells #[.string x.a,.string x.b,.string x.r,.string x.c,.string x.d] 29)).alloc (.cells #[.string y.a,.string y.b,.string y.r,.string y.c,.string y.d] 29):=⟨_,rfl⟩;have HB0:BelowD w.heap.size w W0:=by rw [hW0]; exact Kz _ _ _
 have c0:W0.cell? ⟨w.heap.size,0,none⟩=some (.string x.a):=by rw [hW0]; simp
 have c1:W0.cell? ⟨w.heap.size,1,none⟩=some (.string x.b):=by rw [hW0]; simp
 have c2:W0.cell? ⟨w.heap.size,2,none⟩=some (.string x.r):=by rw [hW0]; simp
 have c3:W0.cell? ⟨w.heap.size,3,none⟩=some (.string x.c):=by rw [hW0]; simp
 have c4:W0.cell? ⟨w.heap.size,4,none⟩=some (.string x.d):=by rw [hW0]; simp
 have e0:W0.cell? ⟨w.heap.size + 1,0,none⟩=some (.string y.a):=by rw [hW0]; simp
 have e1:W0.cell? ⟨w.heap.size + 1,1,none⟩=some (.string y.b):=by rw [hW0]; simp
 have e2:W0.cell? ⟨w.heap.size + 1,2,none⟩=some (.string y.r):=by rw [hW0]; simp
 have e3:W0.cell? ⟨w.heap.size + 1,3,none⟩=some (.string y.c):=by rw [hW0]; simp
 have e4:W0.cell? ⟨w.heap.size + 1,4,none⟩=some (.string y.d):=by rw [hW0]; simp
 unfold QQ;go_enter func61,ntmps61;go_wp2_with fail;rw [← hW0];clear hW0
 go_region_held3 (fun w'=>w'.cell? ⟨w.heap.size,0,none⟩=some (.string x.a)∧w'.cell? ⟨w.heap.size,1,none⟩=some (.string x.b)∧w'.cell? ⟨w.heap.size,2,none⟩=some (.string x.r)∧w'.cell? ⟨w.heap.size,3,none⟩=some (.string x.c)∧w'.cell? ⟨w.heap.size,4,none⟩=some (.string x.d)∧w'.cell? ⟨w.heap.size + 1,0,none⟩=some (.string y.a)∧w'.cell? ⟨w.heap.size + 1,1,none⟩=some (.string y.b)∧w'.cell? ⟨w.heap.size + 1,2,none⟩=some (.string y.r)∧w'.cell? ⟨w.heap.size + 1,3,none⟩=some (.string y.c)∧w'.cell? ⟨w.heap.size + 1,4,none⟩=some (.string y.d)∧BelowD w.heap.size w w')
  (first | assumption | exact QR (by assumption) hbx | exact ⟨c0,c1,c2,c3,c4,e0,e1,e2,e3,e4,HB0.drew⟩)
  (first | (go_at_call_of 107 (Value.agg #[.string x.a,.string x.b,.string x.r,.string x.c,.string x.d]); refine (qO x _).mono ?_; rintro e w' ⟨rfl,hbx⟩) | (go_at_call_of 107 (Value.agg #[.string y.a,.string y.b,.string y.r,.string y.c,.string y.d]); refine (qO y _).mono ?_; rintro e w' ⟨rfl,hbx⟩) | (go_at_call 106; refine (tY x.a x.b x.r x.c x.d ⟨#[]⟩ y.a y.b y.r y.c y.d ⟨#[]⟩ _ x0 x1 x2 x3 x4 he0 y0 y1 y2 y3 y4 he0).mono ?_; rintro e w' ⟨rfl,hbx⟩))
 all_goals (rename_i hJ; obtain ⟨-,-,-,-,-,-,-,-,-,-,gB⟩:=hJ; clear c0 c1 c2 c3 c4 e0 e1 e2 e3 e4; go_wp2; go_ret; exact ⟨rfl,gB⟩)
abbrev KA:={ f:Fc // f.fits }
def oD (x:KA):List Value:=x.1.row
def TH (x y:KA):Int:=QQ x.1 y.1
def Fb (x:Fc):List UInt8:=(aX x.a x.b x.r x.c x.d ⟨#[]⟩).toList
def RI (x y:KA):Bool:=Op.bytesLess (Fb x.1) (Fb y.1)
theorem Pn:ltOf TH=RI:=by
 funext x y
 unfold ltOf TH RI QQ Iz Fb;rw [uM,Go.ByteArray.toList_eq,Go.ByteArray.toList_eq]
theorem QS:Go.Sort.SWO RI where
 irrefl x:=Ls.lt_irrefl _
 trans x y z h k:=Ls.lt_trans _ _ _ h k
 ntrans x y z h k:=by
  cases e:RI x z;case false=>rfl
  by_cases e1:Fb y.1=Fb x.1
  ·unfold RI at *; rw [e1] at k; rw [k] at e; cases e
  rcases Ls.lt_total _ _ e1 with h1 | h1
  ·have:RI y z=true:=Ls.lt_trans _ _ _ h1 e;rw [k] at this; cases this
  have h:RI x y=false:=h;have h1:RI x y=true:=h1;rw [h] at h1; cases h1
theorem Po [Inhabited KA] (blk off size:Nat) (w:af):CmpLays prog 61 #[] oD 5 TH blk off size w:=fun m os dk _ x y =>
 (wW x.1 y.1 _ x.2 y.2).mono fun e w' ⟨he,hb⟩=>⟨he,hb.grew⟩
def kP (xs:List KA):List Fc:=xs.map (·.1)
theorem lG (xs:List KA):(kP xs).length=xs.length:=by simp [kP]
theorem Mi [Inhabited KA] (w:af) (blk off n:Nat) (d:Array KA) (os:Array Obj):Chg (fun g=>g=blk) w (sortWorldK oD 5 w blk off n d os):=by
 refine ⟨⟨rfl,rfl,rfl,?_,fun k hk=>absurd hk (Uw _)⟩,fun k hk hne=>?_,fun g hg hf j=>?_⟩
 ·simp [sortWorldK,grow,putRowK,Sort.ahead]
 ·simp only [sortWorldK,putRowK];rw [heap_grow_old _ _ (by simpa [Sort.ahead] using hk)];have hne:blk ≠ k:=fun e=>hne e.symm;simp [putRow,mapBlock,Sort.ahead,Array.getElem?_modify,hne]
 simp only [sortWorldK,putRowK];rw [frozen?_grow _ _ _ (by simpa [Sort.ahead] using hg),frozen?_putRow,frozen?_ahead];exact hf j
theorem KC [Inhabited KA] {w:af} {base g cap:Nat} {xs:List KA} (h:w.ownsRow base 29 5 (.slice (some ⟨g,0,none⟩) xs.length cap) xs.length (aH (kP xs))):HoldsK oD 5 w g 0 xs.toArray:=by
 intro t ht;rw [size_flatK] at ht;have ht':t < xs.length * 5:=by simpa using ht
 have hi:t / 5 < xs.length:=by omega
 have hr:t % 5 < 5:=Nat.mod_lt _ (by omega);refine ⟨?_,by rw [Um]; exact h.frozenAt t⟩;rw [Um,h.cellAt t ht',get_flatK _ _ _ _ ht];have e:t=t / 5 * 5 + t % 5:=by omega
 have h1:=qH (kP xs) (t / 5) (by rw [lG]; exact hi) (t % 5) hr;rw [← e] at h1;rw [h1];have h2:(xs.toArray)[t / 5]! = xs[t / 5]:=by rw [getElem!_pos xs.toArray _ (by simpa using hi)]; simp
 rw [h2];have h3:(kP xs)[t / 5]'(by rw [lG]; exact hi)=xs[t / 5].1:=by simp [kP]
 rw [h3];have hl:t % 5 < (Fc.row xs[t / 5].1).length:=hr;show _=some ((Fc.row xs[t / 5].1)[t % 5]!);rw [TY hl,getElem!_pos (Fc.row xs[t / 5].1) (t % 5) hl]
theorem Tz [Inhabited KA] {w:af} {base g n cap:Nat} {xs ys:List KA} (h0:w.ownsRow base 29 5 (.slice (some ⟨g,0,none⟩) n cap) n (aH (kP xs))) (hx:xs.length=n) (hl:ys.length=n) (m:Nat) (os:Array Obj):(sortWorldK oD 5 w g 0 m ys.toArray os).ownsRow base 29 5 (.slice (some ⟨g,0,none⟩) n cap) n (aH (kP ys)):=by
 subst hx;have hg:=(h0.lt g rfl).2;have hH:=holdsK_sortWorldK_c oD 5 w g 0 xs.toArray ys.toArray m os (KC h0) hg (by simpa using hl);have hlen:(aH (kP ys)).length=xs.length * 5:=by rw [lF,lG,hl]
 refine ⟨hlen,.inr ?_⟩;rcases h0.2 with ⟨e,-⟩ | ⟨g',cap',cur,e,h1,h2,h3,h4,h5,-⟩
 ·cases e
 injection e with e1 e2 e3;injection e1 with e1; injection e1 with e1;subst e1; subst e3;have hb:(sortWorldK oD 5 w g 0 m ys.toArray os).heap[g]?=some (.cells (putCells id 0 (flatK oD 5 ys.toArray) cur) 29 (0,0)):=by
  simp only [sortWorldK,putRowK];rw [heap_grow_old _ _ (by simpa [Sort.ahead] using hg)];simp [putRow,mapBlock,Sort.ahead,Array.getElem?_modify,h2,onCells]
 refine ⟨g,cap,_,rfl,h1,hb,h3,h4,by simp only [putCells,Array.size_mapIdx]; exact h5,?_⟩;refine List.ext_getElem? fun j=>?_;by_cases hj:j < xs.length * 5
 ·rw [List.getElem?_take_of_lt hj];have hi:j / 5 < ys.length:=by omega
  have h6:=(hH j (by rw [size_flatK]; simpa [hl] using hj)).1;rw [Um,get_flatK _ _ _ _ (by simpa [hl] using hj)] at h6;replace h6:(sortWorldK oD 5 w g 0 m ys.toArray os).cell? ⟨g,j,none⟩=some ((oD (ys.toArray)[j / 5]!)[j % 5]!):=h6;have h7:(putCells id 0 (flatK oD 5 ys.toArray) cur).toList[j]?=some ((oD (ys.toArray)[j / 5]!)[j % 5]!):=by
   rw [← h6];simp [World.cell?,hb]
  rw [h7];have e:j=j / 5 * 5 + j % 5:=by omega
  have h8:=qH (kP ys) (j / 5) (by rw [lG]; exact hi) (j % 5) (Nat.mod_lt _ (by omega));rw [← e] at h8;rw [h8];have h9:(ys.toArray)[j / 5]! = ys[j / 5]:=by rw [getElem!_pos ys.toArray _ (by simpa using hi)]; simp
  have h10:(kP ys)[j / 5]'(by rw [lG]; exact hi)=ys[j / 5].1:=by simp [kP]
  rw [h9,h10];have hl2:j % 5 < (Fc.row ys[j / 5].1).length:=Nat.mod_lt _ (by omega);show some ((Fc.row ys[j / 5].1)[j % 5]!)=_;rw [TY hl2,getElem!_pos (Fc.row ys[j / 5].1) (j % 5) hl2]
 rw [List.getElem?_eq_none (by rw [Ut]; omega),List.getElem?_eq_none (by omega)]
theorem Mj (base g cap:Nat) (fs:List Fc) (w:af) (hf:∀ f ∈ fs,f.fits) (hR:w.ownsRow base 29 5 (.slice (some ⟨g,0,none⟩) fs.length cap) fs.length (aH fs)) (hne:fs ≠ []) (h6:fs.length≤200000) :
  Calls prog 60 #[.slice (some ⟨g,0,none⟩) fs.length cap,.func (.func 61) #[] #[]] w fun e w'=>e=.returned (.tuple #[])∧∃ ys:List Fc,ys.Perm fs∧ys.Pairwise (fun x y=>Op.bytesLess (Fb y) (Fb x)=false)∧w'.ownsRow base 29 5 (.slice (some ⟨g,0,none⟩) fs.length cap) fs.length (aH ys)∧Chg (fun k=>k=g) w w':=by
 obtain ⟨xs,hxs⟩:∃ xs:List KA,kP xs=fs:=⟨fs.attach.map fun x=>⟨x.1,hf x.1 x.2⟩,by unfold kP; rw [List.map_map]; simp [Function.comp_def]⟩;subst hxs;rw [lG] at hR h6 ⊢;cases xs with
 | nil=>exact absurd rfl hne
 | cons x0 xs0 =>
  letI:Inhabited KA:=⟨x0⟩
  have hg:=hR.lt g rfl;have eg:∀ args w,(callFunc 61 args).run prog w=.ok (.enter 61 args) w:=enters_of func61 (by kernel_rfl) rfl;have hs:=AnyQ.slices_SortFunc Tryz.sortF 5 Tryz.isAgg29 Tryz.sizeOf29 oD (fun _=>rfl) (fun x v hv=>by simp [oD,Fc.row] at hv; rcases hv with rfl | rfl | rfl | rfl | rfl <;> rfl) TH (by rw [Pn]; exact QS) 61 #[] g 0 cap (x0::xs0).toArray w eg (Po g 0 _ w) (KC hR) hg.2 (by simp at h6 ⊢; omega)
  change Calls prog 60 _ _ _ at hs
  rw [Pn] at hs;refine hs.mono fun e w' ⟨he,d',n,os,hp,hso,hw⟩=>⟨he,kP d'.toList,?_,?_,?_,?_⟩
  ·have:=hp.2.2;have h2:d'.toList.Perm (x0::xs0):=by simpa [Array.extract_eq_self_of_le,hp.1] using this
   exact h2.map _
  ·have hz:d'.size=xs0.length + 1:=by simpa using hp.1
   unfold kP;rw [List.pairwise_map,List.pairwise_iff_getElem];intro i j hi hj hij;have hi2:i < d'.size:=by simpa using hi
   have hj2:j < d'.size:=by simpa using hj
   have hlt:=hso i j (TW _) hij (by rw [hz] at hj2; simpa using hj2);rw [getElem!_pos d' j hj2,getElem!_pos d' i hi2] at hlt;exact hlt
  ·rw [hw];have hz:d'.toList.length=(x0::xs0).length:=by simpa using hp.1
   have:=Tz hR rfl hz n os;simpa using this
  rw [hw]; exact Mi w g 0 n d' os
theorem GJ (p:Option Addr) (cap:Nat) (fv:Value) (w:af) :
  Calls prog 149 #[.slice p 0 cap,.int .i64 0,.int .i64 0,fv] w fun e w'=>e=.returned (.tuple #[])∧w'=w:=by
 go_enter func149,ntmps149;go_wp2_with fail;go_loopw [8] (fun i wr=>i=.int .i64 1∧wr=w) (fun _ _=>0);case atStart=>exact ⟨rfl,rfl⟩
 obtain ⟨rfl,rfl⟩:=hrel;go_wp2
 go_end0
 exact ⟨rfl,rfl⟩
theorem Pp (p:Option Addr) (cap:Nat) (lim:Int) (fv:Value) (w:af) :
  Calls prog 104 #[.slice p 0 cap,.int .i64 0,.int .i64 0,.int .i64 lim,fv] w fun e w'=>e=.returned (.tuple #[])∧w'=w:=by
 go_enter func104,ntmps104;go_wp2_with fail;go_loopw [1,2] (fun a b wr=>a=.int .i64 0∧b=.int .i64 0∧wr=w) (fun _ _ _=>0);case atStart=>exact ⟨rfl,rfl,rfl⟩
 obtain ⟨rfl,rfl,rfl⟩:=hrel;go_wp2_with fail;refine (GJ p cap fv _).mono ?_;rintro e w1 ⟨rfl,rfl⟩;go_wp2;refine bodyPost_ret (results_none rfl _ _ _) rfl ?_;exact ⟨rfl,rfl⟩
theorem Mk (p:Option Addr) (cap:Nat) (fv:Value) (w:af) :
  Calls prog 60 #[.slice p 0 cap,fv] w fun e w'=>e=.returned (.tuple #[])∧w'=w:=by
 go_enter func60,ntmps60;go_wp2_with fail;refine (Tryz.bits_Len 0 _ (by omega) (by omega)).mono ?_;rintro e w1 ⟨rfl,rfl⟩;go_wp2_with fail;refine (Pp p cap _ fv _).mono ?_;rintro e w1 ⟨rfl,rfl⟩;go_wp2
 go_end0
 exact ⟨rfl,rfl⟩
end Go.Proofs.YtajkkeikihhejaaGreat
