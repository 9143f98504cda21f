/- Regions whose operations may stand late behind one another: only what binds in every order counts. -/
import Derived.Test.YtdaoiceeidoehaaGreatJ9
namespace Go.Proofs.YtdaoiceeidoehaaGreat
open Go.RowKit
variable {P:Program} {ops:Array Oper} {Q:Exit→Act→World→Prop}
def zb (ops:Array Oper):Bool:=(List.range ops.size).all (fun i=>(ops[i]?.map (fun o=>o.after.all (fun e=>!Region.binds .any e || decide (e.on < i)))).getD true)
theorem xE {ops:Array Oper} (h:zb ops=true):∀ (i:Nat) (o:Oper),ops[i]?=some o→∀ e ∈ o.after,Region.binds .any e=true→e.on < i:=by
 intro i o ho e he hb;rw [zb,List.all_eq_true] at h;have h1:=h i (by simpa using (Array.getElem?_eq_some_iff.1 ho).1);rw [ho] at h1;simp only [Option.map_some,Option.getD_some,Array.all_eq_true_iff_forall_mem] at h1;have h2:=h1 e he;rw [hb] at h2;simpa using h2
theorem rO {listed:Array Bool} {n:Nat} (hr:Region.ready .any ops listed=[]) (hs:ops.size=n) (hord:∀ (i:Nat) (o:Oper),ops[i]?=some o→∀ e ∈ o.after,Region.binds .any e=true→e.on < i) (hsz:listed.size=n):∀ i,i < n→listed.getD i true=true:=by
 intro i
 induction i using Nat.strongRecOn with
 | ind i ih =>
  intro hi;cases hl:listed.getD i true with
  | true=>rfl
  | false =>
   exfalso;have hmem:i ∈ Region.ready .any ops listed:=by
    refine mem_ready.2 ⟨hl,ops[i]'(by omega),Array.getElem?_eq_getElem (by omega),fun e he hb=>?_⟩;have hlt:=hord i _ (Array.getElem?_eq_getElem (by omega)) e he hb;have:=ih e.on hlt (by omega);rw [Array.getD_eq_getD_getElem?,Array.getElem?_eq_getElem (by omega)] at this ⊢;simpa using this
   rw [hr] at hmem;cases hmem
section
variable {P:Program} {ops:Array Oper} {Q:Exit→Act→World→Prop}
theorem kW {id:Nat} {a:Act} {w:World} (L:Nat) (f0:Nat→Value) (F:(Nat→Value)→Act) (I:(Nat→Bool)→(Nat→Value)→World→Prop)
  (hm:P.follows .mixedOrders=true) (hsz:ops.size=L + 1) (hord:zb ops=true) (hlo:yM ops L=true)
  (h0:a=F f0) (hI0:I (fun _=>false) f0 w.drew)
  (hstep:∀ i,i < L→∀ o,ops[i]?=some o→∀ (l:Nat→Bool) f w',l i=false→I l f w'→(∀ e ∈ o.after,Region.binds .any e=true→l e.on=true) →
   wpOp P ops Q i (fun a' w''=>∃ v,a'=F (upd f i v)∧I (fun k=>if k=i then true else l k) (upd f i v) w'') (F f) w')
  (hfin:∀ o,ops[L]?=some o→∀ (l:Nat→Bool) f w',(∀ k,k < L→l k=true)→I l f w'→wpOp P ops Q L (fun a' w''=>Q .normal a' w'') (F f) w') :
  (Code.region id ops true).wp P Q a w:=by
 refine iC (fun listed a' w'=>listed.size=L + 1∧((listed.getD L false=false∧∃ f,a'=F f∧I (fun k=>listed.getD k false) f w') ∨ ((∀ j,j≤L→listed.getD j true=true)∧Q .normal a' w'))) hm ?_ ?_ ?_
 ·refine ⟨by simpa using hsz,Or.inl ⟨?_,_,h0,?_⟩⟩
  ·rw [Array.getD_eq_getD_getElem?,Array.getElem?_replicate]; split <;> rfl
  ·have:(fun k=>(Array.replicate ops.size false).getD k false)=fun _=>false:=funext fun k=>by rw [Array.getD_eq_getD_getElem?,Array.getElem?_replicate]; split <;> rfl
   rw [this]; exact hI0
 ·rintro listed a' w' ⟨hs,h⟩ i hi;obtain ⟨hl,o,ho,hpre⟩:=mem_ready.1 hi;have hiL:i < L + 1:=by have:=(Array.getElem?_eq_some_iff.1 ho).1; omega
  rcases h with ⟨hn,f,rfl,hI⟩ | ⟨hall,-⟩
  ·by_cases e:i=L
   ·subst e;have hall:∀ k,k < i→listed.getD k false=true:=fun k hk=>by
     obtain ⟨e,he,rfl,hb⟩:=wZ hlo o ho k hk;exact hpre e he hb
    refine wpOp_mono (fun a'' w'' hq=>⟨by simpa using hs,Or.inr ⟨fun j hj=>?_,hq⟩⟩) (hfin o ho _ f w' hall hI);rw [oU (by simp; omega),eQ _ _ _ (by omega)];by_cases e:j=i
    ·simp [e]
    ·rw [if_neg e]; exact hall j (by omega)
   ·refine wpOp_mono ?_ (hstep i (by omega) o ho _ f w' (by rw [← oU (by omega)]; exact hl) hI (fun e he hb=>hpre e he hb));rintro a'' w'' ⟨v,rfl,hI'⟩;refine ⟨by simpa using hs,Or.inl ⟨?_,_,rfl,?_⟩⟩
    ·rw [eQ _ _ _ (by omega),if_neg (Ne.symm e)]; exact hn
    ·have:(fun k=>(listed.setIfInBounds i true).getD k false)=fun k=>if k=i then true else listed.getD k false:=funext fun k=>eQ _ _ _ (by omega)
     rw [this]; exact hI'
  ·rw [hall i (by omega)] at hl; cases hl
 ·rintro listed a' w' ⟨hs,h⟩ hr;rcases h with ⟨hn,-⟩ | ⟨-,hq⟩
  ·have:=rO hr hsz (xE hord) hs L (by omega);rw [oU (by omega)] at this;rw [this] at hn; cases hn
  ·exact hq
end
end Go.Proofs.YtdaoiceeidoehaaGreat
namespace Go.Proofs.YtdaoiceeidoehaaGreat.G
set_option linter.unusedVariables false
open Go.ChangeShapes Go.WideShapes Go.ChangeAt Go.RowKit Go.Maps
open Pl
def Back {K:Type} [DecidableEq K] (enc:K→Value) (P:Program) (kt t:TypeId) (bp n:Nat) (M:K→Option Value) (y:K) (st:Nat) (w:World):Prop :=
 ∀ (w2:World) (val:Value),w2.heap[bp]?=w.heap[bp]?→∃ w3,(Instr.entryStore t (.map (some bp)) (goInt st) val).run P w2=.ok () w3∧aB enc P kt w3 bp (n + 1) (iU M y (some val))∧w2.grownBy w3 (some bp)
def put (l:Nat→Bool) (i:Nat):Nat→Bool:=fun k=>if k=i then true else l k
structure EA (C:Nat→Value) (NEW:Array Value) (et:TypeId) (W:World) (l:Nat→Bool) (f:Nat→Value) (w:World):Prop where
 late:∀ k,7≤k→k≤10→l k=false
 bel:Below W.heap.size W w
 val:∀ k,k≤5→l k=true→f k=C k
 row:l 6=true→∃ g,f 6=.slice (some ⟨g,0,none⟩) 1 1∧W.heap.size≤g∧w.heap[g]?=some (.cells NEW et (0,0))
structure EB (C:Nat→Value) (NEW:Array Value) (et:TypeId) (W:World) (bp:Nat) (row0:Value) (BK:Nat→World→Prop) (l:Nat→Bool) (f:Nat→Value) (w:World):Prop where
 low:∀ k,k≤7→l k=true
 l9:l 9=false
 val:∀ k,k≤5→f k=C k
 mid:∃ (W0:World) (st g:Nat),Below W.heap.size W W0∧f 6=.slice (some ⟨g,0,none⟩) 1 1∧W.heap.size≤g∧W0.heap[g]?=some (.cells NEW et (0,0))∧W0.grownBy w (some bp)∧f 7=.tuple #[row0,goInt st]∧BK st w∧(l 8=true→f 8=row0)∧(l 10=true→f 10=goInt st)
structure EC (C:Nat→Value) (NEW:Array Value) (et:TypeId) (sz:Nat) (W:World) (bp:Nat) (row0:Value) (nn:Nat) (xs:List Value) (BK:Nat→World→Prop) (l:Nat→Bool) (f:Nat→Value) (w:World):Prop where
 low:∀ k,k≤9→l k=true
 val:∀ k,k≤5→f k=C k
 mid:∃ (W0 w1:World) (st:Nat),Below W.heap.size W W0∧W0.grownBy w1 (some bp)∧w1.grownBy w row0.ownBlock∧w.ownsRow (bp + 1) et sz (f 9) (nn + 1) (xs ++ NEW.toList)∧((f 9).ownBlock=row0.ownBlock ∨ (f 9).ownBlock=some w1.heap.size)∧BK st w1∧f 7=.tuple #[row0,goInt st]∧(l 10=true→f 10=goInt st)
def EI (C:Nat→Value) (NEW:Array Value) (et:TypeId) (sz:Nat) (W:World) (bp:Nat) (row0:Value) (nn:Nat) (xs:List Value) (BK:Nat→World→Prop) (l:Nat→Bool) (f:Nat→Value) (w:World):Prop :=
 EA C NEW et W l f w ∨ EB C NEW et W bp row0 BK l f w ∨ EC C NEW et sz W bp row0 nn xs BK l f w
section
variable {C:Nat→Value} {NEW:Array Value} {et:TypeId} {sz:Nat} {W:World} {bp:Nat} {row0:Value} {nn:Nat} {xs:List Value} {BK:Nat→World→Prop} {l:Nat→Bool} {f:Nat→Value} {w:World}
theorem ei_start (W:World):EI C NEW et sz W bp row0 nn xs BK (fun _=>false) f W.drew:=.inl ⟨fun _ _ _=>rfl,(Below.refl _ _).drew,fun _ _ h=>(by cases h),fun h=>(by cases h)⟩
theorem EI.early (h:EI C NEW et sz W bp row0 nn xs BK l f w) {i:Nat} (hi:i≤7) (hl:l i=false):EA C NEW et W l f w:=by
 rcases h with h | h | h
 ·exact h
 ·rw [h.low i hi] at hl; cases hl
 ·rw [h.low i (by omega)] at hl; cases hl
theorem EA.put {i:Nat} (h:EA C NEW et W l f w) (hi:i≤5) {v:Value} (hv:v=C i):EI C NEW et sz W bp row0 nn xs BK (fun k=>if k=i then true else l k) (upd f i v) w:=by
 refine .inl ⟨fun k h7 h10=>?_,h.bel,fun k hk hl=>?_,fun hl=>?_⟩
 ·show (if _=_ then true else _)=_; rw [if_neg (by omega)]; exact h.late k h7 h10
 ·by_cases e:k=i
  ·subst e; simp [upd,hv]
  ·simp only [if_neg e] at hl;simp only [upd,if_neg e]; exact h.val k hk hl
 ·replace hl:(if _=_ then true else _)=true:=hl;rw [if_neg (by omega)] at hl;simp only [upd];rw [if_neg (by omega)];exact h.row hl
theorem EA.lay (h:EA C NEW et W l f w):EI C NEW et sz W bp row0 nn xs BK (fun k=>if k=6 then true else l k) (upd f 6 (.slice (some ⟨w.heap.size,0,none⟩) 1 1)) (w.alloc (.cells NEW et)):=by
 refine .inl ⟨fun k h7 h10=>?_,h.bel.alloc h.bel.size _,fun k hk hl=>?_,fun _=>⟨w.heap.size,by simp [upd],h.bel.size,heap_alloc_new w _⟩⟩
 ·show (if _=_ then true else _)=_; rw [if_neg (by omega)]; exact h.late k h7 h10
 ·replace hl:(if _=_ then true else _)=true:=hl;rw [if_neg (by omega)] at hl;simp only [upd];rw [if_neg (by omega)]; exact h.val k hk hl
theorem EA.took (h:EA C NEW et W l f w) (hall:∀ k,k≤6→l k=true) {st:Nat} {w1:World} (hg:w.grownBy w1 (some bp)) (hb:BK st w1):EI C NEW et sz W bp row0 nn xs BK (fun k=>if k=7 then true else l k) (upd f 7 (.tuple #[row0,goInt st])) w1:=by
 obtain ⟨g,e6,hg6,hc⟩:=h.row (hall 6 (by omega));refine .inr (.inl ⟨fun k hk=>?_,?_,fun k hk=>?_,w,st,g,h.bel,?_,hg6,hc,hg,?_,hb,fun h8=>?_,fun h10=>?_⟩)
 ·by_cases e:k=7
  ·simp [e]
  ·simp only [if_neg e]; exact hall k (by omega)
 ·show (if (9:Nat)=7 then true else l 9)=false;rw [if_neg (by omega)]; exact h.late 9 (by omega) (by omega)
 ·simp only [upd]; rw [if_neg (by omega)]; exact h.val k hk (hall k (by omega))
 ·simp only [upd]; rw [if_neg (by omega)]; exact e6
 ·simp [upd]
 ·have:(if (8:Nat)=7 then true else l 8)=true:=h8;rw [if_neg (by omega),h.late 8 (by omega) (by omega)] at this; cases this
 ·have:(if (10:Nat)=7 then true else l 10)=true:=h10;rw [if_neg (by omega),h.late 10 (by omega) (by omega)] at this; cases this
theorem EI.midB (h:EI C NEW et sz W bp row0 nn xs BK l f w) (h7:l 7=true) {i:Nat} (hi:i≤9) (hl:l i=false):EB C NEW et W bp row0 BK l f w:=by
 rcases h with h | h | h
 ·rw [h.late 7 (by omega) (by omega)] at h7; cases h7
 ·exact h
 ·rw [h.low i hi] at hl; cases hl
theorem EI.seven (h:EI C NEW et sz W bp row0 nn xs BK l f w) (h7:l 7=true):∃ st:Nat,f 7=.tuple #[row0,goInt st]:=by
 rcases h with h | h | h
 ·rw [h.late 7 (by omega) (by omega)] at h7; cases h7
 ·obtain ⟨_,st,_,_,_,_,_,_,e,_⟩:=h.mid; exact ⟨st,e⟩
 ·obtain ⟨_,_,st,_,_,_,_,_,_,e,_⟩:=h.mid; exact ⟨st,e⟩
theorem EB.first (h:EB C NEW et W bp row0 BK l f w):EI C NEW et sz W bp row0 nn xs BK (fun k=>if k=8 then true else l k) (upd f 8 row0) w:=by
 obtain ⟨W0,st,g,h1,h2,h3,h4,h5,h6,h7,h8,h9⟩:=h.mid;refine .inr (.inl ⟨fun k hk=>?_,?_,fun k hk=>?_,W0,st,g,h1,?_,h3,h4,h5,?_,h7,fun _=>?_,fun h10=>?_⟩)
 ·show (if _=_ then true else _)=_; rw [if_neg (by omega)]; exact h.low k hk
 ·show (if (9:Nat)=8 then true else l 9)=false;rw [if_neg (by omega)]; exact h.l9
 ·simp only [upd]; rw [if_neg (by omega)]; exact h.val k hk
 ·simp only [upd]; rw [if_neg (by omega)]; exact h2
 ·simp only [upd]; rw [if_neg (by omega)]; exact h6
 ·simp [upd]
 ·have h10':(if (10:Nat)=8 then true else l 10)=true:=h10;rw [if_neg (by omega)] at h10';simp only [upd]; rw [if_neg (by omega)]; exact h9 h10'
theorem EI.second (h:EI C NEW et sz W bp row0 nn xs BK l f w) (h7:l 7=true) {st:Nat} (e:f 7=.tuple #[row0,goInt st]):EI C NEW et sz W bp row0 nn xs BK (fun k=>if k=10 then true else l k) (upd f 10 (goInt st)) w:=by
 have same:∀ st':Nat,.tuple #[row0,goInt st']=Value.tuple #[row0,goInt st]→goInt st'=goInt st:=fun st' e=>by
  injection e with e;have:=congrArg Array.toList e;simp only [List.cons.injEq] at this;exact this.2.1
 rcases h with h | h | h
 ·rw [h.late 7 (by omega) (by omega)] at h7; cases h7
 ·obtain ⟨W0,st',g,h1,h2,h3,h4,h5,h6,hb,h8,h9⟩:=h.mid;have es:=same st' (h6.symm.trans e);refine .inr (.inl ⟨fun k hk=>?_,?_,fun k hk=>?_,W0,st',g,h1,?_,h3,h4,h5,?_,hb,fun h8'=>?_,fun _=>?_⟩)
  ·show (if _=_ then true else _)=_; rw [if_neg (by omega)]; exact h.low k hk
  ·show (if (9:Nat)=10 then true else l 9)=false;rw [if_neg (by omega)]; exact h.l9
  ·simp only [upd]; rw [if_neg (by omega)]; exact h.val k hk
  ·simp only [upd]; rw [if_neg (by omega)]; exact h2
  ·simp only [upd]; rw [if_neg (by omega)]; exact h6
  ·have h8'':(if (8:Nat)=10 then true else l 8)=true:=h8';rw [if_neg (by omega)] at h8'';simp only [upd]; rw [if_neg (by omega)]; exact h8 h8''
  ·simp [upd,es]
 ·obtain ⟨W0,w1,st',h1,h2,h3,h4,h5,hb,h6,h9⟩:=h.mid;have es:=same st' (h6.symm.trans e);refine .inr (.inr ⟨fun k hk=>?_,fun k hk=>?_,W0,w1,st',h1,h2,h3,?_,?_,hb,?_,fun _=>?_⟩)
  ·show (if _=_ then true else _)=_; rw [if_neg (by omega)]; exact h.low k hk
  ·simp only [upd]; rw [if_neg (by omega)]; exact h.val k hk
  ·simp only [upd]; rw [if_neg (by omega)]; exact h4
  ·simp only [upd]; rw [if_neg (by omega)]; exact h5
  ·simp only [upd]; rw [if_neg (by omega)]; exact h6
  ·simp [upd,es]
theorem EB.app (h:EB C NEW et W bp row0 BK l f w) (h8:l 8=true) {v':Value} {w':World} (hg:w.grownBy w' row0.ownBlock) (ho:w'.ownsRow (bp + 1) et sz v' (nn + 1) (xs ++ NEW.toList)) (hloc:v'.ownBlock=row0.ownBlock ∨ v'.ownBlock=some w.heap.size):EI C NEW et sz W bp row0 nn xs BK (fun k=>if k=9 then true else l k) (upd f 9 v') w':=by
 obtain ⟨W0,st,g,h1,h2,h3,h4,h5,h6,hb,_,h9⟩:=h.mid;refine .inr (.inr ⟨fun k hk=>?_,fun k hk=>?_,W0,w,st,h1,h5,hg,?_,?_,hb,?_,fun h10=>?_⟩)
 ·by_cases e:k=9
  ·simp [e]
  ·by_cases e8:k=8
   ·simp only [if_neg e]; rw [e8]; exact h8
   ·simp only [if_neg e]; exact h.low k (by omega)
 ·simp only [upd]; rw [if_neg (by omega)]; exact h.val k hk
 ·simp only [upd,if_true]; exact ho
 ·simp only [upd,if_true]; exact hloc
 ·simp only [upd]; rw [if_neg (by omega)]; exact h6
 ·have h10':(if (10:Nat)=9 then true else l 10)=true:=h10;rw [if_neg (by omega)] at h10';simp only [upd]; rw [if_neg (by omega)]; exact h9 h10'
theorem EI.last (h:EI C NEW et sz W bp row0 nn xs BK l f w) (hall:∀ k,k < 11→l k=true):EC C NEW et sz W bp row0 nn xs BK l f w:=by
 rcases h with h | h | h
 ·have:=hall 7 (by omega); rw [h.late 7 (by omega) (by omega)] at this; cases this
 ·have:=hall 9 (by omega); rw [h.l9] at this; cases this
 ·exact h
end
end Go.Proofs.YtdaoiceeidoehaaGreat.G
