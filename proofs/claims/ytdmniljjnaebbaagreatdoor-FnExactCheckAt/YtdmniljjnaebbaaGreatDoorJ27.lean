/- Regions whose operations may stand late behind one another: only what binds in every order counts. -/
import Derived.Test.YtdmniljjnaebbaaGreatDoorJ26
import Derived.WalkArith
open Go.Proofs.Tryz
namespace Go.Proofs.YtdmniljjnaebbaaGreatDoor
open Go.RowKit
variable {P:Program} {ops:Array Oper} {Q:Exit→Act→World→Prop}
def Bj (ops:Array Oper):Bool:=(List.range ops.size).all (fun i=>(ops[i]?.map (fun o=>o.after.all (fun e=>!Region.binds .any e || decide (e.on < i)))).getD true)
theorem zR {ops:Array Oper} (h:Bj ops=true):∀ (i:Nat) (o:Oper),ops[i]?=some o→∀ e ∈ o.after,Region.binds .any e=true→e.on < i:=by
 intro i o ho e he hb;rw [Bj,List.all_eq_true] at h;have h1:=h i (by simpa using (Array.getElem?_eq_some_iff.1 ho).1);rw [ho] at h1;simp only [Option.map_some,Option.getD_some,Array.all_eq_true_iff_forall_mem] at h1;have h2:=h1 e he;rw [hb] at h2;simpa using h2
theorem ul {listed:Array Bool} {n:Nat} (hr:Region.ready .any ops listed=[]) (hs:ops.size=n) (hord:∀ (i:Nat) (o:Oper),ops[i]?=some o→∀ e ∈ o.after,Region.binds .any e=true→e.on < i) (hsz:listed.size=n):∀ i,i < n→listed.getD i true=true:=by
 intro i
 induction i using Nat.strongRecOn with
 | ind i ih =>
  intro hi;cases hl:listed.getD i true with
  | true=>rfl
  | false =>
   exfalso;have hmem:i ∈ Region.ready .any ops listed:=by
    refine mem_ready.2 ⟨hl,ops[i]'(by omega),Array.getElem?_eq_getElem (by omega),fun e he hb=>?_⟩;have hlt:=hord i _ (Array.getElem?_eq_getElem (by omega)) e he hb;have:=ih e.on hlt (by omega);rw [Array.getD_eq_getD_getElem?,Array.getElem?_eq_getElem (by omega)] at this ⊢;simpa using this
   rw [hr] at hmem;cases hmem
section
variable {P:Program} {ops:Array Oper} {Q:Exit→Act→World→Prop}
theorem mh {id:Nat} {a:Act} {w:World} (L:Nat) (f0:Nat→Value) (F:(Nat→Value)→Act) (I:(Nat→Bool)→(Nat→Value)→World→Prop)
  (hm:P.follows .mixedOrders=true) (hsz:ops.size=L + 1) (hord:Bj ops=true) (hlo:AC ops L=true)
  (h0:a=F f0) (hI0:I (fun _=>false) f0 w.drew)
  (hstep:∀ i,i < L→∀ o,ops[i]?=some o→∀ (l:Nat→Bool) f w',l i=false→I l f w'→(∀ e ∈ o.after,Region.binds .any e=true→l e.on=true) →
   wpOp P ops Q i (fun a' w''=>∃ v,a'=F (upd f i v)∧I (fun k=>if k=i then true else l k) (upd f i v) w'') (F f) w')
  (hfin:∀ o,ops[L]?=some o→∀ (l:Nat→Bool) f w',(∀ k,k < L→l k=true)→I l f w'→wpOp P ops Q L (fun a' w''=>Q .normal a' w'') (F f) w') :
  (Code.region id ops true).wp P Q a w:=by
 refine iX (fun listed a' w'=>listed.size=L + 1∧((listed.getD L false=false∧∃ f,a'=F f∧I (fun k=>listed.getD k false) f w') ∨ ((∀ j,j≤L→listed.getD j true=true)∧Q .normal a' w'))) hm ?_ ?_ ?_
 ·refine ⟨by simpa using hsz,Or.inl ⟨?_,_,h0,?_⟩⟩
  ·rw [Array.getD_eq_getD_getElem?,Array.getElem?_replicate]; split <;> rfl
  ·have:(fun k=>(Array.replicate ops.size false).getD k false)=fun _=>false:=funext fun k=>by rw [Array.getD_eq_getD_getElem?,Array.getElem?_replicate]; split <;> rfl
   rw [this]; exact hI0
 ·rintro listed a' w' ⟨hs,h⟩ i hi;obtain ⟨hl,o,ho,hpre⟩:=mem_ready.1 hi;have hiL:i < L + 1:=by have:=(Array.getElem?_eq_some_iff.1 ho).1; omega
  rcases h with ⟨hn,f,rfl,hI⟩ | ⟨hall,-⟩
  ·by_cases e:i=L
   ·subst e;have hall:∀ k,k < i→listed.getD k false=true:=fun k hk=>by
     obtain ⟨e,he,rfl,hb⟩:=zg hlo o ho k hk;exact hpre e he hb
    refine wpOp_mono (fun a'' w'' hq=>⟨by simpa using hs,Or.inr ⟨fun j hj=>?_,hq⟩⟩) (hfin o ho _ f w' hall hI);rw [qJ (by simp; omega),fe _ _ _ (by omega)];by_cases e:j=i
    ·simp [e]
    ·rw [if_neg e]; exact hall j (by omega)
   ·refine wpOp_mono ?_ (hstep i (by omega) o ho _ f w' (by rw [← qJ (by omega)]; exact hl) hI (fun e he hb=>hpre e he hb));rintro a'' w'' ⟨v,rfl,hI'⟩;refine ⟨by simpa using hs,Or.inl ⟨?_,_,rfl,?_⟩⟩
    ·rw [fe _ _ _ (by omega),if_neg (Ne.symm e)]; exact hn
    ·have:(fun k=>(listed.setIfInBounds i true).getD k false)=fun k=>if k=i then true else listed.getD k false:=funext fun k=>fe _ _ _ (by omega)
     rw [this]; exact hI'
  ·rw [hall i (by omega)] at hl; cases hl
 ·rintro listed a' w' ⟨hs,h⟩ hr;rcases h with ⟨hn,-⟩ | ⟨-,hq⟩
  ·have:=ul hr hsz (zR hord) hs L (by omega);rw [qJ (by omega)] at this;rw [this] at hn; cases hn
  ·exact hq
end
end Go.Proofs.YtdmniljjnaebbaaGreatDoor
namespace Go.Proofs.YtdmniljjnaebbaaGreatDoor.G
set_option linter.unusedVariables false
open Go.ChangeShapes Go.WideShapes Go.ChangeAt Go.RowKit Go.Maps
open Pl
def Back {K:Type} [DecidableEq K] (enc:K→Value) (P:Program) (kt t:TypeId) (bp n:Nat) (M:K→Option Value) (y:K) (st:Nat) (w:World):Prop :=
 ∀ (w2:World) (val:Value),w2.heap[bp]?=w.heap[bp]?→∃ w3,(Instr.entryStore t (.map (some bp)) (goInt st) val).run P w2=.ok () w3∧aD enc P kt w3 bp (n + 1) (ji M y (some val))∧w2.grownBy w3 (some bp)
def put (l:Nat→Bool) (i:Nat):Nat→Bool:=fun k=>if k=i then true else l k
structure EA (C:Nat→Value) (NEW:Array Value) (et:TypeId) (W:World) (l:Nat→Bool) (f:Nat→Value) (w:World):Prop where
 late:∀ k,7≤k→k≤10→l k=false
 bel:Below W.heap.size W w
 val:∀ k,k≤5→l k=true→f k=C k
 row:l 6=true→∃ g,f 6=.slice (some ⟨g,0,none⟩) 1 1∧W.heap.size≤g∧w.heap[g]?=some (.cells NEW et (0,0))
structure EB (C:Nat→Value) (NEW:Array Value) (et:TypeId) (W:World) (bp:Nat) (row0:Value) (BK:Nat→World→Prop) (l:Nat→Bool) (f:Nat→Value) (w:World):Prop where
 low:∀ k,k≤7→l k=true
 l9:l 9=false
 val:∀ k,k≤5→f k=C k
 mid:∃ (W0:World) (st g:Nat),Below W.heap.size W W0∧f 6=.slice (some ⟨g,0,none⟩) 1 1∧W.heap.size≤g∧W0.heap[g]?=some (.cells NEW et (0,0))∧W0.grownBy w (some bp)∧f 7=.tuple #[row0,goInt st]∧BK st w∧(l 8=true→f 8=row0)∧(l 10=true→f 10=goInt st)
structure EC (C:Nat→Value) (NEW:Array Value) (et:TypeId) (sz:Nat) (W:World) (bp:Nat) (row0:Value) (nn:Nat) (xs:List Value) (BK:Nat→World→Prop) (l:Nat→Bool) (f:Nat→Value) (w:World):Prop where
 low:∀ k,k≤9→l k=true
 val:∀ k,k≤5→f k=C k
 mid:∃ (W0 w1:World) (st:Nat),Below W.heap.size W W0∧W0.grownBy w1 (some bp)∧w1.grownBy w row0.ownBlock∧w.ownsRow (bp + 1) et sz (f 9) (nn + 1) (xs ++ NEW.toList)∧((f 9).ownBlock=row0.ownBlock ∨ (f 9).ownBlock=some w1.heap.size)∧BK st w1∧f 7=.tuple #[row0,goInt st]∧(l 10=true→f 10=goInt st)
def EI (C:Nat→Value) (NEW:Array Value) (et:TypeId) (sz:Nat) (W:World) (bp:Nat) (row0:Value) (nn:Nat) (xs:List Value) (BK:Nat→World→Prop) (l:Nat→Bool) (f:Nat→Value) (w:World):Prop :=
 EA C NEW et W l f w ∨ EB C NEW et W bp row0 BK l f w ∨ EC C NEW et sz W bp row0 nn xs BK l f w
section
variable {C:Nat→Value} {NEW:Array Value} {et:TypeId} {sz:Nat} {W:World} {bp:Nat} {row0:Value} {nn:Nat} {xs:List Value} {BK:Nat→World→Prop} {l:Nat→Bool} {f:Nat→Value} {w:World}
theorem ei_start (W:World):EI C NEW et sz W bp row0 nn xs BK (fun _=>false) f W.drew:=.inl ⟨fun _ _ _=>rfl,(Below.refl _ _).drew,fun _ _ h=>(by cases h),fun h=>(by cases h)⟩
theorem EI.early (h:EI C NEW et sz W bp row0 nn xs BK l f w) {i:Nat} (hi:i≤7) (hl:l i=false):EA C NEW et W l f w:=by
 rcases h with h | h | h
 ·exact h
 ·rw [h.low i hi] at hl; cases hl
 ·rw [h.low i (by omega)] at hl; cases hl
theorem EA.put {i:Nat} (h:EA C NEW et W l f w) (hi:i≤5) {v:Value} (hv:v=C i):EI C NEW et sz W bp row0 nn xs BK (fun k=>if k=i then true else l k) (upd f i v) w:=by
 refine .inl ⟨fun k h7 h10=>?_,h.bel,fun k hk hl=>?_,fun hl=>?_⟩
 ·show (if _=_ then true else _)=_; rw [if_neg (by omega)]; exact h.late k h7 h10
 ·by_cases e:k=i
  ·subst e; simp [upd,hv]
  ·simp only [if_neg e] at hl;simp only [upd,if_neg e]; exact h.val k hk hl
 ·replace hl:(if _=_ then true else _)=true:=hl;rw [if_neg (by omega)] at hl;simp only [upd];rw [if_neg (by omega)];exact h.row hl
theorem EA.lay (h:EA C NEW et W l f w):EI C NEW et sz W bp row0 nn xs BK (fun k=>if k=6 then true else l k) (upd f 6 (.slice (some ⟨w.heap.size,0,none⟩) 1 1)) (w.alloc (.cells NEW et)):=by
 refine .inl ⟨fun k h7 h10=>?_,h.bel.alloc h.bel.size _,fun k hk hl=>?_,fun _=>⟨w.heap.size,by simp [upd],h.bel.size,heap_alloc_new w _⟩⟩
 ·show (if _=_ then true else _)=_; rw [if_neg (by omega)]; exact h.late k h7 h10
 ·replace hl:(if _=_ then true else _)=true:=hl;rw [if_neg (by omega)] at hl;simp only [upd];rw [if_neg (by omega)]; exact h.val k hk hl
theorem EA.took (h:EA C NEW et W l f w) (hall:∀ k,k≤6→l k=true) {st:Nat} {w1:World} (hg:w.grownBy w1 (some bp)) (hb:BK st w1):EI C NEW et sz W bp row0 nn xs BK (fun k=>if k=7 then true else l k) (upd f 7 (.tuple #[row0,goInt st])) w1:=by
 obtain ⟨g,e6,hg6,hc⟩:=h.row (hall 6 (by omega));refine .inr (.inl ⟨fun k hk=>?_,?_,fun k hk=>?_,w,st,g,h.bel,?_,hg6,hc,hg,?_,hb,fun h8=>?_,fun h10=>?_⟩)
 ·by_cases e:k=7
  ·simp [e]
  ·simp only [if_neg e]; exact hall k (by omega)
 ·show (if (9:Nat)=7 then true else l 9)=false;rw [if_neg (by omega)]; exact h.late 9 (by omega) (by omega)
 ·simp only [upd]; rw [if_neg (by omega)]; exact h.val k hk (hall k (by omega))
 ·simp only [upd]; rw [if_neg (by omega)]; exact e6
 ·simp [upd]
 ·have:(if (8:Nat)=7 then true else l 8)=true:=h8;rw [if_neg (by omega),h.late 8 (by omega) (by omega)] at this; cases this
 ·have:(if (10:Nat)=7 then true else l 10)=true:=h10;rw [if_neg (by omega),h.late 10 (by omega) (by omega)] at this; cases this
theorem EI.midB (h:EI C NEW et sz W bp row0 nn xs BK l f w) (h7:l 7=true) {i:Nat} (hi:i≤9) (hl:l i=false):EB C NEW et W bp row0 BK l f w:=by
 rcases h with h | h | h
 ·rw [h.late 7 (by omega) (by omega)] at h7; cases h7
 ·exact h
 ·rw [h.low i hi] at hl; cases hl
theorem EI.seven (h:EI C NEW et sz W bp row0 nn xs BK l f w) (h7:l 7=true):∃ st:Nat,f 7=.tuple #[row0,goInt st]:=by
 rcases h with h | h | h
 ·rw [h.late 7 (by omega) (by omega)] at h7; cases h7
 ·obtain ⟨_,st,_,_,_,_,_,_,e,_⟩:=h.mid; exact ⟨st,e⟩
 ·obtain ⟨_,_,st,_,_,_,_,_,_,e,_⟩:=h.mid; exact ⟨st,e⟩
theorem EB.first (h:EB C NEW et W bp row0 BK l f w):EI C NEW et sz W bp row0 nn xs BK (fun k=>if k=8 then true else l k) (upd f 8 row0) w:=by
 obtain ⟨W0,st,g,h1,h2,h3,h4,h5,h6,h7,h8,h9⟩:=h.mid;refine .inr (.inl ⟨fun k hk=>?_,?_,fun k hk=>?_,W0,st,g,h1,?_,h3,h4,h5,?_,h7,fun _=>?_,fun h10=>?_⟩)
 ·show (if _=_ then true else _)=_; rw [if_neg (by omega)]; exact h.low k hk
 ·show (if (9:Nat)=8 then true else l 9)=false;rw [if_neg (by omega)]; exact h.l9
 ·simp only [upd]; rw [if_neg (by omega)]; exact h.val k hk
 ·simp only [upd]; rw [if_neg (by omega)]; exact h2
 ·simp only [upd]; rw [if_neg (by omega)]; exact h6
 ·simp [upd]
 ·have h10':(if (10:Nat)=8 then true else l 10)=true:=h10;rw [if_neg (by omega)] at h10';simp only [upd]; rw [if_neg (by omega)]; exact h9 h10'
theorem EI.second (h:EI C NEW et sz W bp row0 nn xs BK l f w) (h7:l 7=true) {st:Nat} (e:f 7=.tuple #[row0,goInt st]):EI C NEW et sz W bp row0 nn xs BK (fun k=>if k=10 then true else l k) (upd f 10 (goInt st)) w:=by
 have same:∀ st':Nat,.tuple #[row0,goInt st']=Value.tuple #[row0,goInt st]→goInt st'=goInt st:=fun st' e=>by
  injection e with e;have:=congrArg Array.toList e;simp only [List.cons.injEq] at this;exact this.2.1
 rcases h with h | h | h
 ·rw [h.late 7 (by omega) (by omega)] at h7; cases h7
 ·obtain ⟨W0,st',g,h1,h2,h3,h4,h5,h6,hb,h8,h9⟩:=h.mid;have es:=same st' (h6.symm.trans e);refine .inr (.inl ⟨fun k hk=>?_,?_,fun k hk=>?_,W0,st',g,h1,?_,h3,h4,h5,?_,hb,fun h8'=>?_,fun _=>?_⟩)
  ·show (if _=_ then true else _)=_; rw [if_neg (by omega)]; exact h.low k hk
  ·show (if (9:Nat)=10 then true else l 9)=false;rw [if_neg (by omega)]; exact h.l9
  ·simp only [upd]; rw [if_neg (by omega)]; exact h.val k hk
  ·simp only [upd]; rw [if_neg (by omega)]; exact h2
  ·simp only [upd]; rw [if_neg (by omega)]; exact h6
  ·have h8'':(if (8:Nat)=10 then true else l 8)=true:=h8';rw [if_neg (by omega)] at h8'';simp only [upd]; rw [if_neg (by omega)]; exact h8 h8''
  ·simp [upd,es]
 ·obtain ⟨W0,w1,st',h1,h2,h3,h4,h5,hb,h6,h9⟩:=h.mid;have es:=same st' (h6.symm.trans e);refine .inr (.inr ⟨fun k hk=>?_,fun k hk=>?_,W0,w1,st',h1,h2,h3,?_,?_,hb,?_,fun _=>?_⟩)
  ·show (if _=_ then true else _)=_; rw [if_neg (by omega)]; exact h.low k hk
  ·simp only [upd]; rw [if_neg (by omega)]; exact h.val k hk
  ·simp only [upd]; rw [if_neg (by omega)]; exact h4
  ·simp only [upd]; rw [if_neg (by omega)]; exact h5
  ·simp only [upd]; rw [if_neg (by omega)]; exact h6
  ·simp [upd,es]
theorem EB.app (h:EB C NEW et W bp row0 BK l f w) (h8:l 8=true) {v':Value} {w':World} (hg:w.grownBy w' row0.ownBlock) (ho:w'.ownsRow (bp + 1) et sz v' (nn + 1) (xs ++ NEW.toList)) (hloc:v'.ownBlock=row0.ownBlock ∨ v'.ownBlock=some w.heap.size):EI C NEW et sz W bp row0 nn xs BK (fun k=>if k=9 then true else l k) (upd f 9 v') w':=by
 obtain ⟨W0,st,g,h1,h2,h3,h4,h5,h6,hb,_,h9⟩:=h.mid;refine .inr (.inr ⟨fun k hk=>?_,fun k hk=>?_,W0,w,st,h1,h5,hg,?_,?_,hb,?_,fun h10=>?_⟩)
 ·by_cases e:k=9
  ·simp [e]
  ·by_cases e8:k=8
   ·simp only [if_neg e]; rw [e8]; exact h8
   ·simp only [if_neg e]; exact h.low k (by omega)
 ·simp only [upd]; rw [if_neg (by omega)]; exact h.val k hk
 ·simp only [upd,if_true]; exact ho
 ·simp only [upd,if_true]; exact hloc
 ·simp only [upd]; rw [if_neg (by omega)]; exact h6
 ·have h10':(if (10:Nat)=9 then true else l 10)=true:=h10;rw [if_neg (by omega)] at h10';simp only [upd]; rw [if_neg (by omega)]; exact h9 h10'
theorem EI.last (h:EI C NEW et sz W bp row0 nn xs BK l f w) (hall:∀ k,k < 11→l k=true):EC C NEW et sz W bp row0 nn xs BK l f w:=by
 rcases h with h | h | h
 ·have:=hall 7 (by omega); rw [h.late 7 (by omega) (by omega)] at this; cases this
 ·have:=hall 9 (by omega); rw [h.l9] at this; cases this
 ·exact h
end
end Go.Proofs.YtdmniljjnaebbaaGreatDoor.G
namespace Go.Proofs.YtdmniljjnaebbaaGreatDoor
open Go.ChangeShapes Go.WideShapes Go.ChangeAt Go.RowKit Go.Maps
abbrev K3:=ByteArray × ByteArray × ByteArray
def mo (k:K3):Value:=.agg #[.string k.1,.string k.2.1,.string k.2.2]
theorem Kk (x y:K3) (h:mo x=mo y):x=y:=by
 unfold mo at h;injection h with h;have h1:=congrArg Array.toList h;simp at h1;exact Prod.ext h1.1 (Prod.ext h1.2.1 h1.2.2)
theorem NM:(233:TypeId) < prog.types.size:=of_decide_eq_true (by kernel_rfl)
theorem M7:(match prog.underlying 233 with | some (.array _ _) | some (.struct _)=>true | _=>false)=true:=by rw [underlying233]
set_option maxRecDepth 100000 in
theorem Kl:WideMaps.KeyLaw prog 233:=deep_law_laid wJ (m:=3) (by omega) NM (by kernel_rfl) M7
theorem MM:Keyed prog 233:=Keyed.of_law Kl
theorem M8:prog.keyType 233=true:=by kernel_rfl
theorem Gl:prog.cellsOf 233=3:=by kernel_rfl
theorem Im:prog.cellsOf 40=2:=by kernel_rfl
theorem Io:2≤prog.types.size:=of_decide_eq_true (by kernel_rfl)
theorem xL:∃ n,prog.types.size=n + 2:=⟨prog.types.size - 2,by have:=Io; omega⟩
set_option maxRecDepth 100000 in
theorem Bl (k:K3) (h0:k.1.size≤maxLen) (h1:k.2.1.size≤maxLen) (h2:k.2.2.size≤maxLen):∃ kl,keyOf prog 233 (mo k)=some kl:=by
 obtain ⟨n,hn⟩:=xL;refine ⟨.string (keyBytes [.string k.1.data.toList,.string k.2.1.data.toList,.string k.2.2.data.toList]),?_⟩;unfold keyOf;rw [underlying233];simp only [M8,mo,Value.formed,underlying233,Gl,hn,Value.cells];simp +decide [Program.keyLits,underlying233,underlying40,underlying9,Gl,Im,strCells,h0,h1,h2]
abbrev KL:=ByteArray × Int
def Bn (k:KL):Value:=.agg #[.string k.1,.int .i64 k.2]
theorem Km (x y:KL) (h:Bn x=Bn y):x=y:=by
 unfold Bn at h;injection h with h;have h1:=congrArg Array.toList h;simp at h1;exact Prod.ext h1.1 h1.2
theorem NN:(174:TypeId) < prog.types.size:=of_decide_eq_true (by kernel_rfl)
theorem M9:(match prog.underlying 174 with | some (.array _ _) | some (.struct _)=>true | _=>false)=true:=by rw [underlying174]
set_option maxRecDepth 100000 in
theorem Kn:WideMaps.KeyLaw prog 174:=deep_law_laid wJ (m:=2) (by omega) NN (by kernel_rfl) M9
theorem NP:Keyed prog 174:=Keyed.of_law Kn
theorem Na:prog.keyType 174=true:=by kernel_rfl
theorem Gm:prog.cellsOf 174=2:=by kernel_rfl
theorem Ko:prog.cellsOf 2=1:=by kernel_rfl
set_option maxRecDepth 100000 in
theorem Gn (k:KL) (h0:k.1.size≤maxLen) (h1:0≤k.2) (h2:k.2≤1000000):∃ kl,keyOf prog 174 (Bn k)=some kl:=by
 have hw:(Lit.int .i64 k.2).wf=true:=WalkArith.wf_i64 ⟨by omega,by omega⟩;obtain ⟨n,hn⟩:=xL;refine ⟨.string (keyBytes [.string k.1.data.toList,.int .i64 k.2]),?_⟩;unfold keyOf;rw [underlying174];simp only [Na,Bn,Value.formed,underlying174,Gm,hn,Value.cells];simp +decide [Program.keyLits,underlying174,underlying2,underlying9,Gm,Ko,strCells,h0,hw]
open Pl
set_option linter.unusedVariables false
def fP (xs:List Al) (t:Tp):List Al:=aM (aM xs ⟨t.a,t.b⟩) ⟨t.c,t.d⟩
def bZ (xs:List Al) (t:Tp):List Al:=if t.s.toList == [] then aM xs ⟨t.c,t.d⟩ else xs
def fZ (ts:List Tp):List Al:=ts.foldl fP []
def dL (ts:List Tp):List Al:=ts.foldl bZ []
theorem xM (ts:List Tp) (t:Tp):fZ (ts ++ [t])=fP (fZ ts) t:=by simp [fZ]
theorem uq (ts:List Tp) (t:Tp):dL (ts ++ [t])=bZ (dL ts) t:=by simp [dL]
theorem kV (xs:List Al) (o:Al):(aM xs o).length≤xs.length + 1:=by
 unfold aM; split
 ·omega
 ·simp
theorem nD (xs:List Al) (t:Tp):(fP xs t).length≤xs.length + 2:=by
 unfold fP;have h1:=kV (aM xs ⟨t.a,t.b⟩) ⟨t.c,t.d⟩;have h2:=kV xs ⟨t.a,t.b⟩;omega
theorem nE (xs:List Al) (t:Tp):(bZ xs t).length≤xs.length + 1:=by
 unfold bZ; split
 ·exact kV _ _
 ·omega
def Gp (t:Tp):K3:=(t.a,t.b,t.r)
def cZ (ts:List Tp):List (K3 × Tp):=ts.map fun t=>(Gp t,t)
theorem Fj (ts:List Tp) (t:Tp):cZ (ts ++ [t])=cZ ts ++ [(Gp t,t)]:=by simp [cZ]
structure DatT (w:World) (D br bp:Nat) (tab:Value) (n1:Int) (E:List (K3 × Tp)) (xo xu:List Al) (np:Nat) (Mp:K3→Option Value) (vo vu:Value):Prop where
 gt:bp < D
 lt:D < w.heap.size
 kind:∃ cur,w.heap[D]?=some (.cells cur 152 (0,0))
 c0:w.cell? ⟨D,0,none⟩=some tab
 c1:w.cell? ⟨D,1,none⟩=some (.int .i64 n1)
 c2:w.cell? ⟨D,2,none⟩=some (.map (some br))
 c3:w.cell? ⟨D,3,none⟩=some (.map (some bp))
 c4:w.cell? ⟨D,4,none⟩=some vo
 c5:w.cell? ⟨D,5,none⟩=some vu
 told:G.Grp mo prog 233 42 6 Tp.row w bp np Mp E
 objs:w.ownsRow (bp + 1) 40 2 vo xo.length (pairs xo)
 users:w.ownsRow (bp + 1) 40 2 vu xu.length (pairs xu)
 apart:∀ g,vo.ownBlock=some g→vu.ownBlock ≠ some g
theorem cu {w:World} {base size n g:Nat} {e e':TypeId} {v:Value} {xs:List Value} {cur:Array Value} (h:w.ownsRow base e size v n xs) (hg:v.ownBlock=some g) (hc:w.heap[g]?=some (.cells cur e' (0,0))):e=e':=by
 rcases h.2 with ⟨rfl,-⟩ | ⟨g',cap,cur',rfl,-,hg',-⟩
 ·simp [Value.ownBlock] at hg
 ·have e1:g'=g:=by simpa [Value.ownBlock] using hg
  rw [e1,hc] at hg';injection hg' with hg';injection hg' with _ h2;exact h2.symm
theorem Bo {w:World} {base size n g:Nat} {e:TypeId} {v:Value} {xs:List Value} {es:Array MapEntry} {c:Nat} (h:w.ownsRow base e size v n xs) (hg:v.ownBlock=some g) (hc:w.heap[g]?=some (.map es c)):False:=by
 rcases h.2 with ⟨rfl,-⟩ | ⟨g',cap,cur',rfl,-,hg',-⟩
 ·simp [Value.ownBlock] at hg
 ·have e1:g'=g:=by simpa [Value.ownBlock] using hg
  rw [e1,hc] at hg';cases hg'
theorem dz {w w':World} {base size n:Nat} {e:TypeId} {v:Value} {xs:List Value} (h:w.ownsRow base e size v n xs) (hb:∀ g,v.ownBlock=some g→w'.heap[g]?=w.heap[g]?):w'.ownsRow base e size v n xs:=by
 refine ⟨h.1,?_⟩;rcases h.2 with h0 | ⟨g,cap,cur,rfl,h1,h2,h3⟩
 ·exact .inl h0
 ·exact .inr ⟨g,cap,cur,rfl,h1,(hb g rfl).trans h2,h3⟩
theorem iD {w:World} {base size n g:Nat} {e:TypeId} {v:Value} {xs:List Value} (h:w.ownsRow base e size v n xs) (hg:v.ownBlock=some g):∃ cur,w.heap[g]?=some (.cells cur e (0,0)):=by
 rcases h.2 with ⟨rfl,-⟩ | ⟨g',cap,cur',rfl,-,hg',-⟩
 ·simp [Value.ownBlock] at hg
 ·have e1:g'=g:=by simpa [Value.ownBlock] using hg
  exact ⟨cur',by rw [← e1]; exact hg'⟩
theorem rq {w:World} {bp np:Nat} {Mp:K3→Option Value} {E:List (K3 × Tp)} (h:G.Grp mo prog 233 42 6 Tp.row w bp np Mp E) {k:K3} {v:Value} (hk:Mp k=some v):∃ n xs,w.ownsRow (bp + 1) 42 6 v n xs:=by
 rcases h.row k with ⟨e,-⟩ | ⟨v',e,ho⟩
 ·rw [e] at hk; cases hk
 ·rw [e] at hk; injection hk with hk; subst hk; exact ⟨_,_,ho⟩
theorem Dg {w:World} {bp np g:Nat} {Mp:K3→Option Value} {E:List (K3 × Tp)} {e:TypeId} {cur:Array Value} (h:G.Grp mo prog 233 42 6 Tp.row w bp np Mp E) (hc:w.heap[g]?=some (.cells cur e (0,0))) (hne:(42:TypeId) ≠ e):G.FreeB Mp g:=fun k v hk hg=>by
 obtain ⟨n,xs,ho⟩:=rq h hk;exact hne (cu ho hg hc)
theorem ru {w w':World} {bp np:Nat} {Mp:K3→Option Value} {E:List (K3 × Tp)} (h:G.Grp mo prog 233 42 6 Tp.row w bp np Mp E) (hm:w'.heap[bp]?=w.heap[bp]?) (hr:∀ k v g,Mp k=some v→v.ownBlock=some g→w'.heap[g]?=w.heap[g]?):G.Grp mo prog 233 42 6 Tp.row w' bp np Mp E where
 map:=h.map.of_block hm
 row k:=by
  rcases h.row k with e | ⟨v,e,ho⟩
  ·exact .inl e
  ·exact .inr ⟨v,e,dz ho fun g hg=>hr k v g e hg⟩
 apart:=h.apart
section
variable {w w':World} {D br bp:Nat} {tab:Value} {n1:Int} {E:List (K3 × Tp)} {xo xu:List Al} {np:Nat} {Mp:K3→Option Value} {vo vu:Value}
theorem DatT.below (h:DatT w D br bp tab n1 E xo xu np Mp vo vu) (hb:Below w.heap.size w w'):DatT w' D br bp tab n1 E xo xu np Mp vo vu where
 gt:=h.gt
 lt:=Nat.lt_of_lt_of_le h.lt hb.size
 kind:=by obtain ⟨cur,e⟩:=h.kind; exact ⟨cur,(hb.block D h.lt).trans e⟩
 c0:=(hb.cell (p:=⟨D,0,none⟩) h.lt).trans h.c0
 c1:=(hb.cell (p:=⟨D,1,none⟩) h.lt).trans h.c1
 c2:=(hb.cell (p:=⟨D,2,none⟩) h.lt).trans h.c2
 c3:=(hb.cell (p:=⟨D,3,none⟩) h.lt).trans h.c3
 c4:=(hb.cell (p:=⟨D,4,none⟩) h.lt).trans h.c4
 c5:=(hb.cell (p:=⟨D,5,none⟩) h.lt).trans h.c5
 told:=h.told.below hb
 objs:=aH h.objs hb
 users:=aH h.users hb
 apart:=h.apart
theorem DatT.tell (h:DatT w D br bp tab n1 E xo xu np Mp vo vu) {Mp':K3→Option Value} {E':List (K3 × Tp)} {np':Nat} (hg:G.Grp mo prog 233 42 6 Tp.row w' bp np' Mp' E') (hs:G.Stl w Mp w' Mp' bp):DatT w' D br bp tab n1 E' xo xu np' Mp' vo vu:=by
 have hD:w'.heap[D]?=w.heap[D]?:=by
  obtain ⟨cur,e⟩:=h.kind;exact hs.block D h.lt (by have:=h.gt; omega) (Dg h.told e (by decide))
 have hc:∀ o,w'.cell? ⟨D,o,none⟩=w.cell? ⟨D,o,none⟩:=fun o=>World.cell?_of_block (w:=w) (a:=⟨D,o,none⟩) hD;have hO:∀ {v:Value} {n:Nat} {xs:List Value},w.ownsRow (bp + 1) 40 2 v n xs→w'.ownsRow (bp + 1) 40 2 v n xs:=fun {v n xs} ho=>dz ho fun g hg=>by
  obtain ⟨cur,e⟩:=iD ho hg;have:=ho.lt g hg;exact hs.block g this.2 (by omega) (Dg h.told e (by decide))
 exact ⟨h.gt,Nat.lt_of_lt_of_le h.lt hs.size,by obtain ⟨cur,e⟩:=h.kind; exact ⟨cur,hD.trans e⟩,(hc _).trans h.c0,(hc _).trans h.c1,(hc _).trans h.c2,(hc _).trans h.c3,(hc _).trans h.c4,(hc _).trans h.c5,hg,hO h.objs,hO h.users,h.apart⟩
theorem DatT.newO (h:DatT w D br bp tab n1 E xo xu np Mp vo vu) {vo':Value} {xo':List Al} (ho:w'.ownsRow (bp + 1) 40 2 vo' xo'.length (pairs xo')) (ha:Aside w vo w' vo'):DatT (w'.setCell ⟨D,4,none⟩ vo') D br bp tab n1 E xo' xu np Mp vo' vu:=by
 obtain ⟨cur,hk⟩:=h.kind;have hDo:vo.ownBlock ≠ some D:=fun e=>absurd (cu h.objs e hk) (by decide);have hD:w'.heap[D]?=w.heap[D]?:=ha.block D h.lt hDo;have hc:∀ o,w'.cell? ⟨D,o,none⟩=w.cell? ⟨D,o,none⟩:=fun o=>World.cell?_of_block (w:=w) (a:=⟨D,o,none⟩) hD;have hc2:∀ o,o ≠ 4→(w'.setCell ⟨D,4,none⟩ vo').cell? ⟨D,o,none⟩=w.cell? ⟨D,o,none⟩:=fun o ne=>(iJ (by omega)).trans (hc o);have hDn:vo'.ownBlock ≠ some D:=ha.apart h.lt hDo;have hne:∀ g,g ≠ D→(w'.setCell ⟨D,4,none⟩ vo').heap[g]?=w'.heap[g]?:=fun g e=>heap_setCell_other w' ⟨D,4,none⟩ g vo' e;have hbp:bp < w.heap.size:=by have:=h.gt; have:=h.lt; omega
 have hrow:∀ k v g,Mp k=some v→v.ownBlock=some g→(w'.setCell ⟨D,4,none⟩ vo').heap[g]?=w.heap[g]?:=fun k v g hm hg=>by
  obtain ⟨n,xs,hr⟩:=rq h.told hm;obtain ⟨cr,er⟩:=iD hr hg;rw [hne g (fun e=>absurd (cu hr (e ▸ hg) hk) (by decide))];exact ha.block g (hr.lt g hg).2 (fun e=>absurd (cu h.objs e er) (by decide))
 refine ⟨h.gt,by simpa using Nat.lt_of_lt_of_le h.lt ha.size,⟨_,heap_setCell_same w' D 4 cur _ vo' (hD.trans hk)⟩,(hc2 0 (by omega)).trans h.c0,(hc2 1 (by omega)).trans h.c1,(hc2 2 (by omega)).trans h.c2,(hc2 3 (by omega)).trans h.c3,GK ((hc 4).trans h.c4),(hc2 5 (by omega)).trans h.c5,ru h.told ?_ hrow,dz ho fun g hg=>hne g fun e=>hDn (e ▸ hg),dz h.users fun g hg=>?_,fun g hg hu=>?_⟩
 ·rw [hne bp (by have:=h.gt; omega)];exact ha.block bp hbp fun e=>by have:=(h.objs.lt bp e).1; omega
 ·rw [hne g (fun e=>absurd (cu h.users (e ▸ hg) hk) (by decide))];exact ha.block g (h.users.lt g hg).2 fun e=>h.apart g e hg
 ·rcases ha.own with e | ⟨g',e,hg'⟩
  ·exact h.apart g (e ▸ hg) hu
  ·rw [hg] at e; injection e with e;have:=(h.users.lt g hu).2;omega
theorem DatT.newU (h:DatT w D br bp tab n1 E xo xu np Mp vo vu) {vu':Value} {xu':List Al} (ho:w'.ownsRow (bp + 1) 40 2 vu' xu'.length (pairs xu')) (ha:Aside w vu w' vu'):DatT (w'.setCell ⟨D,5,none⟩ vu') D br bp tab n1 E xo xu' np Mp vo vu':=by
 obtain ⟨cur,hk⟩:=h.kind;have hDo:vu.ownBlock ≠ some D:=fun e=>absurd (cu h.users e hk) (by decide);have hD:w'.heap[D]?=w.heap[D]?:=ha.block D h.lt hDo;have hc:∀ o,w'.cell? ⟨D,o,none⟩=w.cell? ⟨D,o,none⟩:=fun o=>World.cell?_of_block (w:=w) (a:=⟨D,o,none⟩) hD;have hc2:∀ o,o ≠ 5→(w'.setCell ⟨D,5,none⟩ vu').cell? ⟨D,o,none⟩=w.cell? ⟨D,o,none⟩:=fun o ne=>(iJ (by omega)).trans (hc o);have hDn:vu'.ownBlock ≠ some D:=ha.apart h.lt hDo;have hne:∀ g,g ≠ D→(w'.setCell ⟨D,5,none⟩ vu').heap[g]?=w'.heap[g]?:=fun g e=>heap_setCell_other w' ⟨D,5,none⟩ g vu' e;have hbp:bp < w.heap.size:=by have:=h.gt; have:=h.lt; omega
 have hrow:∀ k v g,Mp k=some v→v.ownBlock=some g→(w'.setCell ⟨D,5,none⟩ vu').heap[g]?=w.heap[g]?:=fun k v g hm hg=>by
  obtain ⟨n,xs,hr⟩:=rq h.told hm;obtain ⟨cr,er⟩:=iD hr hg;rw [hne g (fun e=>absurd (cu hr (e ▸ hg) hk) (by decide))];exact ha.block g (hr.lt g hg).2 (fun e=>absurd (cu h.users e er) (by decide))
 refine ⟨h.gt,by simpa using Nat.lt_of_lt_of_le h.lt ha.size,⟨_,heap_setCell_same w' D 5 cur _ vu' (hD.trans hk)⟩,(hc2 0 (by omega)).trans h.c0,(hc2 1 (by omega)).trans h.c1,(hc2 2 (by omega)).trans h.c2,(hc2 3 (by omega)).trans h.c3,(hc2 4 (by omega)).trans h.c4,GK ((hc 5).trans h.c5),ru h.told ?_ hrow,dz h.objs fun g hg=>?_,dz ho fun g hg=>hne g fun e=>hDn (e ▸ hg),fun g hg hu=>?_⟩
 ·rw [hne bp (by have:=h.gt; omega)];exact ha.block bp hbp fun e=>by have:=(h.users.lt bp e).1; omega
 ·rw [hne g (fun e=>absurd (cu h.objs (e ▸ hg) hk) (by decide))];exact ha.block g (h.objs.lt g hg).2 fun e=>h.apart g hg e
 ·rcases ha.own with e | ⟨g',e,hg'⟩
  ·exact h.apart g hg (e ▸ hu)
  ·rw [hu] at e; injection e with e;have:=(h.objs.lt g hg).2;omega
end
section
variable {P:Program} {ops:Array Oper} {Q:Exit→Act→World→Prop}
theorem iV {id:Nat} {a:Act} {w:World} (L:Nat) (f0:Nat→Value) (F:(Nat→Value)→Act) (I:(Nat→Bool)→(Nat→Value)→World→Prop)
  (hm:P.follows .mixedOrders=true) (hsz:ops.size=L + 1) (hord:Bj ops=true)
  (hcl:∀ o,ops[L]?=some o→∀ (l:Nat→Bool) f w',I l f w'→(∀ e ∈ o.after,Region.binds .any e=true→l e.on=true)→∀ k,k < L→l k=true)
  (h0:a=F f0) (hI0:I (fun _=>false) f0 w.drew)
  (hstep:∀ i,i < L→∀ o,ops[i]?=some o→∀ (l:Nat→Bool) f w',l i=false→I l f w'→(∀ e ∈ o.after,Region.binds .any e=true→l e.on=true) →
   wpOp P ops Q i (fun a' w''=>∃ v,a'=F (upd f i v)∧I (fun k=>if k=i then true else l k) (upd f i v) w'') (F f) w')
  (hfin:∀ o,ops[L]?=some o→∀ (l:Nat→Bool) f w',(∀ k,k < L→l k=true)→I l f w'→wpOp P ops Q L (fun a' w''=>Q .normal a' w'') (F f) w') :
  (Code.region id ops true).wp P Q a w:=by
 refine iX (fun listed a' w'=>listed.size=L + 1∧((listed.getD L false=false∧∃ f,a'=F f∧I (fun k=>listed.getD k false) f w') ∨ ((∀ j,j≤L→listed.getD j true=true)∧Q .normal a' w'))) hm ?_ ?_ ?_
 ·refine ⟨by simpa using hsz,Or.inl ⟨?_,_,h0,?_⟩⟩
  ·rw [Array.getD_eq_getD_getElem?,Array.getElem?_replicate]; split <;> rfl
  ·have:(fun k=>(Array.replicate ops.size false).getD k false)=fun _=>false:=funext fun k=>by rw [Array.getD_eq_getD_getElem?,Array.getElem?_replicate]; split <;> rfl
   rw [this]; exact hI0
 ·rintro listed a' w' ⟨hs,h⟩ i hi;obtain ⟨hl,o,ho,hpre⟩:=mem_ready.1 hi;have hiL:i < L + 1:=by have:=(Array.getElem?_eq_some_iff.1 ho).1; omega
  rcases h with ⟨hn,f,rfl,hI⟩ | ⟨hall,-⟩
  ·by_cases e:i=L
   ·subst e;have hall:∀ k,k < i→listed.getD k false=true:=hcl o ho _ f w' hI (fun e he hb=>hpre e he hb);refine wpOp_mono (fun a'' w'' hq=>⟨by simpa using hs,Or.inr ⟨fun j hj=>?_,hq⟩⟩) (hfin o ho _ f w' hall hI);rw [qJ (by simp; omega),fe _ _ _ (by omega)];by_cases e:j=i
    ·simp [e]
    ·rw [if_neg e]; exact hall j (by omega)
   ·refine wpOp_mono ?_ (hstep i (by omega) o ho _ f w' (by rw [← qJ (by omega)]; exact hl) hI (fun e he hb=>hpre e he hb));rintro a'' w'' ⟨v,rfl,hI'⟩;refine ⟨by simpa using hs,Or.inl ⟨?_,_,rfl,?_⟩⟩
    ·rw [fe _ _ _ (by omega),if_neg (Ne.symm e)]; exact hn
    ·have:(fun k=>(listed.setIfInBounds i true).getD k false)=fun k=>if k=i then true else listed.getD k false:=funext fun k=>fe _ _ _ (by omega)
     rw [this]; exact hI'
  ·rw [hall i (by omega)] at hl; cases hl
 ·rintro listed a' w' ⟨hs,h⟩ hr;rcases h with ⟨hn,-⟩ | ⟨-,hq⟩
  ·have:=ul hr hsz (zR hord) hs L (by omega);rw [qJ (by omega)] at this;rw [this] at hn; cases hn
  ·exact hq
end
end Go.Proofs.YtdmniljjnaebbaaGreatDoor
namespace Go.Proofs.YtdmniljjnaebbaaGreatDoor.G
set_option linter.unusedVariables false
open Go.ChangeShapes Go.WideShapes Go.ChangeAt Go.RowKit
structure WI (C:Nat→Value) (W:World) (CD:Value→World→Prop) (l:Nat→Bool) (f:Nat→Value) (w:World):Prop where
 val:∀ k,k≤9→k ≠ 7→l k=true→f k=C k
 seq:l 7=true→l 4=true∧l 6=true
 nin:l 9=true→l 8=true
 mid:(l 7=false∧Below W.heap.size W w) ∨ (l 7=true∧CD (f 7) w)
section
variable {C:Nat→Value} {W:World} {CD:Value→World→Prop} {l:Nat→Bool} {f:Nat→Value} {w:World}
theorem wi_start (W:World):WI C W CD (fun _=>false) f W.drew:=⟨fun _ _ _ h=>(by cases h),fun h=>(by cases h),fun h=>(by cases h),.inl ⟨rfl,(Below.refl _ _).drew⟩⟩
theorem WI.put (h:WI C W CD l f w) {i:Nat} (hi:i ≠ 7) (h9:i=9→l 8=true) {v:Value} (hv:v=C i):WI C W CD (fun k=>if k=i then true else l k) (upd f i v) w:=by
 refine ⟨fun k hk h7 hl=>?_,fun hl=>?_,fun hl=>?_,?_⟩
 ·by_cases e:k=i
  ·subst e; simp [upd,hv]
  ·simp only [if_neg e] at hl;simp only [upd,if_neg e]; exact h.val k hk h7 hl
 ·have hl':(if (7:Nat)=i then true else l 7)=true:=hl;rw [if_neg (Ne.symm hi)] at hl';have:=h.seq hl';constructor
  ·show (if (4:Nat)=i then true else l 4)=true; rw [this.1]; split <;> rfl
  ·show (if (6:Nat)=i then true else l 6)=true; rw [this.2]; split <;> rfl
 ·have hl':(if (9:Nat)=i then true else l 9)=true:=hl;show (if (8:Nat)=i then true else l 8)=true;by_cases e:(9:Nat)=i
  ·rw [h9 e.symm]; split <;> rfl
  ·rw [if_neg e] at hl'; rw [h.nin hl']; split <;> rfl
 ·have e7:(if (7:Nat)=i then true else l 7)=l 7:=if_neg (Ne.symm hi);have f7:upd f i v 7=f 7:=by simp only [upd]; rw [if_neg (Ne.symm hi)]
  rcases h.mid with ⟨h1,h2⟩ | ⟨h1,h2⟩
  ·exact .inl ⟨e7.trans h1,h2⟩
  ·exact .inr ⟨e7.trans h1,by rw [f7]; exact h2⟩
theorem WI.before (h:WI C W CD l f w) (hl:l 7=false):Below W.heap.size W w:=by
 rcases h.mid with ⟨_,h2⟩ | ⟨h1,_⟩
 ·exact h2
 ·rw [h1] at hl; cases hl
theorem WI.early (h:WI C W CD l f w) (hl:l 4=false ∨ l 6=false):Below W.heap.size W w:=by
 refine h.before ?_;cases h7:l 7 with
 | false=>rfl
 | true =>
  obtain ⟨h4,h6⟩:=h.seq h7;rcases hl with e | e
  ·rw [h4] at e; cases e
  ·rw [h6] at e; cases e
theorem WI.call (h:WI C W CD l f w) (h4:l 4=true) (h6:l 6=true) {v:Value} {w':World} (hc:CD v w'):WI C W CD (fun k=>if k=7 then true else l k) (upd f 7 v) w':=by
 refine ⟨fun k hk h7 hl=>?_,fun _=>⟨by simp [h4],by simp [h6]⟩,fun hl=>h.nin hl,.inr ⟨by simp,by simp only [upd,if_true]; exact hc⟩⟩;simp only [if_neg h7] at hl;simp only [upd,if_neg h7]; exact h.val k hk h7 hl
theorem WI.last (h:WI C W CD l f w) (hall:∀ k,k < 10→l k=true):(∀ k,k≤9→k ≠ 7→f k=C k)∧CD (f 7) w:=by
 refine ⟨fun k hk h7=>h.val k hk h7 (hall k (by omega)),?_⟩;rcases h.mid with ⟨h1,_⟩ | ⟨_,h2⟩
 ·rw [hall 7 (by omega)] at h1; cases h1
 ·exact h2
end
end Go.Proofs.YtdmniljjnaebbaaGreatDoor.G
