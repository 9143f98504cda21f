/- A region that draws its order, by what holds of what has come up, of the values and of the world together. -/
import Derived.Test.YtdaoiceeidoehaaGreatJ9
import Derived.WalkArith
import Derived.Deep.DrawnRows
open Go.Proofs.Tryz
set_option maxHeartbeats 80000000
namespace Go.Proofs.YtdaoiceeidoehaaGreat
open Go.RowKit
section
variable {P:Program} {ops:Array Oper} {Q:Exit→Act→World→Prop}
theorem nJ {id:Nat} {a:Act} {w:World} (L:Nat) (f0:Nat→Value) (F:(Nat→Value)→Act) (I:(Nat→Bool)→(Nat→Value)→World→Prop)
  (hm:P.follows .mixedOrders=true) (hsz:ops.size=L + 1) (TS:Cm ops=true) (hlo:Cb ops L=true)
  (h0:a=F f0) (hI0:I (fun _=>false) f0 w.drew)
  (hstep:∀ i,i < L→∀ o,ops[i]?=some o→∀ (l:Nat→Bool) f w',l i=false→I l f w'→(∀ e ∈ o.after,Region.binds .any e=true→l e.on=true) →
   wpOp P ops Q i (fun a' w''=>∃ v,a'=F (upd f i v)∧I (fun k=>if k=i then true else l k) (upd f i v) w'') (F f) w')
  (hfin:∀ o,ops[L]?=some o→∀ (l:Nat→Bool) f w',(∀ k,k < L→l k=true)→I l f w'→wpOp P ops Q L (fun a' w''=>Q .normal a' w'') (F f) w') :
  (Code.region id ops true).wp P Q a w:=by
 refine ig (fun listed a' w'=>listed.size=L + 1∧((listed.getD L false=false∧∃ f,a'=F f∧I (fun k=>listed.getD k false) f w') ∨ ((∀ j,j≤L→listed.getD j true=true)∧Q .normal a' w'))) hm ?_ ?_ ?_
 ·refine ⟨by simpa using hsz,Or.inl ⟨?_,_,h0,?_⟩⟩
  ·rw [Sn,Array.getElem?_replicate]; split <;> rfl
  ·have:(fun k=>(Array.replicate ops.size false).getD k false)=fun _=>false:=funext fun k=>by rw [Sn,Array.getElem?_replicate]; split <;> rfl
   rw [this]; exact hI0
 ·rintro listed a' w' ⟨hs,h⟩ i hi;obtain ⟨hl,o,ho,hpre⟩:=mem_ready.1 hi;have hiL:i < L + 1:=by have:=(Array.getElem?_eq_some_iff.1 ho).1; omega
  rcases h with ⟨hn,f,rfl,hI⟩ | ⟨hall,-⟩
  ·by_cases e:i=L
   ·subst e;have hall:∀ k,k < i→listed.getD k false=true:=fun k hk=>by
     obtain ⟨e,he,rfl,hb⟩:=Aq hlo o ho k hk;exact hpre e he hb
    refine wpOp_mono (fun a'' w'' hq=>⟨by simpa using hs,Or.inr ⟨fun j hj=>?_,hq⟩⟩) (hfin o ho _ f w' hall hI);rw [kw (by simp; omega),dm _ _ _ (by omega)];by_cases e:j=i
    ·simp [e]
    ·rw [if_neg e]; exact hall j (by omega)
   ·refine wpOp_mono ?_ (hstep i (by omega) o ho _ f w' (by rw [← kw (by omega)]; exact hl) hI (fun e he hb=>hpre e he hb));rintro a'' w'' ⟨v,rfl,hI'⟩;refine ⟨by simpa using hs,Or.inl ⟨?_,_,rfl,?_⟩⟩
    ·rw [dm _ _ _ (by omega),if_neg (Ne.symm e)]; exact hn
    ·have:(fun k=>(listed.setIfInBounds i true).getD k false)=fun k=>if k=i then true else listed.getD k false:=funext fun k=>dm _ _ _ (by omega)
     rw [this]; exact hI'
  ·rw [hall i (by omega)] at hl; cases hl
 ·rintro listed a' w' ⟨hs,h⟩ hr;rcases h with ⟨hn,-⟩ | ⟨-,hq⟩
  ·have:=vv hr hsz (AO TS) hs L (by omega);rw [kw (by omega)] at this;rw [this] at hn; cases hn
  ·exact hq
end
end Go.Proofs.YtdaoiceeidoehaaGreat
namespace Go.Proofs.YtdaoiceeidoehaaGreat.G
set_option linter.unusedVariables false
open Go.ChangeShapes Go.WideShapes Go.ChangeAt Go.RowKit Go.Maps
open Pl
def Back {K:Type} [DecidableEq K] (enc:K→Value) (P:Program) (kt t:TypeId) (bp n:Nat) (M:K→Option Value) (y:K) (st:Nat) (w:World):Prop :=
 ∀ (w2:World) (val:Value),w2.heap[bp]?=w.heap[bp]?→∃ w3,(Instr.entryStore t (.map (some bp)) (goInt st) val).run P w2=.ok () w3∧aD enc P kt w3 bp (n + 1) (fw M y (some val))∧w2.grownBy w3 (some bp)
def put (l:Nat→Bool) (i:Nat):Nat→Bool:=fun k=>if k=i then true else l k
structure EA (C:Nat→Value) (NEW:Array Value) (et:TypeId) (W:World) (l:Nat→Bool) (f:Nat→Value) (w:World):Prop where
 late:∀ k,7≤k→k≤10→l k=false
 bel:Below W.heap.size W w
 val:∀ k,k≤5→l k=true→f k=C k
 row:l 6=true→∃ g,f 6=.slice (some ⟨g,0,none⟩) 1 1∧W.heap.size≤g∧w.heap[g]?=some (.cells NEW et (0,0))
structure EB (C:Nat→Value) (NEW:Array Value) (et:TypeId) (W:World) (bp:Nat) (row0:Value) (BK:Nat→World→Prop) (l:Nat→Bool) (f:Nat→Value) (w:World):Prop where
 low:∀ k,k≤7→l k=true
 l9:l 9=false
 val:∀ k,k≤5→f k=C k
 mid:∃ (W0:World) (st g:Nat),Below W.heap.size W W0∧f 6=.slice (some ⟨g,0,none⟩) 1 1∧W.heap.size≤g∧W0.heap[g]?=some (.cells NEW et (0,0))∧W0.grownBy w (some bp)∧f 7=.tuple #[row0,goInt st]∧BK st w∧(l 8=true→f 8=row0)∧(l 10=true→f 10=goInt st)
structure EC (C:Nat→Value) (NEW:Array Value) (et:TypeId) (sz:Nat) (W:World) (bp:Nat) (row0:Value) (nn:Nat) (xs:List Value) (BK:Nat→World→Prop) (l:Nat→Bool) (f:Nat→Value) (w:World):Prop where
 low:∀ k,k≤9→l k=true
 val:∀ k,k≤5→f k=C k
 mid:∃ (W0 w1:World) (st:Nat),Below W.heap.size W W0∧W0.grownBy w1 (some bp)∧w1.grownBy w row0.ownBlock∧w.ownsRow (bp + 1) et sz (f 9) (nn + 1) (xs ++ NEW.toList)∧((f 9).ownBlock=row0.ownBlock ∨ (f 9).ownBlock=some w1.heap.size)∧BK st w1∧f 7=.tuple #[row0,goInt st]∧(l 10=true→f 10=goInt st)
def EI (C:Nat→Value) (NEW:Array Value) (et:TypeId) (sz:Nat) (W:World) (bp:Nat) (row0:Value) (nn:Nat) (xs:List Value) (BK:Nat→World→Prop) (l:Nat→Bool) (f:Nat→Value) (w:World):Prop :=
 EA C NEW et W l f w ∨ EB C NEW et W bp row0 BK l f w ∨ EC C NEW et sz W bp row0 nn xs BK l f w
section
variable {C:Nat→Value} {NEW:Array Value} {et:TypeId} {sz:Nat} {W:World} {bp:Nat} {row0:Value} {nn:Nat} {xs:List Value} {BK:Nat→World→Prop} {l:Nat→Bool} {f:Nat→Value} {w:World}
theorem ei_start (W:World):EI C NEW et sz W bp row0 nn xs BK (fun _=>false) f W.drew:=.inl ⟨fun _ _ _=>rfl,(R3 _ _).drew,fun _ _ h=>(by cases h),fun h=>(by cases h)⟩
theorem EI.early (h:EI C NEW et sz W bp row0 nn xs BK l f w) {i:Nat} (hi:i≤7) (hl:l i=false):EA C NEW et W l f w:=by
 rcases h with h | h | h
 ·exact h
 ·rw [h.low i hi] at hl; cases hl
 ·rw [h.low i (by omega)] at hl; cases hl
theorem EA.put {i:Nat} (h:EA C NEW et W l f w) (hi:i≤5) {v:Value} (hv:v=C i):EI C NEW et sz W bp row0 nn xs BK (fun k=>if k=i then true else l k) (upd f i v) w:=by
 refine .inl ⟨fun k h7 h10=>?_,h.bel,fun k hk hl=>?_,fun hl=>?_⟩
 ·show (if _=_ then true else _)=_; rw [if_neg (by omega)]; exact h.late k h7 h10
 ·by_cases e:k=i
  ·subst e; simp [upd,hv]
  ·simp only [if_neg e] at hl;simp only [upd,if_neg e]; exact h.val k hk hl
 ·replace hl:(if _=_ then true else _)=true:=hl;rw [if_neg (by omega)] at hl;simp only [upd];rw [if_neg (by omega)];exact h.row hl
theorem EA.lay (h:EA C NEW et W l f w):EI C NEW et sz W bp row0 nn xs BK (fun k=>if k=6 then true else l k) (upd f 6 (.slice (some ⟨w.heap.size,0,none⟩) 1 1)) (w.alloc (.cells NEW et)):=by
 refine .inl ⟨fun k h7 h10=>?_,h.bel.alloc h.bel.size _,fun k hk hl=>?_,fun _=>⟨w.heap.size,by simp [upd],h.bel.size,heap_alloc_new w _⟩⟩
 ·show (if _=_ then true else _)=_; rw [if_neg (by omega)]; exact h.late k h7 h10
 ·replace hl:(if _=_ then true else _)=true:=hl;rw [if_neg (by omega)] at hl;simp only [upd];rw [if_neg (by omega)]; exact h.val k hk hl
theorem EA.took (h:EA C NEW et W l f w) (hall:∀ k,k≤6→l k=true) {st:Nat} {w1:World} (hg:w.grownBy w1 (some bp)) (hb:BK st w1):EI C NEW et sz W bp row0 nn xs BK (fun k=>if k=7 then true else l k) (upd f 7 (.tuple #[row0,goInt st])) w1:=by
 obtain ⟨g,e6,hg6,hc⟩:=h.row (hall 6 (by omega));refine .inr (.inl ⟨fun k hk=>?_,?_,fun k hk=>?_,w,st,g,h.bel,?_,hg6,hc,hg,?_,hb,fun h8=>?_,fun h10=>?_⟩)
 ·by_cases e:k=7
  ·simp [e]
  ·simp only [if_neg e]; exact hall k (by omega)
 ·show (if (9:Nat)=7 then true else l 9)=false;rw [if_neg (by omega)]; exact h.late 9 (by omega) (by omega)
 ·simp only [upd]; rw [if_neg (by omega)]; exact h.val k hk (hall k (by omega))
 ·simp only [upd]; rw [if_neg (by omega)]; exact e6
 ·simp [upd]
 ·have:(if (8:Nat)=7 then true else l 8)=true:=h8;rw [if_neg (by omega),h.late 8 (by omega) (by omega)] at this; cases this
 ·have:(if (10:Nat)=7 then true else l 10)=true:=h10;rw [if_neg (by omega),h.late 10 (by omega) (by omega)] at this; cases this
theorem EI.midB (h:EI C NEW et sz W bp row0 nn xs BK l f w) (h7:l 7=true) {i:Nat} (hi:i≤9) (hl:l i=false):EB C NEW et W bp row0 BK l f w:=by
 rcases h with h | h | h
 ·rw [h.late 7 (by omega) (by omega)] at h7; cases h7
 ·exact h
 ·rw [h.low i hi] at hl; cases hl
theorem EI.seven (h:EI C NEW et sz W bp row0 nn xs BK l f w) (h7:l 7=true):∃ st:Nat,f 7=.tuple #[row0,goInt st]:=by
 rcases h with h | h | h
 ·rw [h.late 7 (by omega) (by omega)] at h7; cases h7
 ·obtain ⟨_,st,_,_,_,_,_,_,e,_⟩:=h.mid; exact ⟨st,e⟩
 ·obtain ⟨_,_,st,_,_,_,_,_,_,e,_⟩:=h.mid; exact ⟨st,e⟩
theorem EB.first (h:EB C NEW et W bp row0 BK l f w):EI C NEW et sz W bp row0 nn xs BK (fun k=>if k=8 then true else l k) (upd f 8 row0) w:=by
 obtain ⟨W0,st,g,h1,h2,h3,h4,h5,h6,h7,h8,h9⟩:=h.mid;refine .inr (.inl ⟨fun k hk=>?_,?_,fun k hk=>?_,W0,st,g,h1,?_,h3,h4,h5,?_,h7,fun _=>?_,fun h10=>?_⟩)
 ·show (if _=_ then true else _)=_; rw [if_neg (by omega)]; exact h.low k hk
 ·show (if (9:Nat)=8 then true else l 9)=false;rw [if_neg (by omega)]; exact h.l9
 ·simp only [upd]; rw [if_neg (by omega)]; exact h.val k hk
 ·simp only [upd]; rw [if_neg (by omega)]; exact h2
 ·simp only [upd]; rw [if_neg (by omega)]; exact h6
 ·simp [upd]
 ·have Yt:(if (10:Nat)=8 then true else l 10)=true:=h10;rw [if_neg (by omega)] at Yt;simp only [upd]; rw [if_neg (by omega)]; exact h9 Yt
theorem EI.second (h:EI C NEW et sz W bp row0 nn xs BK l f w) (h7:l 7=true) {st:Nat} (e:f 7=.tuple #[row0,goInt st]):EI C NEW et sz W bp row0 nn xs BK (fun k=>if k=10 then true else l k) (upd f 10 (goInt st)) w:=by
 have same:∀ st':Nat,.tuple #[row0,goInt st']=Value.tuple #[row0,goInt st]→goInt st'=goInt st:=fun st' e=>by
  injection e with e;have:=congrArg Array.toList e;simp only [List.cons.injEq] at this;exact this.2.1
 rcases h with h | h | h
 ·rw [h.late 7 (by omega) (by omega)] at h7; cases h7
 ·obtain ⟨W0,st',g,h1,h2,h3,h4,h5,h6,hb,h8,h9⟩:=h.mid;have es:=same st' (h6.symm.trans e);refine .inr (.inl ⟨fun k hk=>?_,?_,fun k hk=>?_,W0,st',g,h1,?_,h3,h4,h5,?_,hb,fun h8'=>?_,fun _=>?_⟩)
  ·show (if _=_ then true else _)=_; rw [if_neg (by omega)]; exact h.low k hk
  ·show (if (9:Nat)=10 then true else l 9)=false;rw [if_neg (by omega)]; exact h.l9
  ·simp only [upd]; rw [if_neg (by omega)]; exact h.val k hk
  ·simp only [upd]; rw [if_neg (by omega)]; exact h2
  ·simp only [upd]; rw [if_neg (by omega)]; exact h6
  ·have h8'':(if (8:Nat)=10 then true else l 8)=true:=h8';rw [if_neg (by omega)] at h8'';simp only [upd]; rw [if_neg (by omega)]; exact h8 h8''
  ·simp [upd,es]
 ·obtain ⟨W0,w1,st',h1,h2,h3,h4,h5,hb,h6,h9⟩:=h.mid;have es:=same st' (h6.symm.trans e);refine .inr (.inr ⟨fun k hk=>?_,fun k hk=>?_,W0,w1,st',h1,h2,h3,?_,?_,hb,?_,fun _=>?_⟩)
  ·show (if _=_ then true else _)=_; rw [if_neg (by omega)]; exact h.low k hk
  ·simp only [upd]; rw [if_neg (by omega)]; exact h.val k hk
  ·simp only [upd]; rw [if_neg (by omega)]; exact h4
  ·simp only [upd]; rw [if_neg (by omega)]; exact h5
  ·simp only [upd]; rw [if_neg (by omega)]; exact h6
  ·simp [upd,es]
theorem EB.app (h:EB C NEW et W bp row0 BK l f w) (h8:l 8=true) {v':Value} {w':World} (hg:w.grownBy w' row0.ownBlock) (ho:w'.ownsRow (bp + 1) et sz v' (nn + 1) (xs ++ NEW.toList)) (hloc:v'.ownBlock=row0.ownBlock ∨ v'.ownBlock=some w.heap.size):EI C NEW et sz W bp row0 nn xs BK (fun k=>if k=9 then true else l k) (upd f 9 v') w':=by
 obtain ⟨W0,st,g,h1,h2,h3,h4,h5,h6,hb,_,h9⟩:=h.mid;refine .inr (.inr ⟨fun k hk=>?_,fun k hk=>?_,W0,w,st,h1,h5,hg,?_,?_,hb,?_,fun h10=>?_⟩)
 ·by_cases e:k=9
  ·simp [e]
  ·by_cases e8:k=8
   ·simp only [if_neg e]; rw [e8]; exact h8
   ·simp only [if_neg e]; exact h.low k (by omega)
 ·simp only [upd]; rw [if_neg (by omega)]; exact h.val k hk
 ·simp only [upd,if_true]; exact ho
 ·simp only [upd,if_true]; exact hloc
 ·simp only [upd]; rw [if_neg (by omega)]; exact h6
 ·have Yt:(if (10:Nat)=9 then true else l 10)=true:=h10;rw [if_neg (by omega)] at Yt;simp only [upd]; rw [if_neg (by omega)]; exact h9 Yt
theorem EI.last (h:EI C NEW et sz W bp row0 nn xs BK l f w) (hall:∀ k,k < 11→l k=true):EC C NEW et sz W bp row0 nn xs BK l f w:=by
 rcases h with h | h | h
 ·have:=hall 7 (by omega); rw [h.late 7 (by omega) (by omega)] at this; cases this
 ·have:=hall 9 (by omega); rw [h.l9] at this; cases this
 ·exact h
end
end Go.Proofs.YtdaoiceeidoehaaGreat.G
namespace Go.Proofs.YtdaoiceeidoehaaGreat
open Go.ChangeShapes Go.WideShapes Go.ChangeAt Go.RowKit Go.Maps
abbrev K3:=ByteArray × ByteArray × ByteArray
def oI (k:K3):Value:=.agg #[.string k.1,.string k.2.1,.string k.2.2]
theorem Mj (x y:K3) (h:oI x=oI y):x=y:=by
 unfold oI at h;injection h with h;have h1:=congrArg Array.toList h;simp at h1;exact Prod.ext h1.1 (Prod.ext h1.2.1 h1.2.2)
theorem Rc:(216:TypeId) < prog.types.size:=of_decide_eq_true (by kernel_rfl)
theorem Qm:(match prog.underlying 216 with | some (.array _ _) | some (.struct _)=>true | _=>false)=true:=by rw [underlying216]
set_option maxRecDepth 100000 in
theorem Mk:WideMaps.KeyLaw prog 216:=deep_law_laid xZ (m:=3) (by omega) Rc (by kernel_rfl) Qm
theorem I8:Keyed prog 216:=Keyed.of_law Mk
theorem Qn:prog.keyType 216=true:=by kernel_rfl
theorem I9:prog.cellsOf 216=3:=by kernel_rfl
theorem J4:prog.cellsOf 40=2:=by kernel_rfl
theorem J5:2≤prog.types.size:=of_decide_eq_true (by kernel_rfl)
theorem x8:∃ n,prog.types.size=n + 2:=⟨prog.types.size - 2,by have:=J5; omega⟩
set_option maxRecDepth 100000 in
theorem rz (k:K3) (h0:k.1.size≤maxLen) (h1:k.2.1.size≤maxLen) (h2:k.2.2.size≤maxLen):∃ kl,keyOf prog 216 (oI k)=some kl:=by
 obtain ⟨n,hn⟩:=x8;refine ⟨.string (keyBytes [.string k.1.data.toList,.string k.2.1.data.toList,.string k.2.2.data.toList]),?_⟩;unfold keyOf;rw [underlying216];simp only [Qn,oI,Value.formed,underlying216,I9,hn,Value.cells];simp +decide [Program.keyLits,underlying216,underlying40,underlying9,I9,J4,strCells,h0,h1,h2]
abbrev KL:=ByteArray × Int
def En (k:KL):Value:=.agg #[.string k.1,.int .i64 k.2]
theorem Ml (x y:KL) (h:En x=En y):x=y:=by
 unfold En at h;injection h with h;have h1:=congrArg Array.toList h;simp at h1;exact Prod.ext h1.1 h1.2
theorem Re:(179:TypeId) < prog.types.size:=of_decide_eq_true (by kernel_rfl)
theorem Qo:(match prog.underlying 179 with | some (.array _ _) | some (.struct _)=>true | _=>false)=true:=by rw [underlying179]
set_option maxRecDepth 100000 in
theorem Mm:WideMaps.KeyLaw prog 179:=deep_law_laid xZ (m:=2) (by omega) Re (by kernel_rfl) Qo
theorem Rf:Keyed prog 179:=Keyed.of_law Mm
theorem Qp:prog.keyType 179=true:=by kernel_rfl
theorem Ja:prog.cellsOf 179=2:=by kernel_rfl
theorem Mo:prog.cellsOf 2=1:=by kernel_rfl
set_option maxRecDepth 100000 in
theorem Jb (k:KL) (h0:k.1.size≤maxLen) (h1:0≤k.2) (h2:k.2≤1000000):∃ kl,keyOf prog 179 (En k)=some kl:=by
 have hw:(Lit.int .i64 k.2).wf=true:=WalkArith.wf_i64 ⟨by omega,by omega⟩;obtain ⟨n,hn⟩:=x8;refine ⟨.string (keyBytes [.string k.1.data.toList,.int .i64 k.2]),?_⟩;unfold keyOf;rw [underlying179];simp only [Qp,En,Value.formed,underlying179,Ja,hn,Value.cells];simp +decide [Program.keyLits,underlying179,underlying2,underlying9,Ja,Mo,strCells,h0,hw]
theorem mO {w:World} {g i j:Nat} {v:Value} (h:i ≠ j):(w.setCell ⟨g,i,none⟩ v).cell? ⟨g,j,none⟩=w.cell? ⟨g,j,none⟩:=by
 apply World.cell?_setCell_other;intro e;exact h (congrArg Addr.off e)
theorem mS {w:World} {a:Addr} {v u:Value} (h:w.cell? a=some u):(w.setCell a v).cell? a=some v:=by
 apply World.cell?_setCell_same; exact h
theorem mK {W w1:World} {n o:Nat} {v:Value} (hb:Below W.heap.size W w1) (hn:n < W.heap.size) (h:W.cell? ⟨n,o,none⟩=some v):w1.cell? ⟨n,o,none⟩=some v:=by
 rw [hb.cell (p:=⟨n,o,none⟩) hn]; exact h
theorem mF {W w1:World} {n o:Nat} (hb:Below W.heap.size W w1) (hn:n < W.heap.size) (h:W.frozen? ⟨n,o,none⟩=false):w1.frozen? ⟨n,o,none⟩=false:=by
 rw [hb.frozen (p:=⟨n,o,none⟩) hn]; exact h
def dL (w:World) (g:Nat):Prop:=∀ j,w.frozen? ⟨g,j,none⟩=false
structure Chg (S:Nat→Prop) (w w':World):Prop where
 base:Below 0 w w'
 block:∀ k,k < w.heap.size→¬ S k→w'.heap[k]?=w.heap[k]?
 free:∀ g,g < w.heap.size→dL w g→dL w' g
theorem Chg.refl (S:Nat→Prop) (w:World):Chg S w w:=⟨R3 _ _,fun _ _ _=>rfl,fun _ _ h=>h⟩
theorem Chg.size {S:Nat→Prop} {w w':World} (h:Chg S w w'):w.heap.size≤w'.heap.size:=h.base.size
theorem Chg.trans {S:Nat→Prop} {a b c:World} (h:Chg S a b) (k:Chg S b c):Chg S a c :=
 ⟨h.base.trans k.base,fun i hi hs=>(k.block i (RZ hi h.size) hs).trans (h.block i hi hs),fun g hg hf=>k.free g (RZ hg h.size) (h.free g hg hf)⟩
theorem Chg.mono {S T:Nat→Prop} {a b:World} (h:Chg S a b) (hs:∀ g,S g→T g):Chg T a b :=
 ⟨h.base,fun i hi hn=>h.block i hi fun e=>hn (hs i e),h.free⟩
theorem Chg.of {S:Nat→Prop} {w w':World} (h:Below w.heap.size w w'):Chg S w w' :=
 ⟨h.mono (R6 _),fun k hk _=>h.block k hk,fun g hg hf j=>by rw [h.frozen (p:=⟨g,j,none⟩) hg]; exact hf j⟩
theorem Chg.set {S:Nat→Prop} {w:World} {g j:Nat} (v:Value) (hs:S g):Chg S w (w.setCell ⟨g,j,none⟩ v) :=
 ⟨(R3 0 w).setCell (R6 _) v,fun k _ hk=>Below.heap_setCell _ _ _ _ (fun e=>hk (by rw [e]; exact hs)),fun g' _ hf j'=>by simpa using hf j'⟩
theorem Chg.below {S:Nat→Prop} {w w':World} {m:Nat} (h:Chg S w w') (hm:∀ g,S g→m≤g) (hw:m≤w.heap.size):Below m w w' :=
 ⟨h.base.os,h.base.tape,h.base.output,h.base.size,fun k hk=>h.block k (RZ hk hw) fun e=>by have:=hm k e; omega⟩
theorem Chg.cell {S:Nat→Prop} {w w':World} (h:Chg S w w') {g o:Nat} (hg:g < w.heap.size) (hs:¬ S g):w'.cell? ⟨g,o,none⟩=w.cell? ⟨g,o,none⟩:=by
 have:=h.block g hg hs;unfold World.cell?;simp only [this]
def Mq (k:Nat) (o:ByteArray):ByteArray:=if _h:k=0 then o else Mq (k / 10) (⟨#[UInt8.ofNat (48 + k % 10)]⟩ ++ o)
def aT (k:Nat):ByteArray:=⟨#[109]⟩ ++ Mq k ⟨#[]⟩
theorem Ms (o:ByteArray):Mq 0 o=o:=by rw [Mq,dif_pos rfl]
theorem Mt {k:Nat} (h:0 < k) (o:ByteArray):Mq k o=Mq (k / 10) (⟨#[UInt8.ofNat (48 + k % 10)]⟩ ++ o):=by
 rw [Mq,dif_neg (Nat.ne_of_gt h)]
set_option maxRecDepth 8000 in
theorem Cn (k:Nat) (w:World) (h0:0 < k) (h1:k≤1000000000) :
  Calls prog 49 #[.int .i64 (k:Int)] w fun e w'=>e=.returned (.string (aT k))∧Below w.heap.size w w':=by
 have hk0:¬ (k:Int)≤0:=by omega
 go_enter func49,ntmps49;go_wp2;go_loopw [0,3] (fun kv ov wr=>∃ (x:Nat) (o:ByteArray),kv=.int .i64 (x:Int)∧ov=.string o∧Hid (Mq x o=Mq k ⟨#[]⟩)∧x * 10 ^ o.size≤k∧x≤k∧(x=0→o.size≤12)∧Hid (Below w.heap.size w wr)) (fun kv _ _=>(intOf kv).toNat);case atStart=>exact ⟨k,⟨#[]⟩,rfl,rfl,rfl,(Nat.le_of_eq (Nat.mul_one k):k * 10 ^ 0≤k),R4 _,fun _=>R6 _,R3 _ _⟩
 case round =>
  obtain ⟨x,o,rfl,rfl,HD,hx,hxk,hz,HB⟩:=hrel;by_cases hpos:0 < x
  ·have hsz:o.size≤9:=by
    rcases Nat.lt_or_ge 9 o.size with h | h
    ·have:10 ^ 10≤10 ^ o.size:=Nat.pow_le_pow_right (by omega) h;have h2:1 * 10 ^ o.size≤x * 10 ^ o.size:=Nat.mul_le_mul_right _ hpos;omega
    ·exact h
   have hx0:(0:Int) < (x:Int):=by omega
   obtain ⟨dd,hdd⟩:∃ dd:UInt8,dd=UInt8.ofNat (48 + x % 10):=⟨_,rfl⟩;have hbt:(48 + (x:Int) % 10)=((dd).toNat:Int):=by
    rw [hdd,UInt8.toNat_ofNat']; omega
   have HCV:(convert 150 9 (.slice (some ⟨wr.heap.size,0,none⟩) 1 1)).run prog (wr.alloc (.cells #[.int .u8 (48 + (x:Int) % 10)] 5))=.ok (.string ⟨#[dd]⟩) (wr.alloc (.cells #[.int .u8 (48 + (x:Int) % 10)] 5)) :=
    run_convert_bytes_back _ 150 9 5 ⟨wr.heap.size,0,none⟩ 1 [dd] underlying150 underlying5 underlying9 (fun j hj=>by
     have:j=0:=by simpa using hj
     subst this;rw [hbt];exact World.cell?_alloc_mark wr #[.int .u8 ((dd).toNat:Int)] 5 (0,0) 0)
   have TH:Hid ((48 + (x:Int) % 10)=((dd).toNat:Int)):=hbt;have hone:(⟨#[dd]⟩:ByteArray).size=1:=rfl;have HD2:Hid (Mq (x / 10) (⟨#[dd]⟩ ++ o)=Mq k ⟨#[]⟩):=by show _=_; rw [← HD.out]; rw [hdd]; exact (Mt hpos o).symm
   have XA:Hid (x / 10 * 10 ^ ((⟨#[dd]⟩ ++ o:ByteArray)).size≤k):=by
    show _≤_;rw [ByteArray.size_append,hone,Nat.add_comm,Nat.pow_succ];have:x / 10 * (10 ^ o.size * 10)=(x / 10 * 10) * 10 ^ o.size:=by rw [Nat.mul_comm (10 ^ o.size),Nat.mul_assoc]
    rw [this];exact Sb (Nat.mul_le_mul_right _ (by omega)) hx
   have HZ2:Hid ((⟨#[dd]⟩ ++ o:ByteArray).size≤12):=by show _≤_; rw [ByteArray.size_append,hone]; omega
   have HB2:Hid (Below w.heap.size w (wr.alloc (.cells #[.int .u8 (48 + (x:Int) % 10)] 5))):=HB.out.alloc HB.out.size _;have HQ:Hid ((x:Int) / 10=((x / 10:Nat):Int)):=by show _=_; omega
   clear hbt hone hdd;go_wp2;go_roundw;case rel=>exact ⟨x / 10,_,congrArg (Value.int .i64) HQ.out,rfl,HD2,XA.out,by omega,fun _=>HZ2.out,HB2⟩
   case measure=>simp [intOf]; omega
  ·obtain rfl:x=0:=by omega
   have hz2:=hz rfl;have HN:Hid (aT k=⟨#[109]⟩ ++ o):=by show _=_; unfold aT; rw [← HD.out,Ms]
   have hx0:¬ (0:Int) < ((0:Nat):Int):=by omega
   go_wp2;go_ret;exact ⟨by rw [HN.out]; rfl,HB.out⟩
theorem aG (x:Int) (k:Nat) (w:World) (hx:x=(k:Int)) (h0:0 < k) (h1:k≤1000000000) :
  Calls prog 49 #[.int .i64 x] w fun e w'=>e=.returned (.string (aT k))∧Below w.heap.size w w':=by
 rw [hx]; exact Cn k w h0 h1
open Pl
theorem Eo {x y:ByteArray} (k:x.toList=y.toList):x=y:=by
 rw [Go.ByteArray.toList_eq,Go.ByteArray.toList_eq] at k;obtain ⟨x⟩:=x;obtain ⟨y⟩:=y;exact congrArg ByteArray.mk (Array.toList_inj.1 k)
def Tp.row (t:Tp):List Value:=[.string t.a,.string t.b,.string t.r,.string t.c,.string t.d,.string t.s]
def AP (ts:List Tp):List Value:=ts.flatMap Tp.row
theorem AQ:∀ ts:List Tp,(AP ts).length=ts.length * 6
 | []=>rfl
 | r::rs=>by have:=AQ rs; simp only [AP,Tp.row,List.flatMap_cons,R9,List.length_cons,List.length_nil] at this ⊢; omega
theorem Ep:∀ (rs:List Tp) (i:Nat) (h:i < rs.length) (j:Nat),j < 6→(AP rs)[i * 6 + j]?=(rs[i]).row[j]?
 | [],i,h,_,_=>by simp at h
 | r::rs,0,_,j,hj=>by
  simp only [AP,List.flatMap_cons,Nat.zero_mul,Su,List.getElem_cons_zero];rw [List.getElem?_append_left (by simpa [Tp.row] using hj)]
 | r::rs,i + 1,h,j,hj=>by
  have:=Ep rs i (by simpa using h) j hj;simp only [AP,List.flatMap_cons,List.getElem_cons_succ] at this ⊢;rw [List.getElem?_append_right (by simp [Tp.row]; omega),← this];congr 1;simp [Tp.row]; omega
theorem Rh {w:World} {base n:Nat} {v:Value} {ts:List Tp} (h:w.ownsRow base 73 6 v n (AP ts)) (hn:n=ts.length):∃ ad cap,v=.slice ad ts.length cap∧Sl w ad ts∧∀ g,ad=some ⟨g,0,none⟩→base≤g∧g < w.heap.size∧dL w g:=by
 subst hn;have h2:=h;rcases h.2 with ⟨rfl,h0⟩ | ⟨g,cap,cur,rfl,hbg,hg,hnc,-⟩
 ·exact ⟨none,0,by rw [h0],.inl (Si.1 h0),fun g e=>by cases e⟩
 ·have hlt:=h2.lt g rfl;refine ⟨some ⟨g,0,none⟩,cap,rfl,.inr ⟨g,0,rfl,hlt.2,fun i hi=>?_⟩,fun g' e=>?_⟩
  ·have hl:=AQ ts;have key:∀ j,j < 6→w.cell? ⟨g,0 + i * 6 + j,none⟩=(ts[i]).row[j]?:=fun j hj=>by
    rw [h2.cellAt (0 + i * 6 + j) (by omega),← Ep ts i hi j hj,Su]
   exact ⟨key 0 (by omega),key 1 (by omega),key 2 (by omega),key 3 (by omega),key 4 (by omega),key 5 (by omega)⟩
  ·injection e with e; injection e with e1 e2;subst e1;exact ⟨hlt.1,hlt.2,fun y=>h2.frozenAt y⟩
theorem aA {B:Nat} {w w':World} (hB:Below B w w') {n o:Nat} {v:Value} (hn:n < B) (h:w.cell? ⟨n,o,none⟩=some v):w'.cell? ⟨n,o,none⟩=some v:=(hB.cell (p:=⟨n,o,none⟩) hn).trans h
theorem aB {p:Prop} (h:p):Hid p:=h
theorem aM {w w':World} {base:Nat} {e:TypeId} {size:Nat} {v:Value} {n:Nat} {xs:List Value} (h:w.ownsRow base e size v n xs) (hb:Below w.heap.size w w'):w'.ownsRow base e size v n xs:=by
 have hl:=fun g hg=>(h.lt g hg).2;refine ⟨h.1,?_⟩;rcases h.2 with h0 | ⟨g,cap,cur,rfl,h1,h2,h3⟩
 ·exact .inl h0
 ·exact .inr ⟨g,cap,cur,rfl,h1,(hb.block g (hl g rfl)).trans h2,h3⟩
end Go.Proofs.YtdaoiceeidoehaaGreat
