/- Strata in plain words: what they must keep, the least ones, and that they are few. Nothing of the program is read here. -/
import Derived.Test.YtdmniljjnaebbaaGreatDoorSq
import Derived.Test.YtdmniljjnaebbaaGreatDoorSpecSchema8
open Go.Proofs.Tryz
set_option maxHeartbeats 80000000
namespace Go.Proofs.YtdmniljjnaebbaaGreatDoor
open Pl
theorem ui {a b:ByteArray} (h:a.toList=b.toList):a=b:=by
 rw [Go.ByteArray.toList_eq,Go.ByteArray.toList_eq] at h;cases a with | mk x=>cases b with | mk y =>
 congr;exact Array.ext' h
theorem dY {a b:ByteArray}:(a.toList == b.toList)=true ↔ a=b:=⟨fun h=>ui (by simpa using h),fun h=>by simp [h]⟩
def jd (t:Ty):List (ByteArray × ByteArray):=t.rels.map fun r=>(t.name,r.name)
def ak (ts:List Ty):List (ByteArray × ByteArray):=ts.flatMap jd
def stepOf (d:Dp):Int:=if d.neg then 1 else 0
def gu (ts:List Ty) (k:ByteArray × ByteArray):List Dp:=oW ts k.1 (aH ts k.1 k.2)
structure Sol (ts:List Ty) (f:ByteArray × ByteArray→Int):Prop where
 pos:∀ k,0≤f k
 up:∀ k ∈ ak ts,∀ d ∈ gu ts k,f (d.typ,d.rel) + stepOf d≤f k
def Found (ts:List Ty):Prop:=∀ k ∈ ak ts,∀ d ∈ gu ts k,(d.typ,d.rel) ∈ ak ts
theorem vD (vs:List Int) (x y:Int) (h:x≤y):vs.countP (fun v=>decide (v < x))≤vs.countP (fun v=>decide (v < y)) :=
 List.countP_mono_left fun v _ hv=>by simp at hv ⊢; omega
theorem J5 (vs:List Int) (x y:Int) (h:x + 1≤y) (hx:x ∈ vs):vs.countP (fun v=>decide (v < x)) + 1≤vs.countP (fun v=>decide (v < y)):=by
 induction vs with
 | nil=>cases hx
 | cons v vs ih =>
  simp only [List.countP_cons];rcases List.mem_cons.1 hx with rfl | hm
  ·have:=vD vs x y (by omega);have h1:decide (x < x)=false:=by simp
   have h2:decide (x < y)=true:=by simp; omega
   simp only [h1,h2]; simp; omega
  have:=ih hm;by_cases h1:v < x
  ·have h2:v < y:=by omega
   simp [h1,h2]; omega
  simp only [h1]; simp; omega
theorem GI (vs:List Int) (x:Int) (hx:x ∈ vs):vs.countP (fun v=>decide (v < x)) + 1≤vs.length:=by
 induction vs with
 | nil=>cases hx
 | cons v vs ih =>
  simp only [List.countP_cons,List.length_cons];rcases List.mem_cons.1 hx with rfl | hm
  ·have:=List.countP_le_length (p:=fun v=>decide (v < x)) (l:=vs);have h1:decide (x < x)=false:=by simp
   simp only [h1]; simp; omega
  have:=ih hm;split <;> omega
theorem Sol.few {ts:List Ty} {f:ByteArray × ByteArray→Int} (h:Sol ts f) (hF:Found ts):∃ g,Sol ts g∧∀ k ∈ ak ts,g k + 1≤(ak ts).length:=by
 refine ⟨fun k=>((((ak ts).map f).countP (fun v=>decide (v < f k)):Nat):Int),⟨fun k=>by omega,fun k hk d hd=>?_⟩,fun k hk=>?_⟩
 ·have h1:=h.up k hk d hd;have h2:f (d.typ,d.rel) ∈ (ak ts).map f:=List.mem_map_of_mem (hF k hk d hd);unfold stepOf at h1 ⊢;split at h1
  ·rename_i hn;have:=J5 ((ak ts).map f) _ _ h1 h2;simp only [hn,if_true]; omega
  rename_i hn;have:=vD ((ak ts).map f) _ _ (show f (d.typ,d.rel)≤f k by omega);have e0:(if d.neg=true then (1:Int) else 0)=0:=if_neg hn;rw [e0]; omega
 have:=GI ((ak ts).map f) (f k) (List.mem_map_of_mem hk);simp at this ⊢; omega
def o6 (ts:List Ty) (k:ByteArray × ByteArray) (n:Int):Prop:=∀ f,Sol ts f→n≤f k
theorem MI {ts:List Ty} (hF:Found ts) {k:ByteArray × ByteArray} (hk:k ∈ ak ts) {n:Int} (hl:o6 ts k n) (hn:((ak ts).length:Int)≤n):¬ ∃ f,Sol ts f:=by
 rintro ⟨f,hf⟩;obtain ⟨g,hg,hb⟩:=hf.few hF;have:=hl g hg;have:=hb k hk;omega
theorem o6.step {ts:List Ty} {k:ByteArray × ByteArray} (hk:k ∈ ak ts) {d:Dp} (hd:d ∈ gu ts k) {n:Int} (hl:o6 ts (d.typ,d.rel) n):o6 ts k (n + stepOf d):=fun f hf=>by
 have h1:=hl f hf;have h2:=hf.up k hk d hd;omega
theorem o6.zero (ts:List Ty) (k:ByteArray × ByteArray):o6 ts k 0:=fun _ hf=>hf.pos k
structure Least (ts:List Ty) (f:ByteArray × ByteArray→Int):Prop where
 sol:Sol ts f
 low:∀ k ∈ ak ts,o6 ts k (f k)
theorem Least.same {ts:List Ty} {f g:ByteArray × ByteArray→Int} (hf:Least ts f) (hg:Least ts g) (k:ByteArray × ByteArray) (hk:k ∈ ak ts):f k=g k:=by
 have h1:=hf.low k hk g hg.sol;have h2:=hg.low k hk f hf.sol;omega
def St.key (s:St):ByteArray × ByteArray:=(s.typ,s.rel)
def gy (out:List St):List (ByteArray × ByteArray):=out.map St.key
theorem o7 {s:St} {k:ByteArray × ByteArray}:yo s k.1 k.2=true ↔ s.key=k:=by
 unfold yo St.key;rw [Sn,dY,dY];constructor
 ·rintro ⟨h1,h2⟩; rw [h1,h2]
 rintro rfl; exact ⟨rfl,rfl⟩
def eG (out:List St) (k:ByteArray × ByteArray):Int :=
 match out with
 | []=>0
 | s::xs=>if yo s k.1 k.2 then s.n else eG xs k
theorem nI {k:ByteArray × ByteArray}:∀ (out:List St) (j:Nat),k ∈ gy out→∃ i:Nat,∃ h:i < out.length,fM k.1 k.2 out j=((j + i:Nat):Int)∧out[i].key=k∧out[i].n=eG out k
 | [],_,h=>by cases h
 | s::xs,j,h=>by
  by_cases hs:yo s k.1 k.2=true
  ·exact ⟨0,by simp,by simp [fM,hs],o7.1 hs,by simp [eG,hs]⟩
  have hm:k ∈ gy xs:=by
   rcases List.mem_cons.1 h with e | hm
   ·exact absurd (o7.2 e.symm) hs
   exact hm
  obtain ⟨i,hi,h1,h2,h3⟩:=nI xs (j + 1) hm;refine ⟨i + 1,by simp; omega,?_,by simpa using h2,by simpa [eG,hs] using h3⟩;simp only [fM,hs];simp only [Bool.false_eq_true,if_false];rw [h1]; congr 1; omega
theorem Bd {k:ByteArray × ByteArray} (out:List St) (h:k ∈ gy out):∃ s ∈ out,s.key=k∧s.n=eG out k:=by
 obtain ⟨i,hi,-,h2,h3⟩:=nI out 0 h;exact ⟨out[i],Sd hi,h2,h3⟩
theorem MJ {k:ByteArray × ByteArray} (out:List St) (h:k ∉ gy out):eG out k=0:=by
 induction out with
 | nil=>rfl
 | cons s xs ih =>
  have h1:¬ yo s k.1 k.2=true:=fun e=>h (by rw [o7] at e; simp [gy,e]);simp only [eG,h1];simp only [Bool.false_eq_true,if_false];exact ih fun hm=>h (by simp only [gy,List.map_cons,List.mem_cons]; exact .inr hm)
def kP:List St→Int
 | []=>0
 | s::xs=>s.n + kP xs
theorem MK (out:List St) (i:Nat) (h:i < out.length) (n:Int):kP (out.set i ⟨out[i].typ,out[i].rel,n⟩)=kP out - out[i].n + n:=by
 induction out generalizing i with
 | nil=>simp at h
 | cons s xs ih =>
  cases i with
  | zero=>simp [kP]; omega
  | succ i=>simp only [List.set_cons_succ,kP,List.getElem_cons_succ]; rw [ih i (by simpa using h)]; omega
theorem J6 (out:List St) (i:Nat) (h:i < out.length) (n:Int):gy (out.set i ⟨out[i].typ,out[i].rel,n⟩)=gy out:=by
 unfold gy;rw [List.map_set];show (List.map St.key out).set i (out[i].key)=_;have:out[i].key=(List.map St.key out)[i]'(by simpa using h):=by simp
 rw [this,List.set_getElem_self]
structure Round (ts:List Ty) (out:List St):Prop where
 keys:gy out=ak ts
 pos:∀ s ∈ out,0≤s.n
 low:∀ s ∈ out,o6 ts s.key s.n
def OO (ts:List Ty) (out:List St) (s:St) (k:Nat):Prop:=∀ d ∈ (gu ts s.key).take k,eG out (d.typ,d.rel) + stepOf d≤s.n
theorem Round.mem {ts:List Ty} {out:List St} (h:Round ts out) {s:St} (hs:s ∈ out):s.key ∈ ak ts:=by rw [← h.keys]; exact List.mem_map_of_mem hs
theorem Round.at {ts:List Ty} {out:List St} (h:Round ts out) {k:ByteArray × ByteArray} (hk:k ∈ ak ts):0≤eG out k∧o6 ts k (eG out k):=by
 obtain ⟨s,hs,e,en⟩:=Bd out (by rw [h.keys]; exact hk);rw [← en,← e];exact ⟨h.pos s hs,h.low s hs⟩
theorem Round.set {ts:List Ty} {out:List St} (h:Round ts out) (hF:Found ts) {i:Nat} (hi:i < out.length) {d:Dp} (hd:d ∈ gu ts out[i].key):Round ts (out.set i ⟨out[i].typ,out[i].rel,eG out (d.typ,d.rel) + stepOf d⟩):=by
 have hk:out[i].key ∈ ak ts:=h.mem (Sd hi);have hdk:=hF _ hk d hd;obtain ⟨h0,hl⟩:=h.at hdk;have hs0:0≤stepOf d:=by unfold stepOf; split <;> omega
 refine ⟨(J6 out i hi _).trans h.keys,fun s hs=>?_,fun s hs=>?_⟩
 ·rcases List.mem_or_eq_of_mem_set hs with hs | rfl
  ·exact h.pos s hs
  show 0≤eG out (d.typ,d.rel) + stepOf d; omega
 rcases List.mem_or_eq_of_mem_set hs with hs | rfl
 ·exact h.low s hs
 exact hl.step hk hd
theorem Round.done {ts:List Ty} {out:List St} (h:Round ts out) (hs:∀ s ∈ out,OO ts out s (gu ts s.key).length):Least ts (eG out) where
 sol:=⟨fun k=>by
   by_cases hk:k ∈ ak ts
   ·exact (h.at hk).1
   ·rw [MJ out (by rw [h.keys]; exact hk)]; exact Int.le_refl _,fun k hk d hd=>by
   obtain ⟨s,hm,e,en⟩:=Bd out (by rw [h.keys]; exact hk);have:=hs s hm d (by rw [Su,e]; exact hd);rw [← en]; exact this⟩
 low k hk:=(h.at hk).2
def iw (a b:ByteArray):Bool:=Op.bytesLess a.toList b.toList
def kG (rs:List Rl) (j:Nat):Bool :=
 match rs[j]? with
 | none=>true
 | some r=>aR r.name && (match j with | 0=>true | i + 1=>(rs[i]?.map fun p=>iw p.name r.name).getD true) && aY r.expr
def df (rs:List Rl):Nat→Bool
 | 0=>true
 | k + 1=>df rs k && kG rs k
def jF (ts:List Ty) (j:Nat):Bool :=
 match ts[j]? with
 | none=>true
 | some t=>aR t.name && (match j with | 0=>true | i + 1=>(ts[i]?.map fun p=>iw p.name t.name).getD true) && decide (t.rels.length≤6) && df t.rels t.rels.length
def gJ (ts:List Ty):Nat→Bool
 | 0=>true
 | k + 1=>gJ ts k && jF ts k
theorem qW (rs:List Rl) (k:Nat) (hb:kG rs k=false):∀ n,k < n→df rs n=false
 | 0,hn=>by omega
 | n + 1,hn=>by
  by_cases e:n=k
  ·subst e; simp [df,hb]
  simp [df,qW rs k hb n (by omega)]
theorem qX (ts:List Ty) (k:Nat) (hb:jF ts k=false):∀ n,k < n→gJ ts n=false
 | 0,hn=>by omega
 | n + 1,hn=>by
  by_cases e:n=k
  ·subst e; simp [gJ,hb]
  simp [gJ,qX ts k hb n (by omega)]
theorem nJ {rs:List Rl}:∀ {n:Nat},df rs n=true→∀ j,j < n→kG rs j=true
 | 0,_,j,hj=>by omega
 | n + 1,h,j,hj=>by
  simp only [df,Sn] at h;by_cases e:j=n
  ·subst e; exact h.2
  exact nJ h.1 j (by omega)
theorem nM {ts:List Ty}:∀ {n:Nat},gJ ts n=true→∀ j,j < n→jF ts j=true
 | 0,_,j,hj=>by omega
 | n + 1,h,j,hj=>by
  simp only [gJ,Sn] at h;by_cases e:j=n
  ·subst e; exact h.2
  exact nM h.1 j (by omega)
def bq (ts:List Ty):Bool:=decide (ts.length≤6) && gJ ts ts.length
def o8 (ts:List Ty) (t:Ty):Bool:=t.rels.all fun r=>aP ts t.name r.expr
def jv (ts:List Ty):Bool:=ts.all (o8 ts)
def bG (ts:List Ty):Prop:=bq ts=true∧jv ts=true∧∃ f,Sol ts f
theorem J7 {rs:List Rl} {n:ByteArray} {es:List Ex} (h:jc rs n=some es):∃ r ∈ rs,r.name=n∧r.expr=es:=by
 induction rs with
 | nil=>simp [jc] at h
 | cons r rs ih =>
  simp only [jc] at h;split at h
  ·rename_i hn; injection h with h; exact ⟨r,by simp,dY.1 hn,h⟩
  obtain ⟨q,hq,e⟩:=ih h; exact ⟨q,by simp [hq],e⟩
theorem yB {ts:List Ty} {ty n:ByteArray} {es:List Ex} (h:fC ts ty n=some es):∃ t ∈ ts,∃ r ∈ t.rels,t.name=ty∧r.name=n∧r.expr=es:=by
 induction ts with
 | nil=>simp [fC] at h
 | cons t ts ih =>
  simp only [fC] at h;split at h
  ·rename_i hn;rcases Option.or_eq_some_iff.1 h with h | ⟨-,h⟩
   ·obtain ⟨r,hr,e⟩:=J7 h; exact ⟨t,by simp,r,hr,dY.1 hn,e⟩
   obtain ⟨t',ht,e⟩:=ih h; exact ⟨t',by simp [ht],e⟩
  obtain ⟨t',ht,e⟩:=ih h; exact ⟨t',by simp [ht],e⟩
theorem o9 {ts:List Ty} {k:ByteArray × ByteArray}:k ∈ ak ts ↔ ∃ t ∈ ts,∃ r ∈ t.rels,k=(t.name,r.name):=by
 simp only [ak,jd,SB,Sy];constructor
 ·rintro ⟨t,ht,r,hr,e⟩; exact ⟨t,ht,r,hr,e.symm⟩
 rintro ⟨t,ht,r,hr,e⟩; exact ⟨t,ht,r,hr,e.symm⟩
theorem uj {ts:List Ty} {ty n:ByteArray} (h:(aH ts ty n).isEmpty=false):(ty,n) ∈ ak ts:=by
 unfold aH at h;cases e:fC ts ty n with
 | none=>rw [e] at h; simp at h
 | some es =>
  obtain ⟨t,ht,r,hr,h1,h2,-⟩:=yB e;exact o9.2 ⟨t,ht,r,hr,by rw [h1,h2]⟩
theorem QB {ts:List Ty} {rel:ByteArray} {xs:List Al} {g:ByteArray} (h:g ∈ gl ts rel xs):(aH ts g rel).isEmpty=false:=by
 induction xs with
 | nil=>simp [gl] at h
 | cons a xs ih =>
  simp only [gl] at h;split at h
  ·exact ih h
  rename_i hn;rcases List.mem_cons.1 h with rfl | h
  ·simpa using hn
  exact ih h
theorem J8 {neg:Bool} {xs:List Al} {d:Dp} (h:d ∈ cu neg xs):∃ a ∈ xs,a.s.toList.isEmpty=false∧d.typ=a.t∧d.rel=a.s:=by
 induction xs with
 | nil=>simp [cu] at h
 | cons a xs ih =>
  simp only [cu] at h;split at h
  ·obtain ⟨b,hb,e⟩:=ih h; exact ⟨b,by simp [hb],e⟩
  rename_i hn;rcases List.mem_cons.1 h with rfl | h
  ·exact ⟨a,by simp,by simpa using hn,rfl,rfl⟩
  obtain ⟨b,hb,e⟩:=ih h; exact ⟨b,by simp [hb],e⟩
theorem qY {ts:List Ty} {typ:ByteArray} {es:List Ex} {d:Dp}:∀ {k:Nat},d ∈ aM ts typ es k→∃ i,i < k∧d ∈ jO ts typ es i
 | 0,h=>by simp [aM] at h
 | k + 1,h=>by
  simp only [aM] at h;rcases Sz.1 h with h | h
  ·obtain ⟨i,hi,e⟩:=qY h; exact ⟨i,by omega,e⟩
  exact ⟨k,by omega,h⟩
theorem Be {ts:List Ty} {typ:ByteArray} {es:List Ex} (h:aP ts typ es=true):∀ e ∈ es,oU ts e.allow=true∧lI ts typ e=true:=by
 induction es with
 | nil=>intro e he; cases he
 | cons e es ih =>
  simp only [aP] at h;split at h
  ·rename_i hn;rw [Sn] at hn;intro q hq;rcases List.mem_cons.1 hq with rfl | hq
   ·exact hn
   exact ih h q hq
  cases h
theorem kH {ts:List Ty} (h:jv ts=true):Found ts:=by
 intro k hk d hd;unfold gu oW at hd;have hne:(aH ts k.1 k.2).length ≠ 0:=by
  intro e;rw [e] at hd; simp [aM] at hd
 obtain ⟨es,hes⟩:∃ es,fC ts k.1 k.2=some es:=by
  cases e:fC ts k.1 k.2 with
  | none=>unfold aH at hne; rw [e] at hne; simp at hne
  | some es=>exact ⟨es,rfl⟩
 have ero:aH ts k.1 k.2=es:=by unfold aH; rw [hes]; rfl
 rw [ero] at hd;obtain ⟨t,ht,r,hr,h1,h2,h3⟩:=yB hes;have hr1:aP ts k.1 es=true:=by
  unfold jv at h;rw [SC] at h;have:=h t ht;unfold o8 at this;rw [SC] at this;have:=this r hr;rw [h1,h3] at this;exact this
 obtain ⟨i,hi,hdi⟩:=qY hd;unfold jO at hdi;split at hdi
 ·cases hdi
 rename_i e he;obtain ⟨ra,rn⟩:=Be hr1 e (List.mem_of_getElem? he);rcases Sz.1 hdi with hdi | hdi
 ·obtain ⟨a,ha,hs,e1,e2⟩:=J8 hdi;unfold oU at ra;rw [SC] at ra;have:=ra a ha;unfold oq at this;rw [hs,Bool.false_or,Sn] at this;rw [e1,e2];exact uj (by simpa using this.2)
 unfold mf at hdi;unfold lI at rn;split at hdi
 ·rename_i h2;rw [if_pos h2] at rn;simp at hdi;subst hdi;exact uj (by simpa using rn)
 split at hdi
 ·obtain ⟨g,hg,rfl⟩:=Sy.1 hdi;exact uj (QB hg)
 cases hdi
theorem Bf {es:List Ex} (h:aY es=true):1≤es.length∧es.length≤15:=by
 simp only [aY,Sn,SE] at h;exact ⟨h.1.1.1.1.1,h.1.1.1.1.2⟩
theorem J9 {es:List Ex} (h:aY es=true) (i:Nat) (hi:i < es.length):dQ es.length es[i].kids:=by
 simp only [aY,Sn,SE] at h;have h1:=h.1.1.2;unfold iJ at h1;rw [SC] at h1;have h2:=h1 i (by simpa using hi);unfold lw oH at h2;rw [Sw hi] at h2;simp only [Option.map_some,Option.getD_some,SC,Sn,SE] at h2;intro x hx;have:=h2 x hx;omega
theorem bR {rs:List TR} (h:bq (ag rs)=true):rs.length≤6∧(∀ r ∈ rs,r.rows.length≤6)∧∀ r ∈ rs,∀ q ∈ r.rows,aY (ai q.rows)=true∧q.rows.length≤15∧∀ e ∈ q.rows,dQ q.rows.length e.e.kids:=by
 simp only [bq,Sn,SE] at h;rw [eH] at h;have hT:∀ r ∈ rs,r.rows.length≤6∧df (bZ r.rows) r.rows.length=true:=by
  intro r hr;obtain ⟨j,hj,rfl⟩:=List.mem_iff_getElem.1 hr;have h1:=nM h.2 j hj;unfold jF at h1;have e:(ag rs)[j]?=some rs[j].p:=by simp [ag,hj]
  rw [e] at h1;simp only [Sn,SE] at h1;have e2:rs[j].p.rels.length=rs[j].rows.length:=by simp [TR.p,bZ]
  rw [e2] at h1;exact ⟨h1.1.2,h1.2⟩
 refine ⟨h.1,fun r hr=>(hT r hr).1,fun r hr q hq=>?_⟩;obtain ⟨j,hj,rfl⟩:=List.mem_iff_getElem.1 hq;have h1:=nJ (hT r hr).2 j hj;unfold kG at h1;have e:(bZ r.rows)[j]?=some r.rows[j].p:=by simp [bZ,hj]
 rw [e] at h1;simp only [Sn] at h1;have h2:aY (ai r.rows[j].rows)=true:=h1.2;have h3:=Bf h2;rw [aS] at h3;refine ⟨h2,h3.2,fun e he=>?_⟩;obtain ⟨i,hi,rfl⟩:=List.mem_iff_getElem.1 he;have:=J9 h2 i (by rw [aS]; exact hi);have e1:(ai r.rows[j].rows)[i]'(by rw [aS]; exact hi)=r.rows[j].rows[i].e:=by simp [ai]
 rw [e1] at this;simpa [ai] using this
def assigns (n:Nat):List (ByteArray × ByteArray)→List (ByteArray × ByteArray→Int)
 | []=>[fun _=>0]
 | k::ks=>(assigns n ks).flatMap fun f=>(List.range n).map fun v=>fun y=>if y=k then ((v:Nat):Int) else f y
theorem vF {n:Nat}:∀ {ks:List (ByteArray × ByteArray)} {f:ByteArray × ByteArray→Int},f ∈ assigns n ks→∀ k,0≤f k
 | [],f,h,k=>by simp only [assigns,SF] at h; rw [h]; exact Int.le_refl _
 | x::ks,f,h,k=>by
  simp only [assigns,SB,Sy] at h;obtain ⟨g,hg,v,-,rfl⟩:=h;show 0≤(if k=x then ((v:Nat):Int) else g k);split
  ·omega
  exact vF hg k
theorem vG {n:Nat} (g:ByteArray × ByteArray→Int):∀ (ks:List (ByteArray × ByteArray)),(∀ k ∈ ks,0≤g k∧g k < n)→∃ f ∈ assigns n ks,∀ k ∈ ks,f k=g k
 | [],_=>⟨fun _=>0,by simp [assigns],fun k hk=>by cases hk⟩
 | x::ks,h=>by
  obtain ⟨f,hf,hfg⟩:=vG g ks fun k hk=>h k (SQ _ hk);obtain ⟨h0,h1⟩:=h x (S9 ..);refine ⟨fun y=>if y=x then (((g x).toNat:Nat):Int) else f y,?_,fun k hk=>?_⟩
  ·simp only [assigns,SB,Sy];exact ⟨f,hf,(g x).toNat,List.mem_range.2 (by omega),rfl⟩
  show (if k=x then (((g x).toNat:Nat):Int) else f k)=g k;by_cases e:k=x
  ·rw [if_pos e,e]; omega
  rw [if_neg e];rcases List.mem_cons.1 hk with h2 | h2
  ·exact absurd h2 e
  exact hfg k h2
def QC (ts:List Ty) (f:ByteArray × ByteArray→Int):Bool:=(ak ts).all fun k=>(gu ts k).all fun d=>decide (f (d.typ,d.rel) + stepOf d≤f k)
theorem Je {ts:List Ty} {f:ByteArray × ByteArray→Int}:QC ts f=true ↔ ∀ k ∈ ak ts,∀ d ∈ gu ts k,f (d.typ,d.rel) + stepOf d≤f k:=by
 unfold QC; simp only [SC,SE]
def yC (ts:List Ty):List (ByteArray × ByteArray→Int):=(assigns (ak ts).length (ak ts)).filter (QC ts)
theorem Ka {ts:List Ty} {f:ByteArray × ByteArray→Int} (h:f ∈ yC ts):Sol ts f:=by
 unfold yC at h;rw [SX] at h;exact ⟨vF h.1,Je.1 h.2⟩
theorem MM {ts:List Ty} {g:ByteArray × ByteArray→Int} (hF:Found ts) (h:Sol ts g) (hb:∀ k ∈ ak ts,g k + 1≤(ak ts).length):∃ f ∈ yC ts,∀ k ∈ ak ts,f k=g k:=by
 obtain ⟨f,hf,hfg⟩:=vG (n:=(ak ts).length) g (ak ts) fun k hk=>⟨h.pos k,by have:=hb k hk; omega⟩;refine ⟨f,?_,hfg⟩;unfold yC;rw [SX];refine ⟨hf,Je.2 fun k hk d hd=>?_⟩;rw [hfg k hk,hfg _ (hF k hk d hd)];exact h.up k hk d hd
def aF (ts:List Ty):Bool:=bq ts && jv ts && !(yC ts).isEmpty
theorem bW {ts:List Ty}:aF ts=true ↔ bG ts:=by
 unfold aF bG;simp only [Sn,Bool.not_eq_true'];constructor
 ·rintro ⟨⟨h1,h2⟩,h3⟩;refine ⟨h1,h2,?_⟩;cases e:yC ts with
  | nil=>rw [e] at h3; cases h3
  | cons f fs=>exact ⟨f,Ka (by rw [e]; exact S9 ..)⟩
 rintro ⟨h1,h2,f,hf⟩;refine ⟨⟨h1,h2⟩,?_⟩;obtain ⟨g,hg,hb⟩:=hf.few (kH h2);obtain ⟨f2,hf2,-⟩:=MM (kH h2) hg hb;cases e:yC ts with
 | nil=>rw [e] at hf2; cases hf2
 | cons f fs=>rfl
theorem El {ts:List Ty} (h:bG ts):aF ts=true:=bW.2 h
theorem dP {ts:List Ty} (h:¬ bG ts):aF ts=false:=by
 cases e:aF ts;case false=>rfl
 exact absurd (bW.1 e) h
open Go.ChangeAt Go.ChangeShapes Go.RowKit Go.WideShapes
def St.cells (s:St):List Value:=[.string s.typ,.string s.rel,.int .i64 s.n]
def gF:List St→List Value
 | []=>[]
 | s::xs=>s.cells ++ gF xs
theorem CJ (xs ys:List St):gF (xs ++ ys)=gF xs ++ gF ys:=by
 induction xs with
 | nil=>rfl
 | cons d ds ih=>simp [gF,ih]
theorem yD (xs:List St) (d:St):gF (xs ++ [d])=gF xs ++ d.cells:=by rw [CJ]; simp [gF]
theorem kg (xs:List St) (i:Nat) (h:i < xs.length) (o:Nat) (ho:o < 3):(gF xs)[i * 3 + o]?=(xs[i].cells)[o]?:=by
 induction xs generalizing i with
 | nil=>simp at h
 | cons s xs ih =>
  cases i with
  | zero =>
   simp only [gF,Nat.zero_mul,SG,List.getElem_cons_zero];rw [List.getElem?_append_left (by simp [St.cells]; omega)]
  | succ i =>
   simp only [gF,List.getElem_cons_succ];rw [List.getElem?_append_right (by simp [St.cells]; omega)];have e:(i + 1) * 3 + o - s.cells.length=i * 3 + o:=by simp [St.cells]; omega
   rw [e];exact ih i (by simpa using h)
theorem uk (xs:List Dp) (i:Nat) (h:i < xs.length) (o:Nat) (ho:o < 3):(dN xs)[i * 3 + o]?=(xs[i].cells)[o]?:=by
 induction xs generalizing i with
 | nil=>simp at h
 | cons s xs ih =>
  cases i with
  | zero =>
   simp only [dN,Nat.zero_mul,SG,List.getElem_cons_zero];rw [List.getElem?_append_left (by simp [Dp.cells]; omega)]
  | succ i =>
   simp only [dN,List.getElem_cons_succ];rw [List.getElem?_append_right (by simp [Dp.cells]; omega)];have e:(i + 1) * 3 + o - s.cells.length=i * 3 + o:=by simp [Dp.cells]; omega
   rw [e];exact ih i (by simpa using h)
theorem Em (g j:Nat):(⟨g,0,none⟩:Addr).add j=⟨g,j,none⟩:=by
 unfold Addr.add;by_cases hj:j=0
 ·subst hj; simp
 simp [hj]
theorem OP {w:af} {base:Nat} {t:TypeId} {v:Value} {n:Nat} {xs:List Value} (h:w.ownsRow base t 3 v n xs):∃ ad cp,v=.slice ad n cp∧(n=0 ∨ ∃ g,ad=some ⟨g,0,none⟩∧base≤g∧g < w.heap.size∧∀ (j:Nat) (u:Value),xs[j]?=some u→w.cell? ⟨g,j,none⟩=some u):=by
 have h2:=h;rcases h.2 with ⟨rfl,h0⟩ | ⟨g,cp,cur,rfl,hbg,hg,hnc,-⟩
 ·exact ⟨none,0,by rw [h0],.inl h0⟩
 have hlt:=h2.lt g rfl;refine ⟨_,cp,rfl,.inr ⟨g,rfl,hlt.1,hlt.2,fun j u hu=>?_⟩⟩;have:=h2.cells (g:=g) rfl j u hu;rwa [Em] at this
def AtD (w:World) (b off:Nat) (d:Dp):Prop:=w.cell? ⟨b,off,none⟩=some (.string d.typ)∧w.cell? ⟨b,off + 1,none⟩=some (.string d.rel)∧w.cell? ⟨b,off + 2,none⟩=some (.bool d.neg)
def P8 (w:World) (lo:Nat) (ad:Option Addr) (xs:List Dp):Prop:=xs=[] ∨ ∃ b,ad=some ⟨b,0,none⟩∧lo≤b∧b < w.heap.size∧∀ (i:Nat) (h:i < xs.length),AtD w b (i * 3) xs[i]
theorem Rs {w:af} {base:Nat} {v:Value} {xs:List Dp} (h:w.ownsRow base 210 3 v xs.length (dN xs)):∃ ad cp,v=.slice ad xs.length cp∧P8 w base ad xs:=by
 obtain ⟨ad,cp,e,h0⟩:=OP h;refine ⟨ad,cp,e,?_⟩;rcases h0 with h0 | ⟨g,e1,hb,hg,hc⟩
 ·exact .inl (SA.1 h0)
 refine .inr ⟨g,e1,hb,hg,fun i hi=>⟨?_,?_,?_⟩⟩
 ·exact hc _ _ (by have:=uk xs i hi 0 (by omega); simpa [Dp.cells] using this)
 ·exact hc _ _ (by have:=uk xs i hi 1 (by omega); simpa [Dp.cells] using this)
 exact hc _ _ (by have:=uk xs i hi 2 (by omega); simpa [Dp.cells] using this)
def RX (w:World) (g:Nat) (xs:List St):Prop:=∀ (i:Nat) (h:i < xs.length),Ri w g (i * 3) xs[i]
theorem Rt {w:af} {base:Nat} {v:Value} {xs:List St} (h:w.ownsRow base 145 3 v xs.length (gF xs)):∃ ad cp,v=.slice ad xs.length cp∧(xs.length=0 ∨ ∃ g,ad=some ⟨g,0,none⟩∧base≤g∧g < w.heap.size∧RX w g xs):=by
 obtain ⟨ad,cp,e,h0⟩:=OP h;refine ⟨ad,cp,e,?_⟩;rcases h0 with h0 | ⟨g,e1,hb,hg,hc⟩
 ·exact .inl h0
 refine .inr ⟨g,e1,hb,hg,fun i hi=>⟨?_,?_,?_⟩⟩
 ·exact hc _ _ (by have:=kg xs i hi 0 (by omega); simpa [St.cells] using this)
 ·exact hc _ _ (by have:=kg xs i hi 1 (by omega); simpa [St.cells] using this)
 exact hc _ _ (by have:=kg xs i hi 2 (by omega); simpa [St.cells] using this)
theorem OQ:(prog.info? 145).map (fun i=>(i.zero,i.size,i.bytes))=some (some (.agg #[.string ⟨#[]⟩,.string ⟨#[]⟩,.int .i64 0]),3,40):=by kernel_rfl
def En (ks:List (ByteArray × ByteArray)):List St:=ks.map fun k=>⟨k.1,k.2,0⟩
theorem CK (ks:List (ByteArray × ByteArray)):(En ks).length=ks.length:=by simp [En]
theorem MN (ks:List (ByteArray × ByteArray)) (k:ByteArray × ByteArray):En (ks ++ [k])=En ks ++ [⟨k.1,k.2,0⟩]:=by simp [En]
def cz (rs:List TR) (k:Nat):List (ByteArray × ByteArray):=ak (ag (rs.take k))
def gY (t:TR) (j:Nat):List (ByteArray × ByteArray):=(t.rows.take j).map fun q=>(t.name,q.name)
theorem nN (rs:List TR) (k:Nat) (h:k < rs.length):cz rs (k + 1)=cz rs k ++ gY rs[k] rs[k].rows.length:=by
 unfold cz gY;rw [Sk h,Su];unfold ag ak;rw [List.map_append,List.flatMap_append,List.map_singleton,List.flatMap_singleton];congr 1;simp [jd,TR.p,bZ,RR.p]
theorem qZ (t:TR) (j:Nat) (h:j < t.rows.length):gY t (j + 1)=gY t j ++ [(t.name,t.rows[j].name)]:=by
 unfold gY;rw [Sk h,List.map_append]; rfl
theorem Bg (t:TR) (j:Nat):(gY t j).length≤t.rows.length:=by unfold gY; simp; omega
theorem ul (rs:List TR) (hr:∀ r ∈ rs,r.rows.length≤6) (k:Nat):(cz rs k).length≤k * 6:=by
 induction k with
 | zero=>simp [cz,ag,ak]
 | succ k ih =>
  by_cases h:k < rs.length
  ·rw [nN _ _ h,Sr];have h1:=Bg rs[k] rs[k].rows.length;have h2:=hr rs[k] (Sd h);omega
  have e:rs.take (k + 1)=rs.take k:=by rw [List.take_of_length_le (by omega),List.take_of_length_le (by omega)]
  unfold cz at ih ⊢;rw [e]; omega
open Go.Maps
def RR.sl (q:RR):Value:=.slice q.ad q.rows.length q.cap
def jS (t:ByteArray) (M:ByteArray × ByteArray→Option Value):List RR→ByteArray × ByteArray→Option Value
 | []=>M
 | q::qs=>jS t (jV M (t,q.name) (some q.sl)) qs
def dR (M:ByteArray × ByteArray→Option Value):List TR→ByteArray × ByteArray→Option Value
 | []=>M
 | t::ts=>dR (jS t.name M t.rows) ts
def qo (rs:List TR):ByteArray × ByteArray→Option Value:=dR (fun _=>none) rs
theorem CL (t:dB) (M:ByteArray × ByteArray→Option Value) (xs ys:List RR):jS t M (xs ++ ys)=jS t (jS t M xs) ys:=by
 induction xs generalizing M with
 | nil=>rfl
 | cons q qs ih=>simp only [List.cons_append,jS]; exact ih _
theorem yE (M:ByteArray × ByteArray→Option Value) (xs ys:List TR):dR M (xs ++ ys)=dR (dR M xs) ys:=by
 induction xs generalizing M with
 | nil=>rfl
 | cons q qs ih=>simp only [List.cons_append,dR]; exact ih _
theorem GJ (t:dB) (M:ByteArray × ByteArray→Option Value) (qs:List RR) (j:Nat) (h:j < qs.length):jS t M (qs.take (j + 1))=jV (jS t M (qs.take j)) (t,qs[j].name) (some qs[j].sl):=by
 rw [Sk h,CL]; rfl
theorem CO (M:ByteArray × ByteArray→Option Value) (rs:List TR) (k:Nat) (h:k < rs.length):dR M (rs.take (k + 1))=jS rs[k].name (dR M (rs.take k)) rs[k].rows:=by
 rw [Sk h,yE]; rfl
set_option maxRecDepth 100000 in
theorem vH (ad:Option Addr) (cap:Nat) (rs:List TR) (w:af) (hlen:rs.length≤6) (hs:iN w ad rs) (hrl:∀ r ∈ rs,r.rows.length≤6) (hf:∀ r ∈ rs,r.fits) :
  Calls prog 71 #[.slice ad rs.length cap] w fun e w'=>e=.returned (.map (some w.heap.size))∧aJ dE prog 172 w' w.heap.size 36 (qo rs)∧aa w w':=by
 have HS:=ay hs;have Xp:Hid (∀ r ∈ rs,r.rows.length≤6):=hrl;have Tv:=ay hf;have HM0:Hid (aJ dE prog 172 (w.alloc (.map #[] 0)) w.heap.size 0 (fun _=>none)):=j6 _ _ _ w;have HB0:Hid (aa w (w.alloc (.map #[] 0))):=(Si _ _).alloc (Sj _) _;clear hs hrl hf;have hmm:=@run_makeMap prog;go_enter func71,ntmps71;go_wp2_with fail;go_loopw [11] (fun i wr=>∃ k:Nat,k≤rs.length∧i=.int .i64 k∧Hid (aJ dE prog 172 wr w.heap.size (k * 6) (dR (fun _=>none) (rs.take k)))∧Hid (aa w wr)) (fun i _=>rs.length - (intOf i).toNat);case atStart=>exact ⟨0,Sm _,rfl,HM0,HB0⟩
 clear HM0 HB0 hmm;obtain ⟨k,hk,rfl,HM,HB⟩:=hrel;by_cases hlt:k < rs.length
 ·rcases HS.out.below HB.out with rfl | ⟨b,off,rfl,hb,hr,hok⟩
  ·simp at hlt
  obtain ⟨t0,t1⟩:=hr k hlt;have hk1:=bH k;have hk2:(k:Int) < (rs.length:Int):=by omega
  have h6:rs[k].rows.length≤6:=Xp.out _ (Sd hlt);have z0:rs[k].name.size≤maxLen:=(Tv.out _ (Sd hlt)).1;have TP:Hid (∀ q ∈ rs[k].rows,q.fits):=(Tv.out _ (Sd hlt)).2.2;clear hr hok;obtain ⟨W1,hW1⟩:∃ W1,W1=wr.alloc (.cells #[.string rs[k].name,.slice rs[k].ad rs[k].rows.length rs[k].cap] 78):=⟨_,rfl⟩;have hal:aa wr W1:=by rw [hW1]; exact (Si _ _).alloc (Sj _) _
  have Xq:Hid (aJ dE prog 172 W1 w.heap.size (k * 6) (dR (fun _=>none) (rs.take k))):=HM.out.below hal;have HB1:=jb HB hal;have TW:Hid (wr.heap.size < W1.heap.size∧W1.cell? ⟨wr.heap.size,0,none⟩=some (.string rs[k].name)):=⟨by rw [hW1]; simp,by rw [hW1]; simp⟩;have hgw:w.heap.size < wr.heap.size:=HM.out.lt;clear HM hal;go_wp2_with fail;rw [← hW1];clear hW1 t0 t1 HB;obtain ⟨wo,hwo⟩:∃ wo,wo=wr:=⟨_,rfl⟩;subst hwo;go_loopw [18] (fun i w2=>∃ j:Nat,j≤rs[k].rows.length∧i=.int .i64 j∧Hid (aJ dE prog 172 w2 w.heap.size (k * 6 + j) (jS rs[k].name (dR (fun _=>none) (rs.take k)) (rs[k].rows.take j)))∧Hid (aa w w2)∧Hid (wo.heap.size < w2.heap.size∧w2.cell? ⟨wo.heap.size,0,none⟩=some (.string rs[k].name))) (fun i _=>rs[k].rows.length - (intOf i).toNat);case atStart=>exact ⟨0,Sm _,rfl,Xq,HB1,TW⟩
  clear Xq HB1 TW;obtain ⟨j,hj,rfl,HM,HB,HC⟩:=hrel;by_cases hjl:j < rs[k].rows.length
  ·rcases HS.out.below HB.out with hnil | ⟨b',off',he,hb2,hr,hok⟩
   ·rw [hnil] at hlt; simp at hlt
   injection he with he; injection he with he1 he2; subst he1; subst he2;have ok:=hok rs[k] (Sd hlt);rcases ok with hnil | ⟨b2,TY,had,hbb,hr2,-⟩
   ·rw [hnil] at hjl; simp at hjl
   obtain ⟨q0,q1⟩:=hr2 j hjl;have z1:rs[k].rows[j].name.size≤maxLen:=(TP.out _ (Sd hjl)).1;have hj1:=bH j;have hj2:(j:Int) < (rs[k].rows.length:Int):=by omega
   obtain ⟨kl,hkl⟩:=jB (rs[k].name,rs[k].rows[j].name) z0 z1;have UY:Hid (keyOf prog 172 (dE (rs[k].name,rs[k].rows[j].name))=some kl):=hkl;obtain ⟨W2,hW2⟩:∃ W2,W2=wr.alloc (.cells #[.string rs[k].rows[j].name,.slice rs[k].rows[j].ad rs[k].rows[j].rows.length rs[k].rows[j].cap] 122):=⟨_,rfl⟩;have hal:aa wr W2:=by rw [hW2]; exact (Si _ _).alloc (Sj _) _
   have UT:Hid (aJ dE prog 172 W2 w.heap.size (k * 6 + j) (jS rs[k].name (dR (fun _=>none) (rs.take k)) (rs[k].rows.take j))):=HM.out.below hal;have HB2:=jb HB hal;have hc1:=aK hal HC.out.1 HC.out.2;have Tx:Hid (wo.heap.size < W2.heap.size∧W2.cell? ⟨wo.heap.size,0,none⟩=some (.string rs[k].name)):=⟨Sg HC.out.1 hal.size,hc1⟩;have g0:W2.cell? ⟨wr.heap.size,0,none⟩=some (.string rs[k].rows[j].name):=by rw [hW2]; simp
   have g1:W2.cell? ⟨wr.heap.size,1,none⟩=some (.slice rs[k].rows[j].ad rs[k].rows[j].rows.length rs[k].rows[j].cap):=by rw [hW2]; simp
   have hsz:wo.heap.size < wr.heap.size:=HC.out.1;have hc0:=HC.out.2;rw [had];clear hr hok hr2 hkl HM hal HC;go_wp2_with (first | (at_mapUpdate; rw [← hW2]; refine jr _ rfl _ _ _ 127 rfl 172 120 ig rG underlying127 w.heap.size (k * 6 + j) _ rfl UT.out (by unfold maxLen; omega) (rs[k].name,rs[k].rows[j].name) kl rfl UY.out _ rfl ?_; intro w3 UH hg3) | go_in);have HM4:Hid (aJ dE prog 172 w3 w.heap.size (k * 6 + (j + 1)) (jS rs[k].name (dR (fun _=>none) (rs.take k)) (rs[k].rows.take (j + 1)))):=by
    show aJ _ _ _ _ _ _ _;rw [GJ _ _ _ _ hjl]; exact UH
   have TA:Hid (aa w w3):=HB2.out.grown hg3 HB2.out.size (fun i hi=>by injection hi with hi; omega);have Yb:Hid (wo.heap.size < w3.heap.size∧w3.cell? ⟨wo.heap.size,0,none⟩=some (.string rs[k].name)):=⟨Sg Tx.out.1 hg3.size,by rw [hg3.cell_far _ Tx.out.1 (by simp; omega)]; exact Tx.out.2⟩;clear UH hg3 hW2 UT HB2 Tx g0 g1 q0 q1 hc0 hc1;go_wp2;go_roundw;case rel=>exact ⟨j + 1,by omega,by go_num,HM4,TA,Yb⟩
   simp [intOf] <;> omega
  obtain rfl:j=rs[k].rows.length:=by omega
  have HM4:Hid (aJ dE prog 172 wr w.heap.size ((k + 1) * 6) (dR (fun _=>none) (rs.take (k + 1)))):=by
   show aJ _ _ _ _ _ _ _;have:=HM.out;rw [Su] at this;rw [CO _ _ _ hlt]; exact this.mono (by omega)
  clear HM;go_wp2;go_roundw;case rel=>exact ⟨k + 1,by omega,by go_num,HM4,HB⟩
  simp [intOf] <;> omega
 obtain rfl:k=rs.length:=by omega
 have HM4:Hid (aJ dE prog 172 wr w.heap.size 36 (qo rs)):=by
  show aJ _ _ _ _ _ _ _;have:=HM.out;rw [Su] at this;exact this.mono (by omega)
 go_wp2;go_ret;exact ⟨rfl,HM4.out,HB.out⟩
end Go.Proofs.YtdmniljjnaebbaaGreatDoor
