/- Strata in plain words: what they must keep, the least ones, and that they are few. Nothing of the program is read here. -/
import Derived.Test.YtajkkeikihhejaaGreatJ7
import Derived.Test.YtajkkeikihhejaaGreatJ4
namespace Go.Proofs.YtajkkeikihhejaaGreat
open Pl
theorem fI {a b:ByteArray} (h:a.toList=b.toList):a=b:=by
 rw [Go.ByteArray.toList_eq,Go.ByteArray.toList_eq] at h;cases a with | mk x=>cases b with | mk y =>
 congr;exact Array.ext' h
theorem fo {a b:ByteArray}:(a.toList == b.toList)=true ↔ a=b:=⟨fun h=>fI (by simpa using h),fun h=>by simp [h]⟩
def jF (t:Ty):List (ByteArray × ByteArray):=t.rels.map fun r=>(t.name,r.name)
def ak (ts:List Ty):List (ByteArray × ByteArray):=ts.flatMap jF
def stepOf (d:Dp):Int:=if d.neg then 1 else 0
def il (ts:List Ty) (k:ByteArray × ByteArray):List Dp:=pR ts k.1 (aA ts k.1 k.2)
structure Sol (ts:List Ty) (f:ByteArray × ByteArray→Int):Prop where
 pos:∀ k,0≤f k
 up:∀ k ∈ ak ts,∀ d ∈ il ts k,f (d.typ,d.rel) + stepOf d≤f k
def Found (ts:List Ty):Prop:=∀ k ∈ ak ts,∀ d ∈ il ts k,(d.typ,d.rel) ∈ ak ts
theorem xB (vs:List Int) (x y:Int) (h:x≤y):vs.countP (fun v=>decide (v < x))≤vs.countP (fun v=>decide (v < y)) :=
 List.countP_mono_left fun v _ hv=>by simp at hv ⊢; omega
theorem K9 (vs:List Int) (x y:Int) (h:x + 1≤y) (hx:x ∈ vs):vs.countP (fun v=>decide (v < x)) + 1≤vs.countP (fun v=>decide (v < y)):=by
 induction vs with
 | nil=>cases hx
 | cons v vs ih =>
  simp only [List.countP_cons];rcases List.mem_cons.1 hx with rfl | hm
  ·have:=xB vs x y (by omega);have h1:decide (x < x)=false:=by simp
   have h2:decide (x < y)=true:=by simp; omega
   simp only [h1,h2]; simp; omega
  have:=ih hm;by_cases h1:v < x
  ·have h2:v < y:=by omega
   simp [h1,h2]; omega
  simp only [h1]; simp; omega
theorem Il (vs:List Int) (x:Int) (hx:x ∈ vs):vs.countP (fun v=>decide (v < x)) + 1≤vs.length:=by
 induction vs with
 | nil=>cases hx
 | cons v vs ih =>
  simp only [List.countP_cons,List.length_cons];rcases List.mem_cons.1 hx with rfl | hm
  ·have:=List.countP_le_length (p:=fun v=>decide (v < x)) (l:=vs);have h1:decide (x < x)=false:=by simp
   simp only [h1]; simp; omega
  have:=ih hm;split <;> omega
theorem Sol.few {ts:List Ty} {f:ByteArray × ByteArray→Int} (h:Sol ts f) (hF:Found ts):∃ g,Sol ts g∧∀ k ∈ ak ts,g k + 1≤(ak ts).length:=by
 refine ⟨fun k=>((((ak ts).map f).countP (fun v=>decide (v < f k)):Nat):Int),⟨fun k=>by omega,fun k hk d hd=>?_⟩,fun k hk=>?_⟩
 ·have h1:=h.up k hk d hd;have h2:f (d.typ,d.rel) ∈ (ak ts).map f:=List.mem_map_of_mem (hF k hk d hd);unfold stepOf at h1 ⊢;split at h1
  ·rename_i hn;have:=K9 ((ak ts).map f) _ _ h1 h2;simp only [hn,if_true]; omega
  rename_i hn;have:=xB ((ak ts).map f) _ _ (show f (d.typ,d.rel)≤f k by omega);have e0:(if d.neg=true then (1:Int) else 0)=0:=if_neg hn;rw [e0]; omega
 have:=Il ((ak ts).map f) (f k) (List.mem_map_of_mem hk);simp at this ⊢; omega
def qz (ts:List Ty) (k:ByteArray × ByteArray) (n:Int):Prop:=∀ f,Sol ts f→n≤f k
theorem Im {ts:List Ty} (hF:Found ts) {k:ByteArray × ByteArray} (hk:k ∈ ak ts) {n:Int} (hl:qz ts k n) (hn:((ak ts).length:Int)≤n):¬ ∃ f,Sol ts f:=by
 rintro ⟨f,hf⟩;obtain ⟨g,hg,hb⟩:=hf.few hF;have:=hl g hg;have:=hb k hk;omega
theorem qz.step {ts:List Ty} {k:ByteArray × ByteArray} (hk:k ∈ ak ts) {d:Dp} (hd:d ∈ il ts k) {n:Int} (hl:qz ts (d.typ,d.rel) n):qz ts k (n + stepOf d):=fun f hf=>by
 have h1:=hl f hf;have h2:=hf.up k hk d hd;omega
theorem qz.zero (ts:List Ty) (k:ByteArray × ByteArray):qz ts k 0:=fun _ hf=>hf.pos k
structure Least (ts:List Ty) (f:ByteArray × ByteArray→Int):Prop where
 sol:Sol ts f
 low:∀ k ∈ ak ts,qz ts k (f k)
theorem Least.same {ts:List Ty} {f g:ByteArray × ByteArray→Int} (hf:Least ts f) (hg:Least ts g) (k:ByteArray × ByteArray) (hk:k ∈ ak ts):f k=g k:=by
 have h1:=hf.low k hk g hg.sol;have h2:=hg.low k hk f hf.sol;omega
def St.key (s:St):ByteArray × ByteArray:=(s.typ,s.rel)
def iE (out:List St):List (ByteArray × ByteArray):=out.map St.key
theorem qA {s:St} {k:ByteArray × ByteArray}:zB s k.1 k.2=true ↔ s.key=k:=by
 unfold zB St.key;rw [TU,fo,fo];constructor
 ·rintro ⟨h1,h2⟩; rw [h1,h2]
 rintro rfl; exact ⟨rfl,rfl⟩
def fO (out:List St) (k:ByteArray × ByteArray):Int :=
 match out with
 | []=>0
 | s::xs=>if zB s k.1 k.2 then s.n else fO xs k
theorem oV {k:ByteArray × ByteArray}:∀ (out:List St) (j:Nat),k ∈ iE out→∃ i:Nat,∃ h:i < out.length,gP k.1 k.2 out j=((j + i:Nat):Int)∧out[i].key=k∧out[i].n=fO out k
 | [],_,h=>by cases h
 | s::xs,j,h=>by
  by_cases hs:zB s k.1 k.2=true
  ·exact ⟨0,by simp,by simp [gP,hs],qA.1 hs,by simp [fO,hs]⟩
  have hm:k ∈ iE xs:=by
   rcases List.mem_cons.1 h with e | hm
   ·exact absurd (qA.2 e.symm) hs
   exact hm
  obtain ⟨i,hi,h1,h2,h3⟩:=oV xs (j + 1) hm;refine ⟨i + 1,by simp; omega,?_,by simpa using h2,by simpa [fO,hs] using h3⟩;simp only [gP,hs];simp only [Bool.false_eq_true,if_false];rw [h1]; congr 1; omega
theorem Cx {k:ByteArray × ByteArray} (out:List St) (h:k ∈ iE out):∃ s ∈ out,s.key=k∧s.n=fO out k:=by
 obtain ⟨i,hi,-,h2,h3⟩:=oV out 0 h;exact ⟨out[i],TQ hi,h2,h3⟩
theorem N7 {k:ByteArray × ByteArray} (out:List St) (h:k ∉ iE out):fO out k=0:=by
 induction out with
 | nil=>rfl
 | cons s xs ih =>
  have h1:¬ zB s k.1 k.2=true:=fun e=>h (by rw [qA] at e; simp [iE,e]);simp only [fO,h1];simp only [Bool.false_eq_true,if_false];exact ih fun hm=>h (by simp only [iE,List.map_cons,List.mem_cons]; exact .inr hm)
def mG:List St→Int
 | []=>0
 | s::xs=>s.n + mG xs
theorem N8 (out:List St) (i:Nat) (h:i < out.length) (n:Int):mG (out.set i ⟨out[i].typ,out[i].rel,n⟩)=mG out - out[i].n + n:=by
 induction out generalizing i with
 | nil=>simp at h
 | cons s xs ih =>
  cases i with
  | zero=>simp [mG]; omega
  | succ i=>simp only [List.set_cons_succ,mG,List.getElem_cons_succ]; rw [ih i (by simpa using h)]; omega
theorem La (out:List St) (i:Nat) (h:i < out.length) (n:Int):iE (out.set i ⟨out[i].typ,out[i].rel,n⟩)=iE out:=by
 unfold iE;rw [List.map_set];show (List.map St.key out).set i (out[i].key)=_;have:out[i].key=(List.map St.key out)[i]'(by simpa using h):=by simp
 rw [this,List.set_getElem_self]
structure Round (ts:List Ty) (out:List St):Prop where
 keys:iE out=ak ts
 pos:∀ s ∈ out,0≤s.n
 low:∀ s ∈ out,qz ts s.key s.n
def Qp (ts:List Ty) (out:List St) (s:St) (k:Nat):Prop:=∀ d ∈ (il ts s.key).take k,fO out (d.typ,d.rel) + stepOf d≤s.n
theorem Round.mem {ts:List Ty} {out:List St} (h:Round ts out) {s:St} (hs:s ∈ out):s.key ∈ ak ts:=by rw [← h.keys]; exact List.mem_map_of_mem hs
theorem Round.at {ts:List Ty} {out:List St} (h:Round ts out) {k:ByteArray × ByteArray} (hk:k ∈ ak ts):0≤fO out k∧qz ts k (fO out k):=by
 obtain ⟨s,hs,e,en⟩:=Cx out (by rw [h.keys]; exact hk);rw [← en,← e];exact ⟨h.pos s hs,h.low s hs⟩
theorem Round.set {ts:List Ty} {out:List St} (h:Round ts out) (hF:Found ts) {i:Nat} (hi:i < out.length) {d:Dp} (hd:d ∈ il ts out[i].key):Round ts (out.set i ⟨out[i].typ,out[i].rel,fO out (d.typ,d.rel) + stepOf d⟩):=by
 have hk:out[i].key ∈ ak ts:=h.mem (TQ hi);have hdk:=hF _ hk d hd;obtain ⟨h0,hl⟩:=h.at hdk;have hs0:0≤stepOf d:=by unfold stepOf; split <;> omega
 refine ⟨(La out i hi _).trans h.keys,fun s hs=>?_,fun s hs=>?_⟩
 ·rcases List.mem_or_eq_of_mem_set hs with hs | rfl
  ·exact h.pos s hs
  show 0≤fO out (d.typ,d.rel) + stepOf d; omega
 rcases List.mem_or_eq_of_mem_set hs with hs | rfl
 ·exact h.low s hs
 exact hl.step hk hd
theorem Round.done {ts:List Ty} {out:List St} (h:Round ts out) (hs:∀ s ∈ out,Qp ts out s (il ts s.key).length):Least ts (fO out) where
 sol:=⟨fun k=>by
   by_cases hk:k ∈ ak ts
   ·exact (h.at hk).1
   ·rw [N7 out (by rw [h.keys]; exact hk)]; exact Int.le_refl _,fun k hk d hd=>by
   obtain ⟨s,hm,e,en⟩:=Cx out (by rw [h.keys]; exact hk);have:=hs s hm d (by rw [Ug,e]; exact hd);rw [← en]; exact this⟩
 low k hk:=(h.at hk).2
def je (a b:ByteArray):Bool:=Op.bytesLess a.toList b.toList
def l6 (rs:List Rl) (j:Nat):Bool :=
 match rs[j]? with
 | none=>true
 | some r=>aP r.name && (match j with | 0=>true | i + 1=>(rs[i]?.map fun p=>je p.name r.name).getD true) && aK r.expr
def dG (rs:List Rl):Nat→Bool
 | 0=>true
 | k + 1=>dG rs k && l6 rs k
def kv (ts:List Ty) (j:Nat):Bool :=
 match ts[j]? with
 | none=>true
 | some t=>aP t.name && (match j with | 0=>true | i + 1=>(ts[i]?.map fun p=>je p.name t.name).getD true) && decide (t.rels.length≤6) && dG t.rels t.rels.length
def iK (ts:List Ty):Nat→Bool
 | 0=>true
 | k + 1=>iK ts k && kv ts k
theorem sW (rs:List Rl) (k:Nat) (hb:l6 rs k=false):∀ n,k < n→dG rs n=false
 | 0,hn=>by omega
 | n + 1,hn=>by
  by_cases e:n=k
  ·subst e; simp [dG,hb]
  simp [dG,sW rs k hb n (by omega)]
theorem sZ (ts:List Ty) (k:Nat) (hb:kv ts k=false):∀ n,k < n→iK ts n=false
 | 0,hn=>by omega
 | n + 1,hn=>by
  by_cases e:n=k
  ·subst e; simp [iK,hb]
  simp [iK,sZ ts k hb n (by omega)]
theorem oW {rs:List Rl}:∀ {n:Nat},dG rs n=true→∀ j,j < n→l6 rs j=true
 | 0,_,j,hj=>by omega
 | n + 1,h,j,hj=>by
  simp only [dG,TU] at h;by_cases e:j=n
  ·subst e; exact h.2
  exact oW h.1 j (by omega)
theorem oZ {ts:List Ty}:∀ {n:Nat},iK ts n=true→∀ j,j < n→kv ts j=true
 | 0,_,j,hj=>by omega
 | n + 1,h,j,hj=>by
  simp only [iK,TU] at h;by_cases e:j=n
  ·subst e; exact h.2
  exact oZ h.1 j (by omega)
def bf (ts:List Ty):Bool:=decide (ts.length≤6) && iK ts ts.length
def qB (ts:List Ty) (t:Ty):Bool:=t.rels.all fun r=>aR ts t.name r.expr
def iD (ts:List Ty):Bool:=ts.all (qB ts)
def bR (ts:List Ty):Prop:=bf ts=true∧iD ts=true∧∃ f,Sol ts f
theorem Lb {rs:List Rl} {n:ByteArray} {es:List Ex} (h:jN rs n=some es):∃ r ∈ rs,r.name=n∧r.expr=es:=by
 induction rs with
 | nil=>simp [jN] at h
 | cons r rs ih =>
  simp only [jN] at h;split at h
  ·rename_i hn; injection h with h; exact ⟨r,by simp,fo.1 hn,h⟩
  obtain ⟨q,hq,e⟩:=ih h; exact ⟨q,by simp [hq],e⟩
theorem qC {ts:List Ty} {ty n:ByteArray} {es:List Ex} (h:fH ts ty n=some es):∃ t ∈ ts,∃ r ∈ t.rels,t.name=ty∧r.name=n∧r.expr=es:=by
 induction ts with
 | nil=>simp [fH] at h
 | cons t ts ih =>
  simp only [fH] at h;split at h
  ·rename_i hn;rcases Option.or_eq_some_iff.1 h with h | ⟨-,h⟩
   ·obtain ⟨r,hr,e⟩:=Lb h; exact ⟨t,by simp,r,hr,fo.1 hn,e⟩
   obtain ⟨t',ht,e⟩:=ih h; exact ⟨t',by simp [ht],e⟩
  obtain ⟨t',ht,e⟩:=ih h; exact ⟨t',by simp [ht],e⟩
theorem qD {ts:List Ty} {k:ByteArray × ByteArray}:k ∈ ak ts ↔ ∃ t ∈ ts,∃ r ∈ t.rels,k=(t.name,r.name):=by
 simp only [ak,jF,Uf,Ue];constructor
 ·rintro ⟨t,ht,r,hr,e⟩; exact ⟨t,ht,r,hr,e.symm⟩
 rintro ⟨t,ht,r,hr,e⟩; exact ⟨t,ht,r,hr,e.symm⟩
theorem ru {ts:List Ty} {ty n:ByteArray} (h:(aA ts ty n).isEmpty=false):(ty,n) ∈ ak ts:=by
 unfold aA at h;cases e:fH ts ty n with
 | none=>rw [e] at h; simp at h
 | some es =>
  obtain ⟨t,ht,r,hr,h1,h2,-⟩:=qC e;exact qD.2 ⟨t,ht,r,hr,by rw [h1,h2]⟩
theorem Sd {ts:List Ty} {rel:ByteArray} {xs:List Al} {g:ByteArray} (h:g ∈ gl ts rel xs):(aA ts g rel).isEmpty=false:=by
 induction xs with
 | nil=>simp [gl] at h
 | cons a xs ih =>
  simp only [gl] at h;split at h
  ·exact ih h
  rename_i hn;rcases List.mem_cons.1 h with rfl | h
  ·simpa using hn
  exact ih h
theorem Lc {neg:Bool} {xs:List Al} {d:Dp} (h:d ∈ df neg xs):∃ a ∈ xs,a.s.toList.isEmpty=false∧d.typ=a.t∧d.rel=a.s:=by
 induction xs with
 | nil=>simp [df] at h
 | cons a xs ih =>
  simp only [df] at h;split at h
  ·obtain ⟨b,hb,e⟩:=ih h; exact ⟨b,by simp [hb],e⟩
  rename_i hn;rcases List.mem_cons.1 h with rfl | h
  ·exact ⟨a,by simp,by simpa using hn,rfl,rfl⟩
  obtain ⟨b,hb,e⟩:=ih h; exact ⟨b,by simp [hb],e⟩
theorem tq {ts:List Ty} {typ:ByteArray} {es:List Ex} {d:Dp}:∀ {k:Nat},d ∈ aN ts typ es k→∃ i,i < k∧d ∈ ik ts typ es i
 | 0,h=>by simp [aN] at h
 | k + 1,h=>by
  simp only [aN] at h;rcases Uc.1 h with h | h
  ·obtain ⟨i,hi,e⟩:=tq h; exact ⟨i,by omega,e⟩
  exact ⟨k,by omega,h⟩
theorem Cy {ts:List Ty} {typ:ByteArray} {es:List Ex} (h:aR ts typ es=true):∀ e ∈ es,oQ ts e.allow=true∧lh ts typ e=true:=by
 induction es with
 | nil=>intro e he; cases he
 | cons e es ih =>
  simp only [aR] at h;split at h
  ·rename_i hn;rw [TU] at hn;intro q hq;rcases List.mem_cons.1 hq with rfl | hq
   ·exact hn
   exact ih h q hq
  cases h
theorem kw {ts:List Ty} (h:iD ts=true):Found ts:=by
 intro k hk d hd;unfold il pR at hd;have hne:(aA ts k.1 k.2).length ≠ 0:=by
  intro e;rw [e] at hd; simp [aN] at hd
 obtain ⟨es,hes⟩:∃ es,fH ts k.1 k.2=some es:=by
  cases e:fH ts k.1 k.2 with
  | none=>unfold aA at hne; rw [e] at hne; simp at hne
  | some es=>exact ⟨es,rfl⟩
 have ero:aA ts k.1 k.2=es:=by unfold aA; rw [hes]; rfl
 rw [ero] at hd;obtain ⟨t,ht,r,hr,h1,h2,h3⟩:=qC hes;have hr1:aR ts k.1 es=true:=by
  unfold iD at h;rw [Ub] at h;have:=h t ht;unfold qB at this;rw [Ub] at this;have:=this r hr;rw [h1,h3] at this;exact this
 obtain ⟨i,hi,hdi⟩:=tq hd;unfold ik at hdi;split at hdi
 ·cases hdi
 rename_i e he;obtain ⟨ra,rn⟩:=Cy hr1 e (List.mem_of_getElem? he);rcases Uc.1 hdi with hdi | hdi
 ·obtain ⟨a,ha,hs,e1,e2⟩:=Lc hdi;unfold oQ at ra;rw [Ub] at ra;have:=ra a ha;unfold pQ at this;rw [hs,Bool.false_or,TU] at this;rw [e1,e2];exact ru (by simpa using this.2)
 unfold kM at hdi;unfold lh at rn;split at hdi
 ·rename_i h2;rw [if_pos h2] at rn;simp at hdi;subst hdi;exact ru (by simpa using rn)
 split at hdi
 ·obtain ⟨g,hg,rfl⟩:=Ue.1 hdi;exact ru (Sd hg)
 cases hdi
theorem lm {es:List Ex} (h:aK es=true):1≤es.length∧es.length≤15:=by
 simp only [aK,TU,Ud] at h;exact ⟨h.1.1.1.1.1,h.1.1.1.1.2⟩
theorem Ld {es:List Ex} (h:aK es=true) (i:Nat) (hi:i < es.length):dV es.length es[i].kids:=by
 simp only [aK,TU,Ud] at h;have h1:=h.1.1.2;unfold iY at h1;rw [Ub] at h1;have h2:=h1 i (by simpa using hi);unfold kH dC at h2;rw [TY hi] at h2;simp only [Option.map_some,Option.getD_some,Ub,TU,Ud] at h2;intro x hx;have:=h2 x hx;omega
theorem bq {rs:List TR} (h:bf (ae rs)=true):rs.length≤6∧(∀ r ∈ rs,r.rows.length≤6)∧∀ r ∈ rs,∀ q ∈ r.rows,aK (aj q.rows)=true∧q.rows.length≤15∧∀ e ∈ q.rows,dV q.rows.length e.e.kids:=by
 simp only [bf,TU,Ud] at h;rw [kX] at h;have hT:∀ r ∈ rs,r.rows.length≤6∧dG (eD r.rows) r.rows.length=true:=by
  intro r hr;obtain ⟨j,hj,rfl⟩:=List.mem_iff_getElem.1 hr;have h1:=oZ h.2 j hj;unfold kv at h1;have e:(ae rs)[j]?=some rs[j].p:=by simp [ae,hj]
  rw [e] at h1;simp only [TU,Ud] at h1;have e2:rs[j].p.rels.length=rs[j].rows.length:=by simp [TR.p,eD]
  rw [e2] at h1;exact ⟨h1.1.2,h1.2⟩
 refine ⟨h.1,fun r hr=>(hT r hr).1,fun r hr q hq=>?_⟩;obtain ⟨j,hj,rfl⟩:=List.mem_iff_getElem.1 hq;have h1:=oW (hT r hr).2 j hj;unfold l6 at h1;have e:(eD r.rows)[j]?=some r.rows[j].p:=by simp [eD,hj]
 rw [e] at h1;simp only [TU] at h1;have h2:aK (aj r.rows[j].rows)=true:=h1.2;have h3:=lm h2;rw [aT] at h3;refine ⟨h2,h3.2,fun e he=>?_⟩;obtain ⟨i,hi,rfl⟩:=List.mem_iff_getElem.1 he;have:=Ld h2 i (by rw [aT]; exact hi);have e1:(aj r.rows[j].rows)[i]'(by rw [aT]; exact hi)=r.rows[j].rows[i].e:=by simp [aj]
 rw [e1] at this;simpa [aj] using this
def assigns (n:Nat):List (ByteArray × ByteArray)→List (ByteArray × ByteArray→Int)
 | []=>[fun _=>0]
 | k::ks=>(assigns n ks).flatMap fun f=>(List.range n).map fun v=>fun y=>if y=k then ((v:Nat):Int) else f y
theorem xC {n:Nat}:∀ {ks:List (ByteArray × ByteArray)} {f:ByteArray × ByteArray→Int},f ∈ assigns n ks→∀ k,0≤f k
 | [],f,h,k=>by simp only [assigns,Ua] at h; rw [h]; exact Int.le_refl _
 | x::ks,f,h,k=>by
  simp only [assigns,Uf,Ue] at h;obtain ⟨g,hg,v,-,rfl⟩:=h;show 0≤(if k=x then ((v:Nat):Int) else g k);split
  ·omega
  exact xC hg k
theorem xD {n:Nat} (g:ByteArray × ByteArray→Int):∀ (ks:List (ByteArray × ByteArray)),(∀ k ∈ ks,0≤g k∧g k < n)→∃ f ∈ assigns n ks,∀ k ∈ ks,f k=g k
 | [],_=>⟨fun _=>0,by simp [assigns],fun k hk=>by cases hk⟩
 | x::ks,h=>by
  obtain ⟨f,hf,hfg⟩:=xD g ks fun k hk=>h k (Uq _ hk);obtain ⟨h0,h1⟩:=h x (Us ..);refine ⟨fun y=>if y=x then (((g x).toNat:Nat):Int) else f y,?_,fun k hk=>?_⟩
  ·simp only [assigns,Uf,Ue];exact ⟨f,hf,(g x).toNat,List.mem_range.2 (by omega),rfl⟩
  show (if k=x then (((g x).toNat:Nat):Int) else f k)=g k;by_cases e:k=x
  ·rw [if_pos e,e]; omega
  rw [if_neg e];rcases List.mem_cons.1 hk with h2 | h2
  ·exact absurd h2 e
  exact hfg k h2
def Sg (ts:List Ty) (f:ByteArray × ByteArray→Int):Bool:=(ak ts).all fun k=>(il ts k).all fun d=>decide (f (d.typ,d.rel) + stepOf d≤f k)
theorem Kk {ts:List Ty} {f:ByteArray × ByteArray→Int}:Sg ts f=true ↔ ∀ k ∈ ak ts,∀ d ∈ il ts k,f (d.typ,d.rel) + stepOf d≤f k:=by
 unfold Sg; simp only [Ub,Ud]
def zC (ts:List Ty):List (ByteArray × ByteArray→Int):=(assigns (ak ts).length (ak ts)).filter (Sg ts)
theorem Le {ts:List Ty} {f:ByteArray × ByteArray→Int} (h:f ∈ zC ts):Sol ts f:=by
 unfold zC at h;rw [Ux] at h;exact ⟨xC h.1,Kk.1 h.2⟩
theorem N9 {ts:List Ty} {g:ByteArray × ByteArray→Int} (hF:Found ts) (h:Sol ts g) (hb:∀ k ∈ ak ts,g k + 1≤(ak ts).length):∃ f ∈ zC ts,∀ k ∈ ak ts,f k=g k:=by
 obtain ⟨f,hf,hfg⟩:=xD (n:=(ak ts).length) g (ak ts) fun k hk=>⟨h.pos k,by have:=hb k hk; omega⟩;refine ⟨f,?_,hfg⟩;unfold zC;rw [Ux];refine ⟨hf,Kk.2 fun k hk d hd=>?_⟩;rw [hfg k hk,hfg _ (hF k hk d hd)];exact h.up k hk d hd
def aJ (ts:List Ty):Bool:=bf ts && iD ts && !(zC ts).isEmpty
theorem aY {ts:List Ty}:aJ ts=true ↔ bR ts:=by
 unfold aJ bR;simp only [TU,Bool.not_eq_true'];constructor
 ·rintro ⟨⟨h1,h2⟩,h3⟩;refine ⟨h1,h2,?_⟩;cases e:zC ts with
  | nil=>rw [e] at h3; cases h3
  | cons f fs=>exact ⟨f,Le (by rw [e]; exact Us ..)⟩
 rintro ⟨h1,h2,f,hf⟩;refine ⟨⟨h1,h2⟩,?_⟩;obtain ⟨g,hg,hb⟩:=hf.few (kw h2);obtain ⟨f2,hf2,-⟩:=N9 (kw h2) hg hb;cases e:zC ts with
 | nil=>rw [e] at hf2; cases hf2
 | cons f fs=>rfl
theorem xE {ts:List Ty} (h:bR ts):aJ ts=true:=aY.2 h
theorem dM {ts:List Ty} (h:¬ bR ts):aJ ts=false:=by
 cases e:aJ ts;case false=>rfl
 exact absurd (aY.1 e) h
end Go.Proofs.YtajkkeikihhejaaGreat
