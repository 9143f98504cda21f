/- Strata in plain words: what they must keep, the least ones, and that they are few. Nothing of the program is read here. -/
import Derived.Test.YtajkkeikihhejaaGreatSq
import Derived.Test.YtajkkeikihhejaaGreatJ9
import Derived.Test.YtajkkeikihhejaaGreatJ11
import Derived.Test.YtajkkeikihhejaaGreatJ12
import Derived.Sort.Statements
open Go.Proofs.Tryz
set_option maxHeartbeats 80000000
namespace Go.Proofs.YtajkkeikihhejaaGreat
open Pl
theorem fJ {a b:ByteArray} (h:a.toList=b.toList):a=b:=by
 rw [Go.ByteArray.toList_eq,Go.ByteArray.toList_eq] at h;cases a with | mk x=>cases b with | mk y =>
 congr;exact Array.ext' h
theorem fo {a b:ByteArray}:(a.toList == b.toList)=true ↔ a=b:=⟨fun h=>fJ (by simpa using h),fun h=>by simp [h]⟩
def jG (t:Ty):List (ByteArray × ByteArray):=t.rels.map fun r=>(t.name,r.name)
def ak (ts:List Ty):List (ByteArray × ByteArray):=ts.flatMap jG
def stepOf (d:Dp):Int:=if d.neg then 1 else 0
def il (ts:List Ty) (k:ByteArray × ByteArray):List Dp:=pR ts k.1 (aA ts k.1 k.2)
structure Sol (ts:List Ty) (f:ByteArray × ByteArray→Int):Prop where
 pos:∀ k,0≤f k
 up:∀ k ∈ ak ts,∀ d ∈ il ts k,f (d.typ,d.rel) + stepOf d≤f k
def Found (ts:List Ty):Prop:=∀ k ∈ ak ts,∀ d ∈ il ts k,(d.typ,d.rel) ∈ ak ts
theorem xB (vs:List Int) (x y:Int) (h:x≤y):vs.countP (fun v=>decide (v < x))≤vs.countP (fun v=>decide (v < y)) :=
 List.countP_mono_left fun v _ hv=>by simp at hv ⊢; omega
theorem Lf (vs:List Int) (x y:Int) (h:x + 1≤y) (hx:x ∈ vs):vs.countP (fun v=>decide (v < x)) + 1≤vs.countP (fun v=>decide (v < y)):=by
 induction vs with
 | nil=>cases hx
 | cons v vs ih =>
  simp only [List.countP_cons];rcases List.mem_cons.1 hx with rfl | hm
  ·have:=xB vs x y (by omega);have h1:decide (x < x)=false:=by simp
   have h2:decide (x < y)=true:=by simp; omega
   simp only [h1,h2]; simp; omega
  have:=ih hm;by_cases h1:v < x
  ·have h2:v < y:=by omega
   simp [h1,h2]; omega
  simp only [h1]; simp; omega
theorem IB (vs:List Int) (x:Int) (hx:x ∈ vs):vs.countP (fun v=>decide (v < x)) + 1≤vs.length:=by
 induction vs with
 | nil=>cases hx
 | cons v vs ih =>
  simp only [List.countP_cons,List.length_cons];rcases List.mem_cons.1 hx with rfl | hm
  ·have:=List.countP_le_length (p:=fun v=>decide (v < x)) (l:=vs);have h1:decide (x < x)=false:=by simp
   simp only [h1]; simp; omega
  have:=ih hm;split <;> omega
theorem Sol.few {ts:List Ty} {f:ByteArray × ByteArray→Int} (h:Sol ts f) (hF:Found ts):∃ g,Sol ts g∧∀ k ∈ ak ts,g k + 1≤(ak ts).length:=by
 refine ⟨fun k=>((((ak ts).map f).countP (fun v=>decide (v < f k)):Nat):Int),⟨fun k=>by omega,fun k hk d hd=>?_⟩,fun k hk=>?_⟩
 ·have h1:=h.up k hk d hd;have h2:f (d.typ,d.rel) ∈ (ak ts).map f:=List.mem_map_of_mem (hF k hk d hd);unfold stepOf at h1 ⊢;split at h1
  ·rename_i hn;have:=Lf ((ak ts).map f) _ _ h1 h2;simp only [hn,if_true]; omega
  rename_i hn;have:=xB ((ak ts).map f) _ _ (show f (d.typ,d.rel)≤f k by omega);have e0:(if d.neg=true then (1:Int) else 0)=0:=if_neg hn;rw [e0]; omega
 have:=IB ((ak ts).map f) (f k) (List.mem_map_of_mem hk);simp at this ⊢; omega
def qB (ts:List Ty) (k:ByteArray × ByteArray) (n:Int):Prop:=∀ f,Sol ts f→n≤f k
theorem IC {ts:List Ty} (hF:Found ts) {k:ByteArray × ByteArray} (hk:k ∈ ak ts) {n:Int} (hl:qB ts k n) (hn:((ak ts).length:Int)≤n):¬ ∃ f,Sol ts f:=by
 rintro ⟨f,hf⟩;obtain ⟨g,hg,hb⟩:=hf.few hF;have:=hl g hg;have:=hb k hk;omega
theorem qB.step {ts:List Ty} {k:ByteArray × ByteArray} (hk:k ∈ ak ts) {d:Dp} (hd:d ∈ il ts k) {n:Int} (hl:qB ts (d.typ,d.rel) n):qB ts k (n + stepOf d):=fun f hf=>by
 have h1:=hl f hf;have h2:=hf.up k hk d hd;omega
theorem qB.zero (ts:List Ty) (k:ByteArray × ByteArray):qB ts k 0:=fun _ hf=>hf.pos k
structure Least (ts:List Ty) (f:ByteArray × ByteArray→Int):Prop where
 sol:Sol ts f
 low:∀ k ∈ ak ts,qB ts k (f k)
theorem Least.same {ts:List Ty} {f g:ByteArray × ByteArray→Int} (hf:Least ts f) (hg:Least ts g) (k:ByteArray × ByteArray) (hk:k ∈ ak ts):f k=g k:=by
 have h1:=hf.low k hk g hg.sol;have h2:=hg.low k hk f hf.sol;omega
def St.key (s:St):ByteArray × ByteArray:=(s.typ,s.rel)
def iE (out:List St):List (ByteArray × ByteArray):=out.map St.key
theorem qC {s:St} {k:ByteArray × ByteArray}:zG s k.1 k.2=true ↔ s.key=k:=by
 unfold zG St.key;rw [TU,fo,fo];constructor
 ·rintro ⟨h1,h2⟩; rw [h1,h2]
 rintro rfl; exact ⟨rfl,rfl⟩
def fO (out:List St) (k:ByteArray × ByteArray):Int :=
 match out with
 | []=>0
 | s::xs=>if zG s k.1 k.2 then s.n else fO xs k
theorem oV {k:ByteArray × ByteArray}:∀ (out:List St) (j:Nat),k ∈ iE out→∃ i:Nat,∃ h:i < out.length,gP k.1 k.2 out j=((j + i:Nat):Int)∧out[i].key=k∧out[i].n=fO out k
 | [],_,h=>by cases h
 | s::xs,j,h=>by
  by_cases hs:zG s k.1 k.2=true
  ·exact ⟨0,by simp,by simp [gP,hs],qC.1 hs,by simp [fO,hs]⟩
  have hm:k ∈ iE xs:=by
   rcases List.mem_cons.1 h with e | hm
   ·exact absurd (qC.2 e.symm) hs
   exact hm
  obtain ⟨i,hi,h1,h2,h3⟩:=oV xs (j + 1) hm;refine ⟨i + 1,by simp; omega,?_,by simpa using h2,by simpa [fO,hs] using h3⟩;simp only [gP,hs];simp only [Bool.false_eq_true,if_false];rw [h1]; congr 1; omega
theorem CF {k:ByteArray × ByteArray} (out:List St) (h:k ∈ iE out):∃ s ∈ out,s.key=k∧s.n=fO out k:=by
 obtain ⟨i,hi,-,h2,h3⟩:=oV out 0 h;exact ⟨out[i],TQ hi,h2,h3⟩
theorem Oh {k:ByteArray × ByteArray} (out:List St) (h:k ∉ iE out):fO out k=0:=by
 induction out with
 | nil=>rfl
 | cons s xs ih =>
  have h1:¬ zG s k.1 k.2=true:=fun e=>h (by rw [qC] at e; simp [iE,e]);simp only [fO,h1];simp only [Bool.false_eq_true,if_false];exact ih fun hm=>h (by simp only [iE,List.map_cons,List.mem_cons]; exact .inr hm)
def mG:List St→Int
 | []=>0
 | s::xs=>s.n + mG xs
theorem Oi (out:List St) (i:Nat) (h:i < out.length) (n:Int):mG (out.set i ⟨out[i].typ,out[i].rel,n⟩)=mG out - out[i].n + n:=by
 induction out generalizing i with
 | nil=>simp at h
 | cons s xs ih =>
  cases i with
  | zero=>simp [mG]; omega
  | succ i=>simp only [List.set_cons_succ,mG,List.getElem_cons_succ]; rw [ih i (by simpa using h)]; omega
theorem Lg (out:List St) (i:Nat) (h:i < out.length) (n:Int):iE (out.set i ⟨out[i].typ,out[i].rel,n⟩)=iE out:=by
 unfold iE;rw [List.map_set];show (List.map St.key out).set i (out[i].key)=_;have:out[i].key=(List.map St.key out)[i]'(by simpa using h):=by simp
 rw [this,List.set_getElem_self]
structure Round (ts:List Ty) (out:List St):Prop where
 keys:iE out=ak ts
 pos:∀ s ∈ out,0≤s.n
 low:∀ s ∈ out,qB ts s.key s.n
def Qr (ts:List Ty) (out:List St) (s:St) (k:Nat):Prop:=∀ d ∈ (il ts s.key).take k,fO out (d.typ,d.rel) + stepOf d≤s.n
theorem Round.mem {ts:List Ty} {out:List St} (h:Round ts out) {s:St} (hs:s ∈ out):s.key ∈ ak ts:=by rw [← h.keys]; exact List.mem_map_of_mem hs
theorem Round.at {ts:List Ty} {out:List St} (h:Round ts out) {k:ByteArray × ByteArray} (hk:k ∈ ak ts):0≤fO out k∧qB ts k (fO out k):=by
 obtain ⟨s,hs,e,en⟩:=CF out (by rw [h.keys]; exact hk);rw [← en,← e];exact ⟨h.pos s hs,h.low s hs⟩
theorem Round.set {ts:List Ty} {out:List St} (h:Round ts out) (hF:Found ts) {i:Nat} (hi:i < out.length) {d:Dp} (hd:d ∈ il ts out[i].key):Round ts (out.set i ⟨out[i].typ,out[i].rel,fO out (d.typ,d.rel) + stepOf d⟩):=by
 have hk:out[i].key ∈ ak ts:=h.mem (TQ hi);have hdk:=hF _ hk d hd;obtain ⟨h0,hl⟩:=h.at hdk;have hs0:0≤stepOf d:=by unfold stepOf; split <;> omega
 refine ⟨(Lg out i hi _).trans h.keys,fun s hs=>?_,fun s hs=>?_⟩
 ·rcases List.mem_or_eq_of_mem_set hs with hs | rfl
  ·exact h.pos s hs
  show 0≤fO out (d.typ,d.rel) + stepOf d; omega
 rcases List.mem_or_eq_of_mem_set hs with hs | rfl
 ·exact h.low s hs
 exact hl.step hk hd
theorem Round.done {ts:List Ty} {out:List St} (h:Round ts out) (hs:∀ s ∈ out,Qr ts out s (il ts s.key).length):Least ts (fO out) where
 sol:=⟨fun k=>by
   by_cases hk:k ∈ ak ts
   ·exact (h.at hk).1
   ·rw [Oh out (by rw [h.keys]; exact hk)]; exact Int.le_refl _,fun k hk d hd=>by
   obtain ⟨s,hm,e,en⟩:=CF out (by rw [h.keys]; exact hk);have:=hs s hm d (by rw [Ug,e]; exact hd);rw [← en]; exact this⟩
 low k hk:=(h.at hk).2
def jf (a b:ByteArray):Bool:=Op.bytesLess a.toList b.toList
def l8 (rs:List Rl) (j:Nat):Bool :=
 match rs[j]? with
 | none=>true
 | some r=>aP r.name && (match j with | 0=>true | i + 1=>(rs[i]?.map fun p=>jf p.name r.name).getD true) && aK r.expr
def dG (rs:List Rl):Nat→Bool
 | 0=>true
 | k + 1=>dG rs k && l8 rs k
def kv (ts:List Ty) (j:Nat):Bool :=
 match ts[j]? with
 | none=>true
 | some t=>aP t.name && (match j with | 0=>true | i + 1=>(ts[i]?.map fun p=>jf p.name t.name).getD true) && decide (t.rels.length≤6) && dG t.rels t.rels.length
def iK (ts:List Ty):Nat→Bool
 | 0=>true
 | k + 1=>iK ts k && kv ts k
theorem tq (rs:List Rl) (k:Nat) (hb:l8 rs k=false):∀ n,k < n→dG rs n=false
 | 0,hn=>by omega
 | n + 1,hn=>by
  by_cases e:n=k
  ·subst e; simp [dG,hb]
  simp [dG,tq rs k hb n (by omega)]
theorem tC (ts:List Ty) (k:Nat) (hb:kv ts k=false):∀ n,k < n→iK ts n=false
 | 0,hn=>by omega
 | n + 1,hn=>by
  by_cases e:n=k
  ·subst e; simp [iK,hb]
  simp [iK,tC ts k hb n (by omega)]
theorem oW {rs:List Rl}:∀ {n:Nat},dG rs n=true→∀ j,j < n→l8 rs j=true
 | 0,_,j,hj=>by omega
 | n + 1,h,j,hj=>by
  simp only [dG,TU] at h;by_cases e:j=n
  ·subst e; exact h.2
  exact oW h.1 j (by omega)
theorem oZ {ts:List Ty}:∀ {n:Nat},iK ts n=true→∀ j,j < n→kv ts j=true
 | 0,_,j,hj=>by omega
 | n + 1,h,j,hj=>by
  simp only [iK,TU] at h;by_cases e:j=n
  ·subst e; exact h.2
  exact oZ h.1 j (by omega)
def bi (ts:List Ty):Bool:=decide (ts.length≤6) && iK ts ts.length
def qD (ts:List Ty) (t:Ty):Bool:=t.rels.all fun r=>aR ts t.name r.expr
def iD (ts:List Ty):Bool:=ts.all (qD ts)
def bR (ts:List Ty):Prop:=bi ts=true∧iD ts=true∧∃ f,Sol ts f
theorem Lh {rs:List Rl} {n:ByteArray} {es:List Ex} (h:jO rs n=some es):∃ r ∈ rs,r.name=n∧r.expr=es:=by
 induction rs with
 | nil=>simp [jO] at h
 | cons r rs ih =>
  simp only [jO] at h;split at h
  ·rename_i hn; injection h with h; exact ⟨r,by simp,fo.1 hn,h⟩
  obtain ⟨q,hq,e⟩:=ih h; exact ⟨q,by simp [hq],e⟩
theorem qE {ts:List Ty} {ty n:ByteArray} {es:List Ex} (h:fI ts ty n=some es):∃ t ∈ ts,∃ r ∈ t.rels,t.name=ty∧r.name=n∧r.expr=es:=by
 induction ts with
 | nil=>simp [fI] at h
 | cons t ts ih =>
  simp only [fI] at h;split at h
  ·rename_i hn;rcases Option.or_eq_some_iff.1 h with h | ⟨-,h⟩
   ·obtain ⟨r,hr,e⟩:=Lh h; exact ⟨t,by simp,r,hr,fo.1 hn,e⟩
   obtain ⟨t',ht,e⟩:=ih h; exact ⟨t',by simp [ht],e⟩
  obtain ⟨t',ht,e⟩:=ih h; exact ⟨t',by simp [ht],e⟩
theorem qF {ts:List Ty} {k:ByteArray × ByteArray}:k ∈ ak ts ↔ ∃ t ∈ ts,∃ r ∈ t.rels,k=(t.name,r.name):=by
 simp only [ak,jG,Uf,Ue];constructor
 ·rintro ⟨t,ht,r,hr,e⟩; exact ⟨t,ht,r,hr,e.symm⟩
 rintro ⟨t,ht,r,hr,e⟩; exact ⟨t,ht,r,hr,e.symm⟩
theorem ry {ts:List Ty} {ty n:ByteArray} (h:(aA ts ty n).isEmpty=false):(ty,n) ∈ ak ts:=by
 unfold aA at h;cases e:fI ts ty n with
 | none=>rw [e] at h; simp at h
 | some es =>
  obtain ⟨t,ht,r,hr,h1,h2,-⟩:=qE e;exact qF.2 ⟨t,ht,r,hr,by rw [h1,h2]⟩
theorem Sj {ts:List Ty} {rel:ByteArray} {xs:List Al} {g:ByteArray} (h:g ∈ gl ts rel xs):(aA ts g rel).isEmpty=false:=by
 induction xs with
 | nil=>simp [gl] at h
 | cons a xs ih =>
  simp only [gl] at h;split at h
  ·exact ih h
  rename_i hn;rcases List.mem_cons.1 h with rfl | h
  ·simpa using hn
  exact ih h
theorem Li {neg:Bool} {xs:List Al} {d:Dp} (h:d ∈ dh neg xs):∃ a ∈ xs,a.s.toList.isEmpty=false∧d.typ=a.t∧d.rel=a.s:=by
 induction xs with
 | nil=>simp [dh] at h
 | cons a xs ih =>
  simp only [dh] at h;split at h
  ·obtain ⟨b,hb,e⟩:=ih h; exact ⟨b,by simp [hb],e⟩
  rename_i hn;rcases List.mem_cons.1 h with rfl | h
  ·exact ⟨a,by simp,by simpa using hn,rfl,rfl⟩
  obtain ⟨b,hb,e⟩:=ih h; exact ⟨b,by simp [hb],e⟩
theorem tF {ts:List Ty} {typ:ByteArray} {es:List Ex} {d:Dp}:∀ {k:Nat},d ∈ aN ts typ es k→∃ i,i < k∧d ∈ ik ts typ es i
 | 0,h=>by simp [aN] at h
 | k + 1,h=>by
  simp only [aN] at h;rcases Uc.1 h with h | h
  ·obtain ⟨i,hi,e⟩:=tF h; exact ⟨i,by omega,e⟩
  exact ⟨k,by omega,h⟩
theorem CG {ts:List Ty} {typ:ByteArray} {es:List Ex} (h:aR ts typ es=true):∀ e ∈ es,oQ ts e.allow=true∧lh ts typ e=true:=by
 induction es with
 | nil=>intro e he; cases he
 | cons e es ih =>
  simp only [aR] at h;split at h
  ·rename_i hn;rw [TU] at hn;intro q hq;rcases List.mem_cons.1 hq with rfl | hq
   ·exact hn
   exact ih h q hq
  cases h
theorem kw {ts:List Ty} (h:iD ts=true):Found ts:=by
 intro k hk d hd;unfold il pR at hd;have hne:(aA ts k.1 k.2).length ≠ 0:=by
  intro e;rw [e] at hd; simp [aN] at hd
 obtain ⟨es,hes⟩:∃ es,fI ts k.1 k.2=some es:=by
  cases e:fI ts k.1 k.2 with
  | none=>unfold aA at hne; rw [e] at hne; simp at hne
  | some es=>exact ⟨es,rfl⟩
 have ero:aA ts k.1 k.2=es:=by unfold aA; rw [hes]; rfl
 rw [ero] at hd;obtain ⟨t,ht,r,hr,h1,h2,h3⟩:=qE hes;have hr1:aR ts k.1 es=true:=by
  unfold iD at h;rw [Ub] at h;have:=h t ht;unfold qD at this;rw [Ub] at this;have:=this r hr;rw [h1,h3] at this;exact this
 obtain ⟨i,hi,hdi⟩:=tF hd;unfold ik at hdi;split at hdi
 ·cases hdi
 rename_i e he;obtain ⟨ra,rn⟩:=CG hr1 e (List.mem_of_getElem? he);rcases Uc.1 hdi with hdi | hdi
 ·obtain ⟨a,ha,hs,e1,e2⟩:=Li hdi;unfold oQ at ra;rw [Ub] at ra;have:=ra a ha;unfold pQ at this;rw [hs,Bool.false_or,TU] at this;rw [e1,e2];exact ry (by simpa using this.2)
 unfold kM at hdi;unfold lh at rn;split at hdi
 ·rename_i h2;rw [if_pos h2] at rn;simp at hdi;subst hdi;exact ry (by simpa using rn)
 split at hdi
 ·obtain ⟨g,hg,rfl⟩:=Ue.1 hdi;exact ry (Sj hg)
 cases hdi
theorem lm {es:List Ex} (h:aK es=true):1≤es.length∧es.length≤15:=by
 simp only [aK,TU,Ud] at h;exact ⟨h.1.1.1.1.1,h.1.1.1.1.2⟩
theorem Lj {es:List Ex} (h:aK es=true) (i:Nat) (hi:i < es.length):dV es.length es[i].kids:=by
 simp only [aK,TU,Ud] at h;have h1:=h.1.1.2;unfold iY at h1;rw [Ub] at h1;have h2:=h1 i (by simpa using hi);unfold kH dC at h2;rw [TY hi] at h2;simp only [Option.map_some,Option.getD_some,Ub,TU,Ud] at h2;intro x hx;have:=h2 x hx;omega
theorem bq {rs:List TR} (h:bi (ae rs)=true):rs.length≤6∧(∀ r ∈ rs,r.rows.length≤6)∧∀ r ∈ rs,∀ q ∈ r.rows,aK (aj q.rows)=true∧q.rows.length≤15∧∀ e ∈ q.rows,dV q.rows.length e.e.kids:=by
 simp only [bi,TU,Ud] at h;rw [kX] at h;have hT:∀ r ∈ rs,r.rows.length≤6∧dG (eD r.rows) r.rows.length=true:=by
  intro r hr;obtain ⟨j,hj,rfl⟩:=List.mem_iff_getElem.1 hr;have h1:=oZ h.2 j hj;unfold kv at h1;have e:(ae rs)[j]?=some rs[j].p:=by simp [ae,hj]
  rw [e] at h1;simp only [TU,Ud] at h1;have e2:rs[j].p.rels.length=rs[j].rows.length:=by simp [TR.p,eD]
  rw [e2] at h1;exact ⟨h1.1.2,h1.2⟩
 refine ⟨h.1,fun r hr=>(hT r hr).1,fun r hr q hq=>?_⟩;obtain ⟨j,hj,rfl⟩:=List.mem_iff_getElem.1 hq;have h1:=oW (hT r hr).2 j hj;unfold l8 at h1;have e:(eD r.rows)[j]?=some r.rows[j].p:=by simp [eD,hj]
 rw [e] at h1;simp only [TU] at h1;have h2:aK (aj r.rows[j].rows)=true:=h1.2;have h3:=lm h2;rw [aT] at h3;refine ⟨h2,h3.2,fun e he=>?_⟩;obtain ⟨i,hi,rfl⟩:=List.mem_iff_getElem.1 he;have:=Lj h2 i (by rw [aT]; exact hi);have e1:(aj r.rows[j].rows)[i]'(by rw [aT]; exact hi)=r.rows[j].rows[i].e:=by simp [aj]
 rw [e1] at this;simpa [aj] using this
def assigns (n:Nat):List (ByteArray × ByteArray)→List (ByteArray × ByteArray→Int)
 | []=>[fun _=>0]
 | k::ks=>(assigns n ks).flatMap fun f=>(List.range n).map fun v=>fun y=>if y=k then ((v:Nat):Int) else f y
theorem xC {n:Nat}:∀ {ks:List (ByteArray × ByteArray)} {f:ByteArray × ByteArray→Int},f ∈ assigns n ks→∀ k,0≤f k
 | [],f,h,k=>by simp only [assigns,Ua] at h; rw [h]; exact Int.le_refl _
 | x::ks,f,h,k=>by
  simp only [assigns,Uf,Ue] at h;obtain ⟨g,hg,v,-,rfl⟩:=h;show 0≤(if k=x then ((v:Nat):Int) else g k);split
  ·omega
  exact xC hg k
theorem xD {n:Nat} (g:ByteArray × ByteArray→Int):∀ (ks:List (ByteArray × ByteArray)),(∀ k ∈ ks,0≤g k∧g k < n)→∃ f ∈ assigns n ks,∀ k ∈ ks,f k=g k
 | [],_=>⟨fun _=>0,by simp [assigns],fun k hk=>by cases hk⟩
 | x::ks,h=>by
  obtain ⟨f,hf,hfg⟩:=xD g ks fun k hk=>h k (Uq _ hk);obtain ⟨h0,h1⟩:=h x (Us ..);refine ⟨fun y=>if y=x then (((g x).toNat:Nat):Int) else f y,?_,fun k hk=>?_⟩
  ·simp only [assigns,Uf,Ue];exact ⟨f,hf,(g x).toNat,List.mem_range.2 (by omega),rfl⟩
  show (if k=x then (((g x).toNat:Nat):Int) else f k)=g k;by_cases e:k=x
  ·rw [if_pos e,e]; omega
  rw [if_neg e];rcases List.mem_cons.1 hk with h2 | h2
  ·exact absurd h2 e
  exact hfg k h2
def Sk (ts:List Ty) (f:ByteArray × ByteArray→Int):Bool:=(ak ts).all fun k=>(il ts k).all fun d=>decide (f (d.typ,d.rel) + stepOf d≤f k)
theorem Ko {ts:List Ty} {f:ByteArray × ByteArray→Int}:Sk ts f=true ↔ ∀ k ∈ ak ts,∀ d ∈ il ts k,f (d.typ,d.rel) + stepOf d≤f k:=by
 unfold Sk; simp only [Ub,Ud]
def zS (ts:List Ty):List (ByteArray × ByteArray→Int):=(assigns (ak ts).length (ak ts)).filter (Sk ts)
theorem Ll {ts:List Ty} {f:ByteArray × ByteArray→Int} (h:f ∈ zS ts):Sol ts f:=by
 unfold zS at h;rw [Ux] at h;exact ⟨xC h.1,Ko.1 h.2⟩
theorem Oj {ts:List Ty} {g:ByteArray × ByteArray→Int} (hF:Found ts) (h:Sol ts g) (hb:∀ k ∈ ak ts,g k + 1≤(ak ts).length):∃ f ∈ zS ts,∀ k ∈ ak ts,f k=g k:=by
 obtain ⟨f,hf,hfg⟩:=xD (n:=(ak ts).length) g (ak ts) fun k hk=>⟨h.pos k,by have:=hb k hk; omega⟩;refine ⟨f,?_,hfg⟩;unfold zS;rw [Ux];refine ⟨hf,Ko.2 fun k hk d hd=>?_⟩;rw [hfg k hk,hfg _ (hF k hk d hd)];exact h.up k hk d hd
def aJ (ts:List Ty):Bool:=bi ts && iD ts && !(zS ts).isEmpty
theorem aY {ts:List Ty}:aJ ts=true ↔ bR ts:=by
 unfold aJ bR;simp only [TU,Bool.not_eq_true'];constructor
 ·rintro ⟨⟨h1,h2⟩,h3⟩;refine ⟨h1,h2,?_⟩;cases e:zS ts with
  | nil=>rw [e] at h3; cases h3
  | cons f fs=>exact ⟨f,Ll (by rw [e]; exact Us ..)⟩
 rintro ⟨h1,h2,f,hf⟩;refine ⟨⟨h1,h2⟩,?_⟩;obtain ⟨g,hg,hb⟩:=hf.few (kw h2);obtain ⟨f2,hf2,-⟩:=Oj (kw h2) hg hb;cases e:zS ts with
 | nil=>rw [e] at hf2; cases hf2
 | cons f fs=>rfl
theorem xE {ts:List Ty} (h:bR ts):aJ ts=true:=aY.2 h
theorem dM {ts:List Ty} (h:¬ bR ts):aJ ts=false:=by
 cases e:aJ ts;case false=>rfl
 exact absurd (aY.1 e) h
end Go.Proofs.YtajkkeikihhejaaGreat
namespace Go.Proofs.YtajkkeikihhejaaGreat
open Go.Sort
open Go.ChangeShapes Go.WideShapes Go.ChangeAt Go.RowKit
open Pl
attribute [local go_sem ↓] Go.wp_at_zero Go.wp_at_succ
def Tp.ok (t:Tp):Bool:=bI t.a t.b t.r t.c t.d t.s
def Tp.ahead (t u:Tp):Bool:=fU t.a t.b t.r t.c t.d t.s u.a u.b u.r u.c u.d u.s
def uO (ts:List Tp) (i:Nat):Bool:=match ts[i]? with
 | none=>true
 | some t=>t.ok && (match i with
  | 0=>true
  | j + 1=>match ts[j]? with
   | none=>true
   | some u=>u.ahead t)
def tH (ts:List Tp) (k:Nat):Bool:=(List.range k).all (uO ts)
def dJ (ts:List Tp):Bool:=decide (ts.length≤40) && tH ts ts.length
theorem rz (ts:List Tp) (k:Nat):tH ts (k + 1)=(tH ts k && uO ts k):=by simp [tH,List.range_succ]
theorem uP {ts:List Tp} {k:Nat} (hk:k < ts.length) (h:uO ts k=false):dJ ts=false:=by
 have:tH ts ts.length=false:=by
  unfold tH;rw [List.all_eq_false];exact ⟨k,by simpa using hk,by simp [h]⟩
 simp [dJ,this]
theorem wB {ts:List Tp} (h:0 < ts.length):uO ts 0=ts[0].ok:=by simp [uO,TY h]
theorem rA {ts:List Tp} {j:Nat} (h:j + 1 < ts.length):uO ts (j + 1)=(ts[j + 1].ok && ts[j].ahead ts[j + 1]):=by
 have h':j < ts.length:=by omega
 simp [uO,TY h,TY h']
theorem Kq {ts:List Tp} {k:Nat} (h:k < ts.length) (hn:ts[k].ok=false):uO ts k=false:=by
 simp [uO,TY h,hn]
theorem wC (b off cap:Nat) (ts:List Tp) (w:af) (hlen:ts.length≤maxLen) (hr:kJ w b off ts) (hb:b < w.heap.size) (hf:∀ t ∈ ts,t.fits) :
    Calls prog 93 #[.slice (some ⟨b,off,none⟩) ts.length cap] w fun e w'=>e=.returned (.bool (dJ ts))∧ag w w':=by
  unfold maxLen at hlen;by_cases hbig:40 < ts.length
  · have HT:Hid (dJ ts=false):=by show _=_; simp [dJ]; omega
    go_enter func93,ntmps93;go_wp2;go_ret;exact ⟨ah HT.out.symm,TT _ _⟩
  · go_enter func93,ntmps93;go_wp2;go_loopw [3] (fun i wr=>∃ k:Nat,k≤ts.length∧i=.int .i64 k∧Hid (tH ts k=true)∧ag w wr) (fun i _=>ts.length - (intOf i).toNat);case atStart=>exact ⟨0,TW _,rfl,rfl,TT _ _⟩
    obtain ⟨k,hk,rfl,hu,hB⟩:=hrel;by_cases hlt:k < ts.length
    · have Xr:=pU (hr.below hB hb);have UL:=pU hf;obtain ⟨t0,t1,t2,t3,t4,t5⟩:=Xr.out k hlt;have hk1:=bB k;have hk2:(k:Int) < (ts.length:Int):=by omega
      clear hr hf;have c0:=cell_regrown t0;have c1:=cell_regrown t1;have c2:=cell_regrown t2;have c3:=cell_regrown t3;have c4:=cell_regrown t4;have c5:=cell_regrown t5;have U9:Hid (∀ d os,ag w (grow (redrawn wr d) os)):=fun d os=>hB.trans ((below_regrown wr d os).mono hB.size);clear t0 t1 t2 t3 t4 t5;go_wp2_with fail;have WS:Hid (∀ d os,Calls prog 127 #[.agg #[.string ts[k].a,.string ts[k].b,.string ts[k].r,.string ts[k].c,.string ts[k].d,.string ts[k].s]] (grow (redrawn wr d) os) fun e w''=>e=.returned (.bool ts[k].ok)∧∃ p:Regrown,w''=grow (redrawn wr p.d) p.os):=by
        obtain ⟨f0,f1,f2,f3,f4,f5⟩:=UL.out ts[k] (TQ hlt);exact dm fun W' _=>dX _ _ _ _ _ _ _ f0 f1 f2 f3 f4 f5
      cases hok:ts[k].ok;case false=>
        have HT:Hid (dJ ts=false):=uP hlt (Kq hlt hok);rw [hok] at WS;clear hok;refine wp_region_quiet_below (by kernel_rfl) (by kernel_rfl) ?_
        repeat (go_big_quiet_step (exact WS.out _ _))
        refine wpQuiet_nil ?_;rintro _ ⟨⟨dq,osq⟩,rfl⟩;go_wp2;go_ret;exact ⟨ah HT.out.symm,U9.out dq osq⟩
      rw [hok] at WS;by_cases hz:k=0
      · have HU:Hid (tH ts (k + 1)=true):=by show _=_; rw [rz,hu.out]; subst hz; rw [wB hlt,hok]; rfl
        have hk8:decide ((0:Int) < (k:Int))=false:=by simp; omega
        have Z4:decide (0 < k)=false:=by simp; omega
        clear hok hz;refine wp_region_quiet_below (by kernel_rfl) (by kernel_rfl) ?_
        repeat (go_big_quiet_step (exact WS.out _ _))
        refine wpQuiet_nil ?_;rintro _ ⟨⟨dq,osq⟩,rfl⟩;go_wp2;go_roundw;case rel=>exact ⟨k + 1,by omega,by go_num,HU,U9.out dq osq⟩
        simp [intOf]; omega
      · obtain ⟨m,hm⟩:∃ m:Nat,k=m + 1:=⟨k - 1,by omega⟩;have U5:m < ts.length:=by omega
        obtain ⟨q0,q1,q2,q3,q4,q5⟩:=Xr.out m U5;replace q0:=cell_regrown q0;replace q1:=cell_regrown q1;replace q2:=cell_regrown q2;replace q3:=cell_regrown q3;replace q4:=cell_regrown q4;replace q5:=cell_regrown q5;have hkm:(k:Int) - 1=(m:Int):=by omega
        have hm1:=bB m;have hm2:(m:Int) < (ts.length:Int):=by omega
        have hpos:(0:Int) < (k:Int):=by omega
        have hposN:0 < k:=by omega
        have hwm:IntKind.i64.wrap (m:Int)=(m:Int):=by rw [IntKind.wrap_i64]; omega
        have HA:Hid (uO ts k=ts[m].ahead ts[k]):=by show _=_; subst hm; rw [rA hlt,hok]; rfl
        have Yy:Hid (∀ d os,Calls prog 137 #[.agg #[.string ts[m].a,.string ts[m].b,.string ts[m].r,.string ts[m].c,.string ts[m].d,.string ts[m].s],.agg #[.string ts[k].a,.string ts[k].b,.string ts[k].r,.string ts[k].c,.string ts[k].d,.string ts[k].s]] (grow (redrawn wr d) os) fun e w''=>e=.returned (.bool (ts[m].ahead ts[k]))∧∃ p:Regrown,w''=grow (redrawn wr p.d) p.os):=by
          obtain ⟨f0,f1,f2,f3,f4,f5⟩:=UL.out ts[k] (TQ hlt);obtain ⟨g0,g1,g2,g3,g4,g5⟩:=UL.out ts[m] (TQ U5);exact dm fun W' _=>nD _ _ _ _ _ _ _ _ _ _ _ _ _ g0 g1 g2 g3 g4 g5 f0 f1 f2 f3 f4 f5
        clear hm hz hok;cases ha:ts[m].ahead ts[k];case false=>
          have HT:Hid (dJ ts=false):=uP hlt (by rw [HA.out,ha]);rw [ha] at Yy;clear ha HA;refine wp_region_quiet_below (by kernel_rfl) (by kernel_rfl) ?_
          repeat (go_big_quiet_step (first | exact WS.out _ _ | exact Yy.out _ _))
          refine wpQuiet_nil ?_;rintro _ ⟨⟨dq,osq⟩,rfl⟩;go_wp2;go_ret;exact ⟨ah HT.out.symm,U9.out dq osq⟩
        have HU:Hid (tH ts (k + 1)=true):=by show _=_; rw [rz,hu.out,HA.out,ha]; rfl
        rw [ha] at Yy;clear ha HA;refine wp_region_quiet_below (by kernel_rfl) (by kernel_rfl) ?_
        repeat (go_big_quiet_step (first | exact WS.out _ _ | exact Yy.out _ _))
        refine wpQuiet_nil ?_;rintro _ ⟨⟨dq,osq⟩,rfl⟩;go_wp2;go_roundw;case rel=>exact ⟨k + 1,by omega,by go_num,HU,U9.out dq osq⟩
        simp [intOf]; omega
    · go_wp2;go_ret;exact ⟨ah (by have e:k=ts.length:=(by omega);subst e;simp [dJ,hu.out]; omega),hB⟩
end Go.Proofs.YtajkkeikihhejaaGreat
namespace Go.Proofs.YtajkkeikihhejaaGreat
open Pl
theorem zT:∀ x y z:List UInt8,Op.bytesLess x y=true→Op.bytesLess y z=true→Op.bytesLess x z=true
 | [],_,[],h,k=>by cases ‹List UInt8› <;> simp [Op.bytesLess] at h k
 | [],_,_::_,_,_=>rfl
 | _::_,[],_,h,_=>by simp [Op.bytesLess] at h
 | _::_,_::_,[],_,k=>by simp [Op.bytesLess] at k
 | a::x,b::y,c::z,h,k=>by
  simp only [Op.bytesLess,Bool.or_eq_true,TU,Ud,beq_iff_eq] at h k ⊢;rcases h with h | ⟨h,h'⟩
  ·rcases k with k | ⟨k,k'⟩
   ·exact .inl (UInt8.lt_trans h k)
   exact .inl (k ▸ h)
  rcases k with k | ⟨k,k'⟩
  ·exact .inl (h ▸ k)
  exact .inr ⟨h.trans k,zT x y z h' k'⟩
def Tp.text (t:Tp):List UInt8:=(aX t.a t.b t.r t.c t.d t.s).toList
theorem tJ {x y:Tp} (hx:x.ok=true) (hy:y.ok=true):x.ahead y=Op.bytesLess x.text y.text:=sZ hx hy
theorem FV {x y:Tp} (h:x.ahead y=true):x.ok=true∧y.ok=true:=by
 unfold Tp.ahead fU at h;simp only [TU] at h;exact ⟨h.1.1,h.1.2⟩
theorem FW {x y z:Tp} (h:x.ahead y=true) (k:y.ahead z=true):x.ahead z=true:=by
 obtain ⟨hx,hy⟩:=FV h;obtain ⟨-,hz⟩:=FV k;rw [tJ hx hy] at h;rw [tJ hy hz] at k;rw [tJ hx hz];exact zT _ _ _ h k
def Up (l:List Tp):Prop:=l.Pairwise fun x y=>x.ahead y=true
theorem RA {ts:List Tp} (h:dJ ts=true):Up ts∧(∀ t ∈ ts,t.ok=true)∧ts.length≤40:=by
 unfold dJ at h;simp only [TU,Ud] at h;obtain ⟨hl,hu⟩:=h;have hat:∀ i,i < ts.length→uO ts i=true:=fun i hi=>by
  unfold tH at hu;exact Ub.1 hu i (List.mem_range.2 hi)
 have hok:∀ i (hi:i < ts.length),ts[i].ok=true:=fun i hi=>by
  have:=hat i hi;cases i with
  | zero=>rw [wB hi] at this; exact this
  | succ j=>rw [rA hi] at this; simp only [TU] at this; exact this.1
 have hnx:∀ i (hi:i + 1 < ts.length),ts[i].ahead ts[i + 1]=true:=fun i hi=>by
  have:=hat (i + 1) hi;rw [rA hi] at this; simp only [TU] at this; exact this.2
 refine ⟨List.pairwise_iff_getElem.2 fun i j hi hj hij=>?_,fun t ht=>?_,hl⟩
 ·obtain ⟨d,rfl⟩:∃ d,j=i + 1 + d:=⟨j - (i + 1),by omega⟩
  induction d with
  | zero=>exact hnx i hj
  | succ d ih=>exact FW (ih (by omega) (by omega)) (hnx (i + 1 + d) (by omega))
 obtain ⟨i,hi,rfl⟩:=List.mem_iff_getElem.1 ht;exact hok i hi
theorem Lm {ts:List Tp} (h:dJ ts=true):ts.length≤40:=(RA h).2.2
def jL:List Tp→Tp→List Tp
 | [],t=>[t]
 | x::xs,t=>if x.ahead t then x::jL xs t else t::x::xs
theorem Ol (ts:List Tp) (t y:Tp):y ∈ jL ts t ↔ y=t ∨ y ∈ ts:=by
 induction ts with
 | nil=>simp [jL]
 | cons x xs ih =>
  unfold jL;split
  ·simp only [List.mem_cons,ih];constructor
   ·rintro (h | h | h)
    ·exact .inr (.inl h)
    ·exact .inl h
    exact .inr (.inr h)
   rintro (h | h | h)
   ·exact .inr (.inl h)
   ·exact .inl h
   exact .inr (.inr h)
  simp
theorem Kr (ts:List Tp) (t:Tp) (k:Nat) (hk:k≤ts.length) (h1:∀ i (h:i < ts.length),i < k→ts[i].ahead t=true) (h2:∀ h:k < ts.length,ts[k].ahead t=false):jL ts t=ts.take k ++ t::ts.drop k:=by
 induction ts generalizing k with
 | nil=>simp [jL]
 | cons x xs ih =>
  cases k with
  | zero =>
   have:=h2 (by simp);simp only [List.getElem_cons_zero] at this;simp [jL,this]
  | succ k =>
   have hx:=h1 0 (by simp) (by omega);simp only [List.getElem_cons_zero] at hx;have:=ih k (by simpa using hk) (fun i hi hik=>by have:=h1 (i + 1) (by simpa using hi) (by omega); simpa using this) (fun h=>by have:=h2 (by simpa using h); simpa using this);simp [jL,hx,this]
open Go.ChangeAt Go.ChangeShapes Go.Maps Go.RowKit Go.WideShapes
theorem tK {w:af} {b off:Nat} {ts:List Tp} (h:kJ w b off ts):∀ j u,(bG ts)[j]?=some u→w.cell? ((⟨b,off,none⟩:Addr).add j)=some u:=by
 intro j u hu;have hl:=je ts;have hj:j < ts.length * 6:=by
  rcases Nat.lt_or_ge j (bG ts).length with h | h
  ·omega
  rw [List.getElem?_eq_none h] at hu; cases hu
 have hi:j / 6 < ts.length:=by omega
 have hr:j % 6 < 6:=Nat.mod_lt _ (by omega);have e:j=j / 6 * 6 + j % 6:=by omega
 rw [e,uL ts _ hi _ hr] at hu;rw [show ((⟨b,off,none⟩:Addr).add j)=⟨b,off + j / 6 * 6 + j % 6,none⟩ by rw [show (⟨b,off,none⟩:Addr).add j=⟨b,off + j,none⟩ by simp [Addr.add]]; congr 1; omega];obtain ⟨c0,c1,c2,c3,c4,c5⟩:=h (j / 6) hi;have h6:j % 6=0 ∨ j % 6=1 ∨ j % 6=2 ∨ j % 6=3 ∨ j % 6=4 ∨ j % 6=5:=by omega
 rcases h6 with e6 | e6 | e6 | e6 | e6 | e6 <;> rw [e6] at hu ⊢ <;> simp only [Tp.row,List.getElem?_cons_zero,List.getElem?_cons_succ] at hu <;> rw [← hu] <;> assumption
theorem CJ {w:af} {b off:Nat} {ts:List Tp} (h:kJ w b off ts) (k:Nat):kJ w b off (ts.take k):=fun i hi=>by
 have:=h i (by simp at hi; omega);simpa using this
theorem Lp {w:af} {b off:Nat} {ts:List Tp} (h:kJ w b off ts) (k:Nat):kJ w b (off + k * 6) (ts.drop k):=fun i hi=>by
 have:=h (k + i) (by simp at hi; omega);simp only [List.getElem_drop];rw [show off + k * 6 + i * 6=off + (k + i) * 6 by omega];exact this
theorem rC (ts:List Tp):∀ u ∈ bG ts,u.oneCell'=true:=by
 intro u hu;unfold bG at hu;obtain ⟨t,-,h⟩:=Uf.1 hu;exact zM t u h
theorem uQ (xs ys:List Tp):bG (xs ++ ys)=bG xs ++ bG ys:=by simp [bG]
def tZ (w:World) (g:Nat) (t:Tp):Prop:=w.cell? ⟨g,0,none⟩=some (.string t.a)∧w.cell? ⟨g,1,none⟩=some (.string t.b)∧w.cell? ⟨g,2,none⟩=some (.string t.r)∧w.cell? ⟨g,3,none⟩=some (.string t.c)∧w.cell? ⟨g,4,none⟩=some (.string t.d)∧w.cell? ⟨g,5,none⟩=some (.string t.s)∧g < w.heap.size
theorem tZ.below {w w':af} {g:Nat} {t:Tp} (h:tZ w g t) (hb:ag w w'):tZ w' g t :=
 ⟨mK hb h.2.2.2.2.2.2 h.1,mK hb h.2.2.2.2.2.2 h.2.1,mK hb h.2.2.2.2.2.2 h.2.2.1,mK hb h.2.2.2.2.2.2 h.2.2.2.1,mK hb h.2.2.2.2.2.2 h.2.2.2.2.1,mK hb h.2.2.2.2.2.2 h.2.2.2.2.2.1,TP h.2.2.2.2.2.2 hb.size⟩
theorem Ef (w:af) (t:Tp) (T:TypeId):tZ (w.alloc (.cells #[.string t.a,.string t.b,.string t.r,.string t.c,.string t.d,.string t.s] T)) w.heap.size t:=by
 refine ⟨?_,?_,?_,?_,?_,?_,?_⟩ <;> simp
theorem tZ.grown {w w':af} {g:Nat} {t:Tp} {row:Option Nat} (h:tZ w g t) (hg:w.grownBy w' row) (hne:some g ≠ row):tZ w' g t :=
 ⟨hg.cell h.1 hne,hg.cell h.2.1 hne,hg.cell h.2.2.1 hne,hg.cell h.2.2.2.1 hne,hg.cell h.2.2.2.2.1 hne,hg.cell h.2.2.2.2.2.1 hne,TP h.2.2.2.2.2.2 hg.size⟩
theorem o6 {w w':af} {b off:Nat} {ts:List Tp} {row:Option Nat} (h:kJ w b off ts) (hg:w.grownBy w' row) (_hb:b < w.heap.size) (hne:some b ≠ row):kJ w' b off ts:=fun i hi=>by
 obtain ⟨c0,c1,c2,c3,c4,c5⟩:=h i hi;exact ⟨hg.cell c0 hne,hg.cell c1 hne,hg.cell c2 hne,hg.cell c3 hne,hg.cell c4 hne,hg.cell c5 hne⟩
theorem Lr {ts:List Tp} {k:Nat} (h:ts.length≤k) (w:af) (ad:Addr):∀ j u,(bG (ts.drop k))[j]?=some u→w.cell? (ad.add j)=some u:=fun j u hu=>by
 rw [List.drop_of_length_le h] at hu;simp [bG] at hu
theorem fB {W:af} {base base':Nat} {e:TypeId} {size:Nat} {v:Value} {k:Nat} {xs:List Value} (h:W.ownsRow base e size v k xs) (hb:base'≤base):W.ownsRow base' e size v k xs:=by
 refine ⟨h.1,?_⟩;rcases h.2 with hn | ⟨g,cap,cur,hv,hbg,rest⟩
 ·exact .inl hn
 exact .inr ⟨g,cap,cur,hv,TZ hb hbg,rest⟩
theorem fE {p:Prop} (h:p):Hid p:=h
theorem Om {w:af} {g:Nat} {t:Tp} (h0:w.cell? ⟨g,0,none⟩=some (.string t.a)) (h1:w.cell? ⟨g,1,none⟩=some (.string t.b)) (h2:w.cell? ⟨g,2,none⟩=some (.string t.r)) (h3:w.cell? ⟨g,3,none⟩=some (.string t.c)) (h4:w.cell? ⟨g,4,none⟩=some (.string t.d)) (h5:w.cell? ⟨g,5,none⟩=some (.string t.s)) (hl:g < w.heap.size):tZ w g t:=⟨h0,h1,h2,h3,h4,h5,hl⟩
theorem Kt {w W w':af} {b n o:Nat} {x0 x1 x2 x3 x4 x5 y0 y1 y2 y3 y4 y5:Value} (h:W.cell? ⟨b,o,none⟩=some x0∧W.cell? ⟨b,o + 1,none⟩=some x1∧W.cell? ⟨b,o + 2,none⟩=some x2∧W.cell? ⟨b,o + 3,none⟩=some x3∧W.cell? ⟨b,o + 4,none⟩=some x4∧W.cell? ⟨b,o + 5,none⟩=some x5∧W.cell? ⟨n,0,none⟩=some y0∧W.cell? ⟨n,1,none⟩=some y1∧W.cell? ⟨n,2,none⟩=some y2∧W.cell? ⟨n,3,none⟩=some y3∧W.cell? ⟨n,4,none⟩=some y4∧W.cell? ⟨n,5,none⟩=some y5∧b < W.heap.size∧n < W.heap.size∧Below n w W) (hb:ag W w') :
  w'.cell? ⟨b,o,none⟩=some x0∧w'.cell? ⟨b,o + 1,none⟩=some x1∧w'.cell? ⟨b,o + 2,none⟩=some x2∧w'.cell? ⟨b,o + 3,none⟩=some x3∧w'.cell? ⟨b,o + 4,none⟩=some x4∧w'.cell? ⟨b,o + 5,none⟩=some x5∧w'.cell? ⟨n,0,none⟩=some y0∧w'.cell? ⟨n,1,none⟩=some y1∧w'.cell? ⟨n,2,none⟩=some y2∧w'.cell? ⟨n,3,none⟩=some y3∧w'.cell? ⟨n,4,none⟩=some y4∧w'.cell? ⟨n,5,none⟩=some y5∧b < w'.heap.size∧n < w'.heap.size∧Below n w w':=by
 obtain ⟨h0,h1,h2,h3,h4,h5,g0,g1,g2,g3,g4,g5,hB,hN,hw⟩:=h;exact ⟨mK hb hB h0,mK hb hB h1,mK hb hB h2,mK hb hB h3,mK hb hB h4,mK hb hB h5,mK hb hN g0,mK hb hN g1,mK hb hN g2,mK hb hN g3,mK hb hN g4,mK hb hN g5,TP hB hb.size,TP hN hb.size,hw.trans (hb.mono (Nat.le_of_lt hN))⟩
set_option maxRecDepth 100000 in
theorem BC (ad:Option Addr) (cap:Nat) (rs:List ER) (w:af) (hlen:rs.length≤1048576) (hs:iH w ad rs) (hl:∀ r ∈ rs,r.e.light) (hk:∀ r ∈ rs,dV rs.length r.e.kids) :
  Calls prog 187 #[.slice ad rs.length cap] w fun e w'=>e=.returned (.slice (some ⟨w.heap.size,0,none⟩) rs.length rs.length)∧Fil w w' w.heap.size rs.length (bools (dz (aj rs))):=by
 have HS:=az hs;have HL:=az hl;have HK:=az hk;clear hs hl hk;obtain ⟨inf,hi,hz0,hz1,hz2⟩:=info_parts zD;go_enter func187,ntmps187;go_wp2_with (at_make; refine wpList_make_full _ rfl _ _ 275 rfl w.heap.size 4 inf (.bool false) 1 underlying275 hi hz0 hz1 .i64 .i64 _ _ rs.length rfl rfl rfl rfl (by rw [hz2]; omega) (by unfold maxLen; omega) (TS _) ?_; intro w0 hown0 Vu);have HF0:Hid (Fil w w0 w.heap.size rs.length (bools (List.replicate rs.length false))):=by
  have:=Cx (v:=.bool false) hown0 Vu;show Fil _ _ _ _ _;simpa [bools] using this
 clear hown0 Vu hi hz0 hz1 hz2;go_loopw [4] (fun i wr=>∃ (m:Nat) (out:List Bool),m≤rs.length∧i=.int .i64 ((m:Int) - 1)∧out.length=rs.length∧Hid (dU (aj rs) m out=dz (aj rs))∧Hid (Fil w wr w.heap.size rs.length (bools out))) (fun i _=>(intOf i + 1).toNat);case atStart=>exact ⟨rs.length,List.replicate rs.length false,TS _,by go_num,by simp,(by show _=_; unfold dz; rw [aT]),HF0⟩
 obtain ⟨m,out,hm,rfl,hol,HN,HF⟩:=hrel;by_cases hm0:0 < m
 ·obtain ⟨m,rfl⟩:∃ m',m=m' + 1:=⟨m - 1,by omega⟩;have hmi:(((m + 1:Nat):Int) - 1)=(m:Int):=by omega
  rw [hmi];have hlt:m < rs.length:=by omega
  rcases HS.out.below HF.out.below with rfl | ⟨b,off,rfl,hb,hr,hok⟩
  ·simp at hlt
  obtain ⟨t0,t1,t2,t3,t4⟩:=hr m hlt;have Vz:Hid (rs[m].ok _):=hok rs[m] (TQ hlt);have lg:=(HL.out rs[m] (TQ hlt)).2;have HKI:Hid (dV rs.length rs[m].e.kids):=HK.out rs[m] (TQ hlt);have hk1:=bB m;have hk2:(m:Int) < (rs.length:Int):=by omega
  have hbw:b < w.heap.size:=by
   rcases HS.out with h | ⟨b',off',h1,h2,-⟩
   ·rw [h] at hlt; simp at hlt
   injection h1 with h1; injection h1 with h1; omega
  have HR:Hid (x8 wr b (off + m * 5) rs[m]):=hr m hlt;have HNX:Hid (dU (aj rs) m (bn m rs[m].e.kind rs[m].e.kids 0 out)=dz (aj rs)):=by
   show _=_;rw [← HN.out,zF _ _ _ (by rw [aT]; exact hlt)];simp [aj]
  clear hr hok t0 t1 t2 t3;go_wp2_with fail;clear t4;go_loopw [23] (fun i w2=>∃ (j:Nat) (UE:List Bool),j≤rs[m].e.kids.length∧i=.int .i64 j∧UE.length=rs.length∧Hid (bn m rs[m].e.kind (rs[m].e.kids.drop j) j UE=bn m rs[m].e.kind rs[m].e.kids 0 out)∧Hid (Fil w w2 w.heap.size rs.length (bools UE))) (fun i _=>rs[m].e.kids.length - (intOf i).toNat);case atStart=>exact ⟨0,out,TW _,rfl,hol,rfl,HF⟩
  obtain ⟨j,UE,hj,rfl,ho2,HJ,VI⟩:=hrel;have hE2:iH wr _ rs:=HS.out.below VI.out.below;have ht:x8 wr b (off + m * 5) rs[m]:=by
   rcases hE2 with h | ⟨b',off',h1,h2,h3,-⟩
   ·exact absurd hlt (by rw [h]; simp)
   injection h1 with h1; injection h1 with h1 h1'; subst h1; subst h1'; exact h3 m hlt
  obtain ⟨t0,t1,t2,t3,t4⟩:=ht;by_cases hjl:j < rs[m].e.kids.length
  ·have hK2:pX wr rs[m].adK rs[m].e.kids:=(hE2.mem (TQ hlt)).2;rcases hK2 with hnil | ⟨ba,Wp,U7,Yl,hra⟩
   ·rw [hnil] at hjl; simp at hjl
   rw [U7];have q0:=hra j hjl;have hj1:=bB j;have hj2:(j:Int) < (rs[m].e.kids.length:Int):=by omega
   obtain ⟨x0,x1⟩:=HKI.out _ (TQ hjl);obtain ⟨x,hx⟩:∃ x:Nat,rs[m].e.kids[j]=(x:Int):=⟨rs[m].e.kids[j].toNat,by omega⟩;rw [hx] at q0 x0 x1;have c0:=VI.out.done m (by simp [bools]; omega);have fz:=VI.out.free;obtain ⟨v0,u0⟩:=Option.isSome_iff_exists.mp (VI.out.there x (by omega));have hbr:b < wr.heap.size:=TP hbw VI.out.below.size;obtain ⟨bo,hbo⟩:∃ bo,bo=(bools UE)[m]'(by simp [bools]; omega):=⟨_,rfl⟩;rw [← hbo] at c0;clear hra U7 hE2 t1 t2 t3;have hm2:m < UE.length:=by omega
   have Zf:bo=.bool UE[m]:=by rw [hbo]; simp [bools]
   have Zg:UE[m]?.getD false=UE[m]:=by simp [hm2]
   rw [Zf] at c0;clear hbo Zf;cases hb0:UE[m];case true=>
    rw [hb0] at c0 Zg;have Wo:Hid (Fil w (wr.setCell ⟨w.heap.size,x,none⟩ (.bool true)) w.heap.size rs.length (bools (UE.set x true))):=by show Fil _ _ _ _ _; rw [nW]; exact VI.out.set _ (by simp [bools]; omega) (by omega)
    have HJ2:Hid (bn m rs[m].e.kind (rs[m].e.kids.drop (j + 1)) (j + 1) (UE.set x true)=bn m rs[m].e.kind rs[m].e.kids 0 out):=by
     show _=_;rw [← HJ.out,jF _ _ _ _ _ hjl,hx];simp [*]
    go_wp2;go_roundw;case rel=>exact ⟨j + 1,UE.set x true,by omega,by go_num,by simp [ho2],HJ2,Wo⟩
    simp [intOf] <;> omega
   rw [hb0] at c0 Zg;cases hkb:(rs[m].e.kind == 6);case false=>
    have Wo:Hid (Fil w (wr.setCell ⟨w.heap.size,x,none⟩ (.bool false)) w.heap.size rs.length (bools (UE.set x false))):=by show Fil _ _ _ _ _; rw [nW]; exact VI.out.set _ (by simp [bools]; omega) (by omega)
    have HJ2:Hid (bn m rs[m].e.kind (rs[m].e.kids.drop (j + 1)) (j + 1) (UE.set x false)=bn m rs[m].e.kind rs[m].e.kids 0 out):=by
     show _=_;rw [← HJ.out,jF _ _ _ _ _ hjl,hx];simp [*]
    go_wp2;go_roundw;case rel=>exact ⟨j + 1,UE.set x false,by omega,by go_num,by simp [ho2],HJ2,Wo⟩
    simp [intOf] <;> omega
   cases hjb:((j:Int) == 1);case true=>
    have hjn:(j == 1)=true:=by simp at hjb ⊢; omega
    have Wo:Hid (Fil w (wr.setCell ⟨w.heap.size,x,none⟩ (.bool true)) w.heap.size rs.length (bools (UE.set x true))):=by show Fil _ _ _ _ _; rw [nW]; exact VI.out.set _ (by simp [bools]; omega) (by omega)
    have HJ2:Hid (bn m rs[m].e.kind (rs[m].e.kids.drop (j + 1)) (j + 1) (UE.set x true)=bn m rs[m].e.kind rs[m].e.kids 0 out):=by
     show _=_;rw [← HJ.out,jF _ _ _ _ _ hjl,hx];simp [*]
    go_wp2;go_roundw;case rel=>exact ⟨j + 1,UE.set x true,by omega,by go_num,by simp [ho2],HJ2,Wo⟩
    simp [intOf] <;> omega
   have hjn:(j == 1)=false:=by simp at hjb ⊢; omega
   have Wo:Hid (Fil w (wr.setCell ⟨w.heap.size,x,none⟩ (.bool false)) w.heap.size rs.length (bools (UE.set x false))):=by show Fil _ _ _ _ _; rw [nW]; exact VI.out.set _ (by simp [bools]; omega) (by omega)
   have HJ2:Hid (bn m rs[m].e.kind (rs[m].e.kids.drop (j + 1)) (j + 1) (UE.set x false)=bn m rs[m].e.kind rs[m].e.kids 0 out):=by
    show _=_;rw [← HJ.out,jF _ _ _ _ _ hjl,hx];simp [*]
   go_wp2;go_roundw;case rel=>exact ⟨j + 1,UE.set x false,by omega,by go_num,by simp [ho2],HJ2,Wo⟩
   simp [intOf] <;> omega
  have Xq:Hid (dU (aj rs) m UE=dz (aj rs)):=by
   show _=_;rw [← HNX.out,← HJ.out,List.drop_of_length_le (by omega)];rfl
  go_wp2;go_roundw;case rel=>exact ⟨m,UE,by omega,by go_num,ho2,Xq,VI⟩
  simp [intOf] <;> omega
 obtain rfl:m=0:=by omega
 have WH:Hid (Fil w wr w.heap.size rs.length (bools (dz (aj rs)))):=by
  show Fil _ _ _ _ _;rw [← HN.out];exact HF.out
 go_wp2;go_ret;exact ⟨rfl,WH.out⟩
end Go.Proofs.YtajkkeikihhejaaGreat
