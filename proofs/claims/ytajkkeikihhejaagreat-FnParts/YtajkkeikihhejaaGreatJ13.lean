/- Strata in plain words: what they must keep, the least ones, and that they are few. Nothing of the program is read here. -/
import Derived.Test.YtajkkeikihhejaaGreatSq
import Derived.Test.YtajkkeikihhejaaGreatJ4
import Derived.Test.YtajkkeikihhejaaGreatSpecSchema8
open Go.Proofs.Tryz
namespace Go.Proofs.YtajkkeikihhejaaGreat
open Pl
theorem gu {a b:ByteArray}(h:a.toList=b.toList):a=b:=by
 rw [Go.ByteArray.toList_eq,Go.ByteArray.toList_eq]at h;cases a with|mk x=>cases b with|mk y =>
 congr;exact Array.ext' h
theorem fw {a b:ByteArray}:(a.toList==b.toList)=true ↔ a=b:=⟨fun h=>gu (by simpa using h),fun h=>by simp [h]⟩
def jH (t:Ty):List (ByteArray×ByteArray):=t.rels.map fun r=>(t.name,r.name)
def ak (ts:List Ty):List (ByteArray×ByteArray):=ts.flatMap jH
def stepOf (d:Dp):Int:=if d.neg then 1 else 0
def il (ts:List Ty)(k:ByteArray×ByteArray):List Dp:=pX ts k.1 (aB ts k.1 k.2)
structure Sol (ts:List Ty)(f:ByteArray×ByteArray->Int):Prop where
 pos:∀ k,0<=f k
 up:∀ k∈ak ts,∀ d∈il ts k,f (d.typ,d.rel)+stepOf d<=f k
def Found (ts:List Ty):Prop:=∀ k∈ak ts,∀ d∈il ts k,(d.typ,d.rel)∈ak ts
theorem xI (vs:List Int)(x y:Int)(h:x<=y):vs.countP (fun v=>decide (v<x))<=vs.countP (fun v=>decide (v<y)) :=
 List.countP_mono_left fun v _ hv=>by simp at hv ⊢;omega
theorem Lh (vs:List Int)(x y:Int)(h:x+1<=y)(hx:x∈vs):vs.countP (fun v=>decide (v<x))+1<=vs.countP (fun v=>decide (v<y)):=by
 induction vs with
 | nil=>cases hx
 | cons v vs ih =>
  simp only [List.countP_cons];rcases List.mem_cons.1 hx with rfl|hm
  ·have:=xI vs x y (by omega);have h1:decide (x<x)=false:=by simp
   have h2:decide (x<y)=true:=by simp;omega
   simp only [h1,h2];simp;omega
  have:=ih hm;by_cases h1:v<x
  ·have h2:v<y:=by omega
   simp [h1,h2];omega
  simp only [h1];simp;omega
theorem IC (vs:List Int)(x:Int)(hx:x∈vs):vs.countP (fun v=>decide (v<x))+1<=vs.length:=by
 induction vs with
 | nil=>cases hx
 | cons v vs ih =>
  simp only [List.countP_cons,List.length_cons];rcases List.mem_cons.1 hx with rfl|hm
  ·have:=List.countP_le_length (p:=fun v=>decide (v<x)) (l:=vs);have h1:decide (x<x)=false:=by simp
   simp only [h1];simp;omega
  have:=ih hm;split <;> omega
theorem Sol.few {ts:List Ty}{f:ByteArray×ByteArray->Int}(h:Sol ts f)(hF:Found ts):∃ g,Sol ts g/\∀ k∈ak ts,g k+1<=(ak ts).length:=by
 refine ⟨fun k=>((((ak ts).map f).countP (fun v=>decide (v<f k)):Nat):Int),⟨fun k=>by omega,fun k hk d hd=>?_⟩,fun k hk=>?_⟩
 ·have h1:=h.up k hk d hd;have h2:f (d.typ,d.rel)∈(ak ts).map f:=List.mem_map_of_mem (hF k hk d hd);unfold stepOf at h1 ⊢;split at h1
  ·rename_i hn;have:=Lh ((ak ts).map f) _ _ h1 h2;simp only [hn,if_true];omega
  rename_i hn;have:=xI ((ak ts).map f) _ _ (show f (d.typ,d.rel)<=f k by omega);have e0:(if d.neg=true then (1:Int) else 0)=0:=if_neg hn;rw [e0];omega
 have:=IC ((ak ts).map f) (f k) (List.mem_map_of_mem hk);simp at this ⊢;omega
def qF (ts:List Ty)(k:ByteArray×ByteArray)(n:Int):Prop:=∀ f,Sol ts f->n<=f k
theorem IE {ts:List Ty}(hF:Found ts){k:ByteArray×ByteArray}(hk:k∈ak ts){n:Int}(hl:qF ts k n)(hn:((ak ts).length:Int)<=n):¬ ∃ f,Sol ts f:=by
 rintro ⟨f,hf⟩;obtain ⟨g,hg,hb⟩:=hf.few hF;have:=hl g hg;have:=hb k hk;omega
theorem qF.step {ts:List Ty}{k:ByteArray×ByteArray}(hk:k∈ak ts){d:Dp}(hd:d∈il ts k){n:Int}(hl:qF ts (d.typ,d.rel) n):qF ts k (n+stepOf d):=fun f hf=>by
 have h1:=hl f hf;have h2:=hf.up k hk d hd;omega
theorem qF.zero (ts:List Ty)(k:ByteArray×ByteArray):qF ts k 0:=fun _ hf=>hf.pos k
structure Least (ts:List Ty)(f:ByteArray×ByteArray->Int):Prop where
 sol:Sol ts f
 low:∀ k∈ak ts,qF ts k (f k)
theorem Least.same {ts:List Ty}{f g:ByteArray×ByteArray->Int}(hf:Least ts f)(hg:Least ts g)(k:ByteArray×ByteArray)(hk:k∈ak ts):f k=g k:=by
 have h1:=hf.low k hk g hg.sol;have h2:=hg.low k hk f hf.sol;omega
def St.key (s:St):ByteArray×ByteArray:=(s.typ,s.rel)
def iJ (out:List St):List (ByteArray×ByteArray):=out.map St.key
theorem qG {s:St}{k:ByteArray×ByteArray}:zP s k.1 k.2=true ↔ s.key=k:=by
 unfold zP St.key;rw [Ug,fw,fw];constructor
 ·rintro ⟨h1,h2⟩;rw [h1,h2]
 rintro rfl;exact ⟨rfl,rfl⟩
def fM (out:List St)(k:ByteArray×ByteArray):Int :=
 match out with
 | []=>0
 | s::xs=>if zP s k.1 k.2 then s.n else fM xs k
theorem o8 {k:ByteArray×ByteArray}:∀ (out:List St) (j:Nat),k∈iJ out->∃ i:Nat,∃ h:i<out.length,gP k.1 k.2 out j=((j+i:Nat):Int)/\out[i].key=k/\out[i].n=fM out k
 | [],_,h=>by cases h
 | s::xs,j,h=>by
  by_cases hs:zP s k.1 k.2=true
  ·exact ⟨0,by simp,by simp [gP,hs],qG.1 hs,by simp [fM,hs]⟩
  have hm:k∈iJ xs:=by
   rcases List.mem_cons.1 h with e|hm
   ·exact absurd (qG.2 e.symm) hs
   exact hm
  obtain ⟨i,hi,h1,h2,h3⟩:=o8 xs (j+1) hm;refine ⟨i+1,by simp;omega,?_,by simpa using h2,by simpa [fM,hs] using h3⟩;simp only [gP,hs];simp only [Bool.false_eq_true,if_false];rw [h1];congr 1;omega
theorem CJ {k:ByteArray×ByteArray}(out:List St)(h:k∈iJ out):∃ s∈out,s.key=k/\s.n=fM out k:=by
 obtain ⟨i,hi,-,h2,h3⟩:=o8 out 0 h;exact ⟨out[i],Ud hi,h2,h3⟩
theorem Oq {k:ByteArray×ByteArray}(out:List St)(h:k ∉ iJ out):fM out k=0:=by
 induction out with
 | nil=>rfl
 | cons s xs ih =>
  have h1:¬ zP s k.1 k.2=true:=fun e=>h (by rw [qG]at e;simp [iJ,e]);simp only [fM,h1];simp only [Bool.false_eq_true,if_false];exact ih fun hm=>h (by simp only [iJ,List.map_cons,List.mem_cons];exact .inr hm)
def mI:List St->Int
 | []=>0
 | s::xs=>s.n+mI xs
theorem Ot (out:List St)(i:Nat)(h:i<out.length)(n:Int):mI (out.set i ⟨out[i].typ,out[i].rel,n⟩)=mI out-out[i].n+n:=by
 induction out generalizing i with
 | nil=>simp at h
 | cons s xs ih =>
  cases i with
  | zero=>simp [mI];omega
  | succ i=>simp only [List.set_cons_succ,mI,List.getElem_cons_succ];rw [ih i (by simpa using h)];omega
theorem Li (out:List St)(i:Nat)(h:i<out.length)(n:Int):iJ (out.set i ⟨out[i].typ,out[i].rel,n⟩)=iJ out:=by
 unfold iJ;rw [List.map_set];show (List.map St.key out).set i (out[i].key)=_;have:out[i].key=(List.map St.key out)[i]'(by simpa using h):=by simp
 rw [this,List.set_getElem_self]
structure Round (ts:List Ty)(out:List St):Prop where
 keys:iJ out=ak ts
 pos:∀ s∈out,0<=s.n
 low:∀ s∈out,qF ts s.key s.n
def QC (ts:List Ty)(out:List St)(s:St)(k:Nat):Prop:=∀ d∈(il ts s.key).take k,fM out (d.typ,d.rel)+stepOf d<=s.n
theorem Round.mem {ts:List Ty}{out:List St}(h:Round ts out){s:St}(hs:s∈out):s.key∈ak ts:=by rw [<-h.keys];exact List.mem_map_of_mem hs
theorem Round.at {ts:List Ty}{out:List St}(h:Round ts out){k:ByteArray×ByteArray}(hk:k∈ak ts):0<=fM out k/\qF ts k (fM out k):=by
 obtain ⟨s,hs,e,en⟩:=CJ out (by rw [h.keys];exact hk);rw [<-en,<-e];exact ⟨h.pos s hs,h.low s hs⟩
theorem Round.set {ts:List Ty}{out:List St}(h:Round ts out)(hF:Found ts){i:Nat}(hi:i<out.length){d:Dp}(hd:d∈il ts out[i].key):Round ts (out.set i ⟨out[i].typ,out[i].rel,fM out (d.typ,d.rel)+stepOf d⟩):=by
 have hk:out[i].key∈ak ts:=h.mem (Ud hi);have hdk:=hF _ hk d hd;obtain ⟨h0,hl⟩:=h.at hdk;have hs0:0<=stepOf d:=by unfold stepOf;split <;> omega
 refine ⟨(Li out i hi _).trans h.keys,fun s hs=>?_,fun s hs=>?_⟩
 ·rcases List.mem_or_eq_of_mem_set hs with hs|rfl
  ·exact h.pos s hs
  show 0<=fM out (d.typ,d.rel)+stepOf d;omega
 rcases List.mem_or_eq_of_mem_set hs with hs|rfl
 ·exact h.low s hs
 exact hl.step hk hd
theorem Round.done {ts:List Ty}{out:List St}(h:Round ts out)(hs:∀ s∈out,QC ts out s (il ts s.key).length):Least ts (fM out) where
 sol:=⟨fun k=>by
   by_cases hk:k∈ak ts
   ·exact (h.at hk).1
   ·rw [Oq out (by rw [h.keys];exact hk)];exact Int.le_refl _,fun k hk d hd=>by
   obtain ⟨s,hm,e,en⟩:=CJ out (by rw [h.keys];exact hk);have:=hs s hm d (by rw [Us,e];exact hd);rw [<-en];exact this⟩
 low k hk:=(h.at hk).2
def jf (a b:ByteArray):Bool:=Op.bytesLess a.toList b.toList
def ma (rs:List Rl)(j:Nat):Bool :=
 match rs[j]? with
 | none=>true
 | some r=>aR r.name&&(match j with|0=>true|i+1=>(rs[i]?.map fun p=>jf p.name r.name).getD true)&&aK r.expr
def dI (rs:List Rl):Nat->Bool
 | 0=>true
 | k+1=>dI rs k&&ma rs k
def kw (ts:List Ty)(j:Nat):Bool :=
 match ts[j]? with
 | none=>true
 | some t=>aR t.name&&(match j with|0=>true|i+1=>(ts[i]?.map fun p=>jf p.name t.name).getD true)&&decide (t.rels.length<=6)&&dI t.rels t.rels.length
def iM (ts:List Ty):Nat->Bool
 | 0=>true
 | k+1=>iM ts k&&kw ts k
theorem tH (rs:List Rl)(k:Nat)(hb:ma rs k=false):∀ n,k<n->dI rs n=false
 | 0,hn=>by omega
 | n+1,hn=>by
  by_cases e:n=k
  ·subst e;simp [dI,hb]
  simp [dI,tH rs k hb n (by omega)]
theorem tJ (ts:List Ty)(k:Nat)(hb:kw ts k=false):∀ n,k<n->iM ts n=false
 | 0,hn=>by omega
 | n+1,hn=>by
  by_cases e:n=k
  ·subst e;simp [iM,hb]
  simp [iM,tJ ts k hb n (by omega)]
theorem o9 {rs:List Rl}:∀ {n:Nat},dI rs n=true->∀ j,j<n->ma rs j=true
 | 0,_,j,hj=>by omega
 | n+1,h,j,hj=>by
  simp only [dI,Ug]at h;by_cases e:j=n
  ·subst e;exact h.2
  exact o9 h.1 j (by omega)
theorem pg {ts:List Ty}:∀ {n:Nat},iM ts n=true->∀ j,j<n->kw ts j=true
 | 0,_,j,hj=>by omega
 | n+1,h,j,hj=>by
  simp only [iM,Ug]at h;by_cases e:j=n
  ·subst e;exact h.2
  exact pg h.1 j (by omega)
def bi (ts:List Ty):Bool:=decide (ts.length<=6)&&iM ts ts.length
def qH (ts:List Ty)(t:Ty):Bool:=t.rels.all fun r=>aS ts t.name r.expr
def iH (ts:List Ty):Bool:=ts.all (qH ts)
def bW (ts:List Ty):Prop:=bi ts=true/\iH ts=true/\∃ f,Sol ts f
theorem Lj {rs:List Rl}{n:ByteArray}{es:List Ex}(h:jO rs n=some es):∃ r∈rs,r.name=n/\r.expr=es:=by
 induction rs with
 | nil=>simp [jO]at h
 | cons r rs ih =>
  simp only [jO]at h;split at h
  ·rename_i hn;injection h with h;exact ⟨r,by simp,fw.1 hn,h⟩
  obtain ⟨q,hq,e⟩:=ih h;exact ⟨q,by simp [hq],e⟩
theorem qI {ts:List Ty}{ty n:ByteArray}{es:List Ex}(h:fH ts ty n=some es):∃ t∈ts,∃ r∈t.rels,t.name=ty/\r.name=n/\r.expr=es:=by
 induction ts with
 | nil=>simp [fH]at h
 | cons t ts ih =>
  simp only [fH]at h;split at h
  ·rename_i hn;rcases Option.or_eq_some_iff.1 h with h|⟨-,h⟩
   ·obtain ⟨r,hr,e⟩:=Lj h;exact ⟨t,by simp,r,hr,fw.1 hn,e⟩
   obtain ⟨t',ht,e⟩:=ih h;exact ⟨t',by simp [ht],e⟩
  obtain ⟨t',ht,e⟩:=ih h;exact ⟨t',by simp [ht],e⟩
theorem qJ {ts:List Ty}{k:ByteArray×ByteArray}:k∈ak ts ↔ ∃ t∈ts,∃ r∈t.rels,k=(t.name,r.name):=by
 simp only [ak,jH,Ut,Ur];constructor
 ·rintro ⟨t,ht,r,hr,e⟩;exact ⟨t,ht,r,hr,e.symm⟩
 rintro ⟨t,ht,r,hr,e⟩;exact ⟨t,ht,r,hr,e.symm⟩
theorem rC {ts:List Ty}{ty n:ByteArray}(h:(aB ts ty n).isEmpty=false):(ty,n)∈ak ts:=by
 unfold aB at h;cases e:fH ts ty n with
 | none=>rw [e]at h;simp at h
 | some es =>
  obtain ⟨t,ht,r,hr,h1,h2,-⟩:=qI e;exact qJ.2 ⟨t,ht,r,hr,by rw [h1,h2]⟩
theorem Sz {ts:List Ty}{rel:ByteArray}{xs:List Al}{g:ByteArray}(h:g∈gl ts rel xs):(aB ts g rel).isEmpty=false:=by
 induction xs with
 | nil=>simp [gl]at h
 | cons a xs ih =>
  simp only [gl]at h;split at h
  ·exact ih h
  rename_i hn;rcases List.mem_cons.1 h with rfl|h
  ·simpa using hn
  exact ih h
theorem Ll {neg:Bool}{xs:List Al}{d:Dp}(h:d∈dm neg xs):∃ a∈xs,a.s.toList.isEmpty=false/\d.typ=a.t/\d.rel=a.s:=by
 induction xs with
 | nil=>simp [dm]at h
 | cons a xs ih =>
  simp only [dm]at h;split at h
  ·obtain ⟨b,hb,e⟩:=ih h;exact ⟨b,by simp [hb],e⟩
  rename_i hn;rcases List.mem_cons.1 h with rfl|h
  ·exact ⟨a,by simp,by simpa using hn,rfl,rfl⟩
  obtain ⟨b,hb,e⟩:=ih h;exact ⟨b,by simp [hb],e⟩
theorem tK {ts:List Ty}{typ:ByteArray}{es:List Ex}{d:Dp}:∀ {k:Nat},d∈aP ts typ es k->∃ i,i<k/\d∈ik ts typ es i
 | 0,h=>by simp [aP]at h
 | k+1,h=>by
  simp only [aP]at h;rcases Uq.1 h with h|h
  ·obtain ⟨i,hi,e⟩:=tK h;exact ⟨i,by omega,e⟩
  exact ⟨k,by omega,h⟩
theorem CK {ts:List Ty}{typ:ByteArray}{es:List Ex}(h:aS ts typ es=true):∀ e∈es,o6 ts e.allow=true/\ll ts typ e=true:=by
 induction es with
 | nil=>intro e he;cases he
 | cons e es ih =>
  simp only [aS]at h;split at h
  ·rename_i hn;rw [Ug]at hn;intro q hq;rcases List.mem_cons.1 hq with rfl|hq
   ·exact hn
   exact ih h q hq
  cases h
theorem kz {ts:List Ty}(h:iH ts=true):Found ts:=by
 intro k hk d hd;unfold il pX at hd;have hne:(aB ts k.1 k.2).length≠0:=by
  intro e;rw [e]at hd;simp [aP]at hd
 obtain ⟨es,hes⟩:∃ es,fH ts k.1 k.2=some es:=by
  cases e:fH ts k.1 k.2 with
  | none=>unfold aB at hne;rw [e]at hne;simp at hne
  | some es=>exact ⟨es,rfl⟩
 have ero:aB ts k.1 k.2=es:=by unfold aB;rw [hes];rfl
 rw [ero]at hd;obtain ⟨t,ht,r,hr,h1,h2,h3⟩:=qI hes;have hr1:aS ts k.1 es=true:=by
  unfold iH at h;rw [Un]at h;have:=h t ht;unfold qH at this;rw [Un]at this;have:=this r hr;rw [h1,h3]at this;exact this
 obtain ⟨i,hi,hdi⟩:=tK hd;unfold ik at hdi;split at hdi
 ·cases hdi
 rename_i e he;obtain ⟨ra,rn⟩:=CK hr1 e (List.mem_of_getElem? he);rcases Uq.1 hdi with hdi|hdi
 ·obtain ⟨a,ha,hs,e1,e2⟩:=Ll hdi;unfold o6 at ra;rw [Un]at ra;have:=ra a ha;unfold pW at this;rw [hs,Bool.false_or,Ug]at this;rw [e1,e2];exact rC (by simpa using this.2)
 unfold kN at hdi;unfold ll at rn;split at hdi
 ·rename_i h2;rw [if_pos h2]at rn;simp at hdi;subst hdi;exact rC (by simpa using rn)
 split at hdi
 ·obtain ⟨g,hg,rfl⟩:=Ur.1 hdi;exact rC (Sz hg)
 cases hdi
theorem lq {es:List Ex}(h:aK es=true):1<=es.length/\es.length<=15:=by
 simp only [aK,Ug,Um]at h;exact ⟨h.1.1.1.1.1,h.1.1.1.1.2⟩
theorem Lm {es:List Ex}(h:aK es=true)(i:Nat)(hi:i<es.length):dW es.length es[i].kids:=by
 simp only [aK,Ug,Um]at h;have h1:=h.1.1.2;unfold ja at h1;rw [Un]at h1;have h2:=h1 i (by simpa using hi);unfold kI dx at h2;rw [Uj hi]at h2;simp only [Option.map_some,Option.getD_some,Un,Ug,Um]at h2;intro x hx;have:=h2 x hx;omega
theorem bu {rs:List TR}(h:bi (ae rs)=true):rs.length<=6/\(∀ r∈rs,r.rows.length<=6)/\∀ r∈rs,∀ q∈r.rows,aK (aj q.rows)=true/\q.rows.length<=15/\∀ e∈q.rows,dW q.rows.length e.e.kids:=by
 simp only [bi,Ug,Um]at h;rw [kY]at h;have hT:∀ r∈rs,r.rows.length<=6/\dI (eF r.rows) r.rows.length=true:=by
  intro r hr;obtain ⟨j,hj,rfl⟩:=List.mem_iff_getElem.1 hr;have h1:=pg h.2 j hj;unfold kw at h1;have e:(ae rs)[j]?=some rs[j].p:=by simp [ae,hj]
  rw [e]at h1;simp only [Ug,Um]at h1;have e2:rs[j].p.rels.length=rs[j].rows.length:=by simp [TR.p,eF]
  rw [e2]at h1;exact ⟨h1.1.2,h1.2⟩
 refine ⟨h.1,fun r hr=>(hT r hr).1,fun r hr q hq=>?_⟩;obtain ⟨j,hj,rfl⟩:=List.mem_iff_getElem.1 hq;have h1:=o9 (hT r hr).2 j hj;unfold ma at h1;have e:(eF r.rows)[j]?=some r.rows[j].p:=by simp [eF,hj]
 rw [e]at h1;simp only [Ug]at h1;have h2:aK (aj r.rows[j].rows)=true:=h1.2;have h3:=lq h2;rw [aN]at h3;refine ⟨h2,h3.2,fun e he=>?_⟩;obtain ⟨i,hi,rfl⟩:=List.mem_iff_getElem.1 he;have:=Lm h2 i (by rw [aN];exact hi);have e1:(aj r.rows[j].rows)[i]'(by rw [aN];exact hi)=r.rows[j].rows[i].e:=by simp [aj]
 rw [e1]at this;simpa [aj] using this
def assigns (n:Nat):List (ByteArray×ByteArray)->List (ByteArray×ByteArray->Int)
 | []=>[fun _=>0]
 | k::ks=>(assigns n ks).flatMap fun f=>(List.range n).map fun v=>fun y=>if y=k then ((v:Nat):Int) else f y
theorem xJ {n:Nat}:∀ {ks:List (ByteArray×ByteArray)} {f:ByteArray×ByteArray->Int},f∈assigns n ks->∀ k,0<=f k
 | [],f,h,k=>by simp only [assigns,Uo]at h;rw [h];exact Int.le_refl _
 | x::ks,f,h,k=>by
  simp only [assigns,Ut,Ur]at h;obtain ⟨g,hg,v,-,rfl⟩:=h;show 0<=(if k=x then ((v:Nat):Int) else g k);split
  ·omega
  exact xJ hg k
theorem xK {n:Nat}(g:ByteArray×ByteArray->Int):∀ (ks:List (ByteArray×ByteArray)),(∀ k∈ks,0<=g k/\g k<n)->∃ f∈assigns n ks,∀ k∈ks,f k=g k
 | [],_=>⟨fun _=>0,by simp [assigns],fun k hk=>by cases hk⟩
 | x::ks,h=>by
  obtain ⟨f,hf,hfg⟩:=xK g ks fun k hk=>h k (UC _ hk);obtain ⟨h0,h1⟩:=h x (UG ..);refine ⟨fun y=>if y=x then (((g x).toNat:Nat):Int) else f y,?_,fun k hk=>?_⟩
  ·simp only [assigns,Ut,Ur];exact ⟨f,hf,(g x).toNat,List.mem_range.2 (by omega),rfl⟩
  show (if k=x then (((g x).toNat:Nat):Int) else f k)=g k;by_cases e:k=x
  ·rw [if_pos e,e];omega
  rw [if_neg e];rcases List.mem_cons.1 hk with h2|h2
  ·exact absurd h2 e
  exact hfg k h2
def SA (ts:List Ty)(f:ByteArray×ByteArray->Int):Bool:=(ak ts).all fun k=>(il ts k).all fun d=>decide (f (d.typ,d.rel)+stepOf d<=f k)
theorem Ko {ts:List Ty}{f:ByteArray×ByteArray->Int}:SA ts f=true ↔ ∀ k∈ak ts,∀ d∈il ts k,f (d.typ,d.rel)+stepOf d<=f k:=by
 unfold SA;simp only [Un,Um]
def zQ (ts:List Ty):List (ByteArray×ByteArray->Int):=(assigns (ak ts).length (ak ts)).filter (SA ts)
theorem Lp {ts:List Ty}{f:ByteArray×ByteArray->Int}(h:f∈zQ ts):Sol ts f:=by
 unfold zQ at h;rw [UJ]at h;exact ⟨xJ h.1,Ko.1 h.2⟩
theorem Ou {ts:List Ty}{g:ByteArray×ByteArray->Int}(hF:Found ts)(h:Sol ts g)(hb:∀ k∈ak ts,g k+1<=(ak ts).length):∃ f∈zQ ts,∀ k∈ak ts,f k=g k:=by
 obtain ⟨f,hf,hfg⟩:=xK (n:=(ak ts).length) g (ak ts) fun k hk=>⟨h.pos k,by have:=hb k hk;omega⟩;refine ⟨f,?_,hfg⟩;unfold zQ;rw [UJ];refine ⟨hf,Ko.2 fun k hk d hd=>?_⟩;rw [hfg k hk,hfg _ (hF k hk d hd)];exact h.up k hk d hd
def aL (ts:List Ty):Bool:=bi ts&&iH ts && !(zQ ts).isEmpty
theorem aZ {ts:List Ty}:aL ts=true ↔ bW ts:=by
 unfold aL bW;simp only [Ug,Bool.not_eq_true'];constructor
 ·rintro ⟨⟨h1,h2⟩,h3⟩;refine ⟨h1,h2,?_⟩;cases e:zQ ts with
  | nil=>rw [e]at h3;cases h3
  | cons f fs=>exact ⟨f,Lp (by rw [e];exact UG ..)⟩
 rintro ⟨h1,h2,f,hf⟩;refine ⟨⟨h1,h2⟩,?_⟩;obtain ⟨g,hg,hb⟩:=hf.few (kz h2);obtain ⟨f2,hf2,-⟩:=Ou (kz h2) hg hb;cases e:zQ ts with
 | nil=>rw [e]at hf2;cases hf2
 | cons f fs=>rfl
theorem xL {ts:List Ty}(h:bW ts):aL ts=true:=aZ.2 h
theorem dO {ts:List Ty}(h:¬ bW ts):aL ts=false:=by
 cases e:aL ts;case false=>rfl
 exact absurd (aZ.1 e) h
open Go.ChangeAt Go.ChangeShapes Go.RowKit Go.WideShapes
def St.cells (s:St):List Value:=[.string s.typ,.string s.rel,.int .i64 s.n]
def iK:List St->List Value
 | []=>[]
 | s::xs=>s.cells++iK xs
theorem Ej (xs ys:List St):iK (xs++ys)=iK xs++iK ys:=by
 induction xs with
 | nil=>rfl
 | cons d ds ih=>simp [iK,ih]
theorem zR (xs:List St)(d:St):iK (xs++[d])=iK xs++d.cells:=by rw [Ej];simp [iK]
theorem lu (xs:List St)(i:Nat)(h:i<xs.length)(o:Nat)(ho:o<3):(iK xs)[i*3+o]?=(xs[i].cells)[o]?:=by
 induction xs generalizing i with
 | nil=>simp at h
 | cons s xs ih =>
  cases i with
  | zero =>
   simp only [iK,Nat.zero_mul,Uz,List.getElem_cons_zero];rw [List.getElem?_append_left (by simp [St.cells];omega)]
  | succ i =>
   simp only [iK,List.getElem_cons_succ];rw [List.getElem?_append_right (by simp [St.cells];omega)];have e:(i+1)*3+o-s.cells.length=i*3+o:=by simp [St.cells];omega
   rw [e];exact ih i (by simpa using h)
theorem wI (xs:List Dp)(i:Nat)(h:i<xs.length)(o:Nat)(ho:o<3):(eu xs)[i*3+o]?=(xs[i].cells)[o]?:=by
 induction xs generalizing i with
 | nil=>simp at h
 | cons s xs ih =>
  cases i with
  | zero =>
   simp only [eu,Nat.zero_mul,Uz,List.getElem_cons_zero];rw [List.getElem?_append_left (by simp [Dp.cells];omega)]
  | succ i =>
   simp only [eu,List.getElem_cons_succ];rw [List.getElem?_append_right (by simp [Dp.cells];omega)];have e:(i+1)*3+o-s.cells.length=i*3+o:=by simp [Dp.cells];omega
   rw [e];exact ih i (by simpa using h)
theorem FW (g j:Nat):(⟨g,0,none⟩:Addr).add j=⟨g,j,none⟩:=by
 unfold Addr.add;by_cases hj:j=0
 ·subst hj;simp
 simp [hj]
theorem QD {w:af}{base:Nat}{t:TypeId}{v:Value}{n:Nat}{xs:List Value}(h:w.ownsRow base t 3 v n xs):∃ ad cp,v=.slice ad n cp/\(n=0 \/ ∃ g,ad=some ⟨g,0,none⟩/\base<=g/\g<w.heap.size/\∀ (j:Nat) (u:Value),xs[j]?=some u->w.cell? ⟨g,j,none⟩=some u):=by
 have h2:=h;rcases h.2 with ⟨rfl,h0⟩|⟨g,cp,cur,rfl,hbg,hg,hnc,-⟩
 ·exact ⟨none,0,by rw [h0],.inl h0⟩
 have hlt:=h2.lt g rfl;refine ⟨_,cp,rfl,.inr ⟨g,rfl,hlt.1,hlt.2,fun j u hu=>?_⟩⟩;have:=h2.cells (g:=g) rfl j u hu;rwa [FW]at this
def AtD (w:World)(b off:Nat)(d:Dp):Prop:=w.cell? ⟨b,off,none⟩=some (.string d.typ)/\w.cell? ⟨b,off+1,none⟩=some (.string d.rel)/\w.cell? ⟨b,off+2,none⟩=some (.bool d.neg)
def RL (w:World)(lo:Nat)(ad:Option Addr)(xs:List Dp):Prop:=xs=[] \/ ∃ b,ad=some ⟨b,0,none⟩/\lo<=b/\b<w.heap.size/\∀ (i:Nat) (h:i<xs.length),AtD w b (i*3) xs[i]
theorem TF {w:af}{base:Nat}{v:Value}{xs:List Dp}(h:w.ownsRow base 220 3 v xs.length (eu xs)):∃ ad cp,v=.slice ad xs.length cp/\RL w base ad xs:=by
 obtain ⟨ad,cp,e,h0⟩:=QD h;refine ⟨ad,cp,e,?_⟩;rcases h0 with h0|⟨g,e1,hb,hg,hc⟩
 ·exact .inl (Uu.1 h0)
 refine .inr ⟨g,e1,hb,hg,fun i hi=>⟨?_,?_,?_⟩⟩
 ·exact hc _ _ (by have:=wI xs i hi 0 (by omega);simpa [Dp.cells] using this)
 ·exact hc _ _ (by have:=wI xs i hi 1 (by omega);simpa [Dp.cells] using this)
 exact hc _ _ (by have:=wI xs i hi 2 (by omega);simpa [Dp.cells] using this)
def TU (w:World)(g:Nat)(xs:List St):Prop:=∀ (i:Nat) (h:i<xs.length),Tt w g (i*3) xs[i]
theorem TG {w:af}{base:Nat}{v:Value}{xs:List St}(h:w.ownsRow base 162 3 v xs.length (iK xs)):∃ ad cp,v=.slice ad xs.length cp/\(xs.length=0 \/ ∃ g,ad=some ⟨g,0,none⟩/\base<=g/\g<w.heap.size/\TU w g xs):=by
 obtain ⟨ad,cp,e,h0⟩:=QD h;refine ⟨ad,cp,e,?_⟩;rcases h0 with h0|⟨g,e1,hb,hg,hc⟩
 ·exact .inl h0
 refine .inr ⟨g,e1,hb,hg,fun i hi=>⟨?_,?_,?_⟩⟩
 ·exact hc _ _ (by have:=lu xs i hi 0 (by omega);simpa [St.cells] using this)
 ·exact hc _ _ (by have:=lu xs i hi 1 (by omega);simpa [St.cells] using this)
 exact hc _ _ (by have:=lu xs i hi 2 (by omega);simpa [St.cells] using this)
theorem QE:(prog.info? 162).map (fun i=>(i.zero,i.size,i.bytes))=some (some (.agg #[.string ⟨#[]⟩,.string ⟨#[]⟩,.int .i64 0]),3,40):=by kernel_rfl
def FX (ks:List (ByteArray×ByteArray)):List St:=ks.map fun k=>⟨k.1,k.2,0⟩
theorem El (ks:List (ByteArray×ByteArray)):(FX ks).length=ks.length:=by simp [FX]
theorem Ov (ks:List (ByteArray×ByteArray))(k:ByteArray×ByteArray):FX (ks++[k])=FX ks++[⟨k.1,k.2,0⟩]:=by simp [FX]
def dD (rs:List TR)(k:Nat):List (ByteArray×ByteArray):=ak (ae (rs.take k))
def iX (t:TR)(j:Nat):List (ByteArray×ByteArray):=(t.rows.take j).map fun q=>(t.name,q.name)
theorem pq (rs:List TR)(k:Nat)(h:k<rs.length):dD rs (k+1)=dD rs k++iX rs[k] rs[k].rows.length:=by
 unfold dD iX;rw [Uh h,Us];unfold ae ak;rw [List.map_append,List.flatMap_append,List.map_singleton,List.flatMap_singleton];congr 1;simp [jH,TR.p,eF,RR.p]
theorem tL (t:TR)(j:Nat)(h:j<t.rows.length):iX t (j+1)=iX t j++[(t.name,t.rows[j].name)]:=by
 unfold iX;rw [Uh h,List.map_append];rfl
theorem CL (t:TR)(j:Nat):(iX t j).length<=t.rows.length:=by unfold iX;simp;omega
theorem wJ (rs:List TR)(hr:∀ r∈rs,r.rows.length<=6)(k:Nat):(dD rs k).length<=k*6:=by
 induction k with
 | zero=>simp [dD,ae,ak]
 | succ k ih =>
  by_cases h:k<rs.length
  ·rw [pq _ _ h,Ul];have h1:=CL rs[k] rs[k].rows.length;have h2:=hr rs[k] (Ud h);omega
  have e:rs.take (k+1)=rs.take k:=by rw [List.take_of_length_le (by omega),List.take_of_length_le (by omega)]
  unfold dD at ih ⊢;rw [e];omega
theorem zS (d:Dp):0<=stepOf d/\stepOf d<=1:=by unfold stepOf;split <;> omega
structure Mid (ts:List Ty)(n:Nat)(oS:List St)(k j:Nat)(mb:Bool)(out:List St):Prop where
 len:out.length=n
 nn:n=(ak ts).length
 round:Round ts out
 le:∀ i (h:i<out.length),i≠k->out[i].n<=n
 lek:∀ h:k<out.length,out[k].n<=n+1+j
 same:mb=false->out=oS/\(∀ i (h:i<out.length),i<k->QC ts out out[i] (il ts out[i].key).length)/\∀ h:k<out.length,QC ts out out[k] j
 grow:mI oS<=mI out/\(mb=true->mI oS<mI out)
theorem Mid.start {ts:List Ty}{n:Nat}{out:List St}(hl:out.length=n)(hn:n=(ak ts).length)(hr:Round ts out)(hle:∀ s∈out,s.n<=n):Mid ts n out 0 0 false out where
 len:=hl
 nn:=hn
 round:=hr
 le i h _:=hle _ (Ud h)
 lek h:=by have:=hle _ (Ud h);omega
 same _:=⟨rfl,fun i _ hi=>by omega,fun _ d hd=>by simp at hd⟩
 grow:=⟨Int.le_refl _,by simp⟩
theorem Mid.key {ts:List Ty}{n k j:Nat}{oS out:List St}{mb:Bool}(h:Mid ts n oS k j mb out)(hk:k<out.length)(hk2:k<(ak ts).length):out[k].key=(ak ts)[k]:=by
 have e:=h.round.keys;have:(iJ out)[k]'(by simp [iJ,hk])=(ak ts)[k]:=by simp only [e]
 rw [<-this];simp [iJ]
def pu (out:List St)(d:Dp):Int:=fM out (d.typ,d.rel)+stepOf d
theorem Mid.at {ts:List Ty}{n k j:Nat}{oS out:List St}{mb:Bool}(h:Mid ts n oS k j mb out)(key:ByteArray×ByteArray)(hk:key∈ak ts):∃ i:Nat,∃ hi:i<out.length,gP key.1 key.2 out 0=(i:Int)/\out[i].n=fM out key/\0<=fM out key/\fM out key<=n+1+j:=by
 obtain ⟨i,hi,h1,h2,h3⟩:=o8 out 0 (k:=key) (by rw [h.round.keys];exact hk);refine ⟨i,hi,by rw [h1];congr 1;omega,h3,?_,?_⟩
 ·exact (h.round.at hk).1
 rw [<-h3];by_cases e:i=k
 ·subst e;exact h.lek hi
 have:=h.le i hi e;omega
theorem Mid.no {ts:List Ty}{n k j:Nat}{oS out:List St}{mb:Bool}(h:Mid ts n oS k j mb out)(hk:k<out.length)(d:Dp)(hd:(il ts out[k].key)[j]?=some d)(hw:pu out d<=out[k].n):Mid ts n oS k (j+1) mb out where
 len:=h.len
 nn:=h.nn
 round:=h.round
 le:=h.le
 lek hh:=by have:=h.lek hh;omega
 same hm:=by
  obtain ⟨e,s1,s2⟩:=h.same hm;refine ⟨e,s1,fun hh d' hd'=>?_⟩;obtain ⟨hj,hd2⟩:=List.getElem?_eq_some_iff.1 hd;rw [Uh hj]at hd';rcases Uq.1 hd' with hd'|hd'
  ·exact s2 hh d' hd'
  rw [hd2]at hd';simp at hd';subst hd';exact hw
 grow:=h.grow
theorem Mid.yes {ts:List Ty}{n k j:Nat}{oS out:List St}{mb:Bool}(h:Mid ts n oS k j mb out)(hF:Found ts)(hk:k<out.length)(d:Dp)(hd:(il ts out[k].key)[j]?=some d)(hw:out[k].n<pu out d):Mid ts n oS k (j+1) true (out.set k ⟨out[k].typ,out[k].rel,pu out d⟩) where
 len:=by rw [List.length_set];exact h.len
 nn:=h.nn
 round:=h.round.set hF hk (List.mem_of_getElem? hd)
 le i hi hne:=by
  rw [List.getElem_set_ne (Ne.symm hne)];exact h.le i (by simpa using hi) hne
 lek hh:=by
  rw [List.getElem_set_self];show pu out d<=_;obtain ⟨i,hi,-,-,-,h4⟩:=h.at (d.typ,d.rel) (hF _ (h.round.mem (Ud hk)) d (List.mem_of_getElem? hd));have:=zS d;unfold pu;push_cast;omega
 same hm:=by cases hm
 grow:=by
  have:=h.grow.1;rw [Ot _ _ hk];exact ⟨by omega,fun _=>by omega⟩
theorem Mid.next {ts:List Ty}{n k j:Nat}{oS out:List St}{mb:Bool}(h:Mid ts n oS k j mb out)(hk:k<out.length)(hj:j=(il ts out[k].key).length)(hle:out[k].n<=n):Mid ts n oS (k+1) 0 mb out where
 len:=h.len
 nn:=h.nn
 round:=h.round
 le i hi _:=by
  by_cases e:i=k
  ·subst e;exact hle
  exact h.le i hi e
 lek hh:=by have:=h.le (k+1) hh (by omega);omega
 same hm:=by
  obtain ⟨e,s1,s2⟩:=h.same hm;refine ⟨e,fun i hi hik=>?_,fun _ d hd=>by simp at hd⟩;by_cases e2:i=k
  ·subst e2;have:=s2 hi;rw [hj]at this;exact this
  exact s1 i hi (by omega)
 grow:=h.grow
theorem Mid.over {ts:List Ty}{n k j:Nat}{oS out:List St}{mb:Bool}(h:Mid ts n oS k j mb out)(hF:Found ts)(hk:k<out.length)(hn:(n:Int)<out[k].n):¬ ∃ f,Sol ts f :=
 IE hF (h.round.mem (Ud hk)) (h.round.low _ (Ud hk)) (by have:=h.nn;omega)
structure Pass (ts:List Ty)(n:Nat)(mb:Bool)(out:List St):Prop where
 len:out.length=n
 nn:n=(ak ts).length
 round:Round ts out
 le:∀ s∈out,s.n<=n
 sat:mb=false->∀ s∈out,QC ts out s (il ts s.key).length
theorem Mid.done {ts:List Ty}{n k j:Nat}{oS out:List St}{mb:Bool}(h:Mid ts n oS k j mb out)(hk:k=n):Pass ts n mb out where
 len:=h.len
 nn:=h.nn
 round:=h.round
 le s hs:=by
  obtain ⟨i,hi,rfl⟩:=List.mem_iff_getElem.1 hs;exact h.le i hi (by have:=h.len;omega)
 sat hm s hs:=by
  obtain ⟨e,s1,s2⟩:=h.same hm;obtain ⟨i,hi,rfl⟩:=List.mem_iff_getElem.1 hs;exact s1 i hi (by have:=h.len;omega)
theorem Pass.least {ts:List Ty}{n:Nat}{out:List St}(h:Pass ts n false out):Least ts (fM out):=h.round.done (h.sat rfl)
theorem Pass.zero {ts:List Ty}{n:Nat}(hn:n=(ak ts).length):Pass ts n true (FX (ak ts)) where
 len:=by rw [El,hn]
 nn:=hn
 round:=⟨by unfold iJ FX;rw [List.map_map];exact List.map_id _,fun s hs=>by simp [FX]at hs;obtain ⟨a,b,-,rfl⟩:=hs;exact Int.le_refl _,fun s hs=>by simp [FX]at hs;obtain ⟨a,b,-,rfl⟩:=hs;exact qF.zero _ _⟩
 le s hs:=by simp [FX]at hs;obtain ⟨a,b,-,rfl⟩:=hs;simp
 sat h:=by cases h
theorem QF (n:Int)(out:List St)(h:∀ s∈out,s.n<=n):mI out<=n*out.length:=by
 induction out with
 | nil=>simp [mI]
 | cons s xs ih =>
  have h1:=h s (by simp);have h2:=ih fun q hq=>h q (by simp [hq]);simp only [mI,List.length_cons];have:n*((xs.length+1:Nat):Int)=n*xs.length+n:=by push_cast;rw [Int.mul_add];simp
  omega
structure RowS (w wr:World)(ad:Option Addr)(g:Nat)(out:List St):Prop where
 below:ag w wr
 at':out=[]\/(ad=some ⟨g,0,none⟩/\w.heap.size<=g/\g<wr.heap.size/\TU wr g out/\∀ j,wr.frozen? ⟨g,j,none⟩=false)
theorem Tt.kept {w w':af}{b off:Nat}{s:St}(h:Tt w b off s)(hb:b<w.heap.size)(hB:ag w w'):Tt w' b off s:=⟨aH hB hb h.1,aH hB hb h.2.1,aH hB hb h.2.2⟩
theorem RowS.kept {w wr w2:af}{ad:Option Addr}{g:Nat}{out:List St}(h:RowS w wr ad g out)(hb:ag wr w2):RowS w w2 ad g out where
 below:=h.below.trans (hb.mono h.below.size)
 at':=by
  rcases h.at' with e|⟨e,h1,h2,h3,h4⟩
  ·exact .inl e
  exact .inr ⟨e,h1,Uc h2 hb.size,fun i hi=>(h3 i hi).kept h2 hb,fun j=>by rw [hb.frozen (p:=⟨g,j,none⟩) h2];exact h4 j⟩
theorem RowS.slN {w wr:af}{ad:Option Addr}{g:Nat}{out:List St}(h:RowS w wr ad g out):IA wr ad out:=by
 rcases h.at' with e|⟨e,h1,h2,h3,h4⟩
 ·exact .inl e
 exact .inr ⟨g,0,e,h2,fun i hi=>by rw [Uz];exact h3 i hi⟩
theorem RowS.set {w wr:af}{ad:Option Addr}{g:Nat}{out:List St}(h:RowS w wr ad g out){k:Nat}(hk:k<out.length)(n:Int):RowS w (wr.setCell ⟨g,k*3+2,none⟩ (.int .i64 n)) ad g (out.set k ⟨out[k].typ,out[k].rel,n⟩):=by
 rcases h.at' with e|⟨e,h1,h2,h3,h4⟩
 ·rw [e]at hk;simp at hk
 refine ⟨h.below.setCell (p:=⟨g,k*3+2,none⟩) h1 _,.inr ⟨e,h1,by simpa using h2,fun i hi=>?_,fun j=>by simpa using h4 j⟩⟩;have hi':i<out.length:=by simpa using hi
 obtain ⟨c0,c1,c2⟩:=h3 i hi';by_cases ei:i=k
 ·subst ei;rw [List.getElem_set_self];exact ⟨by rw [lQ (by omega)];exact c0,by rw [lQ (by omega)];exact c1,xA c2⟩
 rw [List.getElem_set_ne (Ne.symm ei)];exact ⟨by rw [lQ (by omega)];exact c0,by rw [lQ (by omega)];exact c1,by rw [lQ (by omega)];exact c2⟩
def Ow (w:World)(g i:Nat):Int:=match w.cell? ⟨g,i*3+2,none⟩ with|some (.int _ x)=>x|_=>0
def IG (w:World)(g:Nat):Nat->Int
 | 0=>0
 | n+1=>IG w g n+Ow w g n
theorem FY (xs ys:List St):mI (xs++ys)=mI xs+mI ys:=by
 induction xs with
 | nil=>simp [mI]
 | cons s xs ih=>simp only [List.cons_append,mI,ih];omega
theorem TU.sum {w:af}{g:Nat}{out:List St}(h:TU w g out):∀ k,k<=out.length->IG w g k=mI (out.take k)
 | 0,_=>by simp [IG,mI]
 | k+1,hk=>by
  have hlt:k<out.length:=by omega
  rw [Uh hlt,FY];simp only [IG,h.sum k (by omega),mI];have:Ow w g k=out[k].n:=by unfold Ow;rw [(h k hlt).2.2]
  omega
theorem RowS.sum {w wr:af}{ad:Option Addr}{g:Nat}{out:List St}(h:RowS w wr ad g out):IG wr g out.length=mI out:=by
 rcases h.at' with e|⟨e,h1,h2,h3,h4⟩
 ·rw [e];simp [IG,mI]
 rw [h3.sum _ (Ue _),Us]
def Ox:Value->Int
 | .bool true=>1
 | _=>0
def CO (w:World)(g n:Nat)(m:Value):Nat:=(2*((n:Int)*n-IG w g n)+Ox m).toNat
theorem II {ts:List Ty}{w wr w2:af}{ad:Option Addr}{g n:Nat}{oS out:List St}{mb:Bool}(hS:RowS w wr ad g oS)(hO:RowS w w2 ad g out)(h:Mid ts n oS n 0 mb out)(hl:oS.length=n):CO w2 g n (.bool mb)<CO wr g n (.bool true):=by
 have e1:=hS.sum;have e2:=hO.sum;have h3:=QF n out fun s hs=>(h.done rfl).le s hs;have h2:=h.len;have h4:=h.grow;rw [hl]at e1;rw [h2]at e2 h3;unfold CO;rw [e1,e2];cases mb;case false=>simp only [Ox];omega
 have:=h4.2 rfl;simp only [Ox];omega
theorem QG {w wr:af}{v:Value}{out:List St}(hB:ag w wr)(h:wr.ownsRow w.heap.size 162 3 v out.length (iK out)):∃ ad cp g,v=.slice ad out.length cp/\RowS w wr ad g out:=by
 rcases h.2 with ⟨rfl,h0⟩|⟨g,cp,cur,rfl,hbg,hg,hnc,-⟩
 ·exact ⟨none,0,0,by rw [h0],hB,.inl (Uu.1 h0)⟩
 obtain ⟨ad,cp',e,h0⟩:=TG h;injection e with e1 e2 e3;refine ⟨some ⟨g,0,none⟩,cp,g,rfl,hB,?_⟩;rcases h0 with h0|⟨g',e4,h1,h2,h3⟩
 ·exact .inl (Uu.1 h0)
 rw [<-e1]at e4;injection e4 with e4;injection e4 with e4;subst e4;exact .inr ⟨rfl,h1,h2,h3,fun j=>by simp [World.frozen?,hg]⟩
theorem SB (ad:Option Addr)(cap n:Nat)(xs:List St)(key:ByteArray×ByteArray)(w:af)(hn:xs.length=n)(hlen:n<=1048576)(hs:IA w ad xs)(i:Nat)(hat:gP key.1 key.2 xs 0=(i:Int)) :
  Calls prog 140 #[.slice ad n cap,.string key.1,.string key.2] w fun e w'=>e=.returned (.int .i64 (i:Int))/\w'=w:=by
 subst hn;rw [<-hat];exact Ol ad cap xs key.1 key.2 w hlen hs
theorem AtD.set {w:af}{b off g o:Nat}{d:Dp}{v:Value}(h:AtD w b off d)(hn:g≠b):AtD (w.setCell ⟨g,o,none⟩ v) b off d:=⟨by rw [xB hn];exact h.1,by rw [xB hn];exact h.2.1,by rw [xB hn];exact h.2.2⟩
theorem RL.set {w:af}{lo g o:Nat}{ad:Option Addr}{xs:List Dp}{v:Value}(h:RL w lo ad xs)(hg:g<lo):RL (w.setCell ⟨g,o,none⟩ v) lo ad xs:=by
 rcases h with h|⟨b,e,h1,h2,h3⟩
 ·exact .inl h
 exact .inr ⟨b,e,h1,by simpa using h2,fun i hi=>(h3 i hi).set (by omega)⟩
theorem keepD {wr W w':af}{g o1 o2:Nat}{x y:Value}(h:W.cell? ⟨g,o1,none⟩=some x/\W.cell? ⟨g,o2,none⟩=some y/\g<W.heap.size/\ag wr W)(hb:ag W w') :
  w'.cell? ⟨g,o1,none⟩=some x/\w'.cell? ⟨g,o2,none⟩=some y/\g<w'.heap.size/\ag wr w' :=
 ⟨aH hb h.2.2.1 h.1,aH hb h.2.2.1 h.2.1,Uc h.2.2.1 hb.size,h.2.2.2.trans (hb.mono h.2.2.2.size)⟩
theorem pV.small {rs:List TR}{ad:Option Addr}{rows:List ER}(h:pV rs ad rows)(hl:∀ r∈rs,∀ q∈r.rows,q.rows.length<=15/\∀ e∈q.rows,dW q.rows.length e.e.kids):rows.length<=15/\∀ e∈rows,dW rows.length e.e.kids:=by
 rcases h with rfl|⟨t,ht,q,hq,rfl,-⟩
 ·exact ⟨by simp,by simp⟩
 exact hl t ht q hq
theorem zT (ts:List Ty)(ty over rel:bI):(ig ts ty over rel).length<=(aU (aB ts ty over)).length:=Ir _ _ _
theorem IJ (ts:List Ty)(typ:bI)(es:List Ex)(A G:Nat)(hA:∀ e∈es,e.allow.length<=A)(hG:∀ over rel,(ig ts typ over rel).length<=G)(k:Nat):(aP ts typ es k).length<=k*(A+G+1):=by
 induction k with
 | zero=>simp [aP]
 | succ k ih =>
  simp only [aP,Ul];have:(ik ts typ es k).length<=A+G+1:=by
   unfold ik;split
   ·simp
   rename_i e he;have h1:=hA e (List.mem_of_getElem? he);have h2:=CG ((dC es).getD k false) e.allow;have h3:(kN ts typ ((dC es).getD k false) e).length<=G+1:=by
    unfold kN;split
    ·simp
    split
    ·have:=hG e.over e.name;simp;omega
    simp
   rw [Ul];omega
  have e:(k+1)*(A+G+1)=k*(A+G+1)+(A+G+1):=Nat.succ_mul _ _;omega
theorem BH (ts:List Ty)(typ:bI)(es:List Ex)(k:Nat)(h:es.length<=k):ik ts typ es k=[]:=by
 unfold ik;rw [List.getElem?_eq_none h]
theorem IK (ts:List Ty)(typ:bI)(es:List Ex)(B:Nat)(hB:∀ k,k<=es.length->(aP ts typ es k).length<=B)(k:Nat):(aP ts typ es k).length<=B:=by
 induction k with
 | zero=>exact hB 0 (Ui _)
 | succ k ih =>
  by_cases h:k+1<=es.length
  ·exact hB _ h
  simp only [aP];rw [BH _ _ _ _ (by omega),List.append_nil];exact ih
theorem FZ (rs:List RR)(n:bI)(es:List Ex)(h:jO (eF rs) n=some es):∃ q∈rs,es=aj q.rows:=by
 induction rs with
 | nil=>simp [eF,jO]at h
 | cons r rs ih =>
  simp only [eF,List.map_cons,jO]at h;split at h
  ·injection h with h;exact ⟨r,by simp,h.symm⟩
  obtain ⟨q,hq,e⟩:=ih h;exact ⟨q,by simp [hq],e⟩
theorem IL (ts:List TR)(ty n:bI)(es:List Ex)(h:fH (ae ts) ty n=some es):∃ t∈ts,∃ q∈t.rows,es=aj q.rows:=by
 induction ts with
 | nil=>simp [ae,fH]at h
 | cons t ts ih =>
  simp only [ae,List.map_cons,fH]at h;split at h
  ·rcases Option.or_eq_some_iff.1 h with h|⟨-,h⟩
   ·obtain ⟨q,hq,e⟩:=FZ _ _ _ h;exact ⟨t,by simp,q,hq,e⟩
   obtain ⟨t',ht,q,hq,e⟩:=ih h;exact ⟨t',by simp [ht],q,hq,e⟩
  obtain ⟨t',ht,q,hq,e⟩:=ih h;exact ⟨t',by simp [ht],q,hq,e⟩
theorem xM (rs:List TR)(hl:∀ r∈rs,r.light)(typ over rel:bI):(ig (ae rs) typ over rel).length<=1048576:=by
 refine Uk (zT _ _ _ _) ?_;unfold aB;cases h:fH (ae rs) typ over with
 | none=>simp [aU]
 | some es =>
  obtain ⟨t,ht,q,hq,rfl⟩:=IL _ _ _ _ h;exact zG q.rows ((hl t ht).2 q hq).2
theorem zU (rs:List TR)(hl:∀ r∈rs,r.light)(typ:bI)(rows:List ER)(hle:rows.length<=15)(ZZ:∀ q∈rows,q.e.light)(k:Nat):(aP (ae rs) typ (aj rows) k).length<=100000000:=by
 refine IK _ _ _ _ (fun k hk=>?_) k;refine Uk (IJ _ _ _ 1048576 1048576 (fun e he=>?_) (xM rs hl typ) k) ?_
 ·obtain ⟨q,hq,rfl⟩:=Ur.1 he;exact (ZZ q hq).1
 rw [aN]at hk;omega
end Go.Proofs.YtajkkeikihhejaaGreat
