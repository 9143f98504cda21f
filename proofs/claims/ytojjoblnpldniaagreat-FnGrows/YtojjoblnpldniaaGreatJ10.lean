/- Strata in plain words: what they must keep, the least ones, and that they are few. Nothing of the program is read here. -/
import Derived.Test.YtojjoblnpldniaaGreatSq
import Derived.Test.YtojjoblnpldniaaGreatJ6
import Derived.Test.YtojjoblnpldniaaGreatSpecSchema8
open Go.Proofs.Tryz
namespace Go.Proofs.YtojjoblnpldniaaGreat
open Pl
theorem fZ{a b:ByteArray}(h:a.toList=b.toList):a=b:=by
 rw[Go.ByteArray.toList_eq,Go.ByteArray.toList_eq]at h;cases a with|mk x=>cases b with|mk y =>
 congr;exact Array.ext' h
theorem fC{a b:ByteArray}:(a.toList==b.toList)=true↔a=b:=⟨fun h=>fZ (by simpa using h),fun h=>by simp[h]⟩
def jI(t:Ty):List (ByteArray×ByteArray):=t.rels.map fun r=>(t.name,r.name)
def ak(ts:Q0b):List (ByteArray×ByteArray):=ts.flatMap jI
def stepOf(d:Dp):Int:=if d.neg then 1 else 0
def ib(ts:Q0b)(k:Q01):List Dp:=pX ts k.1 (az ts k.1 k.2)
structure Sol(ts:Q0b)(f:Q00):Prop where
 pos:∀k,0<=f k
 up:∀k∈ak ts,∀d∈ib ts k,f (d.typ,d.rel)+stepOf d<=f k
def Found(ts:Q0b):Prop:=∀k∈ak ts,∀d∈ib ts k,(d.typ,d.rel)∈ak ts
theorem xR(vs:List Int)(x y:Int)(h:x<=y):vs.countP (fun v=>decide (v<x))<=vs.countP (fun v=>decide (v<y)) :=
 List.countP_mono_left fun v _ hv=>by simp at hv⊢;omega
theorem MC(vs:List Int)(x y:Int)(h:x+1<=y)(hx:x∈vs):vs.countP (fun v=>decide (v<x))+1<=vs.countP (fun v=>decide (v<y)):=by
 induction vs with
 | nil=>cases hx
 | cons v vs ih =>
  simp only[List.countP_cons];rcases VH.1 hx with rfl|hm
  ·have:=xR vs x y (by omega);have h1:decide (x<x)=false:=by simp
   have h2:decide (x<y)=true:=by simp;omega
   simp only[h1,h2];simp;omega
  have:=ih hm;by_cases h1:v<x
  ·have h2:v<y:=by omega
   simp[h1,h2];omega
  simp only[h1];simp;omega
theorem Jq(vs:List Int)(x:Int)(hx:x∈vs):vs.countP (fun v=>decide (v<x))+1<=vs.length:=by
 induction vs with
 | nil=>cases hx
 | cons v vs ih =>
  simp only[List.countP_cons,VS];rcases VH.1 hx with rfl|hm
  ·have:=List.countP_le_length (p:=fun v=>decide (v<x)) (l:=vs);have h1:decide (x<x)=false:=by simp
   simp only[h1];simp;omega
  have:=ih hm;split<;>omega
theorem Sol.few{ts:Q0b}{f:Q00}(h:Sol ts f)(hF:Found ts):∃g,Sol ts g/\∀k∈ak ts,g k+1<=(ak ts).length:=by
 refine⟨fun k=>((((ak ts).map f).countP (fun v=>decide (v<f k)):Nat):Int),⟨fun k=>by omega,fun k hk d hd=>?_⟩,fun k hk=>?_⟩
 ·have h1:=h.up k hk d hd;have h2:f (d.typ,d.rel)∈(ak ts).map f:=VY (hF k hk d hd);unfold stepOf at h1⊢;split at h1
  ·rename_i hn;have:=MC ((ak ts).map f) _ _ h1 h2;simp only[hn,if_true];omega
  rename_i hn;have:=xR ((ak ts).map f) _ _ (show f (d.typ,d.rel)<=f k by omega);have e0:(if d.neg=true then (1:Int) else 0)=0:=if_neg hn;rw[e0];omega
 have:=Jq ((ak ts).map f) (f k) (VY hk);simp at this⊢;omega
def qJ(ts:Q0b)(k:Q01)(n:Int):Prop:=∀f,Sol ts f->n<=f k
theorem Jr{ts:Q0b}(hF:Found ts){k:Q01}(hk:k∈ak ts){n:Int}(hl:qJ ts k n)(hn:((ak ts).length:Int)<=n):¬ ∃f,Sol ts f:=by
 rintro⟨f,hf⟩;obtain⟨g,hg,hb⟩:=hf.few hF;have:=hl g hg;have:=hb k hk;omega
theorem qJ.step{ts:Q0b}{k:Q01}(hk:k∈ak ts){d:Dp}(hd:d∈ib ts k){n:Int}(hl:qJ ts (d.typ,d.rel) n):qJ ts k (n+stepOf d):=fun f hf=>by
 have h1:=hl f hf;have h2:=hf.up k hk d hd;omega
theorem qJ.zero(ts:Q0b)(k:Q01):qJ ts k 0:=fun _ hf=>hf.pos k
structure Least(ts:Q0b)(f:Q00):Prop where
 sol:Sol ts f
 low:∀k∈ak ts,qJ ts k (f k)
theorem Least.same{ts:Q0b}{f g:Q00}(hf:Least ts f)(hg:Least ts g)(k:Q01)(hk:k∈ak ts):f k=g k:=by
 have h1:=hf.low k hk g hg.sol;have h2:=hg.low k hk f hf.sol;omega
def St.key(s:St):ByteArray×ByteArray:=(s.typ,s.rel)
def iy(out:List St):List (ByteArray×ByteArray):=out.map St.key
theorem qK{s:St}{k:Q01}:zF s k.1 k.2=true↔s.key=k:=by
 unfold zF St.key;rw[Vt,fC,fC];constructor
 ·rintro⟨h1,h2⟩;rw[h1,h2]
 rintro rfl;exact⟨rfl,rfl⟩
def fJ(out:List St)(k:Q01):Int :=
 match out with
 | []=>0
 | s::xs=>if zF s k.1 k.2 then s.n else fJ xs k
theorem o7{k:Q01}:∀(out:List St) (j:Nat),k∈iy out->∃i:Nat,∃h:i<out.length,gI k.1 k.2 out j=((j+i:Nat):Int)/\out[i].key=k/\out[i].n=fJ out k
 | [],_,h=>by cases h
 | s::xs,j,h=>by
  by_cases hs:zF s k.1 k.2=true
  ·exact⟨0,by simp,by simp[gI,hs],qK.1 hs,by simp[fJ,hs]⟩
  have hm:k∈iy xs:=by
   rcases VH.1 h with e|hm
   ·exact absurd (qK.2 e.symm) hs
   exact hm
  obtain⟨i,hi,h1,h2,h3⟩:=o7 xs (j+1) hm;refine⟨i+1,by simp;omega,?_,by simpa using h2,by simpa[fJ,hs] using h3⟩;simp only[gI,hs];simp only[Bool.false_eq_true,if_false];rw[h1];congr 1;omega
theorem Dh{k:Q01}(out:List St)(h:k∈iy out):∃s∈out,s.key=k/\s.n=fJ out k:=by
 obtain⟨i,hi,-,h2,h3⟩:=o7 out 0 h;exact⟨out[i],Vp hi,h2,h3⟩
theorem Py{k:Q01}(out:List St)(h:k ∉ iy out):fJ out k=0:=by
 induction out with
 | nil=>rfl
 | cons s xs ih =>
  have h1:¬zF s k.1 k.2=true:=fun e=>h (by rw[qK]at e;simp[iy,e]);simp only[fJ,h1];simp only[Bool.false_eq_true,if_false];exact ih fun hm=>h (by simp only[iy,WF,VH];exact .inr hm)
def mQ:List St->Int
 | []=>0
 | s::xs=>s.n+mQ xs
theorem Pz(out:List St)(i:Nat)(h:i<out.length)(n:Int):mQ (out.set i ⟨out[i].typ,out[i].rel,n⟩)=mQ out-out[i].n+n:=by
 induction out generalizing i with
 | nil=>simp at h
 | cons s xs ih =>
  cases i with
  | zero=>simp[mQ];omega
  | succ i=>simp only[List.set_cons_succ,mQ,List.getElem_cons_succ];rw[ih i (by simpa using h)];omega
theorem ME(out:List St)(i:Nat)(h:i<out.length)(n:Int):iy (out.set i ⟨out[i].typ,out[i].rel,n⟩)=iy out:=by
 unfold iy;rw[List.map_set];show(List.map St.key out).set i (out[i].key)=_;have:out[i].key=(List.map St.key out)[i]'(by simpa using h):=by simp
 rw[this,List.set_getElem_self]
structure Round(ts:Q0b)(out:List St):Prop where
 keys:iy out=ak ts
 pos:∀s∈out,0<=s.n
 low:∀s∈out,qJ ts s.key s.n
def RL(ts:Q0b)(out:List St)(s:St)(k:Nat):Prop:=∀d∈(ib ts s.key).take k,fJ out (d.typ,d.rel)+stepOf d<=s.n
theorem Round.mem{ts:Q0b}{out:List St}(h:Round ts out){s:St}(hs:s∈out):s.key∈ak ts:=by rw[<-h.keys];exact VY hs
theorem Round.at{ts:Q0b}{out:List St}(h:Round ts out){k:Q01}(hk:k∈ak ts):0<=fJ out k/\qJ ts k (fJ out k):=by
 obtain⟨s,hs,e,en⟩:=Dh out (by rw[h.keys];exact hk);rw[<-en,<-e];exact⟨h.pos s hs,h.low s hs⟩
theorem Round.set{ts:Q0b}{out:List St}(h:Round ts out)(hF:Found ts){i:Nat}(hi:i<out.length){d:Dp}(hd:d∈ib ts out[i].key):Round ts (out.set i ⟨out[i].typ,out[i].rel,fJ out (d.typ,d.rel)+stepOf d⟩):=by
 have hk:out[i].key∈ak ts:=h.mem (Vp hi);have hdk:=hF _ hk d hd;obtain⟨h0,hl⟩:=h.at hdk;have hs0:0<=stepOf d:=by unfold stepOf;split<;>omega
 refine⟨(ME out i hi _).trans h.keys,fun s hs=>?_,fun s hs=>?_⟩
 ·rcases List.mem_or_eq_of_mem_set hs with hs|rfl
  ·exact h.pos s hs
  show 0<=fJ out (d.typ,d.rel)+stepOf d;omega
 rcases List.mem_or_eq_of_mem_set hs with hs|rfl
 ·exact h.low s hs
 exact hl.step hk hd
theorem Round.done{ts:Q0b}{out:List St}(h:Round ts out)(hs:∀s∈out,RL ts out s (ib ts s.key).length):Least ts (fJ out) where
 sol:=⟨fun k=>by
   by_cases hk:k∈ak ts
   ·exact(h.at hk).1
   ·rw[Py out (by rw[h.keys];exact hk)];exact Int.le_refl _,fun k hk d hd=>by
   obtain⟨s,hm,e,en⟩:=Dh out (by rw[h.keys];exact hk);have:=hs s hm d (by rw[VI,e];exact hd);rw[<-en];exact this⟩
 low k hk:=(h.at hk).2
def ji(a b:ByteArray):Bool:=Op.bytesLess a.toList b.toList
def mg(rs:List Rl)(j:Nat):Bool :=
 match rs[j]? with
 | none=>true
 | some r=>aP r.name&&(match j with|0=>true|i+1=>(rs[i]?.map fun p=>ji p.name r.name).getD true)&&aK r.expr
def dJ(rs:List Rl):Nat->Bool
 | 0=>true
 | k+1=>dJ rs k&&mg rs k
def kF(ts:Q0b)(j:Nat):Bool :=
 match ts[j]? with
 | none=>true
 | some t=>aP t.name&&(match j with|0=>true|i+1=>(ts[i]?.map fun p=>ji p.name t.name).getD true)&&decide (t.rels.length<=6)&&dJ t.rels t.rels.length
def iD(ts:Q0b):Nat->Bool
 | 0=>true
 | k+1=>iD ts k&&kF ts k
theorem uk(rs:List Rl)(k:Nat)(hb:mg rs k=false):∀n,k<n->dJ rs n=false
 | 0,hn=>by omega
 | n+1,hn=>by
  by_cases e:n=k
  ·subst e;simp[dJ,hb]
  simp[dJ,uk rs k hb n (by omega)]
theorem ul(ts:Q0b)(k:Nat)(hb:kF ts k=false):∀n,k<n->iD ts n=false
 | 0,hn=>by omega
 | n+1,hn=>by
  by_cases e:n=k
  ·subst e;simp[iD,hb]
  simp[iD,ul ts k hb n (by omega)]
theorem o8{rs:List Rl}:∀{n:Nat},dJ rs n=true->∀j,j<n->mg rs j=true
 | 0,_,j,hj=>by omega
 | n+1,h,j,hj=>by
  simp only[dJ,Vt]at h;by_cases e:j=n
  ·subst e;exact h.2
  exact o8 h.1 j (by omega)
theorem o9{ts:Q0b}:∀{n:Nat},iD ts n=true->∀j,j<n->kF ts j=true
 | 0,_,j,hj=>by omega
 | n+1,h,j,hj=>by
  simp only[iD,Vt]at h;by_cases e:j=n
  ·subst e;exact h.2
  exact o9 h.1 j (by omega)
def aY(ts:Q0b):Bool:=decide (ts.length<=6)&&iD ts ts.length
def qL(ts:Q0b)(t:Ty):Bool:=t.rels.all fun r=>aR ts t.name r.expr
def iq(ts:Q0b):Bool:=ts.all (qL ts)
def bP(ts:Q0b):Prop:=aY ts=true/\iq ts=true/\∃f,Sol ts f
theorem MF{rs:List Rl}{n:ByteArray}{es:Q09}(h:jR rs n=some es):∃r∈rs,r.name=n/\r.expr=es:=by
 induction rs with
 | nil=>simp[jR]at h
 | cons r rs ih =>
  simp only[jR]at h;split at h
  ·rename_i hn;injection h with h;exact⟨r,by simp,fC.1 hn,h⟩
  obtain⟨q,hq,e⟩:=ih h;exact⟨q,by simp[hq],e⟩
theorem nY{ts:Q0b}{ty n:ByteArray}{es:Q09}(h:fF ts ty n=some es):∃t∈ts,∃r∈t.rels,t.name=ty/\r.name=n/\r.expr=es:=by
 induction ts with
 | nil=>simp[fF]at h
 | cons t ts ih =>
  simp only[fF]at h;split at h
  ·rename_i hn;rcases Option.or_eq_some_iff.1 h with h|⟨-,h⟩
   ·obtain⟨r,hr,e⟩:=MF h;exact⟨t,by simp,r,hr,fC.1 hn,e⟩
   obtain⟨t',ht,e⟩:=ih h;exact⟨t',by simp[ht],e⟩
  obtain⟨t',ht,e⟩:=ih h;exact⟨t',by simp[ht],e⟩
theorem qM{ts:Q0b}{k:Q01}:k∈ak ts ↔ ∃t∈ts,∃r∈t.rels,k=(t.name,r.name):=by
 simp only[ak,jI,VJ,VG];constructor
 ·rintro⟨t,ht,r,hr,e⟩;exact⟨t,ht,r,hr,e.symm⟩
 rintro⟨t,ht,r,hr,e⟩;exact⟨t,ht,r,hr,e.symm⟩
theorem rQ{ts:Q0b}{ty n:ByteArray}(h:(az ts ty n).isEmpty=false):(ty,n)∈ak ts:=by
 unfold az at h;cases e:fF ts ty n with
 | none=>rw[e]at h;simp at h
 | some es =>
  obtain⟨t,ht,r,hr,h1,h2,-⟩:=nY e;exact qM.2 ⟨t,ht,r,hr,by rw[h1,h2]⟩
theorem TZ{ts:Q0b}{rel:ByteArray}{xs:Q0a}{g:ByteArray}(h:g∈gl ts rel xs):(az ts g rel).isEmpty=false:=by
 induction xs with
 | nil=>simp[gl]at h
 | cons a xs ih =>
  simp only[gl]at h;split at h
  ·exact ih h
  rename_i hn;rcases VH.1 h with rfl|h
  ·simpa using hn
  exact ih h
theorem MG{neg:Bool}{xs:Q0a}{d:Dp}(h:d∈cz neg xs):∃a∈xs,a.s.toList.isEmpty=false/\d.typ=a.t/\d.rel=a.s:=by
 induction xs with
 | nil=>simp[cz]at h
 | cons a xs ih =>
  simp only[cz]at h;split at h
  ·obtain⟨b,hb,e⟩:=ih h;exact⟨b,by simp[hb],e⟩
  rename_i hn;rcases VH.1 h with rfl|h
  ·exact⟨a,by simp,by simpa using hn,rfl,rfl⟩
  obtain⟨b,hb,e⟩:=ih h;exact⟨b,by simp[hb],e⟩
theorem uq{ts:Q0b}{typ:ByteArray}{es:Q09}{d:Dp}:∀{k:Nat},d∈aM ts typ es k->∃i,i<k/\d∈gX ts typ es i
 | 0,h=>by simp[aM]at h
 | k+1,h=>by
  simp only[aM]at h;rcases VE.1 h with h|h
  ·obtain⟨i,hi,e⟩:=uq h;exact⟨i,by omega,e⟩
  exact⟨k,by omega,h⟩
theorem Di{ts:Q0b}{typ:ByteArray}{es:Q09}(h:aR ts typ es=true):∀e∈es,oP ts e.allow=true/\lG ts typ e=true:=by
 induction es with
 | nil=>intro e he;cases he
 | cons e es ih =>
  simp only[aR]at h;split at h
  ·rename_i hn;rw[Vt]at hn;intro q hq;rcases VH.1 hq with rfl|hq
   ·exact hn
   exact ih h q hq
  cases h
theorem kG{ts:Q0b}(h:iq ts=true):Found ts:=by
 intro k hk d hd;unfold ib pX at hd;have hne:(az ts k.1 k.2).length≠0:=by
  intro e;rw[e]at hd;simp[aM]at hd
 obtain⟨es,hes⟩:∃es,fF ts k.1 k.2=some es:=by
  cases e:fF ts k.1 k.2 with
  | none=>unfold az at hne;rw[e]at hne;simp at hne
  | some es=>exact⟨es,rfl⟩
 have ero:az ts k.1 k.2=es:=by unfold az;rw[hes];rfl
 rw[ero]at hd;obtain⟨t,ht,r,hr,h1,h2,h3⟩:=nY hes;have hr1:aR ts k.1 es=true:=by
  unfold iq at h;rw[VC]at h;have:=h t ht;unfold qL at this;rw[VC]at this;have:=this r hr;rw[h1,h3]at this;exact this
 obtain⟨i,hi,hdi⟩:=uq hd;unfold gX at hdi;split at hdi
 ·cases hdi
 rename_i e he;obtain⟨ra,rn⟩:=Di hr1 e (WA he);rcases VE.1 hdi with hdi|hdi
 ·obtain⟨a,ha,hs,e1,e2⟩:=MG hdi;unfold oP at ra;rw[VC]at ra;have:=ra a ha;unfold pW at this;rw[hs,Bool.false_or,Vt]at this;rw[e1,e2];exact rQ (by simpa using this.2)
 unfold kX at hdi;unfold lG at rn;split at hdi
 ·rename_i h2;rw[if_pos h2]at rn;simp at hdi;subst hdi;exact rQ (by simpa using rn)
 split at hdi
 ·obtain⟨g,hg,rfl⟩:=VG.1 hdi;exact rQ (TZ hg)
 cases hdi
theorem nZ{es:Q09}(h:aK es=true):1<=es.length/\es.length<=15:=by
 simp only[aK,Vt,VF]at h;exact⟨h.1.1.1.1.1,h.1.1.1.1.2⟩
theorem MH{es:Q09}(h:aK es=true)(i:Nat)(hi:i<es.length):eT es.length es[i].kids:=by
 simp only[aK,Vt,VF]at h;have h1:=h.1.1.2;unfold ja at h1;rw[VC]at h1;have h2:=h1 i (by simpa using hi);unfold kP dC at h2;rw[Vy hi]at h2;simp only[Option.map_some,Wd,VC,Vt,VF]at h2;intro x hx;have:=h2 x hx;omega
theorem bq{rs:Q06}(h:aY (af rs)=true):rs.length<=6/\(∀r∈rs,r.rows.length<=6)/\∀r∈rs,∀q∈r.rows,aK (aj q.rows)=true/\q.rows.length<=15/\∀e∈q.rows,eT q.rows.length e.e.kids:=by
 simp only[aY,Vt,VF]at h;rw[lw]at h;have hT:∀r∈rs,r.rows.length<=6/\dJ (eQ r.rows) r.rows.length=true:=by
  intro r hr;obtain⟨j,hj,rfl⟩:=V7.1 hr;have h1:=o9 h.2 j hj;unfold kF at h1;have e:(af rs)[j]?=some rs[j].p:=by simp[af,hj]
  rw[e]at h1;simp only[Vt,VF]at h1;have e2:rs[j].p.rels.length=rs[j].rows.length:=by simp[TR.p,eQ]
  rw[e2]at h1;exact⟨h1.1.2,h1.2⟩
 refine⟨h.1,fun r hr=>(hT r hr).1,fun r hr q hq=>?_⟩;obtain⟨j,hj,rfl⟩:=V7.1 hq;have h1:=o8 (hT r hr).2 j hj;unfold mg at h1;have e:(eQ r.rows)[j]?=some r.rows[j].p:=by simp[eQ,hj]
 rw[e]at h1;simp only[Vt]at h1;have h2:aK (aj r.rows[j].rows)=true:=h1.2;have h3:=nZ h2;rw[aX]at h3;refine⟨h2,h3.2,fun e he=>?_⟩;obtain⟨i,hi,rfl⟩:=V7.1 he;have:=MH h2 i (by rw[aX];exact hi);have e1:(aj r.rows[j].rows)[i]'(by rw[aX];exact hi)=r.rows[j].rows[i].e:=by simp[aj]
 rw[e1]at this;simpa[aj] using this
def assigns(n:Nat):List (ByteArray×ByteArray)->List (ByteArray×ByteArray->Int)
 | []=>[fun _=>0]
 | k::ks=>(assigns n ks).flatMap fun f=>(List.range n).map fun v=>fun y=>if y=k then ((v:Nat):Int) else f y
theorem xS{n:Nat}:∀{ks:List (ByteArray×ByteArray)} {f:Q00},f∈assigns n ks->∀k,0<=f k
 | [],f,h,k=>by simp only[assigns,VD]at h;rw[h];exact Int.le_refl _
 | x::ks,f,h,k=>by
  simp only[assigns,VJ,VG]at h;obtain⟨g,hg,v,-,rfl⟩:=h;show 0<=(if k=x then ((v:Nat):Int) else g k);split
  ·omega
  exact xS hg k
theorem xU{n:Nat}(g:Q00):∀(ks:List (ByteArray×ByteArray)),(∀k∈ks,0<=g k/\g k<n)->∃f∈assigns n ks,∀k∈ks,f k=g k
 | [],_=>⟨fun _=>0,by simp[assigns],fun k hk=>by cases hk⟩
 | x::ks,h=>by
  obtain⟨f,hf,hfg⟩:=xU g ks fun k hk=>h k (V4 _ hk);obtain⟨h0,h1⟩:=h x (We ..);refine⟨fun y=>if y=x then (((g x).toNat:Nat):Int) else f y,?_,fun k hk=>?_⟩
  ·simp only[assigns,VJ,VG];exact⟨f,hf,(g x).toNat,List.mem_range.2 (by omega),rfl⟩
  show(if k=x then (((g x).toNat:Nat):Int) else f k)=g k;by_cases e:k=x
  ·rw[if_pos e,e];omega
  rw[if_neg e];rcases VH.1 hk with h2|h2
  ·exact absurd h2 e
  exact hfg k h2
def T9(ts:Q0b)(f:Q00):Bool:=(ak ts).all fun k=>(ib ts k).all fun d=>decide (f (d.typ,d.rel)+stepOf d<=f k)
theorem Lm{ts:Q0b}{f:Q00}:T9 ts f=true ↔ ∀k∈ak ts,∀d∈ib ts k,f (d.typ,d.rel)+stepOf d<=f k:=by
 unfold T9;simp only[VC,VF]
def Ae(ts:Q0b):List (ByteArray×ByteArray->Int):=(assigns (ak ts).length (ak ts)).filter (T9 ts)
theorem MI{ts:Q0b}{f:Q00}(h:f∈Ae ts):Sol ts f:=by
 unfold Ae at h;rw[Wz]at h;exact⟨xS h.1,Lm.1 h.2⟩
theorem PD{ts:Q0b}{g:Q00}(hF:Found ts)(h:Sol ts g)(hb:∀k∈ak ts,g k+1<=(ak ts).length):∃f∈Ae ts,∀k∈ak ts,f k=g k:=by
 obtain⟨f,hf,hfg⟩:=xU (n:=(ak ts).length) g (ak ts) fun k hk=>⟨h.pos k,by have:=hb k hk;omega⟩;refine⟨f,?_,hfg⟩;unfold Ae;rw[Wz];refine⟨hf,Lm.2 fun k hk d hd=>?_⟩;rw[hfg k hk,hfg _ (hF k hk d hd)];exact h.up k hk d hd
def aN(ts:Q0b):Bool:=aY ts&&iq ts && !(Ae ts).isEmpty
theorem bu{ts:Q0b}:aN ts=true↔bP ts:=by
 unfold aN bP;simp only[Vt,Bool.not_eq_true'];constructor
 ·rintro⟨⟨h1,h2⟩,h3⟩;refine⟨h1,h2,?_⟩;cases e:Ae ts with
  | nil=>rw[e]at h3;cases h3
  | cons f fs=>exact⟨f,MI (by rw[e];exact We ..)⟩
 rintro⟨h1,h2,f,hf⟩;refine⟨⟨h1,h2⟩,?_⟩;obtain⟨g,hg,hb⟩:=hf.few (kG h2);obtain⟨f2,hf2,-⟩:=PD (kG h2) hg hb;cases e:Ae ts with
 | nil=>rw[e]at hf2;cases hf2
 | cons f fs=>rfl
theorem xV{ts:Q0b}(h:bP ts):aN ts=true:=bu.2 h
theorem dP{ts:Q0b}(h:¬bP ts):aN ts=false:=by
 cases e:aN ts;case false=>rfl
 exact absurd (bu.1 e) h
open ChangeAt ChangeShapes RowKit WideShapes
def St.cells(s:St):List Value:=[.string s.typ,.string s.rel,.int .i64 s.n]
def iB:List St->List Value
 | []=>[]
 | s::xs=>s.cells++iB xs
theorem EO(xs ys:List St):iB (xs++ys)=iB xs++iB ys:=by
 induction xs with
 | nil=>rfl
 | cons d ds ih=>simp[iB,ih]
theorem Af(xs:List St)(d:St):iB (xs++[d])=iB xs++d.cells:=by rw[EO];simp[iB]
theorem lJ(xs:List St)(i:Nat)(h:i<xs.length)(o:Nat)(ho:o<3):(iB xs)[i*3+o]?=(xs[i].cells)[o]?:=by
 induction xs generalizing i with
 | nil=>simp at h
 | cons s xs ih =>
  cases i with
  | zero =>
   simp only[iB,Nat.zero_mul,VQ,List.getElem_cons_zero];rw[Wt (by simp[St.cells];omega)]
  | succ i =>
   simp only[iB,List.getElem_cons_succ];rw[Wq (by simp[St.cells];omega)];have e:(i+1)*3+o-s.cells.length=i*3+o:=by simp[St.cells];omega
   rw[e];exact ih i (by simpa using h)
theorem wV(xs:List Dp)(i:Nat)(h:i<xs.length)(o:Nat)(ho:o<3):(eD xs)[i*3+o]?=(xs[i].cells)[o]?:=by
 induction xs generalizing i with
 | nil=>simp at h
 | cons s xs ih =>
  cases i with
  | zero =>
   simp only[eD,Nat.zero_mul,VQ,List.getElem_cons_zero];rw[Wt (by simp[Dp.cells];omega)]
  | succ i =>
   simp only[eD,List.getElem_cons_succ];rw[Wq (by simp[Dp.cells];omega)];have e:(i+1)*3+o-s.cells.length=i*3+o:=by simp[Dp.cells];omega
   rw[e];exact ih i (by simpa using h)
theorem Gw(g j:Nat):(⟨g,0,none⟩:Addr).add j=⟨g,j,none⟩:=by
 unfold Addr.add;by_cases hj:j=0
 ·subst hj;simp
 simp[hj]
theorem RN{w:ae}{base:Nat}{t:TypeId}{v:Value}{n:Nat}{xs:Q03}(h:w.ownsRow base t 3 v n xs):∃ad cp,v=.slice ad n cp/\(n=0 \/ ∃g,ad=some ⟨g,0,none⟩/\base<=g/\g<w.heap.size/\∀(j:Nat) (u:Value),xs[j]?=some u->w.cell? ⟨g,j,none⟩=some u):=by
 have h2:=h;rcases h.2 with⟨rfl,h0⟩|⟨g,cp,cur,rfl,hbg,hg,hnc,-⟩
 ·exact⟨none,0,by rw[h0],.inl h0⟩
 have hlt:=h2.lt g rfl;refine⟨_,cp,rfl,.inr ⟨g,rfl,hlt.1,hlt.2,fun j u hu=>?_⟩⟩;have:=h2.cells (g:=g) rfl j u hu;rwa [Gw]at this
def AtD(w:World)(b off:Nat)(d:Dp):Prop:=w.cell? ⟨b,off,none⟩=some (.string d.typ)/\w.cell? ⟨b,off+1,none⟩=some (.string d.rel)/\w.cell? ⟨b,off+2,none⟩=some (.bool d.neg)
def Tw(w:World)(lo:Nat)(ad:Q02)(xs:List Dp):Prop:=xs=[] \/ ∃b,ad=some ⟨b,0,none⟩/\lo<=b/\b<w.heap.size/\∀(i:Nat) (h:i<xs.length),AtD w b (i*3) xs[i]
theorem UW{w:ae}{base:Nat}{v:Value}{xs:List Dp}(h:w.ownsRow base 294 3 v xs.length (eD xs)):∃ad cp,v=.slice ad xs.length cp/\Tw w base ad xs:=by
 obtain⟨ad,cp,e,h0⟩:=RN h;refine⟨ad,cp,e,?_⟩;rcases h0 with h0|⟨g,e1,hb,hg,hc⟩
 ·exact .inl (VM.1 h0)
 refine .inr ⟨g,e1,hb,hg,fun i hi=>⟨?_,?_,?_⟩⟩
 ·exact hc _ _ (by have:=wV xs i hi 0 (by omega);simpa[Dp.cells] using this)
 ·exact hc _ _ (by have:=wV xs i hi 1 (by omega);simpa[Dp.cells] using this)
 exact hc _ _ (by have:=wV xs i hi 2 (by omega);simpa[Dp.cells] using this)
def Vf(w:World)(g:Nat)(xs:List St):Prop:=∀(i:Nat) (h:i<xs.length),UF w g (i*3) xs[i]
theorem UX{w:ae}{base:Nat}{v:Value}{xs:List St}(h:w.ownsRow base 212 3 v xs.length (iB xs)):∃ad cp,v=.slice ad xs.length cp/\(xs.length=0 \/ ∃g,ad=some ⟨g,0,none⟩/\base<=g/\g<w.heap.size/\Vf w g xs):=by
 obtain⟨ad,cp,e,h0⟩:=RN h;refine⟨ad,cp,e,?_⟩;rcases h0 with h0|⟨g,e1,hb,hg,hc⟩
 ·exact .inl h0
 refine .inr ⟨g,e1,hb,hg,fun i hi=>⟨?_,?_,?_⟩⟩
 ·exact hc _ _ (by have:=lJ xs i hi 0 (by omega);simpa[St.cells] using this)
 ·exact hc _ _ (by have:=lJ xs i hi 1 (by omega);simpa[St.cells] using this)
 exact hc _ _ (by have:=lJ xs i hi 2 (by omega);simpa[St.cells] using this)
theorem RO:(prog.info? 212).map (fun i=>(i.zero,i.size,i.bytes))=some (some (.agg #[.string ⟨#[]⟩,.string ⟨#[]⟩,.int .i64 0]),3,40):=by kernel_rfl
def Gx(ks:List (ByteArray×ByteArray)):List St:=ks.map fun k=>⟨k.1,k.2,0⟩
theorem EP(ks:List (ByteArray×ByteArray)):(Gx ks).length=ks.length:=by simp[Gx]
theorem PE(ks:List (ByteArray×ByteArray))(k:Q01):Gx (ks++[k])=Gx ks++[⟨k.1,k.2,0⟩]:=by simp[Gx]
def dB(rs:Q06)(k:Nat):List (ByteArray×ByteArray):=ak (af (rs.take k))
def iV(t:TR)(j:Nat):List (ByteArray×ByteArray):=(t.rows.take j).map fun q=>(t.name,q.name)
theorem pg(rs:Q06)(k:Nat)(h:k<rs.length):dB rs (k+1)=dB rs k++iV rs[k] rs[k].rows.length:=by
 unfold dB iV;rw[Vu h,VI];unfold af ak;rw[Wu,Wj,List.map_singleton,List.flatMap_singleton];congr 1;simp[jI,TR.p,eQ,RR.p]
theorem ut(t:TR)(j:Nat)(h:j<t.rows.length):iV t (j+1)=iV t j++[(t.name,t.rows[j].name)]:=by
 unfold iV;rw[Vu h,Wu];rfl
theorem Dj(t:TR)(j:Nat):(iV t j).length<=t.rows.length:=by unfold iV;simp;omega
theorem wW(rs:Q06)(hr:∀r∈rs,r.rows.length<=6)(k:Nat):(dB rs k).length<=k*6:=by
 induction k with
 | zero=>simp[dB,af,ak]
 | succ k ih =>
  by_cases h:k<rs.length
  ·rw[pg _ _ h,Vx];have h1:=Dj rs[k] rs[k].rows.length;have h2:=hr rs[k] (Vp h);omega
  have e:rs.take (k+1)=rs.take k:=by rw[V8 (by omega),V8 (by omega)]
  unfold dB at ih⊢;rw[e];omega
theorem Ag(d:Dp):0<=stepOf d/\stepOf d<=1:=by unfold stepOf;split<;>omega
structure Mid(ts:Q0b)(n:Nat)(oS:List St)(k j:Nat)(mb:Bool)(out:List St):Prop where
 len:out.length=n
 nn:n=(ak ts).length
 round:Round ts out
 le:∀i (h:i<out.length),i≠k->out[i].n<=n
 lek:∀h:k<out.length,out[k].n<=n+1+j
 same:mb=false->out=oS/\(∀i (h:i<out.length),i<k->RL ts out out[i] (ib ts out[i].key).length)/\∀h:k<out.length,RL ts out out[k] j
 grow:mQ oS<=mQ out/\(mb=true->mQ oS<mQ out)
theorem Mid.start{ts:Q0b}{n:Nat}{out:List St}(hl:out.length=n)(hn:n=(ak ts).length)(hr:Round ts out)(hle:∀s∈out,s.n<=n):Mid ts n out 0 0 false out where
 len:=hl
 nn:=hn
 round:=hr
 le i h _:=hle _ (Vp h)
 lek h:=by have:=hle _ (Vp h);omega
 same _:=⟨rfl,fun i _ hi=>by omega,fun _ d hd=>by simp at hd⟩
 grow:=⟨Int.le_refl _,by simp⟩
theorem Mid.key{ts:Q0b}{n k j:Nat}{oS out:List St}{mb:Bool}(h:Mid ts n oS k j mb out)(hk:k<out.length)(hk2:k<(ak ts).length):out[k].key=(ak ts)[k]:=by
 have e:=h.round.keys;have:(iy out)[k]'(by simp[iy,hk])=(ak ts)[k]:=by simp only[e]
 rw[<-this];simp[iy]
def pq(out:List St)(d:Dp):Int:=fJ out (d.typ,d.rel)+stepOf d
theorem Mid.at{ts:Q0b}{n k j:Nat}{oS out:List St}{mb:Bool}(h:Mid ts n oS k j mb out)(key:Q01)(hk:key∈ak ts):∃i:Nat,∃hi:i<out.length,gI key.1 key.2 out 0=(i:Int)/\out[i].n=fJ out key/\0<=fJ out key/\fJ out key<=n+1+j:=by
 obtain⟨i,hi,h1,h2,h3⟩:=o7 out 0 (k:=key) (by rw[h.round.keys];exact hk);refine⟨i,hi,by rw[h1];congr 1;omega,h3,?_,?_⟩
 ·exact(h.round.at hk).1
 rw[<-h3];by_cases e:i=k
 ·subst e;exact h.lek hi
 have:=h.le i hi e;omega
theorem Mid.no{ts:Q0b}{n k j:Nat}{oS out:List St}{mb:Bool}(h:Mid ts n oS k j mb out)(hk:k<out.length)(d:Dp)(hd:(ib ts out[k].key)[j]?=some d)(hw:pq out d<=out[k].n):Mid ts n oS k (j+1) mb out where
 len:=h.len
 nn:=h.nn
 round:=h.round
 le:=h.le
 lek hh:=by have:=h.lek hh;omega
 same hm:=by
  obtain⟨e,s1,s2⟩:=h.same hm;refine⟨e,s1,fun hh d' hd'=>?_⟩;obtain⟨hj,hd2⟩:=List.getElem?_eq_some_iff.1 hd;rw[Vu hj]at hd';rcases VE.1 hd' with hd'|hd'
  ·exact s2 hh d' hd'
  rw[hd2]at hd';simp at hd';subst hd';exact hw
 grow:=h.grow
theorem Mid.yes{ts:Q0b}{n k j:Nat}{oS out:List St}{mb:Bool}(h:Mid ts n oS k j mb out)(hF:Found ts)(hk:k<out.length)(d:Dp)(hd:(ib ts out[k].key)[j]?=some d)(hw:out[k].n<pq out d):Mid ts n oS k (j+1) true (out.set k ⟨out[k].typ,out[k].rel,pq out d⟩) where
 len:=by rw[List.length_set];exact h.len
 nn:=h.nn
 round:=h.round.set hF hk (WA hd)
 le i hi hne:=by
  rw[List.getElem_set_ne (Ne.symm hne)];exact h.le i (by simpa using hi) hne
 lek hh:=by
  rw[List.getElem_set_self];show pq out d<=_;obtain⟨i,hi,-,-,-,h4⟩:=h.at (d.typ,d.rel) (hF _ (h.round.mem (Vp hk)) d (WA hd));have:=Ag d;unfold pq;push_cast;omega
 same hm:=by cases hm
 grow:=by
  have:=h.grow.1;rw[Pz _ _ hk];exact⟨by omega,fun _=>by omega⟩
theorem Mid.next{ts:Q0b}{n k j:Nat}{oS out:List St}{mb:Bool}(h:Mid ts n oS k j mb out)(hk:k<out.length)(hj:j=(ib ts out[k].key).length)(hle:out[k].n<=n):Mid ts n oS (k+1) 0 mb out where
 len:=h.len
 nn:=h.nn
 round:=h.round
 le i hi _:=by
  by_cases e:i=k
  ·subst e;exact hle
  exact h.le i hi e
 lek hh:=by have:=h.le (k+1) hh (by omega);omega
 same hm:=by
  obtain⟨e,s1,s2⟩:=h.same hm;refine⟨e,fun i hi hik=>?_,fun _ d hd=>by simp at hd⟩;by_cases e2:i=k
  ·subst e2;have:=s2 hi;rw[hj]at this;exact this
  exact s1 i hi (by omega)
 grow:=h.grow
theorem Mid.over{ts:Q0b}{n k j:Nat}{oS out:List St}{mb:Bool}(h:Mid ts n oS k j mb out)(hF:Found ts)(hk:k<out.length)(hn:(n:Int)<out[k].n):¬ ∃f,Sol ts f :=
 Jr hF (h.round.mem (Vp hk)) (h.round.low _ (Vp hk)) (by have:=h.nn;omega)
structure Pass(ts:Q0b)(n:Nat)(mb:Bool)(out:List St):Prop where
 len:out.length=n
 nn:n=(ak ts).length
 round:Round ts out
 le:∀s∈out,s.n<=n
 sat:mb=false->∀s∈out,RL ts out s (ib ts s.key).length
theorem Mid.done{ts:Q0b}{n k j:Nat}{oS out:List St}{mb:Bool}(h:Mid ts n oS k j mb out)(hk:k=n):Pass ts n mb out where
 len:=h.len
 nn:=h.nn
 round:=h.round
 le s hs:=by
  obtain⟨i,hi,rfl⟩:=V7.1 hs;exact h.le i hi (by have:=h.len;omega)
 sat hm s hs:=by
  obtain⟨e,s1,s2⟩:=h.same hm;obtain⟨i,hi,rfl⟩:=V7.1 hs;exact s1 i hi (by have:=h.len;omega)
theorem Pass.least{ts:Q0b}{n:Nat}{out:List St}(h:Pass ts n false out):Least ts (fJ out):=h.round.done (h.sat rfl)
theorem Pass.zero{ts:Q0b}{n:Nat}(hn:n=(ak ts).length):Pass ts n true (Gx (ak ts)) where
 len:=by rw[EP,hn]
 nn:=hn
 round:=⟨by unfold iy Gx;rw[List.map_map];exact List.map_id _,fun s hs=>by simp[Gx]at hs;obtain⟨a,b,-,rfl⟩:=hs;exact Int.le_refl _,fun s hs=>by simp[Gx]at hs;obtain⟨a,b,-,rfl⟩:=hs;exact qJ.zero _ _⟩
 le s hs:=by simp[Gx]at hs;obtain⟨a,b,-,rfl⟩:=hs;simp
 sat h:=by cases h
theorem RP(n:Int)(out:List St)(h:∀s∈out,s.n<=n):mQ out<=n*out.length:=by
 induction out with
 | nil=>simp[mQ]
 | cons s xs ih =>
  have h1:=h s (by simp);have h2:=ih fun q hq=>h q (by simp[hq]);simp only[mQ,VS];have:n*((xs.length+1:Nat):Int)=n*xs.length+n:=by push_cast;rw[Int.mul_add];simp
  omega
structure RowS(w wr:World)(ad:Q02)(g:Nat)(out:List St):Prop where
 below:ag w wr
 at':out=[]\/(ad=some ⟨g,0,none⟩/\w.heap.size<=g/\g<wr.heap.size/\Vf wr g out/\∀j,wr.frozen? ⟨g,j,none⟩=false)
theorem UF.kept{w w':ae}{b off:Nat}{s:St}(h:UF w b off s)(hb:b<w.heap.size)(hB:ag w w'):UF w' b off s:=⟨aA hB hb h.1,aA hB hb h.2.1,aA hB hb h.2.2⟩
theorem RowS.kept{w wr w2:ae}{ad:Q02}{g:Nat}{out:List St}(h:RowS w wr ad g out)(hb:ag wr w2):RowS w w2 ad g out where
 below:=h.below.trans (hb.mono h.below.size)
 at':=by
  rcases h.at' with e|⟨e,h1,h2,h3,h4⟩
  ·exact .inl e
  exact .inr ⟨e,h1,Vq h2 hb.size,fun i hi=>(h3 i hi).kept h2 hb,fun j=>by rw[hb.frozen (p:=⟨g,j,none⟩) h2];exact h4 j⟩
theorem RowS.slN{w wr:ae}{ad:Q02}{g:Nat}{out:List St}(h:RowS w wr ad g out):Jd wr ad out:=by
 rcases h.at' with e|⟨e,h1,h2,h3,h4⟩
 ·exact .inl e
 exact .inr ⟨g,0,e,h2,fun i hi=>by rw[VQ];exact h3 i hi⟩
theorem RowS.set{w wr:ae}{ad:Q02}{g:Nat}{out:List St}(h:RowS w wr ad g out){k:Nat}(hk:k<out.length)(n:Int):RowS w (wr.setCell ⟨g,k*3+2,none⟩ (.int .i64 n)) ad g (out.set k ⟨out[k].typ,out[k].rel,n⟩):=by
 rcases h.at' with e|⟨e,h1,h2,h3,h4⟩
 ·rw[e]at hk;simp at hk
 refine⟨h.below.setCell (p:=⟨g,k*3+2,none⟩) h1 _,.inr ⟨e,h1,by simpa using h2,fun i hi=>?_,fun j=>by simpa using h4 j⟩⟩;have hi':i<out.length:=by simpa using hi
 obtain⟨c0,c1,c2⟩:=h3 i hi';by_cases ei:i=k
 ·subst ei;rw[List.getElem_set_self];exact⟨by rw[qz (by omega)];exact c0,by rw[qz (by omega)];exact c1,zw c2⟩
 rw[List.getElem_set_ne (Ne.symm ei)];exact⟨by rw[qz (by omega)];exact c0,by rw[qz (by omega)];exact c1,by rw[qz (by omega)];exact c2⟩
def PG(w:World)(g i:Nat):Int:=match w.cell? ⟨g,i*3+2,none⟩ with|some (.int _ x)=>x|_=>0
def Js(w:World)(g:Nat):Nat->Int
 | 0=>0
 | n+1=>Js w g n+PG w g n
theorem Gy(xs ys:List St):mQ (xs++ys)=mQ xs+mQ ys:=by
 induction xs with
 | nil=>simp[mQ]
 | cons s xs ih=>simp only[V9,mQ,ih];omega
theorem Vf.sum{w:ae}{g:Nat}{out:List St}(h:Vf w g out):∀k,k<=out.length->Js w g k=mQ (out.take k)
 | 0,_=>by simp[Js,mQ]
 | k+1,hk=>by
  have hlt:k<out.length:=by omega
  rw[Vu hlt,Gy];simp only[Js,h.sum k (by omega),mQ];have:PG w g k=out[k].n:=by unfold PG;rw[(h k hlt).2.2]
  omega
theorem RowS.sum{w wr:ae}{ad:Q02}{g:Nat}{out:List St}(h:RowS w wr ad g out):Js wr g out.length=mQ out:=by
 rcases h.at' with e|⟨e,h1,h2,h3,h4⟩
 ·rw[e];simp[Js,mQ]
 rw[h3.sum _ (Vr _),VI]
def PH:Value->Int
 | .bool true=>1
 | _=>0
def Dk(w:World)(g n:Nat)(m:Value):Nat:=(2*((n:Int)*n-Js w g n)+PH m).toNat
theorem Jt{ts:Q0b}{w wr w2:ae}{ad:Q02}{g n:Nat}{oS out:List St}{mb:Bool}(hS:RowS w wr ad g oS)(hO:RowS w w2 ad g out)(h:Mid ts n oS n 0 mb out)(hl:oS.length=n):Dk w2 g n (.bool mb)<Dk wr g n (.bool true):=by
 have e1:=hS.sum;have e2:=hO.sum;have h3:=RP n out fun s hs=>(h.done rfl).le s hs;have h2:=h.len;have h4:=h.grow;rw[hl]at e1;rw[h2]at e2 h3;unfold Dk;rw[e1,e2];cases mb;case false=>simp only[PH];omega
 have:=h4.2 rfl;simp only[PH];omega
theorem RQ{w wr:ae}{v:Value}{out:List St}(hB:ag w wr)(h:wr.ownsRow w.heap.size 212 3 v out.length (iB out)):∃ad cp g,v=.slice ad out.length cp/\RowS w wr ad g out:=by
 rcases h.2 with⟨rfl,h0⟩|⟨g,cp,cur,rfl,hbg,hg,hnc,-⟩
 ·exact⟨none,0,0,by rw[h0],hB,.inl (VM.1 h0)⟩
 obtain⟨ad,cp',e,h0⟩:=UX h;injection e with e1 e2 e3;refine⟨some ⟨g,0,none⟩,cp,g,rfl,hB,?_⟩;rcases h0 with h0|⟨g',e4,h1,h2,h3⟩
 ·exact .inl (VM.1 h0)
 rw[<-e1]at e4;injection e4 with e4;injection e4 with e4;subst e4;exact .inr ⟨rfl,h1,h2,h3,fun j=>by simp[World.frozen?,hg]⟩
theorem Ua(ad:Q02)(cap n:Nat)(xs:List St)(key:Q01)(w:ae)(hn:xs.length=n)(hlen:n<=1048576)(hs:Jd w ad xs)(i:Nat)(hat:gI key.1 key.2 xs 0=(i:Int)):
  Calls prog 219 #[.slice ad n cap,.string key.1,.string key.2] w fun e w'=>e=.returned (.int .i64 (i:Int))/\w'=w:=by
 subst hn;rw[<-hat];exact O8 ad cap xs key.1 key.2 w hlen hs
theorem AtD.set{w:ae}{b off g o:Nat}{d:Dp}{v:Value}(h:AtD w b off d)(hn:g≠b):AtD (w.setCell ⟨g,o,none⟩ v) b off d:=⟨by rw[xM hn];exact h.1,by rw[xM hn];exact h.2.1,by rw[xM hn];exact h.2.2⟩
theorem Tw.set{w:ae}{lo g o:Nat}{ad:Q02}{xs:List Dp}{v:Value}(h:Tw w lo ad xs)(hg:g<lo):Tw (w.setCell ⟨g,o,none⟩ v) lo ad xs:=by
 rcases h with h|⟨b,e,h1,h2,h3⟩
 ·exact .inl h
 exact .inr ⟨b,e,h1,by simpa using h2,fun i hi=>(h3 i hi).set (by omega)⟩
theorem keepD{wr W w':ae}{g o1 o2:Nat}{x y:Value}(h:W.cell? ⟨g,o1,none⟩=some x/\W.cell? ⟨g,o2,none⟩=some y/\g<W.heap.size/\ag wr W)(hb:ag W w'):
  w'.cell? ⟨g,o1,none⟩=some x/\w'.cell? ⟨g,o2,none⟩=some y/\g<w'.heap.size/\ag wr w' :=
 ⟨aA hb h.2.2.1 h.1,aA hb h.2.2.1 h.2.1,Vq h.2.2.1 hb.size,h.2.2.2.trans (hb.mono h.2.2.2.size)⟩
theorem pV.small{rs:Q06}{ad:Q02}{rows:Q08}(h:pV rs ad rows)(hl:∀r∈rs,∀q∈r.rows,q.rows.length<=15/\∀e∈q.rows,eT q.rows.length e.e.kids):rows.length<=15/\∀e∈rows,eT rows.length e.e.kids:=by
 rcases h with rfl|⟨t,ht,q,hq,rfl,-⟩
 ·exact⟨by simp,by simp⟩
 exact hl t ht q hq
theorem Ah(ts:Q0b)(ty over rel:bQ):(gW ts ty over rel).length<=(aQ (az ts ty over)).length:=Jb _ _ _
theorem Ju(ts:Q0b)(typ:bQ)(es:Q09)(A G:Nat)(hA:∀e∈es,e.allow.length<=A)(hG:∀over rel,(gW ts typ over rel).length<=G)(k:Nat):(aM ts typ es k).length<=k*(A+G+1):=by
 induction k with
 | zero=>simp[aM]
 | succ k ih =>
  simp only[aM,Vx];have:(gX ts typ es k).length<=A+G+1:=by
   unfold gX;split
   ·simp
   rename_i e he;have h1:=hA e (WA he);have h2:=CY ((dz es).getD k false) e.allow;have h3:(kX ts typ ((dz es).getD k false) e).length<=G+1:=by
    unfold kX;split
    ·simp
    split
    ·have:=hG e.over e.name;simp;omega
    simp
   rw[Vx];omega
  have e:(k+1)*(A+G+1)=k*(A+G+1)+(A+G+1):=Nat.succ_mul _ _;omega
theorem Cn(ts:Q0b)(typ:bQ)(es:Q09)(k:Nat)(h:es.length<=k):gX ts typ es k=[]:=by
 unfold gX;rw[List.getElem?_eq_none h]
theorem Jv(ts:Q0b)(typ:bQ)(es:Q09)(B:Nat)(hB:∀k,k<=es.length->(aM ts typ es k).length<=B)(k:Nat):(aM ts typ es k).length<=B:=by
 induction k with
 | zero=>exact hB 0 (Vv _)
 | succ k ih =>
  by_cases h:k+1<=es.length
  ·exact hB _ h
  simp only[aM];rw[Cn _ _ _ _ (by omega),Wp];exact ih
theorem Gz(rs:Q07)(n:bQ)(es:Q09)(h:jR (eQ rs) n=some es):∃q∈rs,es=aj q.rows:=by
 induction rs with
 | nil=>simp[eQ,jR]at h
 | cons r rs ih =>
  simp only[eQ,WF,jR]at h;split at h
  ·injection h with h;exact⟨r,by simp,h.symm⟩
  obtain⟨q,hq,e⟩:=ih h;exact⟨q,by simp[hq],e⟩
theorem Jw(ts:Q06)(ty n:bQ)(es:Q09)(h:fF (af ts) ty n=some es):∃t∈ts,∃q∈t.rows,es=aj q.rows:=by
 induction ts with
 | nil=>simp[af,fF]at h
 | cons t ts ih =>
  simp only[af,WF,fF]at h;split at h
  ·rcases Option.or_eq_some_iff.1 h with h|⟨-,h⟩
   ·obtain⟨q,hq,e⟩:=Gz _ _ _ h;exact⟨t,by simp,q,hq,e⟩
   obtain⟨t',ht,q,hq,e⟩:=ih h;exact⟨t',by simp[ht],q,hq,e⟩
  obtain⟨t',ht,q,hq,e⟩:=ih h;exact⟨t',by simp[ht],q,hq,e⟩
theorem xW(rs:Q06)(hl:∀r∈rs,r.light)(typ over rel:bQ):(gW (af rs) typ over rel).length<=1048576:=by
 refine Vz (Ah _ _ _ _) ?_;unfold az;cases h:fF (af rs) typ over with
 | none=>simp[aQ]
 | some es =>
  obtain⟨t,ht,q,hq,rfl⟩:=Jw _ _ _ _ h;exact zz q.rows ((hl t ht).2 q hq).2
theorem Ai(rs:Q06)(hl:∀r∈rs,r.light)(typ:bQ)(rows:Q08)(hle:rows.length<=15)(hlE:∀q∈rows,q.e.light)(k:Nat):(aM (af rs) typ (aj rows) k).length<=100000000:=by
 refine Jv _ _ _ _ (fun k hk=>?_) k;refine Vz (Ju _ _ _ 1048576 1048576 (fun e he=>?_) (xW rs hl typ) k) ?_
 ·obtain⟨q,hq,rfl⟩:=VG.1 he;exact(hlE q hq).1
 rw[aX]at hk;omega
end Go.Proofs.YtojjoblnpldniaaGreat
