/- Strata in plain words: what they must keep, the least ones, and that they are few. Nothing of the program is read here. -/
import Derived.Test.YtcgdckphpjfmhaaGreatDoorSq
import Derived.Test.YtcgdckphpjfmhaaGreatDoorJ5
import Derived.Test.YtcgdckphpjfmhaaGreatDoorJ7
import Derived.Sort.Statements
import Derived.Test.YtcgdckphpjfmhaaGreatDoorSpecExpr
open Go.Proofs.Tryz
set_option maxHeartbeats 80000000
namespace Go.Proofs.YtcgdckphpjfmhaaGreatDoor
open Pl
theorem wM{a b:ByteArray}(h:a.toList=b.toList):a=b:=by
 rw[Go.ByteArray.toList_eq,Go.ByteArray.toList_eq]at h;cases a with|mk x=>cases b with|mk y =>
 congr;exact Array.ext' h
theorem eZ{a b:ByteArray}:(a.toList==b.toList)=true↔a=b:=⟨fun h=>wM (by simpa using h),fun h=>by simp[h]⟩
def kE(t:Ty):List (ByteArray×ByteArray):=t.rels.map fun r=>(t.name,r.name)
def av(ts:Q0b):List (ByteArray×ByteArray):=ts.flatMap kE
def stepOf(d:Dp):Int:=if d.neg then 1 else 0
def il(ts:Q0b)(k:Q01):List Dp:=qH ts k.1 (aK ts k.1 k.2)
structure Sol(ts:Q0b)(f:Q00):Prop where
 pos:∀k,0<=f k
 up:∀k∈av ts,∀d∈il ts k,f (d.typ,d.rel)+stepOf d<=f k
def Found(ts:Q0b):Prop:=∀k∈av ts,∀d∈il ts k,(d.typ,d.rel)∈av ts
theorem xM(vs:List Int)(x y:Int)(h:x<=y):vs.countP (fun v=>decide (v<x))<=vs.countP (fun v=>decide (v<y)) :=
 List.countP_mono_left fun v _ hv=>by simp at hv⊢;omega
theorem LM(vs:List Int)(x y:Int)(h:x+1<=y)(hx:x∈vs):vs.countP (fun v=>decide (v<x))+1<=vs.countP (fun v=>decide (v<y)):=by
 induction vs with
 | nil=>cases hx
 | cons v vs ih =>
  simp only[List.countP_cons];rcases VU.1 hx with rfl|hm
  ·have:=xM vs x y (by omega);have h1:decide (x<x)=false:=by simp
   have h2:decide (x<y)=true:=by simp;omega
   simp only[h1,h2];simp;omega
  have:=ih hm;by_cases h1:v<x
  ·have h2:v<y:=by omega
   simp[h1,h2];omega
  simp only[h1];simp;omega
theorem I5(vs:List Int)(x:Int)(hx:x∈vs):vs.countP (fun v=>decide (v<x))+1<=vs.length:=by
 induction vs with
 | nil=>cases hx
 | cons v vs ih =>
  simp only[List.countP_cons,We];rcases VU.1 hx with rfl|hm
  ·have:=List.countP_le_length (p:=fun v=>decide (v<x)) (l:=vs);have h1:decide (x<x)=false:=by simp
   simp only[h1];simp;omega
  have:=ih hm;split<;>omega
theorem Sol.few{ts:Q0b}{f:Q00}(h:Sol ts f)(hF:Found ts):∃g,Sol ts g/\∀k∈av ts,g k+1<=(av ts).length:=by
 refine⟨fun k=>((((av ts).map f).countP (fun v=>decide (v<f k)):Nat):Int),⟨fun k=>by omega,fun k hk d hd=>?_⟩,fun k hk=>?_⟩
 ·have h1:=h.up k hk d hd;have h2:f (d.typ,d.rel)∈(av ts).map f:=Wd (hF k hk d hd);unfold stepOf at h1⊢;split at h1
  ·rename_i hn;have:=LM ((av ts).map f) _ _ h1 h2;simp only[hn,if_true];omega
  rename_i hn;have:=xM ((av ts).map f) _ _ (show f (d.typ,d.rel)<=f k by omega);have e0:(if d.neg=true then (1:Int) else 0)=0:=if_neg hn;rw[e0];omega
 have:=I5 ((av ts).map f) (f k) (Wd hk);simp at this⊢;omega
def qK(ts:Q0b)(k:Q01)(n:Int):Prop:=∀f,Sol ts f->n<=f k
theorem OI{ts:Q0b}(hF:Found ts){k:Q01}(hk:k∈av ts){n:Int}(hl:qK ts k n)(hn:((av ts).length:Int)<=n):¬ ∃f,Sol ts f:=by
 rintro⟨f,hf⟩;obtain⟨g,hg,hb⟩:=hf.few hF;have:=hl g hg;have:=hb k hk;omega
theorem qK.step{ts:Q0b}{k:Q01}(hk:k∈av ts){d:Dp}(hd:d∈il ts k){n:Int}(hl:qK ts (d.typ,d.rel) n):qK ts k (n+stepOf d):=fun f hf=>by
 have h1:=hl f hf;have h2:=hf.up k hk d hd;omega
theorem qK.zero(ts:Q0b)(k:Q01):qK ts k 0:=fun _ hf=>hf.pos k
structure Least(ts:Q0b)(f:Q00):Prop where
 sol:Sol ts f
 low:∀k∈av ts,qK ts k (f k)
theorem Least.same{ts:Q0b}{f g:Q00}(hf:Least ts f)(hg:Least ts g)(k:Q01)(hk:k∈av ts):f k=g k:=by
 have h1:=hf.low k hk g hg.sol;have h2:=hg.low k hk f hf.sol;omega
def St.key(s:St):ByteArray×ByteArray:=(s.typ,s.rel)
def iG(out:List St):List (ByteArray×ByteArray):=out.map St.key
theorem qL{s:St}{k:Q01}:zX s k.1 k.2=true↔s.key=k:=by
 unfold zX St.key;rw[VF,eZ,eZ];constructor
 ·rintro⟨h1,h2⟩;rw[h1,h2]
 rintro rfl;exact⟨rfl,rfl⟩
def fP(out:List St)(k:Q01):Int :=
 match out with
 | []=>0
 | s::xs=>if zX s k.1 k.2 then s.n else fP xs k
theorem pq{k:Q01}:∀(out:List St) (j:Nat),k∈iG out->∃i:Nat,∃h:i<out.length,gQ k.1 k.2 out j=((j+i:Nat):Int)/\out[i].key=k/\out[i].n=fP out k
 | [],_,h=>by cases h
 | s::xs,j,h=>by
  by_cases hs:zX s k.1 k.2=true
  ·exact⟨0,by simp,by simp[gQ,hs],qL.1 hs,by simp[fP,hs]⟩
  have hm:k∈iG xs:=by
   rcases VU.1 h with e|hm
   ·exact absurd (qL.2 e.symm) hs
   exact hm
  obtain⟨i,hi,h1,h2,h3⟩:=pq xs (j+1) hm;refine⟨i+1,by simp;omega,?_,by simpa using h2,by simpa[fP,hs] using h3⟩;simp only[gQ,hs];simp only[Bool.false_eq_true,if_false];rw[h1];congr 1;omega
theorem CP{k:Q01}(out:List St)(h:k∈iG out):∃s∈out,s.key=k/\s.n=fP out k:=by
 obtain⟨i,hi,-,h2,h3⟩:=pq out 0 h;exact⟨out[i],Vz hi,h2,h3⟩
theorem OJ{k:Q01}(out:List St)(h:k ∉ iG out):fP out k=0:=by
 induction out with
 | nil=>rfl
 | cons s xs ih =>
  have h1:¬zX s k.1 k.2=true:=fun e=>h (by rw[qL]at e;simp[iG,e]);simp only[fP,h1];simp only[Bool.false_eq_true,if_false];exact ih fun hm=>h (by simp only[iG,WO,VU];exact .inr hm)
def mV:List St->Int
 | []=>0
 | s::xs=>s.n+mV xs
theorem OL(out:List St)(i:Nat)(h:i<out.length)(n:Int):mV (out.set i ⟨out[i].typ,out[i].rel,n⟩)=mV out-out[i].n+n:=by
 induction out generalizing i with
 | nil=>simp at h
 | cons s xs ih =>
  cases i with
  | zero=>simp[mV];omega
  | succ i=>simp only[List.set_cons_succ,mV,List.getElem_cons_succ];rw[ih i (by simpa using h)];omega
theorem LP(out:List St)(i:Nat)(h:i<out.length)(n:Int):iG (out.set i ⟨out[i].typ,out[i].rel,n⟩)=iG out:=by
 unfold iG;rw[List.map_set];show(List.map St.key out).set i (out[i].key)=_;have:out[i].key=(List.map St.key out)[i]'(by simpa using h):=by simp
 rw[this,List.set_getElem_self]
structure Round(ts:Q0b)(out:List St):Prop where
 keys:iG out=av ts
 pos:∀s∈out,0<=s.n
 low:∀s∈out,qK ts s.key s.n
def Rj(ts:Q0b)(out:List St)(s:St)(k:Nat):Prop:=∀d∈(il ts s.key).take k,fP out (d.typ,d.rel)+stepOf d<=s.n
theorem Round.mem{ts:Q0b}{out:List St}(h:Round ts out){s:St}(hs:s∈out):s.key∈av ts:=by rw[<-h.keys];exact Wd hs
theorem Round.at{ts:Q0b}{out:List St}(h:Round ts out){k:Q01}(hk:k∈av ts):0<=fP out k/\qK ts k (fP out k):=by
 obtain⟨s,hs,e,en⟩:=CP out (by rw[h.keys];exact hk);rw[<-en,<-e];exact⟨h.pos s hs,h.low s hs⟩
theorem Round.set{ts:Q0b}{out:List St}(h:Round ts out)(hF:Found ts){i:Nat}(hi:i<out.length){d:Dp}(hd:d∈il ts out[i].key):Round ts (out.set i ⟨out[i].typ,out[i].rel,fP out (d.typ,d.rel)+stepOf d⟩):=by
 have hk:out[i].key∈av ts:=h.mem (Vz hi);have hdk:=hF _ hk d hd;obtain⟨h0,hl⟩:=h.at hdk;have hs0:0<=stepOf d:=by unfold stepOf;split<;>omega
 refine⟨(LP out i hi _).trans h.keys,fun s hs=>?_,fun s hs=>?_⟩
 ·rcases List.mem_or_eq_of_mem_set hs with hs|rfl
  ·exact h.pos s hs
  show 0<=fP out (d.typ,d.rel)+stepOf d;omega
 rcases List.mem_or_eq_of_mem_set hs with hs|rfl
 ·exact h.low s hs
 exact hl.step hk hd
theorem Round.done{ts:Q0b}{out:List St}(h:Round ts out)(hs:∀s∈out,Rj ts out s (il ts s.key).length):Least ts (fP out) where
 sol:=⟨fun k=>by
   by_cases hk:k∈av ts
   ·exact(h.at hk).1
   ·rw[OJ out (by rw[h.keys];exact hk)];exact Int.le_refl _,fun k hk d hd=>by
   obtain⟨s,hm,e,en⟩:=CP out (by rw[h.keys];exact hk);have:=hs s hm d (by rw[VP,e];exact hd);rw[<-en];exact this⟩
 low k hk:=(h.at hk).2
def jg(a b:ByteArray):Bool:=Op.bytesLess a.toList b.toList
def nA(rs:List Rl)(j:Nat):Bool :=
 match rs[j]? with
 | none=>true
 | some r=>aS r.name&&(match j with|0=>true|i+1=>(rs[i]?.map fun p=>jg p.name r.name).getD true)&&aP r.expr
def dC(rs:List Rl):Nat->Bool
 | 0=>true
 | k+1=>dC rs k&&nA rs k
def kX(ts:Q0b)(j:Nat):Bool :=
 match ts[j]? with
 | none=>true
 | some t=>aS t.name&&(match j with|0=>true|i+1=>(ts[i]?.map fun p=>jg p.name t.name).getD true)&&decide (t.rels.length<=6)&&dC t.rels t.rels.length
def iM(ts:Q0b):Nat->Bool
 | 0=>true
 | k+1=>iM ts k&&kX ts k
theorem tZ(rs:List Rl)(k:Nat)(hb:nA rs k=false):∀n,k<n->dC rs n=false
 | 0,hn=>by omega
 | n+1,hn=>by
  by_cases e:n=k
  ·subst e;simp[dC,hb]
  simp[dC,tZ rs k hb n (by omega)]
theorem uf(ts:Q0b)(k:Nat)(hb:kX ts k=false):∀n,k<n->iM ts n=false
 | 0,hn=>by omega
 | n+1,hn=>by
  by_cases e:n=k
  ·subst e;simp[iM,hb]
  simp[iM,uf ts k hb n (by omega)]
theorem ug{rs:List Rl}:∀{n:Nat},dC rs n=true->∀j,j<n->nA rs j=true
 | 0,_,j,hj=>by omega
 | n+1,h,j,hj=>by
  simp only[dC,VF]at h;by_cases e:j=n
  ·subst e;exact h.2
  exact ug h.1 j (by omega)
theorem uh{ts:Q0b}:∀{n:Nat},iM ts n=true->∀j,j<n->kX ts j=true
 | 0,_,j,hj=>by omega
 | n+1,h,j,hj=>by
  simp only[iM,VF]at h;by_cases e:j=n
  ·subst e;exact h.2
  exact uh h.1 j (by omega)
def bQ(ts:Q0b):Bool:=decide (ts.length<=6)&&iM ts ts.length
def qM(ts:Q0b)(t:Ty):Bool:=t.rels.all fun r=>aU ts t.name r.expr
def j5(ts:Q0b):Bool:=ts.all (qM ts)
def bI(ts:Q0b):Prop:=bQ ts=true/\j5 ts=true/\∃f,Sol ts f
theorem LQ{rs:List Rl}{n:ByteArray}{es:Q09}(h:jM rs n=some es):∃r∈rs,r.name=n/\r.expr=es:=by
 induction rs with
 | nil=>simp[jM]at h
 | cons r rs ih =>
  simp only[jM]at h;split at h
  ·rename_i hn;injection h with h;exact⟨r,by simp,eZ.1 hn,h⟩
  obtain⟨q,hq,e⟩:=ih h;exact⟨q,by simp[hq],e⟩
theorem Ad{ts:Q0b}{ty n:ByteArray}{es:Q09}(h:gm ts ty n=some es):∃t∈ts,∃r∈t.rels,t.name=ty/\r.name=n/\r.expr=es:=by
 induction ts with
 | nil=>simp[gm]at h
 | cons t ts ih =>
  simp only[gm]at h;split at h
  ·rename_i hn;rcases Option.or_eq_some_iff.1 h with h|⟨-,h⟩
   ·obtain⟨r,hr,e⟩:=LQ h;exact⟨t,by simp,r,hr,eZ.1 hn,e⟩
   obtain⟨t',ht,e⟩:=ih h;exact⟨t',by simp[ht],e⟩
  obtain⟨t',ht,e⟩:=ih h;exact⟨t',by simp[ht],e⟩
theorem qN{ts:Q0b}{k:Q01}:k∈av ts ↔ ∃t∈ts,∃r∈t.rels,k=(t.name,r.name):=by
 simp only[av,kE,VZ,VQ];constructor
 ·rintro⟨t,ht,r,hr,e⟩;exact⟨t,ht,r,hr,e.symm⟩
 rintro⟨t,ht,r,hr,e⟩;exact⟨t,ht,r,hr,e.symm⟩
theorem wN{ts:Q0b}{ty n:ByteArray}(h:(aK ts ty n).isEmpty=false):(ty,n)∈av ts:=by
 unfold aK at h;cases e:gm ts ty n with
 | none=>rw[e]at h;simp at h
 | some es =>
  obtain⟨t,ht,r,hr,h1,h2,-⟩:=Ad e;exact qN.2 ⟨t,ht,r,hr,by rw[h1,h2]⟩
theorem TK{ts:Q0b}{rel:ByteArray}{xs:Q0a}{g:ByteArray}(h:g∈gl ts rel xs):(aK ts g rel).isEmpty=false:=by
 induction xs with
 | nil=>simp[gl]at h
 | cons a xs ih =>
  simp only[gl]at h;split at h
  ·exact ih h
  rename_i hn;rcases VU.1 h with rfl|h
  ·simpa using hn
  exact ih h
theorem LU{neg:Bool}{xs:Q0a}{d:Dp}(h:d∈dh neg xs):∃a∈xs,a.s.toList.isEmpty=false/\d.typ=a.t/\d.rel=a.s:=by
 induction xs with
 | nil=>simp[dh]at h
 | cons a xs ih =>
  simp only[dh]at h;split at h
  ·obtain⟨b,hb,e⟩:=ih h;exact⟨b,by simp[hb],e⟩
  rename_i hn;rcases VU.1 h with rfl|h
  ·exact⟨a,by simp,by simpa using hn,rfl,rfl⟩
  obtain⟨b,hb,e⟩:=ih h;exact⟨b,by simp[hb],e⟩
theorem ui{ts:Q0b}{typ:ByteArray}{es:Q09}{d:Dp}:∀{k:Nat},d∈aR ts typ es k->∃i,i<k/\d∈kS ts typ es i
 | 0,h=>by simp[aR]at h
 | k+1,h=>by
  simp only[aR]at h;rcases VL.1 h with h|h
  ·obtain⟨i,hi,e⟩:=ui h;exact⟨i,by omega,e⟩
  exact⟨k,by omega,h⟩
theorem CR{ts:Q0b}{typ:ByteArray}{es:Q09}(h:aU ts typ es=true):∀e∈es,qF ts e.allow=true/\nJ ts typ e=true:=by
 induction es with
 | nil=>intro e he;cases he
 | cons e es ih =>
  simp only[aU]at h;split at h
  ·rename_i hn;rw[VF]at hn;intro q hq;rcases VU.1 hq with rfl|hq
   ·exact hn
   exact ih h q hq
  cases h
theorem mi{ts:Q0b}(h:j5 ts=true):Found ts:=by
 intro k hk d hd;unfold il qH at hd;have hne:(aK ts k.1 k.2).length≠0:=by
  intro e;rw[e]at hd;simp[aR]at hd
 obtain⟨es,hes⟩:∃es,gm ts k.1 k.2=some es:=by
  cases e:gm ts k.1 k.2 with
  | none=>unfold aK at hne;rw[e]at hne;simp at hne
  | some es=>exact⟨es,rfl⟩
 have ero:aK ts k.1 k.2=es:=by unfold aK;rw[hes];rfl
 rw[ero]at hd;obtain⟨t,ht,r,hr,h1,h2,h3⟩:=Ad hes;have hr1:aU ts k.1 es=true:=by
  unfold j5 at h;rw[VN]at h;have:=h t ht;unfold qM at this;rw[VN]at this;have:=this r hr;rw[h1,h3]at this;exact this
 obtain⟨i,hi,hdi⟩:=ui hd;unfold kS at hdi;split at hdi
 ·cases hdi
 rename_i e he;obtain⟨ra,rn⟩:=CR hr1 e (WL he);rcases VL.1 hdi with hdi|hdi
 ·obtain⟨a,ha,hs,e1,e2⟩:=LU hdi;unfold qF at ra;rw[VN]at ra;have:=ra a ha;unfold pY at this;rw[hs,Bool.false_or,VF]at this;rw[e1,e2];exact wN (by simpa using this.2)
 unfold og at hdi;unfold nJ at rn;split at hdi
 ·rename_i h2;rw[if_pos h2]at rn;simp at hdi;subst hdi;exact wN (by simpa using rn)
 split at hdi
 ·obtain⟨g,hg,rfl⟩:=VQ.1 hdi;exact wN (TK hg)
 cases hdi
theorem oh{es:Q09}(h:aP es=true):1<=es.length/\es.length<=15:=by
 simp only[aP,VF,VM]at h;exact⟨h.1.1.1.1.1,h.1.1.1.1.2⟩
theorem LV{es:Q09}(h:aP es=true)(i:Nat)(hi:i<es.length):eB es.length es[i].kids:=by
 simp only[aP,VF,VM]at h;have h1:=h.1.1.2;unfold jc at h1;rw[VN]at h1;have h2:=h1 i (by simpa using hi);unfold kN lY at h2;rw[VO hi]at h2;simp only[Option.map_some,Wn,VN,VF,VM]at h2;intro x hx;have:=h2 x hx;omega
theorem bu{rs:Q06}(h:bQ (ag rs)=true):rs.length<=6/\(∀r∈rs,r.rows.length<=6)/\∀r∈rs,∀q∈r.rows,aP (aj q.rows)=true/\q.rows.length<=15/\∀e∈q.rows,eB q.rows.length e.e.kids:=by
 simp only[bQ,VF,VM]at h;rw[lm]at h;have hT:∀r∈rs,r.rows.length<=6/\dC (eu r.rows) r.rows.length=true:=by
  intro r hr;obtain⟨j,hj,rfl⟩:=Wm.1 hr;have h1:=uh h.2 j hj;unfold kX at h1;have e:(ag rs)[j]?=some rs[j].p:=by simp[ag,hj]
  rw[e]at h1;simp only[VF,VM]at h1;have e2:rs[j].p.rels.length=rs[j].rows.length:=by simp[TR.p,eu]
  rw[e2]at h1;exact⟨h1.1.2,h1.2⟩
 refine⟨h.1,fun r hr=>(hT r hr).1,fun r hr q hq=>?_⟩;obtain⟨j,hj,rfl⟩:=Wm.1 hq;have h1:=ug (hT r hr).2 j hj;unfold nA at h1;have e:(eu r.rows)[j]?=some r.rows[j].p:=by simp[eu,hj]
 rw[e]at h1;simp only[VF]at h1;have h2:aP (aj r.rows[j].rows)=true:=h1.2;have h3:=oh h2;rw[aZ]at h3;refine⟨h2,h3.2,fun e he=>?_⟩;obtain⟨i,hi,rfl⟩:=Wm.1 he;have:=LV h2 i (by rw[aZ];exact hi);have e1:(aj r.rows[j].rows)[i]'(by rw[aZ];exact hi)=r.rows[j].rows[i].e:=by simp[aj]
 rw[e1]at this;simpa[aj] using this
def assigns(n:Nat):List (ByteArray×ByteArray)->List (ByteArray×ByteArray->Int)
 | []=>[fun _=>0]
 | k::ks=>(assigns n ks).flatMap fun f=>(List.range n).map fun v=>fun y=>if y=k then ((v:Nat):Int) else f y
theorem xN{n:Nat}:∀{ks:List (ByteArray×ByteArray)} {f:Q00},f∈assigns n ks->∀k,0<=f k
 | [],f,h,k=>by simp only[assigns,VK]at h;rw[h];exact Int.le_refl _
 | x::ks,f,h,k=>by
  simp only[assigns,VZ,VQ]at h;obtain⟨g,hg,v,-,rfl⟩:=h;show 0<=(if k=x then ((v:Nat):Int) else g k);split
  ·omega
  exact xN hg k
theorem xO{n:Nat}(g:Q00):∀(ks:List (ByteArray×ByteArray)),(∀k∈ks,0<=g k/\g k<n)->∃f∈assigns n ks,∀k∈ks,f k=g k
 | [],_=>⟨fun _=>0,by simp[assigns],fun k hk=>by cases hk⟩
 | x::ks,h=>by
  obtain⟨f,hf,hfg⟩:=xO g ks fun k hk=>h k (Wv _ hk);obtain⟨h0,h1⟩:=h x (WB ..);refine⟨fun y=>if y=x then (((g x).toNat:Nat):Int) else f y,?_,fun k hk=>?_⟩
  ·simp only[assigns,VZ,VQ];exact⟨f,hf,(g x).toNat,List.mem_range.2 (by omega),rfl⟩
  show(if k=x then (((g x).toNat:Nat):Int) else f k)=g k;by_cases e:k=x
  ·rw[if_pos e,e];omega
  rw[if_neg e];rcases VU.1 hk with h2|h2
  ·exact absurd h2 e
  exact hfg k h2
def TL(ts:Q0b)(f:Q00):Bool:=(av ts).all fun k=>(il ts k).all fun d=>decide (f (d.typ,d.rel)+stepOf d<=f k)
theorem KM{ts:Q0b}{f:Q00}:TL ts f=true ↔ ∀k∈av ts,∀d∈il ts k,f (d.typ,d.rel)+stepOf d<=f k:=by
 unfold TL;simp only[VN,VM]
def Ae(ts:Q0b):List (ByteArray×ByteArray->Int):=(assigns (av ts).length (av ts)).filter (TL ts)
theorem LW{ts:Q0b}{f:Q00}(h:f∈Ae ts):Sol ts f:=by
 unfold Ae at h;rw[WE]at h;exact⟨xN h.1,KM.1 h.2⟩
theorem OM{ts:Q0b}{g:Q00}(hF:Found ts)(h:Sol ts g)(hb:∀k∈av ts,g k+1<=(av ts).length):∃f∈Ae ts,∀k∈av ts,f k=g k:=by
 obtain⟨f,hf,hfg⟩:=xO (n:=(av ts).length) g (av ts) fun k hk=>⟨h.pos k,by have:=hb k hk;omega⟩;refine⟨f,?_,hfg⟩;unfold Ae;rw[WE];refine⟨hf,KM.2 fun k hk d hd=>?_⟩;rw[hfg k hk,hfg _ (hF k hk d hd)];exact h.up k hk d hd
def ak(ts:Q0b):Bool:=bQ ts&&j5 ts && !(Ae ts).isEmpty
theorem bz{ts:Q0b}:ak ts=true↔bI ts:=by
 unfold ak bI;simp only[VF,Bool.not_eq_true'];constructor
 ·rintro⟨⟨h1,h2⟩,h3⟩;refine⟨h1,h2,?_⟩;cases e:Ae ts with
  | nil=>rw[e]at h3;cases h3
  | cons f fs=>exact⟨f,LW (by rw[e];exact WB ..)⟩
 rintro⟨h1,h2,f,hf⟩;refine⟨⟨h1,h2⟩,?_⟩;obtain⟨g,hg,hb⟩:=hf.few (mi h2);obtain⟨f2,hf2,-⟩:=OM (mi h2) hg hb;cases e:Ae ts with
 | nil=>rw[e]at hf2;cases hf2
 | cons f fs=>rfl
theorem xP{ts:Q0b}(h:bI ts):ak ts=true:=bz.2 h
theorem dK{ts:Q0b}(h:¬bI ts):ak ts=false:=by
 cases e:ak ts;case false=>rfl
 exact absurd (bz.1 e) h
open ChangeAt ChangeShapes RowKit WideShapes
def St.cells(s:St):List Value:=[.string s.typ,.string s.rel,.int .i64 s.n]
def iH:List St->List Value
 | []=>[]
 | s::xs=>s.cells++iH xs
theorem Eo(xs ys:List St):iH (xs++ys)=iH xs++iH ys:=by
 induction xs with
 | nil=>rfl
 | cons d ds ih=>simp[iH,ih]
theorem Af(xs:List St)(d:St):iH (xs++[d])=iH xs++d.cells:=by rw[Eo];simp[iH]
theorem lI(xs:List St)(i:Nat)(h:i<xs.length)(o:Nat)(ho:o<3):(iH xs)[i*3+o]?=(xs[i].cells)[o]?:=by
 induction xs generalizing i with
 | nil=>simp at h
 | cons s xs ih =>
  cases i with
  | zero =>
   simp only[iH,Nat.zero_mul,V4,List.getElem_cons_zero];rw[Wx (by simp[St.cells];omega)]
  | succ i =>
   simp only[iH,List.getElem_cons_succ];rw[Wu (by simp[St.cells];omega)];have e:(i+1)*3+o-s.cells.length=i*3+o:=by simp[St.cells];omega
   rw[e];exact ih i (by simpa using h)
theorem wO(xs:List Dp)(i:Nat)(h:i<xs.length)(o:Nat)(ho:o<3):(dX xs)[i*3+o]?=(xs[i].cells)[o]?:=by
 induction xs generalizing i with
 | nil=>simp at h
 | cons s xs ih =>
  cases i with
  | zero =>
   simp only[dX,Nat.zero_mul,V4,List.getElem_cons_zero];rw[Wx (by simp[Dp.cells];omega)]
  | succ i =>
   simp only[dX,List.getElem_cons_succ];rw[Wu (by simp[Dp.cells];omega)];have e:(i+1)*3+o-s.cells.length=i*3+o:=by simp[Dp.cells];omega
   rw[e];exact ih i (by simpa using h)
theorem F8(g j:Nat):(⟨g,0,none⟩:Addr).add j=⟨g,j,none⟩:=by
 unfold Addr.add;by_cases hj:j=0
 ·subst hj;simp
 simp[hj]
theorem Rk{w:ae}{base:Nat}{t:TypeId}{v:Value}{n:Nat}{xs:Q03}(h:w.ownsRow base t 3 v n xs):∃ad cp,v=.slice ad n cp/\(n=0 \/ ∃g,ad=some ⟨g,0,none⟩/\base<=g/\g<w.heap.size/\∀(j:Nat) (u:Value),xs[j]?=some u->w.cell? ⟨g,j,none⟩=some u):=by
 have h2:=h;rcases h.2 with⟨rfl,h0⟩|⟨g,cp,cur,rfl,hbg,hg,hnc,-⟩
 ·exact⟨none,0,by rw[h0],.inl h0⟩
 have hlt:=h2.lt g rfl;refine⟨_,cp,rfl,.inr ⟨g,rfl,hlt.1,hlt.2,fun j u hu=>?_⟩⟩;have:=h2.cells (g:=g) rfl j u hu;rwa [F8]at this
def AtD(w:World)(b off:Nat)(d:Dp):Prop:=w.cell? ⟨b,off,none⟩=some (.string d.typ)/\w.cell? ⟨b,off+1,none⟩=some (.string d.rel)/\w.cell? ⟨b,off+2,none⟩=some (.bool d.neg)
def SQ(w:World)(lo:Nat)(ad:Q02)(xs:List Dp):Prop:=xs=[] \/ ∃b,ad=some ⟨b,0,none⟩/\lo<=b/\b<w.heap.size/\∀(i:Nat) (h:i<xs.length),AtD w b (i*3) xs[i]
theorem UX{w:ae}{base:Nat}{v:Value}{xs:List Dp}(h:w.ownsRow base 266 3 v xs.length (dX xs)):∃ad cp,v=.slice ad xs.length cp/\SQ w base ad xs:=by
 obtain⟨ad,cp,e,h0⟩:=Rk h;refine⟨ad,cp,e,?_⟩;rcases h0 with h0|⟨g,e1,hb,hg,hc⟩
 ·exact .inl (VS.1 h0)
 refine .inr ⟨g,e1,hb,hg,fun i hi=>⟨?_,?_,?_⟩⟩
 ·exact hc _ _ (by have:=wO xs i hi 0 (by omega);simpa[Dp.cells] using this)
 ·exact hc _ _ (by have:=wO xs i hi 1 (by omega);simpa[Dp.cells] using this)
 exact hc _ _ (by have:=wO xs i hi 2 (by omega);simpa[Dp.cells] using this)
def Vm(w:World)(g:Nat)(xs:List St):Prop:=∀(i:Nat) (h:i<xs.length),UD w g (i*3) xs[i]
theorem UY{w:ae}{base:Nat}{v:Value}{xs:List St}(h:w.ownsRow base 200 3 v xs.length (iH xs)):∃ad cp,v=.slice ad xs.length cp/\(xs.length=0 \/ ∃g,ad=some ⟨g,0,none⟩/\base<=g/\g<w.heap.size/\Vm w g xs):=by
 obtain⟨ad,cp,e,h0⟩:=Rk h;refine⟨ad,cp,e,?_⟩;rcases h0 with h0|⟨g,e1,hb,hg,hc⟩
 ·exact .inl h0
 refine .inr ⟨g,e1,hb,hg,fun i hi=>⟨?_,?_,?_⟩⟩
 ·exact hc _ _ (by have:=lI xs i hi 0 (by omega);simpa[St.cells] using this)
 ·exact hc _ _ (by have:=lI xs i hi 1 (by omega);simpa[St.cells] using this)
 exact hc _ _ (by have:=lI xs i hi 2 (by omega);simpa[St.cells] using this)
theorem Rm:(prog.info? 200).map (fun i=>(i.zero,i.size,i.bytes))=some (some (.agg #[.string ⟨#[]⟩,.string ⟨#[]⟩,.int .i64 0]),3,40):=by kernel_rfl
def F9(ks:List (ByteArray×ByteArray)):List St:=ks.map fun k=>⟨k.1,k.2,0⟩
theorem Ep(ks:List (ByteArray×ByteArray)):(F9 ks).length=ks.length:=by simp[F9]
theorem OO(ks:List (ByteArray×ByteArray))(k:Q01):F9 (ks++[k])=F9 ks++[⟨k.1,k.2,0⟩]:=by simp[F9]
def dm(rs:Q06)(k:Nat):List (ByteArray×ByteArray):=av (ag (rs.take k))
def iW(t:TR)(j:Nat):List (ByteArray×ByteArray):=(t.rows.take j).map fun q=>(t.name,q.name)
theorem pu(rs:Q06)(k:Nat)(h:k<rs.length):dm rs (k+1)=dm rs k++iW rs[k] rs[k].rows.length:=by
 unfold dm iW;rw[VE h,VP];unfold ag av;rw[WA,Ws,List.map_singleton,List.flatMap_singleton];congr 1;simp[kE,TR.p,eu,RR.p]
theorem uj(t:TR)(j:Nat)(h:j<t.rows.length):iW t (j+1)=iW t j++[(t.name,t.rows[j].name)]:=by
 unfold iW;rw[VE h,WA];rfl
theorem CS(t:TR)(j:Nat):(iW t j).length<=t.rows.length:=by unfold iW;simp;omega
theorem wP(rs:Q06)(hr:∀r∈rs,r.rows.length<=6)(k:Nat):(dm rs k).length<=k*6:=by
 induction k with
 | zero=>simp[dm,ag,av]
 | succ k ih =>
  by_cases h:k<rs.length
  ·rw[pu _ _ h,VI];have h1:=CS rs[k] rs[k].rows.length;have h2:=hr rs[k] (Vz h);omega
  have e:rs.take (k+1)=rs.take k:=by rw[Wl (by omega),Wl (by omega)]
  unfold dm at ih⊢;rw[e];omega
theorem Ag(d:Dp):0<=stepOf d/\stepOf d<=1:=by unfold stepOf;split<;>omega
structure Mid(ts:Q0b)(n:Nat)(oS:List St)(k j:Nat)(mb:Bool)(out:List St):Prop where
 len:out.length=n
 nn:n=(av ts).length
 round:Round ts out
 le:∀i (h:i<out.length),i≠k->out[i].n<=n
 lek:∀h:k<out.length,out[k].n<=n+1+j
 same:mb=false->out=oS/\(∀i (h:i<out.length),i<k->Rj ts out out[i] (il ts out[i].key).length)/\∀h:k<out.length,Rj ts out out[k] j
 grow:mV oS<=mV out/\(mb=true->mV oS<mV out)
theorem Mid.start{ts:Q0b}{n:Nat}{out:List St}(hl:out.length=n)(hn:n=(av ts).length)(hr:Round ts out)(hle:∀s∈out,s.n<=n):Mid ts n out 0 0 false out where
 len:=hl
 nn:=hn
 round:=hr
 le i h _:=hle _ (Vz h)
 lek h:=by have:=hle _ (Vz h);omega
 same _:=⟨rfl,fun i _ hi=>by omega,fun _ d hd=>by simp at hd⟩
 grow:=⟨Int.le_refl _,by simp⟩
theorem Mid.key{ts:Q0b}{n k j:Nat}{oS out:List St}{mb:Bool}(h:Mid ts n oS k j mb out)(hk:k<out.length)(hk2:k<(av ts).length):out[k].key=(av ts)[k]:=by
 have e:=h.round.keys;have:(iG out)[k]'(by simp[iG,hk])=(av ts)[k]:=by simp only[e]
 rw[<-this];simp[iG]
def pz(out:List St)(d:Dp):Int:=fP out (d.typ,d.rel)+stepOf d
theorem Mid.at{ts:Q0b}{n k j:Nat}{oS out:List St}{mb:Bool}(h:Mid ts n oS k j mb out)(key:Q01)(hk:key∈av ts):∃i:Nat,∃hi:i<out.length,gQ key.1 key.2 out 0=(i:Int)/\out[i].n=fP out key/\0<=fP out key/\fP out key<=n+1+j:=by
 obtain⟨i,hi,h1,h2,h3⟩:=pq out 0 (k:=key) (by rw[h.round.keys];exact hk);refine⟨i,hi,by rw[h1];congr 1;omega,h3,?_,?_⟩
 ·exact(h.round.at hk).1
 rw[<-h3];by_cases e:i=k
 ·subst e;exact h.lek hi
 have:=h.le i hi e;omega
theorem Mid.no{ts:Q0b}{n k j:Nat}{oS out:List St}{mb:Bool}(h:Mid ts n oS k j mb out)(hk:k<out.length)(d:Dp)(hd:(il ts out[k].key)[j]?=some d)(hw:pz out d<=out[k].n):Mid ts n oS k (j+1) mb out where
 len:=h.len
 nn:=h.nn
 round:=h.round
 le:=h.le
 lek hh:=by have:=h.lek hh;omega
 same hm:=by
  obtain⟨e,s1,s2⟩:=h.same hm;refine⟨e,s1,fun hh d' hd'=>?_⟩;obtain⟨hj,hd2⟩:=List.getElem?_eq_some_iff.1 hd;rw[VE hj]at hd';rcases VL.1 hd' with hd'|hd'
  ·exact s2 hh d' hd'
  rw[hd2]at hd';simp at hd';subst hd';exact hw
 grow:=h.grow
theorem Mid.yes{ts:Q0b}{n k j:Nat}{oS out:List St}{mb:Bool}(h:Mid ts n oS k j mb out)(hF:Found ts)(hk:k<out.length)(d:Dp)(hd:(il ts out[k].key)[j]?=some d)(hw:out[k].n<pz out d):Mid ts n oS k (j+1) true (out.set k ⟨out[k].typ,out[k].rel,pz out d⟩) where
 len:=by rw[List.length_set];exact h.len
 nn:=h.nn
 round:=h.round.set hF hk (WL hd)
 le i hi hne:=by
  rw[List.getElem_set_ne (Ne.symm hne)];exact h.le i (by simpa using hi) hne
 lek hh:=by
  rw[List.getElem_set_self];show pz out d<=_;obtain⟨i,hi,-,-,-,h4⟩:=h.at (d.typ,d.rel) (hF _ (h.round.mem (Vz hk)) d (WL hd));have:=Ag d;unfold pz;push_cast;omega
 same hm:=by cases hm
 grow:=by
  have:=h.grow.1;rw[OL _ _ hk];exact⟨by omega,fun _=>by omega⟩
theorem Mid.next{ts:Q0b}{n k j:Nat}{oS out:List St}{mb:Bool}(h:Mid ts n oS k j mb out)(hk:k<out.length)(hj:j=(il ts out[k].key).length)(hle:out[k].n<=n):Mid ts n oS (k+1) 0 mb out where
 len:=h.len
 nn:=h.nn
 round:=h.round
 le i hi _:=by
  by_cases e:i=k
  ·subst e;exact hle
  exact h.le i hi e
 lek hh:=by have:=h.le (k+1) hh (by omega);omega
 same hm:=by
  obtain⟨e,s1,s2⟩:=h.same hm;refine⟨e,fun i hi hik=>?_,fun _ d hd=>by simp at hd⟩;by_cases e2:i=k
  ·subst e2;have:=s2 hi;rw[hj]at this;exact this
  exact s1 i hi (by omega)
 grow:=h.grow
theorem Mid.over{ts:Q0b}{n k j:Nat}{oS out:List St}{mb:Bool}(h:Mid ts n oS k j mb out)(hF:Found ts)(hk:k<out.length)(hn:(n:Int)<out[k].n):¬ ∃f,Sol ts f :=
 OI hF (h.round.mem (Vz hk)) (h.round.low _ (Vz hk)) (by have:=h.nn;omega)
structure Pass(ts:Q0b)(n:Nat)(mb:Bool)(out:List St):Prop where
 len:out.length=n
 nn:n=(av ts).length
 round:Round ts out
 le:∀s∈out,s.n<=n
 sat:mb=false->∀s∈out,Rj ts out s (il ts s.key).length
theorem Mid.done{ts:Q0b}{n k j:Nat}{oS out:List St}{mb:Bool}(h:Mid ts n oS k j mb out)(hk:k=n):Pass ts n mb out where
 len:=h.len
 nn:=h.nn
 round:=h.round
 le s hs:=by
  obtain⟨i,hi,rfl⟩:=Wm.1 hs;exact h.le i hi (by have:=h.len;omega)
 sat hm s hs:=by
  obtain⟨e,s1,s2⟩:=h.same hm;obtain⟨i,hi,rfl⟩:=Wm.1 hs;exact s1 i hi (by have:=h.len;omega)
theorem Pass.least{ts:Q0b}{n:Nat}{out:List St}(h:Pass ts n false out):Least ts (fP out):=h.round.done (h.sat rfl)
theorem Pass.zero{ts:Q0b}{n:Nat}(hn:n=(av ts).length):Pass ts n true (F9 (av ts)) where
 len:=by rw[Ep,hn]
 nn:=hn
 round:=⟨by unfold iG F9;rw[List.map_map];exact List.map_id _,fun s hs=>by simp[F9]at hs;obtain⟨a,b,-,rfl⟩:=hs;exact Int.le_refl _,fun s hs=>by simp[F9]at hs;obtain⟨a,b,-,rfl⟩:=hs;exact qK.zero _ _⟩
 le s hs:=by simp[F9]at hs;obtain⟨a,b,-,rfl⟩:=hs;simp
 sat h:=by cases h
theorem Rn(n:Int)(out:List St)(h:∀s∈out,s.n<=n):mV out<=n*out.length:=by
 induction out with
 | nil=>simp[mV]
 | cons s xs ih =>
  have h1:=h s (by simp);have h2:=ih fun q hq=>h q (by simp[hq]);simp only[mV,We];have:n*((xs.length+1:Nat):Int)=n*xs.length+n:=by push_cast;rw[Int.mul_add];simp
  omega
structure RowS(w wr:World)(ad:Q02)(g:Nat)(out:List St):Prop where
 below:af w wr
 at':out=[]\/(ad=some ⟨g,0,none⟩/\w.heap.size<=g/\g<wr.heap.size/\Vm wr g out/\∀j,wr.frozen? ⟨g,j,none⟩=false)
theorem UD.kept{w w':ae}{b off:Nat}{s:St}(h:UD w b off s)(hb:b<w.heap.size)(hB:af w w'):UD w' b off s:=⟨aI hB hb h.1,aI hB hb h.2.1,aI hB hb h.2.2⟩
theorem RowS.kept{w wr w2:ae}{ad:Q02}{g:Nat}{out:List St}(h:RowS w wr ad g out)(hb:af wr w2):RowS w w2 ad g out where
 below:=h.below.trans (hb.mono h.below.size)
 at':=by
  rcases h.at' with e|⟨e,h1,h2,h3,h4⟩
  ·exact .inl e
  exact .inr ⟨e,h1,Vy h2 hb.size,fun i hi=>(h3 i hi).kept h2 hb,fun j=>by rw[hb.frozen (p:=⟨g,j,none⟩) h2];exact h4 j⟩
theorem RowS.slN{w wr:ae}{ad:Q02}{g:Nat}{out:List St}(h:RowS w wr ad g out):IU wr ad out:=by
 rcases h.at' with e|⟨e,h1,h2,h3,h4⟩
 ·exact .inl e
 exact .inr ⟨g,0,e,h2,fun i hi=>by rw[V4];exact h3 i hi⟩
theorem RowS.set{w wr:ae}{ad:Q02}{g:Nat}{out:List St}(h:RowS w wr ad g out){k:Nat}(hk:k<out.length)(n:Int):RowS w (wr.setCell ⟨g,k*3+2,none⟩ (.int .i64 n)) ad g (out.set k ⟨out[k].typ,out[k].rel,n⟩):=by
 rcases h.at' with e|⟨e,h1,h2,h3,h4⟩
 ·rw[e]at hk;simp at hk
 refine⟨h.below.setCell (p:=⟨g,k*3+2,none⟩) h1 _,.inr ⟨e,h1,by simpa using h2,fun i hi=>?_,fun j=>by simpa using h4 j⟩⟩;have hi':i<out.length:=by simpa using hi
 obtain⟨c0,c1,c2⟩:=h3 i hi';by_cases ei:i=k
 ·subst ei;rw[List.getElem_set_self];exact⟨by rw[qi (by omega)];exact c0,by rw[qi (by omega)];exact c1,zk c2⟩
 rw[List.getElem_set_ne (Ne.symm ei)];exact⟨by rw[qi (by omega)];exact c0,by rw[qi (by omega)];exact c1,by rw[qi (by omega)];exact c2⟩
def OP(w:World)(g i:Nat):Int:=match w.cell? ⟨g,i*3+2,none⟩ with|some (.int _ x)=>x|_=>0
def I6(w:World)(g:Nat):Nat->Int
 | 0=>0
 | n+1=>I6 w g n+OP w g n
theorem Ga(xs ys:List St):mV (xs++ys)=mV xs+mV ys:=by
 induction xs with
 | nil=>simp[mV]
 | cons s xs ih=>simp only[Wp,mV,ih];omega
theorem Vm.sum{w:ae}{g:Nat}{out:List St}(h:Vm w g out):∀k,k<=out.length->I6 w g k=mV (out.take k)
 | 0,_=>by simp[I6,mV]
 | k+1,hk=>by
  have hlt:k<out.length:=by omega
  rw[VE hlt,Ga];simp only[I6,h.sum k (by omega),mV];have:OP w g k=out[k].n:=by unfold OP;rw[(h k hlt).2.2]
  omega
theorem RowS.sum{w wr:ae}{ad:Q02}{g:Nat}{out:List St}(h:RowS w wr ad g out):I6 wr g out.length=mV out:=by
 rcases h.at' with e|⟨e,h1,h2,h3,h4⟩
 ·rw[e];simp[I6,mV]
 rw[h3.sum _ (VC _),VP]
def OQ:Value->Int
 | .bool true=>1
 | _=>0
def CU(w:World)(g n:Nat)(m:Value):Nat:=(2*((n:Int)*n-I6 w g n)+OQ m).toNat
theorem I7{ts:Q0b}{w wr w2:ae}{ad:Q02}{g n:Nat}{oS out:List St}{mb:Bool}(hS:RowS w wr ad g oS)(hO:RowS w w2 ad g out)(h:Mid ts n oS n 0 mb out)(hl:oS.length=n):CU w2 g n (.bool mb)<CU wr g n (.bool true):=by
 have e1:=hS.sum;have e2:=hO.sum;have h3:=Rn n out fun s hs=>(h.done rfl).le s hs;have h2:=h.len;have h4:=h.grow;rw[hl]at e1;rw[h2]at e2 h3;unfold CU;rw[e1,e2];cases mb;case false=>simp only[OQ];omega
 have:=h4.2 rfl;simp only[OQ];omega
theorem Ro{w wr:ae}{v:Value}{out:List St}(hB:af w wr)(h:wr.ownsRow w.heap.size 200 3 v out.length (iH out)):∃ad cp g,v=.slice ad out.length cp/\RowS w wr ad g out:=by
 rcases h.2 with⟨rfl,h0⟩|⟨g,cp,cur,rfl,hbg,hg,hnc,-⟩
 ·exact⟨none,0,0,by rw[h0],hB,.inl (VS.1 h0)⟩
 obtain⟨ad,cp',e,h0⟩:=UY h;injection e with e1 e2 e3;refine⟨some ⟨g,0,none⟩,cp,g,rfl,hB,?_⟩;rcases h0 with h0|⟨g',e4,h1,h2,h3⟩
 ·exact .inl (VS.1 h0)
 rw[<-e1]at e4;injection e4 with e4;injection e4 with e4;subst e4;exact .inr ⟨rfl,h1,h2,h3,fun j=>by simp[World.frozen?,hg]⟩
theorem TM(ad:Q02)(cap n:Nat)(xs:List St)(key:Q01)(w:ae)(hn:xs.length=n)(hlen:n<=1048576)(hs:IU w ad xs)(i:Nat)(hat:gQ key.1 key.2 xs 0=(i:Int)):
  Calls prog 169 #[.slice ad n cap,.string key.1,.string key.2] w fun e w'=>e=.returned (.int .i64 (i:Int))/\w'=w:=by
 subst hn;rw[<-hat];exact OA ad cap xs key.1 key.2 w hlen hs
theorem AtD.set{w:ae}{b off g o:Nat}{d:Dp}{v:Value}(h:AtD w b off d)(hn:g≠b):AtD (w.setCell ⟨g,o,none⟩ v) b off d:=⟨by rw[xG hn];exact h.1,by rw[xG hn];exact h.2.1,by rw[xG hn];exact h.2.2⟩
theorem SQ.set{w:ae}{lo g o:Nat}{ad:Q02}{xs:List Dp}{v:Value}(h:SQ w lo ad xs)(hg:g<lo):SQ (w.setCell ⟨g,o,none⟩ v) lo ad xs:=by
 rcases h with h|⟨b,e,h1,h2,h3⟩
 ·exact .inl h
 exact .inr ⟨b,e,h1,by simpa using h2,fun i hi=>(h3 i hi).set (by omega)⟩
theorem keepD{wr W w':ae}{g o1 o2:Nat}{x y:Value}(h:W.cell? ⟨g,o1,none⟩=some x/\W.cell? ⟨g,o2,none⟩=some y/\g<W.heap.size/\af wr W)(hb:af W w'):
  w'.cell? ⟨g,o1,none⟩=some x/\w'.cell? ⟨g,o2,none⟩=some y/\g<w'.heap.size/\af wr w' :=
 ⟨aI hb h.2.2.1 h.1,aI hb h.2.2.1 h.2.1,Vy h.2.2.1 hb.size,h.2.2.2.trans (hb.mono h.2.2.2.size)⟩
theorem pX.small{rs:Q06}{ad:Q02}{rows:Q08}(h:pX rs ad rows)(hl:∀r∈rs,∀q∈r.rows,q.rows.length<=15/\∀e∈q.rows,eB q.rows.length e.e.kids):rows.length<=15/\∀e∈rows,eB rows.length e.e.kids:=by
 rcases h with rfl|⟨t,ht,q,hq,rfl,-⟩
 ·exact⟨by simp,by simp⟩
 exact hl t ht q hq
theorem Ah(ts:Q0b)(ty over rel:bW):(ig ts ty over rel).length<=(aV (aK ts ty over)).length:=IP _ _ _
theorem I8(ts:Q0b)(typ:bW)(es:Q09)(A G:Nat)(hA:∀e∈es,e.allow.length<=A)(hG:∀over rel,(ig ts typ over rel).length<=G)(k:Nat):(aR ts typ es k).length<=k*(A+G+1):=by
 induction k with
 | zero=>simp[aR]
 | succ k ih =>
  simp only[aR,VI];have:(kS ts typ es k).length<=A+G+1:=by
   unfold kS;split
   ·simp
   rename_i e he;have h1:=hA e (WL he);have h2:=CK ((fC es).getD k false) e.allow;have h3:(og ts typ ((fC es).getD k false) e).length<=G+1:=by
    unfold og;split
    ·simp
    split
    ·have:=hG e.over e.name;simp;omega
    simp
   rw[VI];omega
  have e:(k+1)*(A+G+1)=k*(A+G+1)+(A+G+1):=Nat.succ_mul _ _;omega
theorem BQ(ts:Q0b)(typ:bW)(es:Q09)(k:Nat)(h:es.length<=k):kS ts typ es k=[]:=by
 unfold kS;rw[List.getElem?_eq_none h]
theorem I9(ts:Q0b)(typ:bW)(es:Q09)(B:Nat)(hB:∀k,k<=es.length->(aR ts typ es k).length<=B)(k:Nat):(aR ts typ es k).length<=B:=by
 induction k with
 | zero=>exact hB 0 (VG _)
 | succ k ih =>
  by_cases h:k+1<=es.length
  ·exact hB _ h
  simp only[aR];rw[BQ _ _ _ _ (by omega),Ww];exact ih
theorem Gb(rs:Q07)(n:bW)(es:Q09)(h:jM (eu rs) n=some es):∃q∈rs,es=aj q.rows:=by
 induction rs with
 | nil=>simp[eu,jM]at h
 | cons r rs ih =>
  simp only[eu,WO,jM]at h;split at h
  ·injection h with h;exact⟨r,by simp,h.symm⟩
  obtain⟨q,hq,e⟩:=ih h;exact⟨q,by simp[hq],e⟩
theorem Ja(ts:Q06)(ty n:bW)(es:Q09)(h:gm (ag ts) ty n=some es):∃t∈ts,∃q∈t.rows,es=aj q.rows:=by
 induction ts with
 | nil=>simp[ag,gm]at h
 | cons t ts ih =>
  simp only[ag,WO,gm]at h;split at h
  ·rcases Option.or_eq_some_iff.1 h with h|⟨-,h⟩
   ·obtain⟨q,hq,e⟩:=Gb _ _ _ h;exact⟨t,by simp,q,hq,e⟩
   obtain⟨t',ht,q,hq,e⟩:=ih h;exact⟨t',by simp[ht],q,hq,e⟩
  obtain⟨t',ht,q,hq,e⟩:=ih h;exact⟨t',by simp[ht],q,hq,e⟩
theorem xQ(rs:Q06)(hl:∀r∈rs,r.light)(typ over rel:bW):(ig (ag rs) typ over rel).length<=1048576:=by
 refine VJ (Ah _ _ _ _) ?_;unfold aK;cases h:gm (ag rs) typ over with
 | none=>simp[aV]
 | some es =>
  obtain⟨t,ht,q,hq,rfl⟩:=Ja _ _ _ _ h;exact zR q.rows ((hl t ht).2 q hq).2
theorem Ai(rs:Q06)(hl:∀r∈rs,r.light)(typ:bW)(rows:Q08)(hle:rows.length<=15)(hlE:∀q∈rows,q.e.light)(k:Nat):(aR (ag rs) typ (aj rows) k).length<=100000000:=by
 refine I9 _ _ _ _ (fun k hk=>?_) k;refine VJ (I8 _ _ _ 1048576 1048576 (fun e he=>?_) (xQ rs hl typ) k) ?_
 ·obtain⟨q,hq,rfl⟩:=VQ.1 he;exact(hlE q hq).1
 rw[aZ]at hk;omega
structure Filling(w wr:World)(g:Nat)(ts:Q05)(k:Nat):Prop where
 below:af w wr
 ge:w.heap.size<=g
 lt:g<wr.heap.size
 done:∀(i:Nat) (h:i<ts.length),i<k->SK wr g (0+i*6) ts[i]
 there:∀j,j<ts.length*6->(wr.cell? ⟨g,j,none⟩).isSome=true
 free:∀j,wr.frozen? ⟨g,j,none⟩=false
theorem Filling.later{w wr w1:ae}{g:Nat}{ts:Q05}{k:Nat}(h:Filling w wr g ts k)(hb:af wr w1):Filling w w1 g ts k where
 below:=h.below.trans (hb.mono h.below.size)
 ge:=h.ge
 lt:=Vy h.lt hb.size
 done i hi hk:=(h.done i hi hk).same fun o=>hb.cell (p:=⟨g,o,none⟩) h.lt
 there j hj:=by rw[hb.cell (p:=⟨g,j,none⟩) h.lt];exact h.there j hj
 free j:=by rw[hb.frozen (p:=⟨g,j,none⟩) h.lt];exact h.free j
theorem Filling.put{w wr:ae}{g:Nat}{ts:Q05}{k:Nat}(h:Filling w wr g ts k)(hk:k<ts.length):Filling w (zZ wr g (k*6) ts[k]) g ts (k+1) where
 below:=IX h.below h.ge
 ge:=h.ge
 lt:=by rw[LG];exact h.lt
 done i hi hik:=by
  by_cases e:i=k
  ·subst e;rw[V4];exact KI _ (fun j hj=>h.there _ (by omega))
  obtain⟨a0,a1,a2,a3,a4,a5⟩:=h.done i hi (by omega);refine⟨?_,?_,?_,?_,?_,?_⟩<;>(rw[F5 _ _ _ _ _ (by omega)];assumption)
 there j hj:=by
  by_cases hin:j<k*6\/k*6+6<=j
  ·rw[F5 _ _ _ _ _ hin];exact h.there j hj
  obtain⟨a0,a1,a2,a3,a4,a5⟩:=KI (w:=wr) (g:=g) (o:=k*6) ts[k] (fun j hj=>h.there _ (by omega));have hj6:j=k*6\/j=k*6+1\/j=k*6+2\/j=k*6+3\/j=k*6+4\/j=k*6+5:=by omega
  rcases hj6 with e|e|e|e|e|e
  ·rw[e,a0];rfl
  ·rw[e,a1];rfl
  ·rw[e,a2];rfl
  ·rw[e,a3];rfl
  ·rw[e,a4];rfl
  rw[e,a5];rfl
 free j:=by rw[F6];exact h.free j
theorem Filling.row{w w':ae}{g:Nat}{ts:Q05}(h:Filling w w' g ts ts.length):dE w' g 0 ts:=fun i hi=>h.done i hi hi
theorem Filling.sl{w w':ae}{g:Nat}{ts:Q05}(h:Filling w w' g ts ts.length):Sl w' (some ⟨g,0,none⟩) ts:=.inr ⟨g,0,rfl,h.lt,h.row⟩
end Go.Proofs.YtcgdckphpjfmhaaGreatDoor
namespace Go.Proofs.YtcgdckphpjfmhaaGreatDoor
open Go.Sort
open ChangeShapes WideShapes ChangeAt RowKit
open Pl
attribute [local go_sem ↓] Go.wp_at_zero Go.wp_at_succ
def Tp.ok(t:Tp):Bool:=bF t.a t.b t.r t.c t.d t.s
def Tp.ahead(t u:Tp):Bool:=ik t.a t.b t.r t.c t.d t.s u.a u.b u.r u.c u.d u.s
def yE(ts:Q05)(i:Nat):Bool:=match ts[i]? with
 | none=>true
 | some t=>t.ok&&(match i with
  | 0=>true
  | j+1=>match ts[j]? with
   | none=>true
   | some u=>u.ahead t)
def uZ(ts:Q05)(k:Nat):Bool:=(List.range k).all (yE ts)
def dZ(ts:Q05):Bool:=decide (ts.length<=40)&&uZ ts ts.length
theorem rT(ts:Q05)(k:Nat):uZ ts (k+1)=(uZ ts k&&yE ts k):=by simp[uZ,List.range_succ]
theorem ve{ts:Q05}{k:Nat}(hk:k<ts.length)(h:yE ts k=false):dZ ts=false:=by
 have:uZ ts ts.length=false:=by
  unfold uZ;rw[List.all_eq_false];exact⟨k,by simpa using hk,by simp[h]⟩
 simp[dZ,this]
theorem rU{ts:Q05}(h:0<ts.length):yE ts 0=ts[0].ok:=by simp[yE,VO h]
theorem ol{ts:Q05}{j:Nat}(h:j+1<ts.length):yE ts (j+1)=(ts[j+1].ok&&ts[j].ahead ts[j+1]):=by
 have h':j<ts.length:=by omega
 simp[yE,VO h,VO h']
theorem KN{ts:Q05}{k:Nat}(h:k<ts.length)(hn:ts[k].ok=false):yE ts k=false:=by
 simp[yE,VO h,hn]
theorem wQ(b off cap:Nat)(ts:Q05)(w:ae)(hlen:ts.length<=maxLen)(hr:dE w b off ts)(hb:b<w.heap.size)(hf:∀t∈ts,t.fits):
    Calls prog 109 #[.slice (some ⟨b,off,none⟩) ts.length cap] w fun e w'=>e=.returned (.bool (dZ ts))/\af w w':=by
  unfold maxLen at hlen;by_cases hbig:40<ts.length
  · have HT:Hid (dZ ts=false):=by show _=_;simp[dZ];omega
    go_enter func109,ntmps109;go_wp2;go_ret;exact⟨ah HT.out.symm,VD _ _⟩
  · go_enter func109,ntmps109;go_wp2;go_loopw[3] (fun i wr=>∃k:Nat,k<=ts.length/\i=.int .i64 k/\Hid (uZ ts k=true)/\af w wr) (fun i _=>ts.length-(intOf i).toNat);case atStart=>exact⟨0,VG _,rfl,rfl,VD _ _⟩
    obtain⟨k,hk,rfl,hu,hB⟩:=hrel;by_cases hlt:k<ts.length
    · have ZK:=qp (hr.below hB hb);have Xd:=qp hf;obtain⟨t0,t1,t2,t3,t4,t5⟩:=ZK.out k hlt;have hk1:=bq k;have hk2:(k:Int)<(ts.length:Int):=by omega
      clear hr hf;have c0:=cell_regrown t0;have c1:=cell_regrown t1;have c2:=cell_regrown t2;have c3:=cell_regrown t3;have c4:=cell_regrown t4;have c5:=cell_regrown t5;have XI:Hid (∀d os,af w (grow (redrawn wr d) os)):=fun d os=>hB.trans ((below_regrown wr d os).mono hB.size);clear t0 t1 t2 t3 t4 t5;go_wp2_with fail;have YU:Hid (∀d os,Calls prog 111 #[.agg #[.string ts[k].a,.string ts[k].b,.string ts[k].r,.string ts[k].c,.string ts[k].d,.string ts[k].s]] (grow (redrawn wr d) os) fun e w''=>e=.returned (.bool ts[k].ok)/\∃p:Regrown,w''=grow (redrawn wr p.d) p.os):=by
        obtain⟨f0,f1,f2,f3,f4,f5⟩:=Xd.out ts[k] (Vz hlt);exact cu fun W' _=>dU _ _ _ _ _ _ _ f0 f1 f2 f3 f4 f5
      cases hok:ts[k].ok;case false=>
        have HT:Hid (dZ ts=false):=ve hlt (KN hlt hok);rw[hok]at YU;clear hok;refine wp_region_quiet_below (by kernel_rfl) (by kernel_rfl) ?_
        repeat(go_big_quiet_step (exact YU.out _ _))
        refine wpQuiet_nil ?_;rintro _ ⟨⟨dq,osq⟩,rfl⟩;go_wp2;go_ret;exact⟨ah HT.out.symm,XI.out dq osq⟩
      rw[hok]at YU;by_cases hz:k=0
      · have HU:Hid (uZ ts (k+1)=true):=by show _=_;rw[rT,hu.out];subst hz;rw[rU hlt,hok];rfl
        have hk8:decide ((0:Int)<(k:Int))=false:=by simp;omega
        have hk9:decide (0<k)=false:=by simp;omega
        clear hok hz;refine wp_region_quiet_below (by kernel_rfl) (by kernel_rfl) ?_
        repeat(go_big_quiet_step (exact YU.out _ _))
        refine wpQuiet_nil ?_;rintro _ ⟨⟨dq,osq⟩,rfl⟩;go_wp2;go_roundw;case rel=>exact⟨k+1,by omega,by go_num,HU,XI.out dq osq⟩
        simp[intOf];omega
      · obtain⟨m,hm⟩:∃m:Nat,k=m+1:=⟨k-1,by omega⟩;have Xu:m<ts.length:=by omega
        obtain⟨q0,q1,q2,q3,q4,q5⟩:=ZK.out m Xu;replace q0:=cell_regrown q0;replace q1:=cell_regrown q1;replace q2:=cell_regrown q2;replace q3:=cell_regrown q3;replace q4:=cell_regrown q4;replace q5:=cell_regrown q5;have hkm:(k:Int)-1=(m:Int):=by omega
        have hm1:=bq m;have hm2:(m:Int)<(ts.length:Int):=by omega
        have hpos:(0:Int)<(k:Int):=by omega
        have hposN:0<k:=by omega
        have hwm:IntKind.i64.wrap (m:Int)=(m:Int):=by rw[IntKind.wrap_i64];omega
        have HA:Hid (yE ts k=ts[m].ahead ts[k]):=by show _=_;subst hm;rw[ol hlt,hok];rfl
        have Zy:Hid (∀d os,Calls prog 164 #[.agg #[.string ts[m].a,.string ts[m].b,.string ts[m].r,.string ts[m].c,.string ts[m].d,.string ts[m].s],.agg #[.string ts[k].a,.string ts[k].b,.string ts[k].r,.string ts[k].c,.string ts[k].d,.string ts[k].s]] (grow (redrawn wr d) os) fun e w''=>e=.returned (.bool (ts[m].ahead ts[k]))/\∃p:Regrown,w''=grow (redrawn wr p.d) p.os):=by
          obtain⟨f0,f1,f2,f3,f4,f5⟩:=Xd.out ts[k] (Vz hlt);obtain⟨g0,g1,g2,g3,g4,g5⟩:=Xd.out ts[m] (Vz Xu);exact cu fun W' _=>sP _ _ _ _ _ _ _ _ _ _ _ _ _ g0 g1 g2 g3 g4 g5 f0 f1 f2 f3 f4 f5
        clear hm hz hok;cases ha:ts[m].ahead ts[k];case false=>
          have HT:Hid (dZ ts=false):=ve hlt (by rw[HA.out,ha]);rw[ha]at Zy;clear ha HA;refine wp_region_quiet_below (by kernel_rfl) (by kernel_rfl) ?_
          repeat(go_big_quiet_step (first|exact YU.out _ _|exact Zy.out _ _))
          refine wpQuiet_nil ?_;rintro _ ⟨⟨dq,osq⟩,rfl⟩;go_wp2;go_ret;exact⟨ah HT.out.symm,XI.out dq osq⟩
        have HU:Hid (uZ ts (k+1)=true):=by show _=_;rw[rT,hu.out,HA.out,ha];rfl
        rw[ha]at Zy;clear ha HA;refine wp_region_quiet_below (by kernel_rfl) (by kernel_rfl) ?_
        repeat(go_big_quiet_step (first|exact YU.out _ _|exact Zy.out _ _))
        refine wpQuiet_nil ?_;rintro _ ⟨⟨dq,osq⟩,rfl⟩;go_wp2;go_roundw;case rel=>exact⟨k+1,by omega,by go_num,HU,XI.out dq osq⟩
        simp[intOf];omega
    · go_wp2;go_ret;exact⟨ah (by have e:k=ts.length:=(by omega);subst e;simp[dZ,hu.out];omega),hB⟩
end Go.Proofs.YtcgdckphpjfmhaaGreatDoor
namespace Go.Proofs.YtcgdckphpjfmhaaGreatDoor
open Pl
theorem xR:∀x:List UInt8,Op.bytesLess x x=false
 | []=>rfl
 | a::x=>by simp[Op.bytesLess,xR x]
theorem Aj:∀x y z:List UInt8,Op.bytesLess x y=true->Op.bytesLess y z=true->Op.bytesLess x z=true
 | [],_,[],h,k=>by cases ‹List UInt8› <;> simp [Op.bytesLess] at h k
 | [],_,_::_,_,_=>rfl
 | _::_,[],_,h,_=>by simp[Op.bytesLess]at h
 | _::_,_::_,[],_,k=>by simp[Op.bytesLess]at k
 | a::x,b::y,c::z,h,k=>by
  simp only[Op.bytesLess,Bool.or_eq_true,VF,VM,beq_iff_eq]at h k ⊢;rcases h with h|⟨h,h'⟩
  ·rcases k with k|⟨k,k'⟩
   ·exact .inl (UInt8.lt_trans h k)
   exact .inl (k ▸ h)
  rcases k with k|⟨k,k'⟩
  ·exact .inl (h ▸ k)
  exact .inr ⟨h.trans k,Aj x y z h' k'⟩
theorem Ak:∀x y:List UInt8,x≠y->Op.bytesLess x y=true\/Op.bytesLess y x=true
 | [],[],h=>absurd rfl h
 | [],_::_,_=>.inl rfl
 | _::_,[],_=>.inr rfl
 | a::x,b::y,h=>by
  simp only[Op.bytesLess,Bool.or_eq_true,VF,VM,beq_iff_eq];by_cases e:a=b
  ·subst e;rcases Ak x y (fun e=>h (by rw[e])) with k|k
   ·exact .inl (.inr ⟨rfl,k⟩)
   exact .inr (.inr ⟨rfl,k⟩)
  rcases Nat.lt_or_gt_of_ne (fun k=>e (UInt8.toNat_inj.1 k)) with k|k
  ·exact .inl (.inl k)
  exact .inr (.inl k)
def Tp.text(t:Tp):List UInt8:=(aY t.a t.b t.r t.c t.d t.s).toList
theorem OT{x y:Tp}(hx:x.ok=true)(hy:y.ok=true)(e:x.text=y.text):x=y:=by
 obtain⟨h1,h2,h3,h4,h5,h6⟩:=xI hx hy (jD e);obtain⟨xa,xb,xr,xc,xd,xs⟩:=x;obtain⟨ya,yb,yr,yc,yd,ys⟩:=y;simp only at h1 h2 h3 h4 h5 h6;rw[h1,h2,h3,h4,h5,h6]
theorem jU{x y:Tp}(hx:x.ok=true)(hy:y.ok=true):x.ahead y=Op.bytesLess x.text y.text:=tX hx hy
theorem Am{x y:Tp}(h:x.ahead y=true):x.ok=true/\y.ok=true:=by
 unfold Tp.ahead ik at h;simp only[VF]at h;exact⟨h.1.1,h.1.2⟩
theorem kF{x y z:Tp}(h:x.ahead y=true)(k:y.ahead z=true):x.ahead z=true:=by
 obtain⟨hx,hy⟩:=Am h;obtain⟨-,hz⟩:=Am k;rw[jU hx hy]at h;rw[jU hy hz]at k;rw[jU hx hz];exact Aj _ _ _ h k
theorem jE(x:Tp):x.ahead x=false:=by
 cases h:x.ahead x;case false=>rfl
 obtain⟨hx,-⟩:=Am h;rw[jU hx hx,xR]at h;cases h
theorem Gc{x y:Tp}(hx:x.ok=true)(hy:y.ok=true)(hne:x≠y):x.ahead y=true\/y.ahead x=true:=by
 rw[jU hx hy,jU hy hx];exact Ak _ _ fun e=>hne (OT hx hy e)
def Up(l:Q05):Prop:=l.Pairwise fun x y=>x.ahead y=true
theorem OU{ts:Q05}(h:dZ ts=true):Up ts/\(∀t∈ts,t.ok=true)/\ts.length<=40:=by
 unfold dZ at h;simp only[VF,VM]at h;obtain⟨hl,hu⟩:=h;have hat:∀i,i<ts.length->yE ts i=true:=fun i hi=>by
  unfold uZ at hu;exact VN.1 hu i (List.mem_range.2 hi)
 have hok:∀i (hi:i<ts.length),ts[i].ok=true:=fun i hi=>by
  have:=hat i hi;cases i with
  | zero=>rw[rU hi]at this;exact this
  | succ j=>rw[ol hi]at this;simp only[VF]at this;exact this.1
 have hnx:∀i (hi:i+1<ts.length),ts[i].ahead ts[i+1]=true:=fun i hi=>by
  have:=hat (i+1) hi;rw[ol hi]at this;simp only[VF]at this;exact this.2
 refine⟨List.pairwise_iff_getElem.2 fun i j hi hj hij=>?_,fun t ht=>?_,hl⟩
 ·obtain⟨d,rfl⟩:∃d,j=i+1+d:=⟨j-(i+1),by omega⟩
  induction d with
  | zero=>exact hnx i hj
  | succ d ih=>exact kF (ih (by omega) (by omega)) (hnx (i+1+d) (by omega))
 obtain⟨i,hi,rfl⟩:=Wm.1 ht;exact hok i hi
theorem TN{xs ys:Q05}(hx:Up xs)(hy:Up ys)(h:∀t,t∈xs↔t∈ys):xs=ys:=by
 have nd:∀{l:Q05},Up l->l.Nodup:=fun hl=>hl.imp fun {a b} hab e=>by subst e;rw[jE]at hab;cases hab
 exact List.Perm.eq_of_pairwise (le:=fun(a b:Tp)=>a.ahead b=true) (fun a b _ _ h1 h2=>by have:=kF h1 h2;rw[jE]at this;cases this) hx hy ((List.perm_ext_iff_of_nodup (nd hx) (nd hy)).2 h)
def jV:List Tp->Tp->List Tp
 | [],t=>[t]
 | x::xs,t=>if x.ahead t then x::jV xs t else t::x::xs
theorem mo(ts:Q05)(t y:Tp):y∈jV ts t↔y=t\/y∈ts:=by
 induction ts with
 | nil=>simp[jV]
 | cons x xs ih =>
  unfold jV;split
  ·simp only[VU,ih];constructor
   ·rintro(h|h|h)
    ·exact .inr (.inl h)
    ·exact .inl h
    exact .inr (.inr h)
   rintro(h|h|h)
   ·exact .inr (.inl h)
   ·exact .inl h
   exact .inr (.inr h)
  simp
theorem Rp{ts:Q05}{t:Tp}(hu:Up ts)(hok:∀x∈ts,x.ok=true)(ht:t.ok=true)(hn:t ∉ ts):Up (jV ts t):=by
 induction ts with
 | nil=>exact List.pairwise_singleton _ _
 | cons x xs ih =>
  obtain⟨h1,h2⟩:=List.pairwise_cons.1 hu;unfold jV;split
  ·rename_i hx;refine List.pairwise_cons.2 ⟨fun y hy=>?_,ih h2 (fun y hy=>hok y (Wv _ hy)) (fun hm=>hn (Wv _ hm))⟩;rcases (mo xs t y).1 hy with rfl|hy
   ·exact hx
   exact h1 y hy
  rename_i hx;have hne:x≠t:=fun e=>hn (by rw[e];exact WB);have htx:t.ahead x=true:=by
   rcases Gc (hok x WB) ht hne with h|h
   ·exact absurd h hx
   exact h
  refine List.pairwise_cons.2 ⟨fun y hy=>?_,hu⟩;rcases VU.1 hy with rfl|hy
  ·exact htx
  exact kF htx (h1 y hy)
theorem Es(ts:Q05)(t:Tp)(k:Nat)(hk:k<=ts.length)(h1:∀i (h:i<ts.length),i<k->ts[i].ahead t=true)(h2:∀h:k<ts.length,ts[k].ahead t=false):jV ts t=ts.take k++t::ts.drop k:=by
 induction ts generalizing k with
 | nil=>simp[jV]
 | cons x xs ih =>
  cases k with
  | zero =>
   have:=h2 (by simp);simp only[List.getElem_cons_zero]at this;simp[jV,this]
  | succ k =>
   have hx:=h1 0 (by simp) (by omega);simp only[List.getElem_cons_zero]at hx;have:=ih k (by simpa using hk) (fun i hi hik=>by have:=h1 (i+1) (by simpa using hi) (by omega);simpa using this) (fun h=>by have:=h2 (by simpa using h);simpa using this);simp[jV,hx,this]
theorem lJ(ts:Q05)(t y:Tp):y∈dY ts t↔y∈ts/\y≠t:=by
 unfold dY;rw[WE];have:((!nM y t)=true)↔y≠t:=by
  cases e:nM y t
  ·simp only[Bool.not_false,true_iff];intro h;rw[mh.2 h]at e;cases e
  simp only[Bool.not_true,Bool.false_eq_true,false_iff,ne_eq];intro h;exact h (mh.1 e)
 rw[this]
theorem Gd{ts:Q05}(t:Tp)(hu:Up ts):Up (dY ts t):=List.Pairwise.filter _ hu
theorem Gf{ts:Q05}{t:Tp}:iL ts t=true↔t∈ts:=by
 unfold iL;rw[WG];constructor
 ·rintro⟨x,hx,e⟩;rw[<-mh.1 e];exact hx
 intro h;exact⟨t,h,mh.2 rfl⟩
open ChangeAt ChangeShapes Maps RowKit WideShapes
theorem jW{w:ae}{b off:Nat}{ts:Q05}(h:dE w b off ts):∀j u,(aF ts)[j]?=some u->w.cell? ((⟨b,off,none⟩:Addr).add j)=some u:=by
 intro j u hu;have hl:=fu ts;have hj:j<ts.length*6:=by
  rcases Nat.lt_or_ge j (aF ts).length with h|h
  ·omega
  rw[List.getElem?_eq_none h]at hu;cases hu
 have hi:j / 6<ts.length:=by omega
 have hr:j%6<6:=Nat.mod_lt _ (by omega);have e:j=j / 6*6+j%6:=by omega
 rw[e,qJ ts _ hi _ hr]at hu;rw[show((⟨b,off,none⟩:Addr).add j)=⟨b,off+j / 6*6+j%6,none⟩ by rw[show(⟨b,off,none⟩:Addr).add j=⟨b,off+j,none⟩ by simp[Addr.add]];congr 1;omega];obtain⟨c0,c1,c2,c3,c4,c5⟩:=h (j / 6) hi;have h6:j%6=0\/j%6=1\/j%6=2\/j%6=3\/j%6=4\/j%6=5:=by omega
 rcases h6 with e6|e6|e6|e6|e6|e6<;>rw[e6]at hu ⊢ <;>simp only[Tp.row,List.getElem?_cons_zero,List.getElem?_cons_succ]at hu<;>rw[<-hu]<;>assumption
theorem CV{w:ae}{b off:Nat}{ts:Q05}(h:dE w b off ts)(k:Nat):dE w b off (ts.take k):=fun i hi=>by
 have:=h i (by simp at hi;omega);simpa using this
theorem LX{w:ae}{b off:Nat}{ts:Q05}(h:dE w b off ts)(k:Nat):dE w b (off+k*6) (ts.drop k):=fun i hi=>by
 have:=h (k+i) (by simp at hi;omega);simp only[List.getElem_drop];rw[show off+k*6+i*6=off+(k+i)*6 by omega];exact this
theorem jX(ts:Q05):∀u∈aF ts,u.oneCell'=true:=by
 intro u hu;unfold aF at hu;obtain⟨t,-,h⟩:=VZ.1 hu;exact uY t u h
theorem pE(xs ys:Q05):aF (xs++ys)=aF xs++aF ys:=by simp[aF]
def wC(w:World)(g:Nat)(t:Tp):Prop:=w.cell? ⟨g,0,none⟩=some (.string t.a)/\w.cell? ⟨g,1,none⟩=some (.string t.b)/\w.cell? ⟨g,2,none⟩=some (.string t.r)/\w.cell? ⟨g,3,none⟩=some (.string t.c)/\w.cell? ⟨g,4,none⟩=some (.string t.d)/\w.cell? ⟨g,5,none⟩=some (.string t.s)/\g<w.heap.size
theorem wC.below{w w':ae}{g:Nat}{t:Tp}(h:wC w g t)(hb:af w w'):wC w' g t :=
 ⟨mK hb h.2.2.2.2.2.2 h.1,mK hb h.2.2.2.2.2.2 h.2.1,mK hb h.2.2.2.2.2.2 h.2.2.1,mK hb h.2.2.2.2.2.2 h.2.2.2.1,mK hb h.2.2.2.2.2.2 h.2.2.2.2.1,mK hb h.2.2.2.2.2.2 h.2.2.2.2.2.1,Vy h.2.2.2.2.2.2 hb.size⟩
theorem Et(w:ae)(t:Tp)(T:TypeId):wC (w.alloc (.cells #[.string t.a,.string t.b,.string t.r,.string t.c,.string t.d,.string t.s] T)) w.heap.size t:=by
 refine⟨?_,?_,?_,?_,?_,?_,?_⟩<;>simp
theorem wC.grown{w w':ae}{g:Nat}{t:Tp}{row:Option Nat}(h:wC w g t)(hg:w.grownBy w' row)(hne:some g≠row):wC w' g t :=
 ⟨hg.cell h.1 hne,hg.cell h.2.1 hne,hg.cell h.2.2.1 hne,hg.cell h.2.2.2.1 hne,hg.cell h.2.2.2.2.1 hne,hg.cell h.2.2.2.2.2.1 hne,Vy h.2.2.2.2.2.2 hg.size⟩
theorem pF{w w':ae}{b off:Nat}{ts:Q05}{row:Option Nat}(h:dE w b off ts)(hg:w.grownBy w' row)(_hb:b<w.heap.size)(hne:some b≠row):dE w' b off ts:=fun i hi=>by
 obtain⟨c0,c1,c2,c3,c4,c5⟩:=h i hi;exact⟨hg.cell c0 hne,hg.cell c1 hne,hg.cell c2 hne,hg.cell c3 hne,hg.cell c4 hne,hg.cell c5 hne⟩
theorem LY{ts:Q05}{k:Nat}(h:ts.length<=k)(w:ae)(ad:Addr):∀j u,(aF (ts.drop k))[j]?=some u->w.cell? (ad.add j)=some u:=fun j u hu=>by
 rw[VW h]at hu;simp[aF]at hu
theorem lG{W:ae}{base base':Nat}{e:TypeId}{size:Nat}{v:Value}{k:Nat}{xs:Q03}(h:W.ownsRow base e size v k xs)(hb:base'<=base):W.ownsRow base' e size v k xs:=by
 refine⟨h.1,?_⟩;rcases h.2 with hn|⟨g,cap,cur,hv,hbg,rest⟩
 ·exact .inl hn
 exact .inr ⟨g,cap,cur,hv,VJ hb hbg,rest⟩
theorem fe{p:Prop}(h:p):Hid p:=h
theorem OV{w:ae}{g:Nat}{t:Tp}(h0:w.cell? ⟨g,0,none⟩=some (.string t.a))(h1:w.cell? ⟨g,1,none⟩=some (.string t.b))(h2:w.cell? ⟨g,2,none⟩=some (.string t.r))(h3:w.cell? ⟨g,3,none⟩=some (.string t.c))(h4:w.cell? ⟨g,4,none⟩=some (.string t.d))(h5:w.cell? ⟨g,5,none⟩=some (.string t.s))(hl:g<w.heap.size):wC w g t:=⟨h0,h1,h2,h3,h4,h5,hl⟩
theorem KO{w W w':ae}{b n o:Nat}{x0 x1 x2 x3 x4 x5 y0 y1 y2 y3 y4 y5:Value}(h:W.cell? ⟨b,o,none⟩=some x0/\W.cell? ⟨b,o+1,none⟩=some x1/\W.cell? ⟨b,o+2,none⟩=some x2/\W.cell? ⟨b,o+3,none⟩=some x3/\W.cell? ⟨b,o+4,none⟩=some x4/\W.cell? ⟨b,o+5,none⟩=some x5/\W.cell? ⟨n,0,none⟩=some y0/\W.cell? ⟨n,1,none⟩=some y1/\W.cell? ⟨n,2,none⟩=some y2/\W.cell? ⟨n,3,none⟩=some y3/\W.cell? ⟨n,4,none⟩=some y4/\W.cell? ⟨n,5,none⟩=some y5/\b<W.heap.size/\n<W.heap.size/\Below n w W)(hb:af W w'):
  w'.cell? ⟨b,o,none⟩=some x0/\w'.cell? ⟨b,o+1,none⟩=some x1/\w'.cell? ⟨b,o+2,none⟩=some x2/\w'.cell? ⟨b,o+3,none⟩=some x3/\w'.cell? ⟨b,o+4,none⟩=some x4/\w'.cell? ⟨b,o+5,none⟩=some x5/\w'.cell? ⟨n,0,none⟩=some y0/\w'.cell? ⟨n,1,none⟩=some y1/\w'.cell? ⟨n,2,none⟩=some y2/\w'.cell? ⟨n,3,none⟩=some y3/\w'.cell? ⟨n,4,none⟩=some y4/\w'.cell? ⟨n,5,none⟩=some y5/\b<w'.heap.size/\n<w'.heap.size/\Below n w w':=by
 obtain⟨h0,h1,h2,h3,h4,h5,g0,g1,g2,g3,g4,g5,hB,hN,hw⟩:=h;exact⟨mK hb hB h0,mK hb hB h1,mK hb hB h2,mK hb hB h3,mK hb hB h4,mK hb hB h5,mK hb hN g0,mK hb hN g1,mK hb hN g2,mK hb hN g3,mK hb hN g4,mK hb hN g5,Vy hB hb.size,Vy hN hb.size,hw.trans (hb.mono (WS hN))⟩
set_option maxRecDepth 100000 in
theorem BR(ad:Q02)(cap:Nat)(rs:Q08)(w:ae)(hlen:rs.length<=1048576)(hs:jq w ad rs)(hl:∀r∈rs,r.e.light)(hk:∀r∈rs,eB rs.length r.e.kids):
  Calls prog 176 #[.slice ad rs.length cap] w fun e w'=>e=.returned (.slice (some ⟨w.heap.size,0,none⟩) rs.length rs.length)/\Fil w w' w.heap.size rs.length (bools (fC (aj rs))):=by
 have HS:=aC hs;have HL:=aC hl;have HK:=aC hk;clear hs hl hk;obtain⟨inf,hi,hz0,hz1,hz2⟩:=info_parts zV;go_enter func176,ntmps176;go_wp2_with(at_make;refine wpList_make_full _ rfl _ _ 279 rfl w.heap.size 4 inf (.bool false) 1 underlying279 hi hz0 hz1 .i64 .i64 _ _ rs.length rfl rfl rfl rfl (by rw[hz2];omega) (by unfold maxLen;omega) (VC _) ?_;intro w0 hown0 YQ);have HF0:Hid (Fil w w0 w.heap.size rs.length (bools (List.replicate rs.length false))):=by
  have:=CJ (v:=.bool false) hown0 YQ;show Fil _ _ _ _ _;simpa[bools] using this
 clear hown0 YQ hi hz0 hz1 hz2;go_loopw[4] (fun i wr=>∃(m:Nat) (out:List Bool),m<=rs.length/\i=.int .i64 ((m:Int)-1)/\out.length=rs.length/\Hid (iy (aj rs) m out=fC (aj rs))/\Hid (Fil w wr w.heap.size rs.length (bools out))) (fun i _=>(intOf i+1).toNat);case atStart=>exact⟨rs.length,List.replicate rs.length false,VC _,by go_num,by simp,(by show _=_;unfold fC;rw[aZ]),HF0⟩
 obtain⟨m,out,hm,rfl,hol,HN,HF⟩:=hrel;by_cases hm0:0<m
 ·obtain⟨m,rfl⟩:∃m',m=m'+1:=⟨m-1,by omega⟩;have hmi:(((m+1:Nat):Int)-1)=(m:Int):=by omega
  rw[hmi];have hlt:m<rs.length:=by omega
  rcases HS.out.below HF.out.below with rfl|⟨b,off,rfl,hb,hr,hok⟩
  ·simp at hlt
  obtain⟨t0,t1,t2,t3,t4⟩:=hr m hlt;have XK:Hid (rs[m].ok _):=hok rs[m] (Vz hlt);have lg:=(HL.out rs[m] (Vz hlt)).2;have HKI:Hid (eB rs.length rs[m].e.kids):=HK.out rs[m] (Vz hlt);have hk1:=bq m;have hk2:(m:Int)<(rs.length:Int):=by omega
  have hbw:b<w.heap.size:=by
   rcases HS.out with h|⟨b',off',h1,h2,-⟩
   ·rw[h]at hlt;simp at hlt
   injection h1 with h1;injection h1 with h1;omega
  have HR:Hid (yx wr b (off+m*5) rs[m]):=hr m hlt;have HNX:Hid (iy (aj rs) m (df m rs[m].e.kind rs[m].e.kids 0 out)=fC (aj rs)):=by
   show _=_;rw[<-HN.out,zW _ _ _ (by rw[aZ];exact hlt)];simp[aj]
  clear hr hok t0 t1 t2 t3;go_wp2_with fail;clear t4;go_loopw[23] (fun i w2=>∃(j:Nat) (WX:List Bool),j<=rs[m].e.kids.length/\i=.int .i64 j/\WX.length=rs.length/\Hid (df m rs[m].e.kind (rs[m].e.kids.drop j) j WX=df m rs[m].e.kind rs[m].e.kids 0 out)/\Hid (Fil w w2 w.heap.size rs.length (bools WX))) (fun i _=>rs[m].e.kids.length-(intOf i).toNat);case atStart=>exact⟨0,out,VG _,rfl,hol,rfl,HF⟩
  obtain⟨j,WX,hj,rfl,ho2,HJ,XW⟩:=hrel;have hE2:jq wr _ rs:=HS.out.below XW.out.below;have ht:yx wr b (off+m*5) rs[m]:=by
   rcases hE2 with h|⟨b',off',h1,h2,h3,-⟩
   ·exact absurd hlt (by rw[h];simp)
   injection h1 with h1;injection h1 with h1 h1';subst h1;subst h1';exact h3 m hlt
  obtain⟨t0,t1,t2,t3,t4⟩:=ht;by_cases hjl:j<rs[m].e.kids.length
  ·have hK2:wB wr rs[m].adK rs[m].e.kids:=(hE2.mem (Vz hlt)).2;rcases hK2 with hnil|⟨ba,YO,Xx,Z7,hra⟩
   ·rw[hnil]at hjl;simp at hjl
   rw[Xx];have q0:=hra j hjl;have hj1:=bq j;have hj2:(j:Int)<(rs[m].e.kids.length:Int):=by omega
   obtain⟨x0,x1⟩:=HKI.out _ (Vz hjl);obtain⟨x,hx⟩:∃x:Nat,rs[m].e.kids[j]=(x:Int):=⟨rs[m].e.kids[j].toNat,by omega⟩;rw[hx]at q0 x0 x1;have c0:=XW.out.done m (by simp[bools];omega);have fz:=XW.out.free;obtain⟨v0,u0⟩:=Option.isSome_iff_exists.mp (XW.out.there x (by omega));have hbr:b<wr.heap.size:=Vy hbw XW.out.below.size;obtain⟨bo,hbo⟩:∃bo,bo=(bools WX)[m]'(by simp[bools];omega):=⟨_,rfl⟩;rw[<-hbo]at c0;clear hra Xx hE2 t1 t2 t3;have hm2:m<WX.length:=by omega
   have hbo1:bo=.bool WX[m]:=by rw[hbo];simp[bools]
   have hbo':WX[m]?.getD false=WX[m]:=by simp[hm2]
   rw[hbo1]at c0;clear hbo hbo1;cases hb0:WX[m];case true=>
    rw[hb0]at c0 hbo';have YR:Hid (Fil w (wr.setCell ⟨w.heap.size,x,none⟩ (.bool true)) w.heap.size rs.length (bools (WX.set x true))):=by show Fil _ _ _ _ _;rw[nZ];exact XW.out.set _ (by simp[bools];omega) (by omega)
    have HJ2:Hid (df m rs[m].e.kind (rs[m].e.kids.drop (j+1)) (j+1) (WX.set x true)=df m rs[m].e.kind rs[m].e.kids 0 out):=by
     show _=_;rw[<-HJ.out,jC _ _ _ _ _ hjl,hx];simp[*]
    go_wp2;go_roundw;case rel=>exact⟨j+1,WX.set x true,by omega,by go_num,by simp[ho2],HJ2,YR⟩
    simp[intOf]<;>omega
   rw[hb0]at c0 hbo';cases hkb:(rs[m].e.kind==6);case false=>
    have YR:Hid (Fil w (wr.setCell ⟨w.heap.size,x,none⟩ (.bool false)) w.heap.size rs.length (bools (WX.set x false))):=by show Fil _ _ _ _ _;rw[nZ];exact XW.out.set _ (by simp[bools];omega) (by omega)
    have HJ2:Hid (df m rs[m].e.kind (rs[m].e.kids.drop (j+1)) (j+1) (WX.set x false)=df m rs[m].e.kind rs[m].e.kids 0 out):=by
     show _=_;rw[<-HJ.out,jC _ _ _ _ _ hjl,hx];simp[*]
    go_wp2;go_roundw;case rel=>exact⟨j+1,WX.set x false,by omega,by go_num,by simp[ho2],HJ2,YR⟩
    simp[intOf]<;>omega
   cases hjb:((j:Int)==1);case true=>
    have hjn:(j==1)=true:=by simp at hjb⊢;omega
    have YR:Hid (Fil w (wr.setCell ⟨w.heap.size,x,none⟩ (.bool true)) w.heap.size rs.length (bools (WX.set x true))):=by show Fil _ _ _ _ _;rw[nZ];exact XW.out.set _ (by simp[bools];omega) (by omega)
    have HJ2:Hid (df m rs[m].e.kind (rs[m].e.kids.drop (j+1)) (j+1) (WX.set x true)=df m rs[m].e.kind rs[m].e.kids 0 out):=by
     show _=_;rw[<-HJ.out,jC _ _ _ _ _ hjl,hx];simp[*]
    go_wp2;go_roundw;case rel=>exact⟨j+1,WX.set x true,by omega,by go_num,by simp[ho2],HJ2,YR⟩
    simp[intOf]<;>omega
   have hjn:(j==1)=false:=by simp at hjb⊢;omega
   have YR:Hid (Fil w (wr.setCell ⟨w.heap.size,x,none⟩ (.bool false)) w.heap.size rs.length (bools (WX.set x false))):=by show Fil _ _ _ _ _;rw[nZ];exact XW.out.set _ (by simp[bools];omega) (by omega)
   have HJ2:Hid (df m rs[m].e.kind (rs[m].e.kids.drop (j+1)) (j+1) (WX.set x false)=df m rs[m].e.kind rs[m].e.kids 0 out):=by
    show _=_;rw[<-HJ.out,jC _ _ _ _ _ hjl,hx];simp[*]
   go_wp2;go_roundw;case rel=>exact⟨j+1,WX.set x false,by omega,by go_num,by simp[ho2],HJ2,YR⟩
   simp[intOf]<;>omega
  have Y7:Hid (iy (aj rs) m WX=fC (aj rs)):=by
   show _=_;rw[<-HNX.out,<-HJ.out,VW (by omega)];rfl
  go_wp2;go_roundw;case rel=>exact⟨m,WX,by omega,by go_num,ho2,Y7,XW⟩
  simp[intOf]<;>omega
 obtain rfl:m=0:=by omega
 have Zf:Hid (Fil w wr w.heap.size rs.length (bools (fC (aj rs)))):=by
  show Fil _ _ _ _ _;rw[<-HN.out];exact HF.out
 go_wp2;go_ret;exact⟨rfl,Zf.out⟩
theorem bP{B:Nat}{w w':ae}(hB:Below B w w'){n o:Nat}{v:Value}(hn:n<B)(h:w.cell? ⟨n,o,none⟩=some v):w'.cell? ⟨n,o,none⟩=some v:=(hB.cell (p:=⟨n,o,none⟩) hn).trans h
theorem ax{p:Prop}(h:p):Hid p:=h
theorem aJ{w w':ae}{base:Nat}{e:TypeId}{size:Nat}{v:Value}{n:Nat}{xs:Q03}(h:w.ownsRow base e size v n xs)(hb:af w w'):w'.ownsRow base e size v n xs:=by
 have hl:=fun g hg=>(h.lt g hg).2;refine⟨h.1,?_⟩;rcases h.2 with h0|⟨g,cap,cur,rfl,h1,h2,h3⟩
 ·exact .inl h0
 exact .inr ⟨g,cap,cur,rfl,h1,(hb.block g (hl g rfl)).trans h2,h3⟩
set_option linter.unusedVariables false
set_option maxRecDepth 100000
theorem Gg{x y:Al}:kz x y=true↔x=y:=by
 unfold kz;simp only[VF,beq_iff_eq];constructor
 ·rintro⟨h0,h1⟩;obtain⟨xa,xb⟩:=x;obtain⟨ya,yb⟩:=y;simp only at h0 h1;rw[jD h0,jD h1]
 rintro rfl;simp
theorem CW(x y:Al):kz x y=kz y x:=by
 rw[VV,Gg,Gg];exact⟨Eq.symm,Eq.symm⟩
theorem OW(x y:Al){v:Bool}(h:kz x y=v)(w:ae):
  (binOp .eql 27 (.agg #[.string x.t,.string x.s]) (.agg #[.string y.t,.string y.s])).run prog w=.ok (.bool v) w:=by
 subst h;go_simp;unfold kz
 (repeat' split)<;>simp_all
def om(xs:Q0a)(o:Al):Bool:=xs.any fun x=>kz x o
theorem LZ{xs:Q0a}{o:Al}{k:Nat}(h:k<xs.length):om (xs.take (k+1)) o=(om (xs.take k) o || kz xs[k] o):=by
 rw[VE h];unfold om;rw[List.any_append];simp only[WT,List.any_nil,Bool.or_false]
theorem OX{xs:Q0a}{o:Al}{k:Nat}(h:k<xs.length)(he:kz xs[k] o=true):om xs o=true:=WG.2 ⟨xs[k],Vz h,he⟩
theorem Jb(ad:Q02)(cap:Nat)(ts:Q0a)(t:Al)(w:ae)(hlen:ts.length<=1048576)(hs:ll w ad ts):
  Calls prog 215 #[.slice ad ts.length cap,.agg #[.string t.t,.string t.s]] w fun e w'=>(∃r:Int,e=.returned (.int .i64 r)/\decide (0<=r)=om ts t)/\af w w':=by
 obtain⟨W,hW⟩:∃W,W=w.alloc (.cells #[.string t.t,.string t.s] 27):=⟨_,rfl⟩;have HB0:Hid (af w W):=by show Below _ _ _;rw[hW];exact(VD w.heap.size w).alloc (VC _) _
 have hz:w.heap.size<W.heap.size:=by rw[hW];simp
 have b0:W.cell? ⟨w.heap.size,0,none⟩=some (.string t.t):=by rw[hW];simp
 have b1:W.cell? ⟨w.heap.size,1,none⟩=some (.string t.s):=by rw[hW];simp
 have HS:=aC (hs.below HB0.out);clear hs;go_enter func215,ntmps215;go_wp2_with fail;rw[<-hW];clear hW;go_loopw[8] (fun i wr=>∃k:Nat,k<=ts.length/\i=.int .i64 k/\Hid (om (ts.take k) t=false)/\af W wr) (fun i _=>ts.length-(intOf i).toNat);case atStart=>exact⟨0,VG _,rfl,rfl,VD _ _⟩
 obtain⟨k,hk,rfl,HP,hB⟩:=hrel;have a0:=bP hB hz b0;have a1:=bP hB hz b1;by_cases hlt:k<ts.length
 ·rcases HS.out.below hB with hnil|⟨b,off,rfl,hb,hr⟩
  ·rw[hnil]at hlt;simp at hlt
  obtain⟨t0,t1⟩:=hr k hlt;have hk1:=bq k;have hk2:(k:Int)<(ts.length:Int):=by omega
  clear hr;cases hq:kz t ts[k];case true=>
   have HE:=OW t ts[k] hq;have HN:Hid (om ts t=true):=OX hlt (by rw[CW];exact hq);go_wp2_with fail;go_quiet (fail);go_wp2;go_ret;exact⟨⟨_,rfl,by rw[HN.out];simp⟩,HB0.out.trans (below_drewN (hB.mono HB0.out.size) _)⟩
  have HE:=OW t ts[k] hq;have Xa:Hid (om (ts.take (k+1)) t=false):=by show _=_;rw[LZ hlt,HP.out,CW,hq];rfl
  go_wp2_with fail;go_quiet (fail);go_wp2;go_roundw;case rel=>exact⟨k+1,by omega,by go_num,Xa,below_drewN hB _⟩
  simp[intOf]<;>omega
 obtain rfl:k=ts.length:=by omega
 have HN:Hid (om ts t=false):=by have:=HP.out;rw[VP]at this;exact this
 go_wp2;go_ret;exact⟨⟨-1,rfl,by rw[HN.out];rfl⟩,HB0.out.trans (hB.mono HB0.out.size)⟩
theorem BS(ad:Q02)(cap:Nat)(ts:Q0a)(t:Al)(w:ae)(hlen:ts.length<=1048576)(hs:ll w ad ts):
  Calls prog 181 #[.slice ad ts.length cap,.agg #[.string t.t,.string t.s]] w fun e w'=>e=.returned (.bool (om ts t))/\af w w':=by
 have HB0:Hid (af w (w.alloc (.cells #[.string t.t,.string t.s] 27))):=(VD w.heap.size w).alloc (VC _) _;have HS:=ax hs;clear hs;go_enter func181,ntmps181;go_wp2_with fail;refine(Jb ad cap ts t _ hlen (HS.out.below HB0.out)).mono ?_;rintro e w1 ⟨⟨r,rfl,hr⟩,hb1⟩;have HR:=ax hr;have HB1:=ax (HB0.out.trans (hb1.mono HB0.out.size));clear hr hb1;go_wp2;go_ret;exact⟨ah HR.out,HB1.out⟩
def eT(xs:Q0a)(o:Al):List Al:=if om xs o then xs else xs++[o]
theorem Ao:∃i,prog.info? 27=some i/\i.zero=some (.agg #[.string ⟨#[]⟩,.string ⟨#[]⟩])/\i.size=2/\i.bytes=32 :=
 info_parts (P:=prog) (e:=27) (z:=.agg #[.string ⟨#[]⟩,.string ⟨#[]⟩]) (size:=2) (bytes:=32) (by kernel_rfl)
theorem mq{w:ae}{base:Nat}{v:Value}{xs:Q0a}(h:w.ownsRow base 27 2 v xs.length (pairs xs)):∃ad cap,v=.slice ad xs.length cap/\ll w ad xs:=by
 rcases h.2 with⟨rfl,h0⟩|⟨g,cap,cur,rfl,hbg,hg,hnc,-⟩
 ·exact⟨none,0,by rw[h0],.inl (VS.1 h0)⟩
 refine⟨_,cap,rfl,.inr ⟨g,0,rfl,(h.lt g rfl).2,fun i hi=>?_⟩⟩;obtain⟨h0,h1⟩:=uI xs i hi;have hl:=rH xs;refine⟨?_,?_⟩
 ·rw[h.cellAt (0+i*2) (by omega),V4];exact h0
 rw[h.cellAt (0+i*2+1) (by omega),V4];exact h1
theorem mr(B:Nat)(v:Value)(xs:Q0a)(o:Al)(w:ae)(hlen:xs.length<=1000)(hB:B<=w.heap.size)(hown:w.ownsRow B 27 2 v xs.length (pairs xs)):
  Calls prog 131 #[v,.agg #[.string o.t,.string o.s]] w fun e w'=>∃v',e=.returned v'/\w'.ownsRow B 27 2 v' (eT xs o).length (pairs (eT xs o))/\Aside w v w' v'/\∀B',(∀g,v.ownBlock=some g->B'<=g)->B'<=w.heap.size->Below B' w w':=by
 obtain⟨iO,h0,h1,h2,h3⟩:=Ao;have HIO:=ax (And.intro h0 (And.intro h1 (And.intro h2 h3)));obtain⟨ad,cap,rfl,hsl⟩:=mq hown;obtain⟨W,hW⟩:∃W,W=w.alloc (.cells #[.string o.t,.string o.s] 27):=⟨_,rfl⟩;have HB0:Hid (af w W):=by show Below _ _ _;rw[hW];exact(VD w.heap.size w).alloc (VC _) _
 have hz:w.heap.size<W.heap.size:=by rw[hW];simp
 have b0:W.cell? ⟨w.heap.size,0,none⟩=some (.string o.t):=by rw[hW];simp
 have b1:W.cell? ⟨w.heap.size,1,none⟩=some (.string o.s):=by rw[hW];simp
 have Z8:=ax hsl;have HO:=ax hown;clear hsl hown h0 h1 h2 h3;go_enter func131,ntmps131;go_wp2_with fail;rw[<-hW];clear hW;refine(BS ad cap xs o _ (by omega) (Z8.out.below HB0.out)).mono ?_;rintro e w1 ⟨rfl,hb1⟩;have HB1:=ax (HB0.out.trans (hb1.mono HB0.out.size));have c0:=bP hb1 hz b0;have c1:=bP hb1 hz b1;have Xj:=ax (aJ HO.out HB1.out);have HA1:Hid (Aside w (.slice ad xs.length cap) w1 (.slice ad xs.length cap)):=Aside.below HB1.out;clear hb1 b0 b1;cases hh:om xs o;case true=>
  have HW:Hid (eT xs o=xs):=by show _=_;unfold eT;rw[hh];rfl
  go_wp2;go_ret;exact⟨_,rfl,by rw[HW.out];exact Xj.out,HA1.out,fun B' _ hB'=>HB1.out.mono hB'⟩
 have HW:Hid (eT xs o=xs++[o]):=by show _=_;unfold eT;rw[hh];rfl
 obtain⟨W2,hW2⟩:∃W2,W2=w1.alloc (.cells #[.string o.t,.string o.s] 27):=⟨_,rfl⟩;have WV:Hid (W2.ownsRow B 27 2 (.slice ad xs.length cap) xs.length (pairs xs)):=by show World.ownsRow _ _ _ _ _ _ _;rw[hW2];exact Xj.out.alloc _
 have HA2:Hid (Aside w (.slice ad xs.length cap) W2 (.slice ad xs.length cap)):=by show Aside _ _ _ _;rw[hW2];exact HA1.out.trans (Aside.below ((VD _ _).alloc (VC _) _))
 have HBW2:Hid (af w W2):=by show Below _ _ _;rw[hW2];exact HB1.out.alloc HB1.out.size _
 have Yr:Hid (∀j u,[Value.string o.t,.string o.s][j]?=some u->W2.cell? ((⟨w1.heap.size,0,none⟩:Addr).add j)=some u):=fun j u hu=>by
  rw[hW2]
  match j,hu with
  | 0,hu=>simp at hu;subst hu;simp[Addr.add]
  | 1,hu=>simp at hu;subst hu;simp[Addr.add]
 have hsz2:B<=W2.heap.size:=by have:=HB1.out.size;rw[hW2];simp;omega
 clear hh;go_wp2_with(at_builtin;rw[<-hW2];clear hW2;refine wpList_append_own_at _ rfl _ _ 124 rfl B 27 iO (.agg #[.string ⟨#[]⟩,.string ⟨#[]⟩]) 2 32 underlying124 HIO.out.1 HIO.out.2.1 HIO.out.2.2.1 HIO.out.2.2.2 rfl (by decide) _ xs.length (pairs xs) rfl WV.out ⟨w1.heap.size,0,none⟩ 1 1 [.string o.t,.string o.s] rfl rfl Yr.out (by simp[Value.oneCell']) (by unfold maxLen;omega) (by omega) hsz2 ?_);intro v' w3 hown hgr _ hat;have HE:Hid (w3.ownsRow B 27 2 v' (eT xs o).length (pairs (eT xs o))):=by
  show World.ownsRow _ _ _ _ _ _ _;rw[HW.out,VI];have:pairs (xs++[o])=pairs xs++[.string o.t,.string o.s]:=by simp[pairs]
  rw[this];exact hown
 have HA3:Hid (Aside w (.slice ad xs.length cap) w3 v'):=HA2.out.trans (Aside.app hgr hat);have HBL:Hid (∀B',(∀g,(Value.slice ad xs.length cap).ownBlock=some g->B'<=g)->B'<=w.heap.size->Below B' w w3):=fun B' hv hB'=>(HBW2.out.mono hB').grown hgr (VJ hB' HBW2.out.size) hv;clear hown hgr hat;go_wp2;go_ret;exact⟨_,rfl,HE.out,HA3.out,HBL.out⟩
def iB(xs:Q0a)(t:Tp):List Al:=eT (eT xs ⟨t.a,t.b⟩) ⟨t.c,t.d⟩
def dA(xs:Q0a)(t:Tp):List Al:=if t.s.toList==[] then eT xs ⟨t.c,t.d⟩ else xs
def iJ(ts:Q05):List Al:=ts.foldl iB []
def fo(ts:Q05):List Al:=ts.foldl dA []
theorem Ap(ts:Q05)(t:Tp):iJ (ts++[t])=iB (iJ ts) t:=by simp[iJ]
theorem xS(ts:Q05)(t:Tp):fo (ts++[t])=dA (fo ts) t:=by simp[fo]
theorem oo(xs:Q0a)(o:Al):(eT xs o).length<=xs.length+1:=by
 unfold eT;split
 ·omega
 simp
theorem qO(xs:Q0a)(t:Tp):(iB xs t).length<=xs.length+2:=by
 unfold iB;have h1:=oo (eT xs ⟨t.a,t.b⟩) ⟨t.c,t.d⟩;have h2:=oo xs ⟨t.a,t.b⟩;omega
theorem qP(xs:Q0a)(t:Tp):(dA xs t).length<=xs.length+1:=by
 unfold dA;split
 ·exact oo _ _
 omega
def L6(t:Tp):K3:=(t.a,t.b,t.r)
def dF(ts:Q05):List (K3×Tp):=ts.map fun t=>(L6 t,t)
theorem Jc(ts:Q05)(t:Tp):dF (ts++[t])=dF ts++[(L6 t,t)]:=by simp[dF]
structure DatT(w:World)(D br bp:Nat)(tab:Value)(n1:Int)(E:List (K3×Tp))(xo xu:Q0a)(np:Nat)(Mp:K3->Option Value)(vo vu:Value):Prop where
 gt:bp<D
 lt:D<w.heap.size
 kind:∃cur,w.heap[D]?=some (.cells cur 126 (0,0))
 c0:w.cell? ⟨D,0,none⟩=some tab
 c1:w.cell? ⟨D,1,none⟩=some (.int .i64 n1)
 c2:w.cell? ⟨D,2,none⟩=some (.map (some br))
 c3:w.cell? ⟨D,3,none⟩=some (.map (some bp))
 c4:w.cell? ⟨D,4,none⟩=some vo
 c5:w.cell? ⟨D,5,none⟩=some vu
 told:G.Grp qz prog 226 29 6 Tp.row w bp np Mp E
 objs:w.ownsRow (bp+1) 27 2 vo xo.length (pairs xo)
 users:w.ownsRow (bp+1) 27 2 vu xu.length (pairs xu)
 apart:∀g,vo.ownBlock=some g->vu.ownBlock≠some g
theorem d9{w:ae}{base size n g:Nat}{e e':TypeId}{v:Value}{xs:Q03}{cur:Array Value}(h:w.ownsRow base e size v n xs)(hg:v.ownBlock=some g)(hc:w.heap[g]?=some (.cells cur e' (0,0))):e=e':=by
 rcases h.2 with⟨rfl,-⟩|⟨g',cap,cur',rfl,-,hg',-⟩
 ·simp[Value.ownBlock]at hg
 have e1:g'=g:=by simpa[Value.ownBlock] using hg
 rw[e1,hc]at hg';injection hg' with hg';injection hg' with _ h2;exact h2.symm
theorem Eu{w:ae}{base size n g:Nat}{e:TypeId}{v:Value}{xs:Q03}{es:Array MapEntry}{c:Nat}(h:w.ownsRow base e size v n xs)(hg:v.ownBlock=some g)(hc:w.heap[g]?=some (.map es c)):False:=by
 rcases h.2 with⟨rfl,-⟩|⟨g',cap,cur',rfl,-,hg',-⟩
 ·simp[Value.ownBlock]at hg
 have e1:g'=g:=by simpa[Value.ownBlock] using hg
 rw[e1,hc]at hg';cases hg'
theorem dG{w w':ae}{base size n:Nat}{e:TypeId}{v:Value}{xs:Q03}(h:w.ownsRow base e size v n xs)(hb:∀g,v.ownBlock=some g->w'.heap[g]?=w.heap[g]?):w'.ownsRow base e size v n xs:=by
 refine⟨h.1,?_⟩;rcases h.2 with h0|⟨g,cap,cur,rfl,h1,h2,h3⟩
 ·exact .inl h0
 exact .inr ⟨g,cap,cur,rfl,h1,(hb g rfl).trans h2,h3⟩
theorem jF{w:ae}{base size n g:Nat}{e:TypeId}{v:Value}{xs:Q03}(h:w.ownsRow base e size v n xs)(hg:v.ownBlock=some g):∃cur,w.heap[g]?=some (.cells cur e (0,0)):=by
 rcases h.2 with⟨rfl,-⟩|⟨g',cap,cur',rfl,-,hg',-⟩
 ·simp[Value.ownBlock]at hg
 have e1:g'=g:=by simpa[Value.ownBlock] using hg
 exact⟨cur',by rw[<-e1];exact hg'⟩
theorem vg{w:ae}{bp np:Nat}{Mp:K3->Option Value}{E:List (K3×Tp)}(h:G.Grp qz prog 226 29 6 Tp.row w bp np Mp E){k:K3}{v:Value}(hk:Mp k=some v):∃n xs,w.ownsRow (bp+1) 29 6 v n xs:=by
 rcases h.row k with⟨e,-⟩|⟨v',e,ho⟩
 ·rw[e]at hk;cases hk
 rw[e]at hk;injection hk with hk;subst hk;exact⟨_,_,ho⟩
theorem Gh{w:ae}{bp np g:Nat}{Mp:K3->Option Value}{E:List (K3×Tp)}{e:TypeId}{cur:Array Value}(h:G.Grp qz prog 226 29 6 Tp.row w bp np Mp E)(hc:w.heap[g]?=some (.cells cur e (0,0)))(hne:(29:TypeId)≠e):G.FreeB Mp g:=fun k v hk hg=>by
 obtain⟨n,xs,ho⟩:=vg h hk;exact hne (d9 ho hg hc)
theorem vk{w w':ae}{bp np:Nat}{Mp:K3->Option Value}{E:List (K3×Tp)}(h:G.Grp qz prog 226 29 6 Tp.row w bp np Mp E)(hm:w'.heap[bp]?=w.heap[bp]?)(hr:∀k v g,Mp k=some v->v.ownBlock=some g->w'.heap[g]?=w.heap[g]?):G.Grp qz prog 226 29 6 Tp.row w' bp np Mp E where
 map:=h.map.of_block hm
 row k:=by
  rcases h.row k with e|⟨v,e,ho⟩
  ·exact .inl e
  exact .inr ⟨v,e,dG ho fun g hg=>hr k v g e hg⟩
 apart:=h.apart
section
variable  {w w':World}{D br bp:Nat}{tab:Value}{n1:Int}{E:List (K3×Tp)}{xo xu:Q0a}{np:Nat}{Mp:K3->Option Value}{vo vu:Value}
theorem DatT.below(h:DatT w D br bp tab n1 E xo xu np Mp vo vu)(hb:af w w'):DatT w' D br bp tab n1 E xo xu np Mp vo vu where
 gt:=h.gt
 lt:=Vy h.lt hb.size
 kind:=by obtain⟨cur,e⟩:=h.kind;exact⟨cur,(hb.block D h.lt).trans e⟩
 c0:=(hb.cell (p:=⟨D,0,none⟩) h.lt).trans h.c0
 c1:=(hb.cell (p:=⟨D,1,none⟩) h.lt).trans h.c1
 c2:=(hb.cell (p:=⟨D,2,none⟩) h.lt).trans h.c2
 c3:=(hb.cell (p:=⟨D,3,none⟩) h.lt).trans h.c3
 c4:=(hb.cell (p:=⟨D,4,none⟩) h.lt).trans h.c4
 c5:=(hb.cell (p:=⟨D,5,none⟩) h.lt).trans h.c5
 told:=h.told.below hb
 objs:=aJ h.objs hb
 users:=aJ h.users hb
 apart:=h.apart
theorem DatT.tell(h:DatT w D br bp tab n1 E xo xu np Mp vo vu){Mp':K3->Option Value}{E':List (K3×Tp)}{np':Nat}(hg:G.Grp qz prog 226 29 6 Tp.row w' bp np' Mp' E')(hs:G.Stl w Mp w' Mp' bp):DatT w' D br bp tab n1 E' xo xu np' Mp' vo vu:=by
 have hD:w'.heap[D]?=w.heap[D]?:=by
  obtain⟨cur,e⟩:=h.kind;exact hs.block D h.lt (by have:=h.gt;omega) (Gh h.told e (by decide))
 have hc:∀o,w'.cell? ⟨D,o,none⟩=w.cell? ⟨D,o,none⟩:=fun o=>VR (w:=w) (a:=⟨D,o,none⟩) hD;have hO:∀{v:Value} {n:Nat} {xs:Q03},w.ownsRow (bp+1) 27 2 v n xs->w'.ownsRow (bp+1) 27 2 v n xs:=fun {v n xs} ho=>dG ho fun g hg=>by
  obtain⟨cur,e⟩:=jF ho hg;have:=ho.lt g hg;exact hs.block g this.2 (by omega) (Gh h.told e (by decide))
 exact⟨h.gt,Vy h.lt hs.size,by obtain⟨cur,e⟩:=h.kind;exact⟨cur,hD.trans e⟩,(hc _).trans h.c0,(hc _).trans h.c1,(hc _).trans h.c2,(hc _).trans h.c3,(hc _).trans h.c4,(hc _).trans h.c5,hg,hO h.objs,hO h.users,h.apart⟩
theorem DatT.newO(h:DatT w D br bp tab n1 E xo xu np Mp vo vu){ZL:Value}{xo':Q0a}(ho:w'.ownsRow (bp+1) 27 2 ZL xo'.length (pairs xo'))(ha:Aside w vo w' ZL):DatT (w'.setCell ⟨D,4,none⟩ ZL) D br bp tab n1 E xo' xu np Mp ZL vu:=by
 obtain⟨cur,hk⟩:=h.kind;have hDo:vo.ownBlock≠some D:=fun e=>absurd (d9 h.objs e hk) (by decide);have hD:w'.heap[D]?=w.heap[D]?:=ha.block D h.lt hDo;have hc:∀o,w'.cell? ⟨D,o,none⟩=w.cell? ⟨D,o,none⟩:=fun o=>VR (w:=w) (a:=⟨D,o,none⟩) hD;have hc2:∀o,o≠4->(w'.setCell ⟨D,4,none⟩ ZL).cell? ⟨D,o,none⟩=w.cell? ⟨D,o,none⟩:=fun o ne=>(kU (by omega)).trans (hc o);have hDn:ZL.ownBlock≠some D:=ha.apart h.lt hDo;have hne:∀g,g≠D->(w'.setCell ⟨D,4,none⟩ ZL).heap[g]?=w'.heap[g]?:=fun g e=>heap_setCell_other w' ⟨D,4,none⟩ g ZL e;have hbp:bp<w.heap.size:=by have:=h.gt;have:=h.lt;omega
 have hrow:∀k v g,Mp k=some v->v.ownBlock=some g->(w'.setCell ⟨D,4,none⟩ ZL).heap[g]?=w.heap[g]?:=fun k v g hm hg=>by
  obtain⟨n,xs,hr⟩:=vg h.told hm;obtain⟨cr,er⟩:=jF hr hg;rw[hne g (fun e=>absurd (d9 hr (e ▸ hg) hk) (by decide))];exact ha.block g (hr.lt g hg).2 (fun e=>absurd (d9 h.objs e er) (by decide))
 refine⟨h.gt,by simpa using Vy h.lt ha.size,⟨_,heap_setCell_same w' D 4 cur _ ZL (hD.trans hk)⟩,(hc2 0 (by omega)).trans h.c0,(hc2 1 (by omega)).trans h.c1,(hc2 2 (by omega)).trans h.c2,(hc2 3 (by omega)).trans h.c3,LF ((hc 4).trans h.c4),(hc2 5 (by omega)).trans h.c5,vk h.told ?_ hrow,dG ho fun g hg=>hne g fun e=>hDn (e ▸ hg),dG h.users fun g hg=>?_,fun g hg hu=>?_⟩
 ·rw[hne bp (by have:=h.gt;omega)];exact ha.block bp hbp fun e=>by have:=(h.objs.lt bp e).1;omega
 ·rw[hne g (fun e=>absurd (d9 h.users (e ▸ hg) hk) (by decide))];exact ha.block g (h.users.lt g hg).2 fun e=>h.apart g e hg
 rcases ha.own with e|⟨g',e,hg'⟩
 ·exact h.apart g (e ▸ hg) hu
 rw[hg]at e;injection e with e;have:=(h.users.lt g hu).2;omega
theorem DatT.newU(h:DatT w D br bp tab n1 E xo xu np Mp vo vu){ZM:Value}{xu':Q0a}(ho:w'.ownsRow (bp+1) 27 2 ZM xu'.length (pairs xu'))(ha:Aside w vu w' ZM):DatT (w'.setCell ⟨D,5,none⟩ ZM) D br bp tab n1 E xo xu' np Mp vo ZM:=by
 obtain⟨cur,hk⟩:=h.kind;have hDo:vu.ownBlock≠some D:=fun e=>absurd (d9 h.users e hk) (by decide);have hD:w'.heap[D]?=w.heap[D]?:=ha.block D h.lt hDo;have hc:∀o,w'.cell? ⟨D,o,none⟩=w.cell? ⟨D,o,none⟩:=fun o=>VR (w:=w) (a:=⟨D,o,none⟩) hD;have hc2:∀o,o≠5->(w'.setCell ⟨D,5,none⟩ ZM).cell? ⟨D,o,none⟩=w.cell? ⟨D,o,none⟩:=fun o ne=>(kU (by omega)).trans (hc o);have hDn:ZM.ownBlock≠some D:=ha.apart h.lt hDo;have hne:∀g,g≠D->(w'.setCell ⟨D,5,none⟩ ZM).heap[g]?=w'.heap[g]?:=fun g e=>heap_setCell_other w' ⟨D,5,none⟩ g ZM e;have hbp:bp<w.heap.size:=by have:=h.gt;have:=h.lt;omega
 have hrow:∀k v g,Mp k=some v->v.ownBlock=some g->(w'.setCell ⟨D,5,none⟩ ZM).heap[g]?=w.heap[g]?:=fun k v g hm hg=>by
  obtain⟨n,xs,hr⟩:=vg h.told hm;obtain⟨cr,er⟩:=jF hr hg;rw[hne g (fun e=>absurd (d9 hr (e ▸ hg) hk) (by decide))];exact ha.block g (hr.lt g hg).2 (fun e=>absurd (d9 h.users e er) (by decide))
 refine⟨h.gt,by simpa using Vy h.lt ha.size,⟨_,heap_setCell_same w' D 5 cur _ ZM (hD.trans hk)⟩,(hc2 0 (by omega)).trans h.c0,(hc2 1 (by omega)).trans h.c1,(hc2 2 (by omega)).trans h.c2,(hc2 3 (by omega)).trans h.c3,(hc2 4 (by omega)).trans h.c4,LF ((hc 5).trans h.c5),vk h.told ?_ hrow,dG h.objs fun g hg=>?_,dG ho fun g hg=>hne g fun e=>hDn (e ▸ hg),fun g hg hu=>?_⟩
 ·rw[hne bp (by have:=h.gt;omega)];exact ha.block bp hbp fun e=>by have:=(h.users.lt bp e).1;omega
 ·rw[hne g (fun e=>absurd (d9 h.objs (e ▸ hg) hk) (by decide))];exact ha.block g (h.objs.lt g hg).2 fun e=>h.apart g hg e
 rcases ha.own with e|⟨g',e,hg'⟩
 ·exact h.apart g hg (e ▸ hu)
 rw[hu]at e;injection e with e;have:=(h.objs.lt g hg).2;omega
end
def KP(es:Q09):Prop:=∀(i:Nat) (h:i<es.length),∀x∈es[i].kids,0<=x/\x<(i:Int)
theorem Jd{es:Q09}(h:aP es=true):KP es:=by
 intro i hi x hx;unfold aP at h;simp only[VF,VM]at h;have h1:=h.1.1.2;unfold jc at h1;rw[VN]at h1;have h2:=h1 i (by simpa using hi);unfold kN lY at h2;rw[VO hi]at h2;simp only[Option.map_some,Wn,VN,VF,VM]at h2;have:=h2 x hx;omega
structure Fc where
 a:ByteArray
 b:ByteArray
 r:ByteArray
 c:ByteArray
 d:ByteArray
abbrev Q04:=List Fc
def Fc.u(f:Fc):ByteArray×ByteArray:=(f.c,f.d)
def wR(x y:Fc):Bool:=x.a.toList==y.a.toList&&x.b.toList==y.b.toList&&x.r.toList==y.r.toList&&x.c.toList==y.c.toList&&x.d.toList==y.d.toList
theorem vv{x y:Fc}:wR x y=true↔x=y:=by
 constructor
 ·intro h;unfold wR at h;simp only[VF,beq_iff_eq]at h;obtain⟨⟨⟨⟨h1,h2⟩,h3⟩,h4⟩,h5⟩:=h;cases x;cases y;simp only at h1 h2 h3 h4 h5;rw[wM h1,wM h2,wM h3,wM h4,wM h5]
 rintro rfl;unfold wR;simp
def bR(out:Q04)(f:Fc):Bool:=out.any fun g=>wR g f
theorem iX{out:Q04}{f:Fc}:bR out f=true↔f∈out:=by
 unfold bR;rw[WG];constructor
 ·rintro⟨g,hg,h⟩;rw[<-vv.1 h];exact hg
 intro h;exact⟨f,h,vv.2 rfl⟩
def Gi(u:Q01)(x y:Q04):Prop:=∀g:Fc,g.u=u->(g∈x↔g∈y)
theorem wS{x y:Q04}{f:Fc}(h:Gi f.u x y):bR x f=bR y f:=by
 rw[VV,iX,iX];exact h f rfl
def fE(l:Q05)(known:Q04)(f:Fc):Bool:=l.any fun t=>(t.a.toList==f.a.toList&&t.b.toList==f.b.toList&&t.r.toList==f.r.toList)&&(if t.s.toList.isEmpty then t.c.toList==f.c.toList&&t.d.toList==f.d.toList else bR known ⟨t.c,t.d,t.s,f.c,f.d⟩)
def gJ(l:Q05)(known:Q04)(over name:ByteArray)(f:Fc):Bool:=l.any fun t=>(t.a.toList==f.a.toList&&t.b.toList==f.b.toList&&t.r.toList==over.toList)&&bR known ⟨t.c,t.d,name,f.c,f.d⟩
def jG(l:Q05)(es:Q09)(truth:Q04)(f:Fc):Nat->List Fc->Nat->Bool
 | 0,_,_=>false
 | k+1,known,n=>match es[n]? with
  | none=>false
  | some x =>
   if x.kind=1 then fE l known f
   else if x.kind=2 then bR known ⟨f.a,f.b,x.name,f.c,f.d⟩
   else if x.kind=3 then gJ l known x.over x.name f
   else if x.kind=4 then x.kids.any fun i=>jG l es truth f k known i.toNat
   else if x.kind=5 then x.kids.all fun i=>jG l es truth f k known i.toNat
   else if x.kind=6 then jG l es truth f k known (x.kids.getD 0 0).toNat && !jG l es truth f k truth (x.kids.getD 1 0).toNat
   else false
theorem Je{l:Q05}{x y:Q04}{f:Fc}(h:Gi f.u x y):fE l x f=fE l y f:=by
 unfold fE;congr 1
 funext t
 rw[wS (x:=x) (y:=y) (f:=⟨t.c,t.d,t.s,f.c,f.d⟩) h]
theorem Jf{l:Q05}{x y:Q04}{ov nm:ByteArray}{f:Fc}(h:Gi f.u x y):gJ l x ov nm f=gJ l y ov nm f:=by
 unfold gJ;congr 1
 funext t
 rw[wS (x:=x) (y:=y) (f:=⟨t.c,t.d,nm,f.c,f.d⟩) h]
theorem uk{l:Q05}{es:Q09}{f:Fc}{t1 t2:Q04}(ht:Gi f.u t1 t2):∀(k:Nat) (x y:Q04) (n:Nat),Gi f.u x y->jG l es t1 f k x n=jG l es t2 f k y n
 | 0,_,_,_,_=>rfl
 | k+1,x,y,n,h=>by
  unfold jG;cases es[n]? with
  | none=>rfl
  | some e =>
   simp only[Je h,wS (x:=x) (y:=y) (f:=⟨f.a,f.b,e.name,f.c,f.d⟩) h,Jf h,uk ht k x y _ h,uk ht k t1 t2 _ ht]
def iY(ts:Q0b)(l:Q05)(out:Q04)(f:Fc):Bool:=jG l (aK ts f.a f.r) out f (aK ts f.a f.r).length out ((aK ts f.a f.r).length-1)
theorem CX(ts:Q0b)(l:Q05):Loc Fc.u (iY ts l):=fun x y f h=>uk h _ x y _ h
def Ev(ts:Q0b)(st:Q00)(n:Int)(o:Al):List (ByteArray×ByteArray):=(av ts).filter fun k=>k.1.toList==o.t.toList&&decide (st k=n)
def jY(o:Al)(rel:ByteArray)(xu:Q0a):List Fc:=xu.map fun u=>⟨o.t,o.s,rel,u.t,u.s⟩
def yF(ts:Q0b)(st:Q00)(xu:Q0a)(n:Int)(o:Al):List Fc:=(Ev ts st n o).flatMap fun k=>jY o k.2 xu
def dw(ts:Q0b)(st:Q00)(xo xu:Q0a)(n:Int):List Fc:=xo.flatMap (yF ts st xu n)
theorem Jg{ts:Q0b}{st:Q00}{xo xu:Q0a}{n:Int}{f:Fc}(h:f∈dw ts st xo xu n):f.u∈xu.map fun u=>(u.t,u.s):=by
 unfold dw yF jY at h;obtain⟨o,-,h⟩:=VZ.1 h;obtain⟨k,-,h⟩:=VZ.1 h;obtain⟨u,hu,rfl⟩:=VQ.1 h;exact VQ.2 ⟨u,hu,rfl⟩
theorem Gj(ts:Q0b)(st:Q00)(xo xu:Q0a)(n:Int)(p:ByteArray×ByteArray->Bool):(dw ts st xo xu n).filter (fun f=>p f.u)=dw ts st xo (xu.filter fun u=>p (u.t,u.s)) n:=by
 unfold dw yF jY;rw[List.filter_flatMap];congr 1
 funext o
 rw[List.filter_flatMap];congr 1
 funext k
 rw[List.filter_map];rfl
theorem Jh{ts:Q0b}{st:Q00}{xo xu:Q0a}{n:Int}(h:∀k∈av ts,st k≠n):dw ts st xo xu n=[]:=by
 have:∀o,Ev ts st n o=[]:=fun o=>by
  unfold Ev;rw[List.filter_eq_nil_iff];intro k hk;simp[h k hk]
 unfold dw yF;simp[this]
section
variable  [DecidableEq Fc]
def mW(ts:Q0b)(l:Q05)(st:Q00)(xo xu:Q0a)(N:Nat):List Fc:=(List.range N).foldl (fun out (n:Nat)=>oW (iY ts l) (dw ts st xo xu (n:Int)) out) []
theorem jZ(ts:Q0b)(l:Q05)(st:Q00)(xo xu:Q0a)(N:Nat):mW ts l st xo xu (N+1)=oW (iY ts l) (dw ts st xo xu (N:Int)) (mW ts l st xo xu N):=by
 unfold mW;rw[List.range_succ,List.foldl_append];rfl
theorem L8{ts:Q0b}{l:Q05}{st:Q00}{xo xu:Q0a}{N:Nat}(h:∀k∈av ts,st k<(N:Int)):∀M,N<=M->mW ts l st xo xu M=mW ts l st xo xu N:=by
 intro M hM;obtain⟨d,rfl⟩:∃d,M=N+d:=⟨M-N,by omega⟩
 induction d with
 | zero=>rfl
 | succ d ih =>
  rw[Nat.add_succ,jZ,ih (by omega),Jh fun k hk=>by have:=h k hk;omega];exact Oh _
theorem CY(ts:Q0b)(l:Q05)(st:Q00)(xo xu:Q0a):∀N,(mW ts l st xo xu N).Nodup
 | 0=>List.nodup_nil
 | N+1=>by rw[jZ];exact Lr _ (CY ts l st xo xu N)
end
def yG(w:World)(b off:Nat)(t:Fc):Prop :=
 w.cell? ⟨b,off,none⟩=some (.string t.a)/\w.cell? ⟨b,off+1,none⟩=some (.string t.b)/\w.cell? ⟨b,off+2,none⟩=some (.string t.r)/\w.cell? ⟨b,off+3,none⟩=some (.string t.c)/\w.cell? ⟨b,off+4,none⟩=some (.string t.d)
def Vs(w:World)(b off:Nat)(ts:Q04):Prop:=∀(i:Nat) (h:i<ts.length),yG w b (off+i*5) ts[i]
def BU(w:World)(ad:Q02)(ts:Q04):Prop:=ts=[] \/ ∃b off,ad=some ⟨b,off,none⟩/\b<w.heap.size/\Vs w b off ts
theorem yG.same{w w':ae}{b off:Nat}{t:Fc}(h:yG w b off t)(hc:∀o,w'.cell? ⟨b,o,none⟩=w.cell? ⟨b,o,none⟩):yG w' b off t:=by
 obtain⟨h0,h1,h2,h3,h4⟩:=h;exact⟨(hc _).trans h0,(hc _).trans h1,(hc _).trans h2,(hc _).trans h3,(hc _).trans h4⟩
theorem BU.below{w w':ae}{ad:Q02}{ts:Q04}(h:BU w ad ts)(hB:af w w'):BU w' ad ts:=by
 rcases h with h|⟨b,off,e,hb,hr⟩
 ·exact .inl h
 exact .inr ⟨b,off,e,Vy hb hB.size,fun i hi=>(hr i hi).same fun o=>hB.cell (p:=⟨b,o,none⟩) hb⟩
def Fc.row(t:Fc):List Value:=[.string t.a,.string t.b,.string t.r,.string t.c,.string t.d]
theorem Ew(x y:Fc){v:Bool}(h:wR x y=v)(w:ae):
  (binOp .eql 43 (.agg #[.string x.a,.string x.b,.string x.r,.string x.c,.string x.d]) (.agg #[.string y.a,.string y.b,.string y.r,.string y.c,.string y.d])).run prog w=.ok (.bool v) w:=by
 subst h;go_simp;unfold wR
 (repeat' split)<;>simp_all
theorem CZ{ts:Q04}{k:Nat}(h:k<ts.length){t:Fc}:bR (ts.drop k) t=(wR ts[k] t || bR (ts.drop (k+1)) t):=by
 unfold bR;rw[V5 h];rfl
def fF(fs:Q04):List Value:=fs.flatMap Fc.row
theorem wT:∀fs:List Fc,(fF fs).length=fs.length*5
 | []=>rfl
 | f::fs=>by have:=wT fs;simp only[fF,Wi,VI,We,Fc.row,WH]at this ⊢;omega
theorem Aq(fs:Q04)(f:Fc):fF (fs++[f])=fF fs++f.row:=by simp[fF]
theorem vw:∀(fs:Q04) (i:Nat) (h:i<fs.length) (c:Nat),c<5->(fF fs)[i*5+c]?=fs[i].row[c]?
 | [],i,h,_,_=>by simp at h
 | f::fs,0,_,c,hc=>by
  simp only[fF,Wi,Nat.zero_mul,V4,List.getElem_cons_zero];rw[Wx (by simp[Fc.row];omega)]
 | f::fs,i+1,h,c,hc=>by
  have ih:=vw fs i (by simpa using h) c hc;simp only[fF,Wi,List.getElem_cons_succ]at ih ⊢;rw[Wu (by simp[Fc.row];omega)];have:(i+1)*5+c-f.row.length=i*5+c:=by simp[Fc.row];omega
  rw[this];exact ih
theorem sQ{w:ae}{base:Nat}{v:Value}{fs:Q04}(h:w.ownsRow base 43 5 v fs.length (fF fs)):∃ad cap,v=.slice ad fs.length cap/\BU w ad fs:=by
 rcases h.2 with⟨rfl,h0⟩|⟨g,cap,cur,rfl,hbg,hg,hnc,-⟩
 ·exact⟨none,0,by rw[h0],.inl (VS.1 h0)⟩
 refine⟨_,cap,rfl,.inr ⟨g,0,rfl,(h.lt g rfl).2,fun i hi=>?_⟩⟩;have hl:=wT fs;have hc:∀c,c<5->w.cell? ⟨g,0+i*5+c,none⟩=fs[i].row[c]?:=fun c hc=>by
  rw[h.cellAt (0+i*5+c) (by omega),V4];exact vw fs i hi c hc
 exact⟨hc 0 (by omega),hc 1 (by omega),hc 2 (by omega),hc 3 (by omega),hc 4 (by omega)⟩
theorem KQ:∃i,prog.info? 43=some i/\i.zero=some (.agg #[.string ⟨#[]⟩,.string ⟨#[]⟩,.string ⟨#[]⟩,.string ⟨#[]⟩,.string ⟨#[]⟩])/\i.size=5/\i.bytes=80 :=
 info_parts (P:=prog) (e:=43) (z:=.agg #[.string ⟨#[]⟩,.string ⟨#[]⟩,.string ⟨#[]⟩,.string ⟨#[]⟩,.string ⟨#[]⟩]) (size:=5) (bytes:=80) (by kernel_rfl)
theorem SS(w:ae)(f:Fc):∀j u,f.row[j]?=some u->(w.alloc (.cells #[.string f.a,.string f.b,.string f.r,.string f.c,.string f.d] 43)).cell? ((⟨w.heap.size,0,none⟩:Addr).add j)=some u:=fun j u hu=>by
 match j,hu with
 | 0,hu=>simp[Fc.row]at hu;subst hu;simp[Addr.add]
 | 1,hu=>simp[Fc.row]at hu;subst hu;simp[Addr.add]
 | 2,hu=>simp[Fc.row]at hu;subst hu;simp[Addr.add]
 | 3,hu=>simp[Fc.row]at hu;subst hu;simp[Addr.add]
 | 4,hu=>simp[Fc.row]at hu;subst hu;simp[Addr.add]
structure OutI(w W wr:World)(v:Value)(out:Q04):Prop where
 row:wr.ownsRow w.heap.size 43 5 v out.length (fF out)
 keep:∀g o x,W.cell? ⟨g,o,none⟩=some x->wr.cell? ⟨g,o,none⟩=some x
 size:W.heap.size<=wr.heap.size
 bel:af w wr
 free:∀g,v.ownBlock=some g->∀o,W.cell? ⟨g,o,none⟩=none
theorem aM{w:ae}{g o:Nat}{x:Value}(h:w.cell? ⟨g,o,none⟩=some x):g<w.heap.size:=by
 unfold World.cell? at h;cases ho:w.heap[g]? with
 | none=>simp[ho]at h
 | some o=>exact(VH.1 ho).1
theorem Rq{w:ae}{g o:Nat}(h:w.heap.size<=g):w.cell? ⟨g,o,none⟩=none:=by
 cases e:w.cell? ⟨g,o,none⟩ with
 | none=>rfl
 | some x=>have:=aM e;omega
theorem OutI.below{w W wr w':ae}{v:Value}{out:Q04}(h:OutI w W wr v out)(hb:af wr w'):OutI w W w' v out where
 row:=aJ h.row hb
 keep g o x hx:=(hb.cell (p:=⟨g,o,none⟩) (aM (h.keep g o x hx))).trans (h.keep g o x hx)
 size:=VJ h.size hb.size
 bel:=h.bel.trans (hb.mono h.bel.size)
 free:=h.free
theorem OutI.app{w W wr w':ae}{v v':Value}{out:Q04}{f:Fc}(h:OutI w W wr v out)(hown:w'.ownsRow w.heap.size 43 5 v' (out.length+1) (fF out++f.row))(hgr:wr.grownBy w' v.ownBlock)(hat:v'.ownBlock=v.ownBlock\/v'.ownBlock=some wr.heap.size):OutI w W w' v' (out++[f]) where
 row:=by rw[Aq,VI];exact hown
 keep g o x hx:=by
  have h1:=h.keep g o x hx;refine(VR (w:=wr) (a:=⟨g,o,none⟩) (hgr.block g (aM h1) fun e=>?_)).trans h1;rw[h.free g e.symm o]at hx;cases hx
 size:=VJ h.size hgr.size
 bel:=h.bel.grown hgr h.bel.size (fun g hg=>(h.row.lt g hg).1)
 free g hg o:=by
  rcases hat with e|e
  ·rw[e]at hg;exact h.free g hg o
  rw[hg]at e;injection e with e;rw[e];exact Rq h.size
theorem ll.keepC{w w':ae}{ad:Q02}{xs:Q0a}(h:ll w ad xs)(hs:w.heap.size<=w'.heap.size)(hk:∀g o x,w.cell? ⟨g,o,none⟩=some x->w'.cell? ⟨g,o,none⟩=some x):ll w' ad xs:=by
 rcases h with h|⟨b,off,e,hb,hr⟩
 ·exact .inl h
 exact .inr ⟨b,off,e,Vy hb hs,fun i hi=>⟨hk _ _ _ (hr i hi).1,hk _ _ _ (hr i hi).2⟩⟩
theorem IU.keepC{w w':ae}{ad:Q02}{xs:List St}(h:IU w ad xs)(hs:w.heap.size<=w'.heap.size)(hk:∀g o x,w.cell? ⟨g,o,none⟩=some x->w'.cell? ⟨g,o,none⟩=some x):IU w' ad xs:=by
 rcases h with h|⟨b,off,e,hb,hr⟩
 ·exact .inl h
 exact .inr ⟨b,off,e,Vy hb hs,fun i hi=>⟨hk _ _ _ (hr i hi).1,hk _ _ _ (hr i hi).2.1,hk _ _ _ (hr i hi).2.2⟩⟩
theorem IU.at0{w:ae}{ad:Q02}{xs:List St}(h:IU w ad xs){k:Nat}(hk:k<xs.length):∃b off,ad=some ⟨b,off,none⟩/\UD w b (off+k*3) xs[k]/\b<w.heap.size:=by
 rcases h with h|⟨b',off',e,hb,hr⟩
 ·rw[h]at hk;simp at hk
 exact⟨b',off',e,hr k hk,hb⟩
def TP:Value->Nat
 | .slice _ n _=>n
 | _=>0
def Vn:Value->Nat
 | .bool true=>1
 | _=>0
set_option maxRecDepth 8000 in
theorem oq(ad:Q02)(cap:Nat)(ts:Q04)(t:Fc)(w:ae)(hlen:ts.length<=1048576)(hs:BU w ad ts):
  Calls prog 72 #[.slice ad ts.length cap,.agg #[.string t.a,.string t.b,.string t.r,.string t.c,.string t.d]] w fun e w'=>e=.returned (.bool (bR ts t))/\af w w':=by
 have HS:=aC hs;clear hs;obtain⟨W0,hW0⟩:∃W0,W0=w.alloc (.cells #[.string t.a,.string t.b,.string t.r,.string t.c,.string t.d] 43):=⟨_,rfl⟩;have HB0:=oQ hW0;have HX0:Hid (W0.cell? ⟨w.heap.size,0,none⟩=some (.string t.a)/\W0.cell? ⟨w.heap.size,1,none⟩=some (.string t.b)/\W0.cell? ⟨w.heap.size,2,none⟩=some (.string t.r)/\W0.cell? ⟨w.heap.size,3,none⟩=some (.string t.c)/\W0.cell? ⟨w.heap.size,4,none⟩=some (.string t.d)/\w.heap.size<W0.heap.size):=by show _/\_;rw[hW0];refine⟨?_,?_,?_,?_,?_,?_⟩<;>simp
 go_enter func72,ntmps72;go_wp2;rw[<-hW0];clear hW0;go_loopw[5] (fun i wr=>∃k:Nat,k<=ts.length/\i=.int .i64 k/\Hid (bR (ts.drop k) t=bR ts t)/\Hid (af W0 wr)) (fun i _=>ts.length-(intOf i).toNat);case atStart=>exact⟨0,VG _,rfl,rfl,VD _ _⟩
 obtain⟨k,hk,rfl,HP,HB⟩:=hrel;have WZ:Hid (af w wr):=HB0.out.trans (HB.out.mono HB0.out.size);by_cases hlt:k<ts.length
 ·rcases HS.out.below WZ.out with hnil|⟨b,off,rfl,hb,hr⟩
  ·rw[hnil]at hlt;simp at hlt
  obtain⟨t0,t1,t2,t3,t4⟩:=hr k hlt;have x0:=mK HB.out HX0.out.2.2.2.2.2 HX0.out.1;have x1:=mK HB.out HX0.out.2.2.2.2.2 HX0.out.2.1;have x2:=mK HB.out HX0.out.2.2.2.2.2 HX0.out.2.2.1;have x3:=mK HB.out HX0.out.2.2.2.2.2 HX0.out.2.2.2.1;have x4:=mK HB.out HX0.out.2.2.2.2.2 HX0.out.2.2.2.2.1;have hk1:=bq k;have hk2:(k:Int)<(ts.length:Int):=by omega
  have HD:Hid (bR ts t=(wR ts[k] t || bR (ts.drop (k+1)) t)):=by show _=_;rw[<-HP.out];exact CZ hlt
  clear hr;cases hq:wR ts[k] t;case true=>
   have heq:=Ew ts[k] t hq;have HN:Hid (bR ts t=true):=by show _=_;rw[HD.out,hq];rfl
   clear hq;go_wp2_with fail;go_region_held3 (fun w'=>w'.cell? ⟨b,off+k*5,none⟩=some (.string ts[k].a)/\w'.cell? ⟨b,off+k*5+1,none⟩=some (.string ts[k].b)/\w'.cell? ⟨b,off+k*5+2,none⟩=some (.string ts[k].r)/\w'.cell? ⟨b,off+k*5+3,none⟩=some (.string ts[k].c)/\w'.cell? ⟨b,off+k*5+4,none⟩=some (.string ts[k].d)/\w'.cell? ⟨w.heap.size,0,none⟩=some (.string t.a)/\w'.cell? ⟨w.heap.size,1,none⟩=some (.string t.b)/\w'.cell? ⟨w.heap.size,2,none⟩=some (.string t.r)/\w'.cell? ⟨w.heap.size,3,none⟩=some (.string t.c)/\w'.cell? ⟨w.heap.size,4,none⟩=some (.string t.d)/\af wr w') (first|assumption|exact⟨t0,t1,t2,t3,t4,x0,x1,x2,x3,x4,(VD _ _).drew⟩) (fail);rename_i hH;have HG:Hid (af wr _):=hH.2.2.2.2.2.2.2.2.2.2;clear hH t0 t1 t2 t3 t4 x0 x1 x2 x3 x4 heq;go_wp2;go_ret;exact⟨by rw[HN.out];rfl,WZ.out.trans (HG.out.mono WZ.out.size)⟩
  have heq:=Ew ts[k] t hq;have Xa:Hid (bR (ts.drop (k+1)) t=bR ts t):=by show _=_;rw[HD.out,hq];rfl
  clear hq;go_wp2_with fail;go_region_held3 (fun w'=>w'.cell? ⟨b,off+k*5,none⟩=some (.string ts[k].a)/\w'.cell? ⟨b,off+k*5+1,none⟩=some (.string ts[k].b)/\w'.cell? ⟨b,off+k*5+2,none⟩=some (.string ts[k].r)/\w'.cell? ⟨b,off+k*5+3,none⟩=some (.string ts[k].c)/\w'.cell? ⟨b,off+k*5+4,none⟩=some (.string ts[k].d)/\w'.cell? ⟨w.heap.size,0,none⟩=some (.string t.a)/\w'.cell? ⟨w.heap.size,1,none⟩=some (.string t.b)/\w'.cell? ⟨w.heap.size,2,none⟩=some (.string t.r)/\w'.cell? ⟨w.heap.size,3,none⟩=some (.string t.c)/\w'.cell? ⟨w.heap.size,4,none⟩=some (.string t.d)/\af wr w') (first|assumption|exact⟨t0,t1,t2,t3,t4,x0,x1,x2,x3,x4,(VD _ _).drew⟩) (fail);rename_i hH;have HG:Hid (af W0 _):=HB.out.trans (hH.2.2.2.2.2.2.2.2.2.2.mono HB.out.size);clear hH t0 t1 t2 t3 t4 x0 x1 x2 x3 x4 heq;go_wp2;go_roundw;case rel=>exact⟨k+1,by omega,by go_num,Xa,HG⟩
  simp[intOf]<;>omega
 have HN:Hid (bR ts t=false):=by show _=_;rw[<-HP.out,VW (by omega)];rfl
 go_wp2;go_ret;exact⟨by rw[HN.out];rfl,WZ.out⟩
theorem aD{p:Prop}(h:p):Hid p:=h
structure HW(w:World)(YE:Q02)(ts:Q05)(WW:Q02)(rows:Q08)(adK:Q02)(known:Q04)(YF:Q02)(truth:Q04):Prop where
 tup:Sl w YE ts
 ex:jq w WW rows
 kn:BU w adK known
 tr:BU w YF truth
theorem HW.below{w w':ae}{YE:Q02}{ts:Q05}{WW:Q02}{rows:Q08}{adK:Q02}{known:Q04}{YF:Q02}{truth:Q04}(h:HW w YE ts WW rows adK known YF truth)(hB:af w w'):HW w' YE ts WW rows adK known YF truth :=
 ⟨h.tup.below hB,h.ex.below hB,h.kn.below hB,h.tr.below hB⟩
def Ar(a b c d:ByteArray):Bool:=a.toList==c.toList&&b.toList==d.toList
theorem jH(a b c d:bW){v:Bool}(h:Ar a b c d=v)(w:ae):
  (binOp .eql 27 (.agg #[.string a,.string b]) (.agg #[.string c,.string d])).run prog w=.ok (.bool v) w:=by
 subst h;go_simp;unfold Ar
 (repeat' split)<;>simp_all
theorem Gl(a b c d:bW){v:Bool}(h:Ar a b c d=v)(w:ae):
  (binOp .neq 27 (.agg #[.string a,.string b]) (.agg #[.string c,.string d])).run prog w=.ok (.bool (!v)) w:=by
 subst h;go_simp;unfold Ar
 (repeat' split)<;>simp_all
theorem jq.at0{w:ae}{ad:Q02}{rs:Q08}(h:jq w ad rs){k:Nat}(hk:k<rs.length):∃b off,ad=some ⟨b,off,none⟩/\yx w b (off+k*5) rs[k]/\b<w.heap.size/\rs[k].ok w:=by
 rcases h with h|⟨b',off',e,hb,hr,hok⟩
 ·rw[h]at hk;simp at hk
 exact⟨b',off',e,hr k hk,hb,hok _ (Vz hk)⟩
theorem Sl.at0{w:ae}{ad:Q02}{ts:Q05}(h:Sl w ad ts){k:Nat}(hk:k<ts.length):∃b off,ad=some ⟨b,off,none⟩/\SK w b (off+k*6) ts[k]/\b<w.heap.size:=by
 rcases h with h|⟨b',off',e,hb,hr⟩
 ·rw[h]at hk;simp at hk
 exact⟨b',off',e,hr k hk,hb⟩
theorem wB.at0{w:ae}{ad:Q02}{zs:List Int}(h:wB w ad zs){k:Nat}(hk:k<zs.length):∃b off,ad=some ⟨b,off,none⟩/\w.cell? ⟨b,off+k,none⟩=some (.int .i64 zs[k])/\b<w.heap.size:=by
 rcases h with h|⟨b',off',e,hb,hr⟩
 ·rw[h]at hk;simp at hk
 exact⟨b',off',e,hr k hk,hb⟩
def Gm(w:World)(f:Fc)(x:ER):World:=(w.alloc (.cells #[.string f.a,.string f.b,.string f.r,.string f.c,.string f.d] 43)).alloc (.cells #[.int .i64 x.e.kind,.slice x.adA x.e.allow.length x.capA,.string x.e.over,.string x.e.name,.slice x.adK x.e.kids.length x.capK] 188)
theorem j3(w:ae)(f:Fc)(x:ER):af w (Gm w f x):=by
 unfold Gm;exact((VD _ _).alloc (VC _) _).alloc (by simp) _
structure EnB(w:World)(B:Nat)(f:Fc)(x:ER):Prop where
 lt:B+1<w.heap.size
 f0:w.cell? ⟨B,0,none⟩=some (.string f.a)
 f1:w.cell? ⟨B,1,none⟩=some (.string f.b)
 f2:w.cell? ⟨B,2,none⟩=some (.string f.r)
 f3:w.cell? ⟨B,3,none⟩=some (.string f.c)
 f4:w.cell? ⟨B,4,none⟩=some (.string f.d)
 x0:w.cell? ⟨B+1,0,none⟩=some (.int .i64 x.e.kind)
 x1:w.cell? ⟨B+1,1,none⟩=some (.slice x.adA x.e.allow.length x.capA)
 x2:w.cell? ⟨B+1,2,none⟩=some (.string x.e.over)
 x3:w.cell? ⟨B+1,3,none⟩=some (.string x.e.name)
 x4:w.cell? ⟨B+1,4,none⟩=some (.slice x.adK x.e.kids.length x.capK)
theorem EnB.below{w w':ae}{B:Nat}{f:Fc}{x:ER}(h:EnB w B f x)(hB:af w w'):EnB w' B f x:=by
 have h0:B<w.heap.size:=by have:=h.lt;omega
 have c0:∀o,w'.cell? ⟨B,o,none⟩=w.cell? ⟨B,o,none⟩:=fun o=>hB.cell (p:=⟨B,o,none⟩) h0;have c1:∀o,w'.cell? ⟨B+1,o,none⟩=w.cell? ⟨B+1,o,none⟩:=fun o=>hB.cell (p:=⟨B+1,o,none⟩) h.lt;exact⟨Vy h.lt hB.size,(c0 _).trans h.f0,(c0 _).trans h.f1,(c0 _).trans h.f2,(c0 _).trans h.f3,(c0 _).trans h.f4,(c1 _).trans h.x0,(c1 _).trans h.x1,(c1 _).trans h.x2,(c1 _).trans h.x3,(c1 _).trans h.x4⟩
theorem ow(w:ae)(f:Fc)(x:ER):EnB (Gm w f x) w.heap.size f x:=by
 unfold Gm;constructor<;>simp
def Au(known:Q04)(f:Fc)(t:Tp):Bool:=(t.a.toList==f.a.toList&&t.b.toList==f.b.toList&&t.r.toList==f.r.toList)&&(if t.s.toList.isEmpty then t.c.toList==f.c.toList&&t.d.toList==f.d.toList else bR known ⟨t.c,t.d,t.s,f.c,f.d⟩)
theorem Ji{ts:Q05}{k:Nat}(h:k<ts.length)(known:Q04)(f:Fc):fE (ts.drop k) known f=(Au known f ts[k] || fE (ts.drop (k+1)) known f):=by
 unfold fE;rw[V5 h];rfl
def C8(known:Q04)(over name:ByteArray)(f:Fc)(t:Tp):Bool:=(t.a.toList==f.a.toList&&t.b.toList==f.b.toList&&t.r.toList==over.toList)&&bR known ⟨t.c,t.d,name,f.c,f.d⟩
theorem Jj{ts:Q05}{k:Nat}(h:k<ts.length)(known:Q04)(over name:bW)(f:Fc):gJ (ts.drop k) known over name f=(C8 known over name f ts[k] || gJ (ts.drop (k+1)) known over name f):=by
 unfold gJ;rw[V5 h];rfl
theorem rV{s:ByteArray}:(s.toList==[])=s.toList.isEmpty:=by cases s.toList<;>rfl
end Go.Proofs.YtcgdckphpjfmhaaGreatDoor
