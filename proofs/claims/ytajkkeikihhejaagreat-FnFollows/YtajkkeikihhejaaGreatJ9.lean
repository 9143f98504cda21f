/- Strata in memory, and the contract of the document's function that looks one up. -/
import Derived.Test.YtajkkeikihhejaaGreatSq
import Derived.Test.YtajkkeikihhejaaGreatSpecSchema5
import Derived.Deep.AppendLies
open Go.Proofs.Tryz
set_option maxHeartbeats 80000000
namespace Go.Proofs.YtajkkeikihhejaaGreat
open ChangeShapes WideShapes ChangeAt RowKit
open Pl
structure St where
 typ:ByteArray
 rel:ByteArray
 n:Int
def Ud(w:World)(b off:Nat)(s:St):Prop:=w.cell? ⟨b,off,none⟩=some (.string s.typ)/\w.cell? ⟨b,off+1,none⟩=some (.string s.rel)/\w.cell? ⟨b,off+2,none⟩=some (.int .i64 s.n)
def I5(w:World)(ad:Q02)(xs:List St):Prop:=xs=[] \/ ∃b off,ad=some ⟨b,off,none⟩/\b<w.heap.size/\∀(i:Nat) (h:i<xs.length),Ud w b (off+i*3) xs[i]
theorem I5.below{w w':af}{ad:Q02}{xs:List St}(h:I5 w ad xs)(hB:ae w w'):I5 w' ad xs:=by
 rcases h with h|⟨b,off,e,hb,hr⟩
 ·exact .inl h
 refine .inr ⟨b,off,e,UT hb hB.size,fun i hi=>?_⟩;obtain⟨h0,h1,h2⟩:=hr i hi;exact⟨aH hB hb h0,aH hB hb h1,aH hB hb h2⟩
def Ac(s:St)(typ rel:ByteArray):Bool:=(s.typ.toList==typ.toList)&&(s.rel.toList==rel.toList)
def ib(typ rel:ByteArray):List St->Nat->Int
 | [],_=>-1
 | s::xs,k=>if Ac s typ rel then (k:Int) else ib typ rel xs (k+1)
theorem qC(typ rel:bQ)(xs:List St)(k:Nat)(h:k<xs.length):ib typ rel (xs.drop k) k=if Ac xs[k] typ rel then (k:Int) else ib typ rel (xs.drop (k+1)) (k+1):=by
 rw[Vl h];rfl
theorem OL(ad:Q02)(cap:Nat)(xs:List St)(typ rel:bQ)(w:af)(hlen:xs.length<=1048576)(hs:I5 w ad xs):
  Calls prog 140 #[.slice ad xs.length cap,.string typ,.string rel] w fun e w'=>e=.returned (.int .i64 (ib typ rel xs 0))/\w'=w:=by
 go_enter func140,ntmps140;go_wp2;go_loopw[7] (fun i wr=>∃k:Nat,k<=xs.length/\i=.int .i64 k/\Hid (ib typ rel (xs.drop k) k=ib typ rel xs 0)/\wr=w) (fun i _=>xs.length-(intOf i).toNat);case atStart=>exact⟨0,UY _,rfl,rfl,rfl⟩
 obtain⟨k,hk,rfl,HP,rfl⟩:=hrel;by_cases hlt:k<xs.length
 ·rcases hs with rfl|⟨b,off,rfl,hb,hr⟩
  ·simp at hlt
  obtain⟨t0,t1,t2⟩:=hr k hlt;have hk1:=bG k;have hk2:(k:Int)<(xs.length:Int):=by omega
  clear hr;cases hq:(xs[k].typ.toList==typ.toList);case true=>
   cases hp:(xs[k].rel.toList==rel.toList);case true=>
    have HN:Hid (ib typ rel xs 0=(k:Int)):=by show _=_;rw[<-HP.out,qC _ _ _ _ hlt];simp[Ac,hq,hp]
    go_wp2;go_ret;exact⟨by rw[HN.out];rfl,rfl⟩
   have Wj:Hid (ib typ rel (xs.drop (k+1)) (k+1)=ib typ rel xs 0):=by show _=_;rw[<-HP.out,qC _ _ _ _ hlt];simp[Ac,hq,hp]
   go_wp2;go_roundw;case rel=>exact⟨k+1,by omega,by go_num,Wj,by first|rfl|trivial⟩
   simp[intOf]<;>omega
  have Wj:Hid (ib typ rel (xs.drop (k+1)) (k+1)=ib typ rel xs 0):=by show _=_;rw[<-HP.out,qC _ _ _ _ hlt];simp[Ac,hq]
  go_wp2;go_roundw;case rel=>exact⟨k+1,by omega,by go_num,Wj,by first|rfl|trivial⟩
  simp[intOf]<;>omega
 have HN:Hid (ib typ rel xs 0=-1):=by show _=_;rw[<-HP.out,Vf (by omega)];rfl
 go_wp2;go_ret;exact⟨by rw[HN.out];rfl,rfl⟩
structure Dp where
 typ:ByteArray
 rel:ByteArray
 neg:Bool
def Dp.cells(d:Dp):List Value:=[.string d.typ,.string d.rel,.bool d.neg]
def eH:List Dp->List Value
 | []=>[]
 | d::ds=>d.cells++eH ds
theorem EF(xs ys:List Dp):eH (xs++ys)=eH xs++eH ys:=by
 induction xs with
 | nil=>rfl
 | cons d ds ih=>simp[eH,ih]
theorem tZ(xs:List Dp)(d:Dp):eH (xs++[d])=eH xs++d.cells:=by rw[EF];simp[eH]
def dz(neg:Bool):List Al->List Dp
 | []=>[]
 | a::xs=>if a.s.toList.isEmpty then dz neg xs else ⟨a.t,a.s,neg⟩::dz neg xs
def kZ(ts:Q0b)(typ:ByteArray)(neg:Bool)(e:Ex):List Dp :=
 if e.kind=2 then [⟨typ,e.name,neg⟩] else if e.kind=3 then (iw ts typ e.over e.name).map fun g=>⟨g,e.name,neg⟩ else []
def iy(ts:Q0b)(typ:ByteArray)(es:Q09)(k:Nat):List Dp :=
 match es[k]? with
 | none=>[]
 | some e=>dz ((dD es).getD k false) e.allow++kZ ts typ ((dD es).getD k false) e
def aR(ts:Q0b)(typ:ByteArray)(es:Q09):Nat->List Dp
 | 0=>[]
 | k+1=>aR ts typ es k++iy ts typ es k
def pV(ts:Q0b)(typ:ByteArray)(es:Q09):List Dp:=aR ts typ es es.length
theorem ve(neg:Bool)(xs ys:Q0a):dz neg (xs++ys)=dz neg xs++dz neg ys:=by
 induction xs with
 | nil=>rfl
 | cons a xs ih=>simp only[VC,dz,ih];split<;>simp
theorem OM(neg:Bool)(xs:Q0a)(k:Nat)(h:k<xs.length)(he:xs[k].s.toList.isEmpty=true):dz neg (xs.take (k+1))=dz neg (xs.take k):=by
 rw[UX h,ve];simp[dz]at he ⊢;simp[he]
theorem LX(neg:Bool)(xs:Q0a)(k:Nat)(h:k<xs.length)(he:xs[k].s.toList.isEmpty=false):dz neg (xs.take (k+1))=dz neg (xs.take k)++[⟨xs[k].t,xs[k].s,neg⟩]:=by
 rw[UX h,ve];simp[dz,he]
theorem Da(neg:Bool)(xs:Q0a):(dz neg xs).length<=xs.length:=by
 induction xs with
 | nil=>simp[dz]
 | cons a xs ih=>simp only[dz];split<;>simp<;>omega
theorem OO:(prog.info? 220).map (fun i=>(i.zero,i.size,i.bytes))=some (some (.agg #[.string ⟨#[]⟩,.string ⟨#[]⟩,.bool false]),3,40):=by kernel_rfl
theorem gG{a b:ByteArray}(h:a.toList=b.toList):a=b:=by
 rw[Go.ByteArray.toList_eq,Go.ByteArray.toList_eq]at h;cases a with|mk x=>cases b with|mk y =>
 congr;exact Array.ext' h
theorem fE{a b:ByteArray}:(a.toList==b.toList)=true↔a=b:=⟨fun h=>gG (by simpa using h),fun h=>by simp[h]⟩
def jL(t:Ty):List (ByteArray×ByteArray):=t.rels.map fun r=>(t.name,r.name)
def au(ts:Q0b):List (ByteArray×ByteArray):=ts.flatMap jL
def stepOf(d:Dp):Int:=if d.neg then 1 else 0
def iB(ts:Q0b)(k:Q01):List Dp:=pV ts k.1 (aB ts k.1 k.2)
structure Sol(ts:Q0b)(f:Q00):Prop where
 pos:∀k,0<=f k
 up:∀k∈au ts,∀d∈iB ts k,f (d.typ,d.rel)+stepOf d<=f k
def Found(ts:Q0b):Prop:=∀k∈au ts,∀d∈iB ts k,(d.typ,d.rel)∈au ts
theorem x9(vs:List Int)(x y:Int)(h:x<=y):vs.countP (fun v=>decide (v<x))<=vs.countP (fun v=>decide (v<y)) :=
 List.countP_mono_left fun v _ hv=>by simp at hv⊢;omega
theorem LY(vs:List Int)(x y:Int)(h:x+1<=y)(hx:x∈vs):vs.countP (fun v=>decide (v<x))+1<=vs.countP (fun v=>decide (v<y)):=by
 induction vs with
 | nil=>cases hx
 | cons v vs ih =>
  simp only[List.countP_cons];rcases U9.1 hx with rfl|hm
  ·have:=x9 vs x y (by omega);have h1:decide (x<x)=false:=by simp
   have h2:decide (x<y)=true:=by simp;omega
   simp only[h1,h2];simp;omega
  have:=ih hm;by_cases h1:v<x
  ·have h2:v<y:=by omega
   simp[h1,h2];omega
  simp only[h1];simp;omega
theorem I6(vs:List Int)(x:Int)(hx:x∈vs):vs.countP (fun v=>decide (v<x))+1<=vs.length:=by
 induction vs with
 | nil=>cases hx
 | cons v vs ih =>
  simp only[List.countP_cons,Vq];rcases U9.1 hx with rfl|hm
  ·have:=List.countP_le_length (p:=fun v=>decide (v<x)) (l:=vs);have h1:decide (x<x)=false:=by simp
   simp only[h1];simp;omega
  have:=ih hm;split<;>omega
theorem Sol.few{ts:Q0b}{f:Q00}(h:Sol ts f)(hF:Found ts):∃g,Sol ts g/\∀k∈au ts,g k+1<=(au ts).length:=by
 refine⟨fun k=>((((au ts).map f).countP (fun v=>decide (v<f k)):Nat):Int),⟨fun k=>by omega,fun k hk d hd=>?_⟩,fun k hk=>?_⟩
 ·have h1:=h.up k hk d hd;have h2:f (d.typ,d.rel)∈(au ts).map f:=Vp (hF k hk d hd);unfold stepOf at h1⊢;split at h1
  ·rename_i hn;have:=LY ((au ts).map f) _ _ h1 h2;simp only[hn,if_true];omega
  rename_i hn;have:=x9 ((au ts).map f) _ _ (show f (d.typ,d.rel)<=f k by omega);have e0:(if d.neg=true then (1:Int) else 0)=0:=if_neg hn;rw[e0];omega
 have:=I6 ((au ts).map f) (f k) (Vp hk);simp at this⊢;omega
def qD(ts:Q0b)(k:Q01)(n:Int):Prop:=∀f,Sol ts f->n<=f k
theorem I7{ts:Q0b}(hF:Found ts){k:Q01}(hk:k∈au ts){n:Int}(hl:qD ts k n)(hn:((au ts).length:Int)<=n):¬ ∃f,Sol ts f:=by
 rintro⟨f,hf⟩;obtain⟨g,hg,hb⟩:=hf.few hF;have:=hl g hg;have:=hb k hk;omega
theorem qD.step{ts:Q0b}{k:Q01}(hk:k∈au ts){d:Dp}(hd:d∈iB ts k){n:Int}(hl:qD ts (d.typ,d.rel) n):qD ts k (n+stepOf d):=fun f hf=>by
 have h1:=hl f hf;have h2:=hf.up k hk d hd;omega
theorem qD.zero(ts:Q0b)(k:Q01):qD ts k 0:=fun _ hf=>hf.pos k
structure Least(ts:Q0b)(f:Q00):Prop where
 sol:Sol ts f
 low:∀k∈au ts,qD ts k (f k)
theorem Least.same{ts:Q0b}{f g:Q00}(hf:Least ts f)(hg:Least ts g)(k:Q01)(hk:k∈au ts):f k=g k:=by
 have h1:=hf.low k hk g hg.sol;have h2:=hg.low k hk f hf.sol;omega
def St.key(s:St):ByteArray×ByteArray:=(s.typ,s.rel)
def iM(out:List St):List (ByteArray×ByteArray):=out.map St.key
theorem qE{s:St}{k:Q01}:Ac s k.1 k.2=true↔s.key=k:=by
 unfold Ac St.key;rw[UW,fE,fE];constructor
 ·rintro⟨h1,h2⟩;rw[h1,h2]
 rintro rfl;exact⟨rfl,rfl⟩
def fQ(out:List St)(k:Q01):Int :=
 match out with
 | []=>0
 | s::xs=>if Ac s k.1 k.2 then s.n else fQ xs k
theorem oP{k:Q01}:∀(out:List St) (j:Nat),k∈iM out->∃i:Nat,∃h:i<out.length,ib k.1 k.2 out j=((j+i:Nat):Int)/\out[i].key=k/\out[i].n=fQ out k
 | [],_,h=>by cases h
 | s::xs,j,h=>by
  by_cases hs:Ac s k.1 k.2=true
  ·exact⟨0,by simp,by simp[ib,hs],qE.1 hs,by simp[fQ,hs]⟩
  have hm:k∈iM xs:=by
   rcases U9.1 h with e|hm
   ·exact absurd (qE.2 e.symm) hs
   exact hm
  obtain⟨i,hi,h1,h2,h3⟩:=oP xs (j+1) hm;refine⟨i+1,by simp;omega,?_,by simpa using h2,by simpa[fQ,hs] using h3⟩;simp only[ib,hs];simp only[Bool.false_eq_true,if_false];rw[h1];congr 1;omega
theorem Db{k:Q01}(out:List St)(h:k∈iM out):∃s∈out,s.key=k/\s.n=fQ out k:=by
 obtain⟨i,hi,-,h2,h3⟩:=oP out 0 h;exact⟨out[i],UR hi,h2,h3⟩
theorem OP{k:Q01}(out:List St)(h:k ∉ iM out):fQ out k=0:=by
 induction out with
 | nil=>rfl
 | cons s xs ih =>
  have h1:¬Ac s k.1 k.2=true:=fun e=>h (by rw[qE]at e;simp[iM,e]);simp only[fQ,h1];simp only[Bool.false_eq_true,if_false];exact ih fun hm=>h (by simp only[iM,VX,U9];exact .inr hm)
def mJ:List St->Int
 | []=>0
 | s::xs=>s.n+mJ xs
theorem OQ(out:List St)(i:Nat)(h:i<out.length)(n:Int):mJ (out.set i ⟨out[i].typ,out[i].rel,n⟩)=mJ out-out[i].n+n:=by
 induction out generalizing i with
 | nil=>simp at h
 | cons s xs ih =>
  cases i with
  | zero=>simp[mJ];omega
  | succ i=>simp only[List.set_cons_succ,mJ,List.getElem_cons_succ];rw[ih i (by simpa using h)];omega
theorem LZ(out:List St)(i:Nat)(h:i<out.length)(n:Int):iM (out.set i ⟨out[i].typ,out[i].rel,n⟩)=iM out:=by
 unfold iM;rw[List.map_set];show(List.map St.key out).set i (out[i].key)=_;have:out[i].key=(List.map St.key out)[i]'(by simpa using h):=by simp
 rw[this,List.set_getElem_self]
structure Round(ts:Q0b)(out:List St):Prop where
 keys:iM out=au ts
 pos:∀s∈out,0<=s.n
 low:∀s∈out,qD ts s.key s.n
def Q8(ts:Q0b)(out:List St)(s:St)(k:Nat):Prop:=∀d∈(iB ts s.key).take k,fQ out (d.typ,d.rel)+stepOf d<=s.n
theorem Round.mem{ts:Q0b}{out:List St}(h:Round ts out){s:St}(hs:s∈out):s.key∈au ts:=by rw[<-h.keys];exact Vp hs
theorem Round.at{ts:Q0b}{out:List St}(h:Round ts out){k:Q01}(hk:k∈au ts):0<=fQ out k/\qD ts k (fQ out k):=by
 obtain⟨s,hs,e,en⟩:=Db out (by rw[h.keys];exact hk);rw[<-en,<-e];exact⟨h.pos s hs,h.low s hs⟩
theorem Round.set{ts:Q0b}{out:List St}(h:Round ts out)(hF:Found ts){i:Nat}(hi:i<out.length){d:Dp}(hd:d∈iB ts out[i].key):Round ts (out.set i ⟨out[i].typ,out[i].rel,fQ out (d.typ,d.rel)+stepOf d⟩):=by
 have hk:out[i].key∈au ts:=h.mem (UR hi);have hdk:=hF _ hk d hd;obtain⟨h0,hl⟩:=h.at hdk;have hs0:0<=stepOf d:=by unfold stepOf;split<;>omega
 refine⟨(LZ out i hi _).trans h.keys,fun s hs=>?_,fun s hs=>?_⟩
 ·rcases List.mem_or_eq_of_mem_set hs with hs|rfl
  ·exact h.pos s hs
  show 0<=fQ out (d.typ,d.rel)+stepOf d;omega
 rcases List.mem_or_eq_of_mem_set hs with hs|rfl
 ·exact h.low s hs
 exact hl.step hk hd
theorem Round.done{ts:Q0b}{out:List St}(h:Round ts out)(hs:∀s∈out,Q8 ts out s (iB ts s.key).length):Least ts (fQ out) where
 sol:=⟨fun k=>by
   by_cases hk:k∈au ts
   ·exact(h.at hk).1
   ·rw[OP out (by rw[h.keys];exact hk)];exact Int.le_refl _,fun k hk d hd=>by
   obtain⟨s,hm,e,en⟩:=Db out (by rw[h.keys];exact hk);have:=hs s hm d (by rw[Va,e];exact hd);rw[<-en];exact this⟩
 low k hk:=(h.at hk).2
def jm(a b:ByteArray):Bool:=Op.bytesLess a.toList b.toList
def mg(rs:List Rl)(j:Nat):Bool :=
 match rs[j]? with
 | none=>true
 | some r=>aT r.name&&(match j with|0=>true|i+1=>(rs[i]?.map fun p=>jm p.name r.name).getD true)&&aL r.expr
def dK(rs:List Rl):Nat->Bool
 | 0=>true
 | k+1=>dK rs k&&mg rs k
def kI(ts:Q0b)(j:Nat):Bool :=
 match ts[j]? with
 | none=>true
 | some t=>aT t.name&&(match j with|0=>true|i+1=>(ts[i]?.map fun p=>jm p.name t.name).getD true)&&decide (t.rels.length<=6)&&dK t.rels t.rels.length
def iW(ts:Q0b):Nat->Bool
 | 0=>true
 | k+1=>iW ts k&&kI ts k
theorem uf(rs:List Rl)(k:Nat)(hb:mg rs k=false):∀n,k<n->dK rs n=false
 | 0,hn=>by omega
 | n+1,hn=>by
  by_cases e:n=k
  ·subst e;simp[dK,hb]
  simp[dK,uf rs k hb n (by omega)]
theorem ug(ts:Q0b)(k:Nat)(hb:kI ts k=false):∀n,k<n->iW ts n=false
 | 0,hn=>by omega
 | n+1,hn=>by
  by_cases e:n=k
  ·subst e;simp[iW,hb]
  simp[iW,ug ts k hb n (by omega)]
theorem oQ{rs:List Rl}:∀{n:Nat},dK rs n=true->∀j,j<n->mg rs j=true
 | 0,_,j,hj=>by omega
 | n+1,h,j,hj=>by
  simp only[dK,UW]at h;by_cases e:j=n
  ·subst e;exact h.2
  exact oQ h.1 j (by omega)
theorem oU{ts:Q0b}:∀{n:Nat},iW ts n=true->∀j,j<n->kI ts j=true
 | 0,_,j,hj=>by omega
 | n+1,h,j,hj=>by
  simp only[iW,UW]at h;by_cases e:j=n
  ·subst e;exact h.2
  exact oU h.1 j (by omega)
def bu(ts:Q0b):Bool:=decide (ts.length<=6)&&iW ts ts.length
def qF(ts:Q0b)(t:Ty):Bool:=t.rels.all fun r=>aW ts t.name r.expr
def iL(ts:Q0b):Bool:=ts.all (qF ts)
def cu(ts:Q0b):Prop:=bu ts=true/\iL ts=true/\∃f,Sol ts f
theorem L6{rs:List Rl}{n:ByteArray}{es:Q09}(h:jT rs n=some es):∃r∈rs,r.name=n/\r.expr=es:=by
 induction rs with
 | nil=>simp[jT]at h
 | cons r rs ih =>
  simp only[jT]at h;split at h
  ·rename_i hn;injection h with h;exact⟨r,by simp,fE.1 hn,h⟩
  obtain⟨q,hq,e⟩:=ih h;exact⟨q,by simp[hq],e⟩
theorem qG{ts:Q0b}{ty n:ByteArray}{es:Q09}(h:eG ts ty n=some es):∃t∈ts,∃r∈t.rels,t.name=ty/\r.name=n/\r.expr=es:=by
 induction ts with
 | nil=>simp[eG]at h
 | cons t ts ih =>
  simp only[eG]at h;split at h
  ·rename_i hn;rcases Option.or_eq_some_iff.1 h with h|⟨-,h⟩
   ·obtain⟨r,hr,e⟩:=L6 h;exact⟨t,by simp,r,hr,fE.1 hn,e⟩
   obtain⟨t',ht,e⟩:=ih h;exact⟨t',by simp[ht],e⟩
  obtain⟨t',ht,e⟩:=ih h;exact⟨t',by simp[ht],e⟩
theorem qH{ts:Q0b}{k:Q01}:k∈au ts ↔ ∃t∈ts,∃r∈t.rels,k=(t.name,r.name):=by
 simp only[au,jL,U8,U7];constructor
 ·rintro⟨t,ht,r,hr,e⟩;exact⟨t,ht,r,hr,e.symm⟩
 rintro⟨t,ht,r,hr,e⟩;exact⟨t,ht,r,hr,e.symm⟩
theorem rJ{ts:Q0b}{ty n:ByteArray}(h:(aB ts ty n).isEmpty=false):(ty,n)∈au ts:=by
 unfold aB at h;cases e:eG ts ty n with
 | none=>rw[e]at h;simp at h
 | some es =>
  obtain⟨t,ht,r,hr,h1,h2,-⟩:=qG e;exact qH.2 ⟨t,ht,r,hr,by rw[h1,h2]⟩
theorem Tm{ts:Q0b}{rel:ByteArray}{xs:Q0a}{g:ByteArray}(h:g∈gl ts rel xs):(aB ts g rel).isEmpty=false:=by
 induction xs with
 | nil=>simp[gl]at h
 | cons a xs ih =>
  simp only[gl]at h;split at h
  ·exact ih h
  rename_i hn;rcases U9.1 h with rfl|h
  ·simpa using hn
  exact ih h
theorem L8{neg:Bool}{xs:Q0a}{d:Dp}(h:d∈dz neg xs):∃a∈xs,a.s.toList.isEmpty=false/\d.typ=a.t/\d.rel=a.s:=by
 induction xs with
 | nil=>simp[dz]at h
 | cons a xs ih =>
  simp only[dz]at h;split at h
  ·obtain⟨b,hb,e⟩:=ih h;exact⟨b,by simp[hb],e⟩
  rename_i hn;rcases U9.1 h with rfl|h
  ·exact⟨a,by simp,by simpa using hn,rfl,rfl⟩
  obtain⟨b,hb,e⟩:=ih h;exact⟨b,by simp[hb],e⟩
theorem uh{ts:Q0b}{typ:ByteArray}{es:Q09}{d:Dp}:∀{k:Nat},d∈aR ts typ es k->∃i,i<k/\d∈iy ts typ es i
 | 0,h=>by simp[aR]at h
 | k+1,h=>by
  simp only[aR]at h;rcases U6.1 h with h|h
  ·obtain⟨i,hi,e⟩:=uh h;exact⟨i,by omega,e⟩
  exact⟨k,by omega,h⟩
theorem Dc{ts:Q0b}{typ:ByteArray}{es:Q09}(h:aW ts typ es=true):∀e∈es,oL ts e.allow=true/\lI ts typ e=true:=by
 induction es with
 | nil=>intro e he;cases he
 | cons e es ih =>
  simp only[aW]at h;split at h
  ·rename_i hn;rw[UW]at hn;intro q hq;rcases U9.1 hq with rfl|hq
   ·exact hn
   exact ih h q hq
  cases h
theorem jM{ts:Q0b}(h:iL ts=true):Found ts:=by
 intro k hk d hd;unfold iB pV at hd;have hne:(aB ts k.1 k.2).length≠0:=by
  intro e;rw[e]at hd;simp[aR]at hd
 obtain⟨es,hes⟩:∃es,eG ts k.1 k.2=some es:=by
  cases e:eG ts k.1 k.2 with
  | none=>unfold aB at hne;rw[e]at hne;simp at hne
  | some es=>exact⟨es,rfl⟩
 have ero:aB ts k.1 k.2=es:=by unfold aB;rw[hes];rfl
 rw[ero]at hd;obtain⟨t,ht,r,hr,h1,h2,h3⟩:=qG hes;have hr1:aW ts k.1 es=true:=by
  unfold iL at h;rw[U5]at h;have:=h t ht;unfold qF at this;rw[U5]at this;have:=this r hr;rw[h1,h3]at this;exact this
 obtain⟨i,hi,hdi⟩:=uh hd;unfold iy at hdi;split at hdi
 ·cases hdi
 rename_i e he;obtain⟨ra,rn⟩:=Dc hr1 e (VQ he);rcases U6.1 hdi with hdi|hdi
 ·obtain⟨a,ha,hs,e1,e2⟩:=L8 hdi;unfold oL at ra;rw[U5]at ra;have:=ra a ha;unfold pU at this;rw[hs,Bool.false_or,UW]at this;rw[e1,e2];exact rJ (by simpa using this.2)
 unfold kZ at hdi;unfold lI at rn;split at hdi
 ·rename_i h2;rw[if_pos h2]at rn;simp at hdi;subst hdi;exact rJ (by simpa using rn)
 split at hdi
 ·obtain⟨g,hg,rfl⟩:=U7.1 hdi;exact rJ (Tm hg)
 cases hdi
theorem nW{es:Q09}(h:aL es=true):1<=es.length/\es.length<=15:=by
 simp only[aL,UW,U3]at h;exact⟨h.1.1.1.1.1,h.1.1.1.1.2⟩
theorem L9{es:Q09}(h:aL es=true)(i:Nat)(hi:i<es.length):fe es.length es[i].kids:=by
 simp only[aL,UW,U3]at h;have h1:=h.1.1.2;unfold jf at h1;rw[U5]at h1;have h2:=h1 i (by simpa using hi);unfold kP dm at h2;rw[U1 hi]at h2;simp only[Option.map_some,Vw,U5,UW,U3]at h2;intro x hx;have:=h2 x hx;omega
theorem bF{rs:Q06}(h:bu (ag rs)=true):rs.length<=6/\(∀r∈rs,r.rows.length<=6)/\∀r∈rs,∀q∈r.rows,aL (ak q.rows)=true/\q.rows.length<=15/\∀e∈q.rows,fe q.rows.length e.e.kids:=by
 simp only[bu,UW,U3]at h;rw[lF]at h;have hT:∀r∈rs,r.rows.length<=6/\dK (eZ r.rows) r.rows.length=true:=by
  intro r hr;obtain⟨j,hj,rfl⟩:=Vx.1 hr;have h1:=oU h.2 j hj;unfold kI at h1;have e:(ag rs)[j]?=some rs[j].p:=by simp[ag,hj]
  rw[e]at h1;simp only[UW,U3]at h1;have e2:rs[j].p.rels.length=rs[j].rows.length:=by simp[TR.p,eZ]
  rw[e2]at h1;exact⟨h1.1.2,h1.2⟩
 refine⟨h.1,fun r hr=>(hT r hr).1,fun r hr q hq=>?_⟩;obtain⟨j,hj,rfl⟩:=Vx.1 hq;have h1:=oQ (hT r hr).2 j hj;unfold mg at h1;have e:(eZ r.rows)[j]?=some r.rows[j].p:=by simp[eZ,hj]
 rw[e]at h1;simp only[UW]at h1;have h2:aL (ak r.rows[j].rows)=true:=h1.2;have h3:=nW h2;rw[aQ]at h3;refine⟨h2,h3.2,fun e he=>?_⟩;obtain⟨i,hi,rfl⟩:=Vx.1 he;have:=L9 h2 i (by rw[aQ];exact hi);have e1:(ak r.rows[j].rows)[i]'(by rw[aQ];exact hi)=r.rows[j].rows[i].e:=by simp[ak]
 rw[e1]at this;simpa[ak] using this
def assigns(n:Nat):List (ByteArray×ByteArray)->List (ByteArray×ByteArray->Int)
 | []=>[fun _=>0]
 | k::ks=>(assigns n ks).flatMap fun f=>(List.range n).map fun v=>fun y=>if y=k then ((v:Nat):Int) else f y
theorem yf{n:Nat}:∀{ks:List (ByteArray×ByteArray)} {f:Q00},f∈assigns n ks->∀k,0<=f k
 | [],f,h,k=>by simp only[assigns,U4]at h;rw[h];exact Int.le_refl _
 | x::ks,f,h,k=>by
  simp only[assigns,U8,U7]at h;obtain⟨g,hg,v,-,rfl⟩:=h;show 0<=(if k=x then ((v:Nat):Int) else g k);split
  ·omega
  exact yf hg k
theorem yg{n:Nat}(g:Q00):∀(ks:List (ByteArray×ByteArray)),(∀k∈ks,0<=g k/\g k<n)->∃f∈assigns n ks,∀k∈ks,f k=g k
 | [],_=>⟨fun _=>0,by simp[assigns],fun k hk=>by cases hk⟩
 | x::ks,h=>by
  obtain⟨f,hf,hfg⟩:=yg g ks fun k hk=>h k (Vv _ hk);obtain⟨h0,h1⟩:=h x (VD ..);refine⟨fun y=>if y=x then (((g x).toNat:Nat):Int) else f y,?_,fun k hk=>?_⟩
  ·simp only[assigns,U8,U7];exact⟨f,hf,(g x).toNat,List.mem_range.2 (by omega),rfl⟩
  show(if k=x then (((g x).toNat:Nat):Int) else f k)=g k;by_cases e:k=x
  ·rw[if_pos e,e];omega
  rw[if_neg e];rcases U9.1 hk with h2|h2
  ·exact absurd h2 e
  exact hfg k h2
def Tn(ts:Q0b)(f:Q00):Bool:=(au ts).all fun k=>(iB ts k).all fun d=>decide (f (d.typ,d.rel)+stepOf d<=f k)
theorem KW{ts:Q0b}{f:Q00}:Tn ts f=true ↔ ∀k∈au ts,∀d∈iB ts k,f (d.typ,d.rel)+stepOf d<=f k:=by
 unfold Tn;simp only[U5,U3]
def Ad(ts:Q0b):List (ByteArray×ByteArray->Int):=(assigns (au ts).length (au ts)).filter (Tn ts)
theorem Ma{ts:Q0b}{f:Q00}(h:f∈Ad ts):Sol ts f:=by
 unfold Ad at h;rw[VM]at h;exact⟨yf h.1,KW.1 h.2⟩
theorem OT{ts:Q0b}{g:Q00}(hF:Found ts)(h:Sol ts g)(hb:∀k∈au ts,g k+1<=(au ts).length):∃f∈Ad ts,∀k∈au ts,f k=g k:=by
 obtain⟨f,hf,hfg⟩:=yg (n:=(au ts).length) g (au ts) fun k hk=>⟨h.pos k,by have:=hb k hk;omega⟩;refine⟨f,?_,hfg⟩;unfold Ad;rw[VM];refine⟨hf,KW.2 fun k hk d hd=>?_⟩;rw[hfg k hk,hfg _ (hF k hk d hd)];exact h.up k hk d hd
def aM(ts:Q0b):Bool:=bu ts&&iL ts && !(Ad ts).isEmpty
theorem bq{ts:Q0b}:aM ts=true↔cu ts:=by
 unfold aM cu;simp only[UW,Bool.not_eq_true'];constructor
 ·rintro⟨⟨h1,h2⟩,h3⟩;refine⟨h1,h2,?_⟩;cases e:Ad ts with
  | nil=>rw[e]at h3;cases h3
  | cons f fs=>exact⟨f,Ma (by rw[e];exact VD ..)⟩
 rintro⟨h1,h2,f,hf⟩;refine⟨⟨h1,h2⟩,?_⟩;obtain⟨g,hg,hb⟩:=hf.few (jM h2);obtain⟨f2,hf2,-⟩:=OT (jM h2) hg hb;cases e:Ad ts with
 | nil=>rw[e]at hf2;cases hf2
 | cons f fs=>rfl
theorem Gh{ts:Q0b}(h:cu ts):aM ts=true:=bq.2 h
theorem eT{ts:Q0b}(h:¬cu ts):aM ts=false:=by
 cases e:aM ts;case false=>rfl
 exact absurd (bq.1 e) h
end Go.Proofs.YtajkkeikihhejaaGreat
