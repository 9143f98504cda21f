/- Strata in memory, and the contract of the document's function that looks one up. -/
import Derived.Test.YteoflgocljfgeaaGreatDoorSpecSchema5
import Derived.Test.YteoflgocljfgeaaGreatDoorJ9
import Derived.Deep.AppendLies
open Go.Proofs.Tryz
set_option maxHeartbeats 80000000
namespace Go.Proofs.YteoflgocljfgeaaGreatDoor
open Go.ChangeShapes Go.WideShapes Go.ChangeAt Go.RowKit
open Pl
structure St where
 typ:ByteArray
 rel:ByteArray
 n:Int
def Nh (w:World) (b off:Nat) (s:St):Prop:=w.cell? ⟨b,off,none⟩=some (.string s.typ)∧w.cell? ⟨b,off + 1,none⟩=some (.string s.rel)∧w.cell? ⟨b,off + 2,none⟩=some (.int .i64 s.n)
def LB (w:World) (ad:Option Addr) (xs:List St):Prop:=xs=[] ∨ ∃ b off,ad=some ⟨b,off,none⟩∧b < w.heap.size∧∀ (i:Nat) (h:i < xs.length),Nh w b (off + i * 3) xs[i]
theorem LB.below {w w':World} {ad:Option Addr} {xs:List St} (h:LB w ad xs) (hB:Below w.heap.size w w'):LB w' ad xs:=by
 rcases h with h | ⟨b,off,e,hb,hr⟩
 ·exact .inl h
 ·refine .inr ⟨b,off,e,Nat.lt_of_lt_of_le hb hB.size,fun i hi=>?_⟩;obtain ⟨h0,h1,h2⟩:=hr i hi;exact ⟨ak hB hb h0,ak hB hb h1,ak hB hb h2⟩
def yA (s:St) (typ rel:ByteArray):Bool:=(s.typ.toList == typ.toList) && (s.rel.toList == rel.toList)
def fB (typ rel:ByteArray):List St→Nat→Int
 | [],_=>-1
 | s::xs,k=>if yA s typ rel then (k:Int) else fB typ rel xs (k + 1)
theorem nM (typ rel:ByteArray) (xs:List St) (k:Nat) (h:k < xs.length):fB typ rel (xs.drop k) k=if yA xs[k] typ rel then (k:Int) else fB typ rel (xs.drop (k + 1)) (k + 1):=by
 rw [List.drop_eq_getElem_cons h]; rfl
theorem IL (ad:Option Addr) (cap:Nat) (xs:List St) (typ rel:ByteArray) (w:World) (hlen:xs.length≤1048576) (hs:LB w ad xs) :
  Calls prog 119 #[.slice ad xs.length cap,.string typ,.string rel] w fun e w'=>e=.returned (.int .i64 (fB typ rel xs 0))∧w'=w:=by
 go_enter func119,ntmps119;go_wp2;go_loopw [7] (fun i wr=>∃ k:Nat,k≤xs.length∧i=.int .i64 k∧Hid (fB typ rel (xs.drop k) k=fB typ rel xs 0)∧wr=w) (fun i _=>xs.length - (intOf i).toNat);case atStart=>exact ⟨0,Nat.zero_le _,rfl,rfl,rfl⟩
 case round =>
  obtain ⟨k,hk,rfl,HP,rfl⟩:=hrel;by_cases hlt:k < xs.length
  ·rcases hs with rfl | ⟨b,off,rfl,hb,hr⟩
   ·simp at hlt
   obtain ⟨t0,t1,t2⟩:=hr k hlt;have hk1:=bR k;have hk2:(k:Int) < (xs.length:Int):=by omega
   clear hr;cases hq:(xs[k].typ.toList == typ.toList) with
   | true =>
    cases hp:(xs[k].rel.toList == rel.toList) with
    | true =>
     have HN:Hid (fB typ rel xs 0=(k:Int)):=by show _=_; rw [← HP.out,nM _ _ _ _ hlt]; simp [yA,hq,hp]
     go_wp2;go_ret;exact ⟨by rw [HN.out]; rfl,rfl⟩
    | false =>
     have HP2:Hid (fB typ rel (xs.drop (k + 1)) (k + 1)=fB typ rel xs 0):=by show _=_; rw [← HP.out,nM _ _ _ _ hlt]; simp [yA,hq,hp]
     go_wp2;go_roundw;case rel=>exact ⟨k + 1,by omega,by go_num,HP2,by first | rfl | trivial⟩
     case measure=>simp [intOf] <;> omega
   | false =>
    have HP2:Hid (fB typ rel (xs.drop (k + 1)) (k + 1)=fB typ rel xs 0):=by show _=_; rw [← HP.out,nM _ _ _ _ hlt]; simp [yA,hq]
    go_wp2;go_roundw;case rel=>exact ⟨k + 1,by omega,by go_num,HP2,by first | rfl | trivial⟩
    case measure=>simp [intOf] <;> omega
  ·have HN:Hid (fB typ rel xs 0=-1):=by show _=_; rw [← HP.out,List.drop_of_length_le (by omega)]; rfl
   go_wp2;go_ret;exact ⟨by rw [HN.out]; rfl,rfl⟩
structure Dp where
 typ:ByteArray
 rel:ByteArray
 neg:Bool
def Dp.cells (d:Dp):List Value:=[.string d.typ,.string d.rel,.bool d.neg]
def dI:List Dp→List Value
 | []=>[]
 | d::ds=>d.cells ++ dI ds
theorem Ai (xs ys:List Dp):dI (xs ++ ys)=dI xs ++ dI ys:=by
 induction xs with
 | nil=>rfl
 | cons d ds ih=>simp [dI,ih]
theorem qx (xs:List Dp) (d:Dp):dI (xs ++ [d])=dI xs ++ d.cells:=by rw [Ai]; simp [dI]
def bM (neg:Bool):List Al→List Dp
 | []=>[]
 | a::xs=>if a.s.toList.isEmpty then bM neg xs else ⟨a.t,a.s,neg⟩::bM neg xs
def lq (ts:List Ty) (typ:ByteArray) (neg:Bool) (e:Ex):List Dp :=
 if e.kind=2 then [⟨typ,e.name,neg⟩] else if e.kind=3 then (fH ts typ e.over e.name).map fun g=>⟨g,e.name,neg⟩ else []
def jD (ts:List Ty) (typ:ByteArray) (es:List Ex) (k:Nat):List Dp :=
 match es[k]? with
 | none=>[]
 | some e=>bM ((dD es).getD k false) e.allow ++ lq ts typ ((dD es).getD k false) e
def aK (ts:List Ty) (typ:ByteArray) (es:List Ex):Nat→List Dp
 | 0=>[]
 | k + 1=>aK ts typ es k ++ jD ts typ es k
def nN (ts:List Ty) (typ:ByteArray) (es:List Ex):List Dp:=aK ts typ es es.length
theorem rA (neg:Bool) (xs ys:List Al):bM neg (xs ++ ys)=bM neg xs ++ bM neg ys:=by
 induction xs with
 | nil=>rfl
 | cons a xs ih=>simp only [List.cons_append,bM,ih]; split <;> simp
theorem IM (neg:Bool) (xs:List Al) (k:Nat) (h:k < xs.length) (he:xs[k].s.toList.isEmpty=true):bM neg (xs.take (k + 1))=bM neg (xs.take k):=by
 rw [List.take_succ_eq_append_getElem h,rA]; simp [bM] at he ⊢; simp [he]
theorem FZ (neg:Bool) (xs:List Al) (k:Nat) (h:k < xs.length) (he:xs[k].s.toList.isEmpty=false):bM neg (xs.take (k + 1))=bM neg (xs.take k) ++ [⟨xs[k].t,xs[k].s,neg⟩]:=by
 rw [List.take_succ_eq_append_getElem h,rA]; simp [bM,he]
theorem za (neg:Bool) (xs:List Al):(bM neg xs).length≤xs.length:=by
 induction xs with
 | nil=>simp [bM]
 | cons a xs ih=>simp only [bM]; split <;> simp <;> omega
theorem IP:(prog.info? 210).map (fun i=>(i.zero,i.size,i.bytes))=some (some (.agg #[.string ⟨#[]⟩,.string ⟨#[]⟩,.bool false]),3,40):=by kernel_rfl
theorem Mg {a b:ByteArray} (h:a.toList=b.toList):a=b:=by
 rw [Go.ByteArray.toList_eq,Go.ByteArray.toList_eq] at h;cases a with | mk x=>cases b with | mk y =>
 congr;exact Array.ext' h
theorem sJ {a b:ByteArray}:(a.toList == b.toList)=true ↔ a=b:=⟨fun h=>Mg (by simpa using h),fun h=>by simp [h]⟩
def zb (t:Ty):List (ByteArray × ByteArray):=t.rels.map fun r=>(t.name,r.name)
def az (ts:List Ty):List (ByteArray × ByteArray):=ts.flatMap zb
def stepOf (d:Dp):Int:=if d.neg then 1 else 0
def fI (ts:List Ty) (k:ByteArray × ByteArray):List Dp:=nN ts k.1 (aN ts k.1 k.2)
structure Sol (ts:List Ty) (f:ByteArray × ByteArray→Int):Prop where
 pos:∀ k,0≤f k
 up:∀ k ∈ az ts,∀ d ∈ fI ts k,f (d.typ,d.rel) + stepOf d≤f k
def Found (ts:List Ty):Prop:=∀ k ∈ az ts,∀ d ∈ fI ts k,(d.typ,d.rel) ∈ az ts
theorem uk (vs:List Int) (x y:Int) (h:x≤y):vs.countP (fun v=>decide (v < x))≤vs.countP (fun v=>decide (v < y)) :=
 List.countP_mono_left fun v _ hv=>by simp at hv ⊢; omega
theorem F3 (vs:List Int) (x y:Int) (h:x + 1≤y) (hx:x ∈ vs):vs.countP (fun v=>decide (v < x)) + 1≤vs.countP (fun v=>decide (v < y)):=by
 induction vs with
 | nil=>cases hx
 | cons v vs ih =>
  simp only [List.countP_cons];rcases List.mem_cons.1 hx with rfl | hm
  ·have:=uk vs x y (by omega);have h1:decide (x < x)=false:=by simp
   have h2:decide (x < y)=true:=by simp; omega
   simp only [h1,h2]; simp; omega
  ·have:=ih hm;by_cases h1:v < x
   ·have h2:v < y:=by omega
    simp [h1,h2]; omega
   ·simp only [h1]; simp; omega
theorem DC (vs:List Int) (x:Int) (hx:x ∈ vs):vs.countP (fun v=>decide (v < x)) + 1≤vs.length:=by
 induction vs with
 | nil=>cases hx
 | cons v vs ih =>
  simp only [List.countP_cons,List.length_cons];rcases List.mem_cons.1 hx with rfl | hm
  ·have:=List.countP_le_length (p:=fun v=>decide (v < x)) (l:=vs);have h1:decide (x < x)=false:=by simp
   simp only [h1]; simp; omega
  ·have:=ih hm;split <;> omega
theorem Sol.few {ts:List Ty} {f:ByteArray × ByteArray→Int} (h:Sol ts f) (hF:Found ts):∃ g,Sol ts g∧∀ k ∈ az ts,g k + 1≤(az ts).length:=by
 refine ⟨fun k=>((((az ts).map f).countP (fun v=>decide (v < f k)):Nat):Int),⟨fun k=>by omega,fun k hk d hd=>?_⟩,fun k hk=>?_⟩
 ·have h1:=h.up k hk d hd;have h2:f (d.typ,d.rel) ∈ (az ts).map f:=List.mem_map_of_mem (hF k hk d hd);unfold stepOf at h1 ⊢;split at h1
  ·rename_i hn;have:=F3 ((az ts).map f) _ _ h1 h2;simp only [hn,if_true]; omega
  ·rename_i hn;have:=uk ((az ts).map f) _ _ (show f (d.typ,d.rel)≤f k by omega);have e0:(if d.neg=true then (1:Int) else 0)=0:=if_neg hn;rw [e0]; omega
 ·have:=DC ((az ts).map f) (f k) (List.mem_map_of_mem hk);simp at this ⊢; omega
def lu (ts:List Ty) (k:ByteArray × ByteArray) (n:Int):Prop:=∀ f,Sol ts f→n≤f k
theorem IQ {ts:List Ty} (hF:Found ts) {k:ByteArray × ByteArray} (hk:k ∈ az ts) {n:Int} (hl:lu ts k n) (hn:((az ts).length:Int)≤n):¬ ∃ f,Sol ts f:=by
 rintro ⟨f,hf⟩;obtain ⟨g,hg,hb⟩:=hf.few hF;have:=hl g hg;have:=hb k hk;omega
theorem lu.step {ts:List Ty} {k:ByteArray × ByteArray} (hk:k ∈ az ts) {d:Dp} (hd:d ∈ fI ts k) {n:Int} (hl:lu ts (d.typ,d.rel) n):lu ts k (n + stepOf d):=fun f hf=>by
 have h1:=hl f hf;have h2:=hf.up k hk d hd;omega
theorem lu.zero (ts:List Ty) (k:ByteArray × ByteArray):lu ts k 0:=fun _ hf=>hf.pos k
structure Least (ts:List Ty) (f:ByteArray × ByteArray→Int):Prop where
 sol:Sol ts f
 low:∀ k ∈ az ts,lu ts k (f k)
theorem Least.same {ts:List Ty} {f g:ByteArray × ByteArray→Int} (hf:Least ts f) (hg:Least ts g) (k:ByteArray × ByteArray) (hk:k ∈ az ts):f k=g k:=by
 have h1:=hf.low k hk g hg.sol;have h2:=hg.low k hk f hf.sol;omega
def St.key (s:St):ByteArray × ByteArray:=(s.typ,s.rel)
def jZ (out:List St):List (ByteArray × ByteArray):=out.map St.key
theorem wI {s:St} {k:ByteArray × ByteArray}:yA s k.1 k.2=true ↔ s.key=k:=by
 unfold yA St.key;rw [Bool.and_eq_true,sJ,sJ];constructor
 ·rintro ⟨h1,h2⟩; rw [h1,h2]
 ·rintro rfl; exact ⟨rfl,rfl⟩
def gu (out:List St) (k:ByteArray × ByteArray):Int :=
 match out with
 | []=>0
 | s::xs=>if yA s k.1 k.2 then s.n else gu xs k
theorem mo {k:ByteArray × ByteArray}:∀ (out:List St) (j:Nat),k ∈ jZ out→∃ i:Nat,∃ h:i < out.length,fB k.1 k.2 out j=((j + i:Nat):Int)∧out[i].key=k∧out[i].n=gu out k
 | [],_,h=>by cases h
 | s::xs,j,h=>by
  by_cases hs:yA s k.1 k.2=true
  ·exact ⟨0,by simp,by simp [fB,hs],wI.1 hs,by simp [gu,hs]⟩
  ·have hm:k ∈ jZ xs:=by
    rcases List.mem_cons.1 h with e | hm
    ·exact absurd (wI.2 e.symm) hs
    ·exact hm
   obtain ⟨i,hi,h1,h2,h3⟩:=mo xs (j + 1) hm;refine ⟨i + 1,by simp; omega,?_,by simpa using h2,by simpa [gu,hs] using h3⟩;simp only [fB,hs];simp only [Bool.false_eq_true,if_false];rw [h1]; congr 1; omega
theorem ze {k:ByteArray × ByteArray} (out:List St) (h:k ∈ jZ out):∃ s ∈ out,s.key=k∧s.n=gu out k:=by
 obtain ⟨i,hi,-,h2,h3⟩:=mo out 0 h;exact ⟨out[i],List.getElem_mem hi,h2,h3⟩
theorem IR {k:ByteArray × ByteArray} (out:List St) (h:k ∉ jZ out):gu out k=0:=by
 induction out with
 | nil=>rfl
 | cons s xs ih =>
  have h1:¬ yA s k.1 k.2=true:=fun e=>h (by rw [wI] at e; simp [jZ,e]);simp only [gu,h1];simp only [Bool.false_eq_true,if_false];exact ih fun hm=>h (by simp only [jZ,List.map_cons,List.mem_cons]; exact .inr hm)
def kE:List St→Int
 | []=>0
 | s::xs=>s.n + kE xs
theorem IU (out:List St) (i:Nat) (h:i < out.length) (n:Int):kE (out.set i ⟨out[i].typ,out[i].rel,n⟩)=kE out - out[i].n + n:=by
 induction out generalizing i with
 | nil=>simp at h
 | cons s xs ih =>
  cases i with
  | zero=>simp [kE]; omega
  | succ i=>simp only [List.set_cons_succ,kE,List.getElem_cons_succ]; rw [ih i (by simpa using h)]; omega
theorem F4 (out:List St) (i:Nat) (h:i < out.length) (n:Int):jZ (out.set i ⟨out[i].typ,out[i].rel,n⟩)=jZ out:=by
 unfold jZ;rw [List.map_set];show (List.map St.key out).set i (out[i].key)=_;have:out[i].key=(List.map St.key out)[i]'(by simpa using h):=by simp
 rw [this,List.set_getElem_self]
structure Round (ts:List Ty) (out:List St):Prop where
 keys:jZ out=az ts
 pos:∀ s ∈ out,0≤s.n
 low:∀ s ∈ out,lu ts s.key s.n
def KN (ts:List Ty) (out:List St) (s:St) (k:Nat):Prop:=∀ d ∈ (fI ts s.key).take k,gu out (d.typ,d.rel) + stepOf d≤s.n
theorem Round.mem {ts:List Ty} {out:List St} (h:Round ts out) {s:St} (hs:s ∈ out):s.key ∈ az ts:=by rw [← h.keys]; exact List.mem_map_of_mem hs
theorem Round.at {ts:List Ty} {out:List St} (h:Round ts out) {k:ByteArray × ByteArray} (hk:k ∈ az ts):0≤gu out k∧lu ts k (gu out k):=by
 obtain ⟨s,hs,e,en⟩:=ze out (by rw [h.keys]; exact hk);rw [← en,← e];exact ⟨h.pos s hs,h.low s hs⟩
theorem Round.set {ts:List Ty} {out:List St} (h:Round ts out) (hF:Found ts) {i:Nat} (hi:i < out.length) {d:Dp} (hd:d ∈ fI ts out[i].key):Round ts (out.set i ⟨out[i].typ,out[i].rel,gu out (d.typ,d.rel) + stepOf d⟩):=by
 have hk:out[i].key ∈ az ts:=h.mem (List.getElem_mem hi);have hdk:=hF _ hk d hd;obtain ⟨h0,hl⟩:=h.at hdk;have hs0:0≤stepOf d:=by unfold stepOf; split <;> omega
 refine ⟨(F4 out i hi _).trans h.keys,fun s hs=>?_,fun s hs=>?_⟩
 ·rcases List.mem_or_eq_of_mem_set hs with hs | rfl
  ·exact h.pos s hs
  ·show 0≤gu out (d.typ,d.rel) + stepOf d; omega
 ·rcases List.mem_or_eq_of_mem_set hs with hs | rfl
  ·exact h.low s hs
  ·exact hl.step hk hd
theorem Round.done {ts:List Ty} {out:List St} (h:Round ts out) (hs:∀ s ∈ out,KN ts out s (fI ts s.key).length):Least ts (gu out) where
 sol:=⟨fun k=>by
   by_cases hk:k ∈ az ts
   ·exact (h.at hk).1
   ·rw [IR out (by rw [h.keys]; exact hk)]; exact Int.le_refl _,fun k hk d hd=>by
   obtain ⟨s,hm,e,en⟩:=ze out (by rw [h.keys]; exact hk);have:=hs s hm d (by rw [List.take_length,e]; exact hd);rw [← en]; exact this⟩
 low k hk:=(h.at hk).2
def fD (a b:ByteArray):Bool:=Op.bytesLess a.toList b.toList
def kI (rs:List Rl) (j:Nat):Bool :=
 match rs[j]? with
 | none=>true
 | some r=>aU r.name && (match j with | 0=>true | i + 1=>(rs[i]?.map fun p=>fD p.name r.name).getD true) && aS r.expr
def dN (rs:List Rl):Nat→Bool
 | 0=>true
 | k + 1=>dN rs k && kI rs k
def jF (ts:List Ty) (j:Nat):Bool :=
 match ts[j]? with
 | none=>true
 | some t=>aU t.name && (match j with | 0=>true | i + 1=>(ts[i]?.map fun p=>fD p.name t.name).getD true) && decide (t.rels.length≤6) && dN t.rels t.rels.length
def iw (ts:List Ty):Nat→Bool
 | 0=>true
 | k + 1=>iw ts k && jF ts k
theorem qy (rs:List Rl) (k:Nat) (hb:kI rs k=false):∀ n,k < n→dN rs n=false
 | 0,hn=>by omega
 | n + 1,hn=>by
  by_cases e:n=k
  ·subst e; simp [dN,hb]
  ·simp [dN,qy rs k hb n (by omega)]
theorem qz (ts:List Ty) (k:Nat) (hb:jF ts k=false):∀ n,k < n→iw ts n=false
 | 0,hn=>by omega
 | n + 1,hn=>by
  by_cases e:n=k
  ·subst e; simp [iw,hb]
  ·simp [iw,qz ts k hb n (by omega)]
theorem qA {rs:List Rl}:∀ {n:Nat},dN rs n=true→∀ j,j < n→kI rs j=true
 | 0,_,j,hj=>by omega
 | n + 1,h,j,hj=>by
  simp only [dN,Bool.and_eq_true] at h;by_cases e:j=n
  ·subst e; exact h.2
  ·exact qA h.1 j (by omega)
theorem qB {ts:List Ty}:∀ {n:Nat},iw ts n=true→∀ j,j < n→jF ts j=true
 | 0,_,j,hj=>by omega
 | n + 1,h,j,hj=>by
  simp only [iw,Bool.and_eq_true] at h;by_cases e:j=n
  ·subst e; exact h.2
  ·exact qB h.1 j (by omega)
def cu (ts:List Ty):Bool:=decide (ts.length≤6) && iw ts ts.length
def nO (ts:List Ty) (t:Ty):Bool:=t.rels.all fun r=>aO ts t.name r.expr
def je (ts:List Ty):Bool:=ts.all (nO ts)
def bC (ts:List Ty):Prop:=cu ts=true∧je ts=true∧∃ f,Sol ts f
theorem F5 {rs:List Rl} {n:ByteArray} {es:List Ex} (h:iJ rs n=some es):∃ r ∈ rs,r.name=n∧r.expr=es:=by
 induction rs with
 | nil=>simp [iJ] at h
 | cons r rs ih =>
  simp only [iJ] at h;split at h
  ·rename_i hn; injection h with h; exact ⟨r,by simp,sJ.1 hn,h⟩
  ·obtain ⟨q,hq,e⟩:=ih h; exact ⟨q,by simp [hq],e⟩
theorem wJ {ts:List Ty} {ty n:ByteArray} {es:List Ex} (h:fE ts ty n=some es):∃ t ∈ ts,∃ r ∈ t.rels,t.name=ty∧r.name=n∧r.expr=es:=by
 induction ts with
 | nil=>simp [fE] at h
 | cons t ts ih =>
  simp only [fE] at h;split at h
  ·rename_i hn;rcases Option.or_eq_some_iff.1 h with h | ⟨-,h⟩
   ·obtain ⟨r,hr,e⟩:=F5 h; exact ⟨t,by simp,r,hr,sJ.1 hn,e⟩
   ·obtain ⟨t',ht,e⟩:=ih h; exact ⟨t',by simp [ht],e⟩
  ·obtain ⟨t',ht,e⟩:=ih h; exact ⟨t',by simp [ht],e⟩
theorem nP {ts:List Ty} {k:ByteArray × ByteArray}:k ∈ az ts ↔ ∃ t ∈ ts,∃ r ∈ t.rels,k=(t.name,r.name):=by
 simp only [az,zb,List.mem_flatMap,List.mem_map];constructor
 ·rintro ⟨t,ht,r,hr,e⟩; exact ⟨t,ht,r,hr,e.symm⟩
 ·rintro ⟨t,ht,r,hr,e⟩; exact ⟨t,ht,r,hr,e.symm⟩
theorem sK {ts:List Ty} {ty n:ByteArray} (h:(aN ts ty n).isEmpty=false):(ty,n) ∈ az ts:=by
 unfold aN at h;cases e:fE ts ty n with
 | none=>rw [e] at h; simp at h
 | some es =>
  obtain ⟨t,ht,r,hr,h1,h2,-⟩:=wJ e;exact nP.2 ⟨t,ht,r,hr,by rw [h1,h2]⟩
theorem Mh {ts:List Ty} {rel:ByteArray} {xs:List Al} {g:ByteArray} (h:g ∈ gl ts rel xs):(aN ts g rel).isEmpty=false:=by
 induction xs with
 | nil=>simp [gl] at h
 | cons a xs ih =>
  simp only [gl] at h;split at h
  ·exact ih h
  ·rename_i hn;rcases List.mem_cons.1 h with rfl | h
   ·simpa using hn
   ·exact ih h
theorem F6 {neg:Bool} {xs:List Al} {d:Dp} (h:d ∈ bM neg xs):∃ a ∈ xs,a.s.toList.isEmpty=false∧d.typ=a.t∧d.rel=a.s:=by
 induction xs with
 | nil=>simp [bM] at h
 | cons a xs ih =>
  simp only [bM] at h;split at h
  ·obtain ⟨b,hb,e⟩:=ih h; exact ⟨b,by simp [hb],e⟩
  ·rename_i hn;rcases List.mem_cons.1 h with rfl | h
   ·exact ⟨a,by simp,by simpa using hn,rfl,rfl⟩
   ·obtain ⟨b,hb,e⟩:=ih h; exact ⟨b,by simp [hb],e⟩
theorem qC {ts:List Ty} {typ:ByteArray} {es:List Ex} {d:Dp}:∀ {k:Nat},d ∈ aK ts typ es k→∃ i,i < k∧d ∈ jD ts typ es i
 | 0,h=>by simp [aK] at h
 | k + 1,h=>by
  simp only [aK] at h;rcases List.mem_append.1 h with h | h
  ·obtain ⟨i,hi,e⟩:=qC h; exact ⟨i,by omega,e⟩
  ·exact ⟨k,by omega,h⟩
theorem zf {ts:List Ty} {typ:ByteArray} {es:List Ex} (h:aO ts typ es=true):∀ e ∈ es,nK ts e.allow=true∧kS ts typ e=true:=by
 induction es with
 | nil=>intro e he; cases he
 | cons e es ih =>
  simp only [aO] at h;split at h
  ·rename_i hn;rw [Bool.and_eq_true] at hn;intro q hq;rcases List.mem_cons.1 hq with rfl | hq
   ·exact hn
   ·exact ih h q hq
  ·cases h
theorem nQ {ts:List Ty} (h:je ts=true):Found ts:=by
 intro k hk d hd;unfold fI nN at hd;have hne:(aN ts k.1 k.2).length ≠ 0:=by
  intro e;rw [e] at hd; simp [aK] at hd
 obtain ⟨es,hes⟩:∃ es,fE ts k.1 k.2=some es:=by
  cases e:fE ts k.1 k.2 with
  | none=>unfold aN at hne; rw [e] at hne; simp at hne
  | some es=>exact ⟨es,rfl⟩
 have ero:aN ts k.1 k.2=es:=by unfold aN; rw [hes]; rfl
 rw [ero] at hd;obtain ⟨t,ht,r,hr,h1,h2,h3⟩:=wJ hes;have hr1:aO ts k.1 es=true:=by
  unfold je at h;rw [List.all_eq_true] at h;have:=h t ht;unfold nO at this;rw [List.all_eq_true] at this;have:=this r hr;rw [h1,h3] at this;exact this
 obtain ⟨i,hi,hdi⟩:=qC hd;unfold jD at hdi;split at hdi
 ·cases hdi
 ·rename_i e he;obtain ⟨ra,rn⟩:=zf hr1 e (List.mem_of_getElem? he);rcases List.mem_append.1 hdi with hdi | hdi
  ·obtain ⟨a,ha,hs,e1,e2⟩:=F6 hdi;unfold nK at ra;rw [List.all_eq_true] at ra;have:=ra a ha;unfold mY at this;rw [hs,Bool.false_or,Bool.and_eq_true] at this;rw [e1,e2];exact sK (by simpa using this.2)
  ·unfold lq at hdi;unfold kS at rn;split at hdi
   ·rename_i h2;rw [if_pos h2] at rn;simp at hdi;subst hdi;exact sK (by simpa using rn)
   ·split at hdi
    ·obtain ⟨g,hg,rfl⟩:=List.mem_map.1 hdi;exact sK (Mh hg)
    ·cases hdi
theorem lw {es:List Ex} (h:aS es=true):1≤es.length∧es.length≤15:=by
 simp only [aS,Bool.and_eq_true,decide_eq_true_eq] at h;exact ⟨h.1.1.1.1.1,h.1.1.1.1.2⟩
theorem F7 {es:List Ex} (h:aS es=true) (i:Nat) (hi:i < es.length):bY es.length es[i].kids:=by
 simp only [aS,Bool.and_eq_true,decide_eq_true_eq] at h;have h1:=h.1.1.2;unfold gZ at h1;rw [List.all_eq_true] at h1;have h2:=h1 i (by simpa using hi);unfold jS kP at h2;rw [List.getElem?_eq_getElem hi] at h2;simp only [Option.map_some,Option.getD_some,List.all_eq_true,Bool.and_eq_true,decide_eq_true_eq] at h2;intro x hx;have:=h2 x hx;omega
theorem dF {rs:List TR} (h:cu (ah rs)=true):rs.length≤6∧(∀ r ∈ rs,r.rows.length≤6)∧∀ r ∈ rs,∀ q ∈ r.rows,aS (au q.rows)=true∧q.rows.length≤15∧∀ e ∈ q.rows,bY q.rows.length e.e.kids:=by
 simp only [cu,Bool.and_eq_true,decide_eq_true_eq] at h;rw [jL] at h;have hT:∀ r ∈ rs,r.rows.length≤6∧dN (dO r.rows) r.rows.length=true:=by
  intro r hr;obtain ⟨j,hj,rfl⟩:=List.mem_iff_getElem.1 hr;have h1:=qB h.2 j hj;unfold jF at h1;have e:(ah rs)[j]?=some rs[j].p:=by simp [ah,hj]
  rw [e] at h1;simp only [Bool.and_eq_true,decide_eq_true_eq] at h1;have e2:rs[j].p.rels.length=rs[j].rows.length:=by simp [TR.p,dO]
  rw [e2] at h1;exact ⟨h1.1.2,h1.2⟩
 refine ⟨h.1,fun r hr=>(hT r hr).1,fun r hr q hq=>?_⟩;obtain ⟨j,hj,rfl⟩:=List.mem_iff_getElem.1 hq;have h1:=qA (hT r hr).2 j hj;unfold kI at h1;have e:(dO r.rows)[j]?=some r.rows[j].p:=by simp [dO,hj]
 rw [e] at h1;simp only [Bool.and_eq_true] at h1;have h2:aS (au r.rows[j].rows)=true:=h1.2;have h3:=lw h2;rw [bq] at h3;refine ⟨h2,h3.2,fun e he=>?_⟩;obtain ⟨i,hi,rfl⟩:=List.mem_iff_getElem.1 he;have:=F7 h2 i (by rw [bq]; exact hi);have e1:(au r.rows[j].rows)[i]'(by rw [bq]; exact hi)=r.rows[j].rows[i].e:=by simp [au]
 rw [e1] at this;simpa [au] using this
def assigns (n:Nat):List (ByteArray × ByteArray)→List (ByteArray × ByteArray→Int)
 | []=>[fun _=>0]
 | k::ks=>(assigns n ks).flatMap fun f=>(List.range n).map fun v=>fun y=>if y=k then ((v:Nat):Int) else f y
theorem ul {n:Nat}:∀ {ks:List (ByteArray × ByteArray)} {f:ByteArray × ByteArray→Int},f ∈ assigns n ks→∀ k,0≤f k
 | [],f,h,k=>by simp only [assigns,List.mem_singleton] at h; rw [h]; exact Int.le_refl _
 | x::ks,f,h,k=>by
  simp only [assigns,List.mem_flatMap,List.mem_map] at h;obtain ⟨g,hg,v,-,rfl⟩:=h;show 0≤(if k=x then ((v:Nat):Int) else g k);split
  ·omega
  ·exact ul hg k
theorem uq {n:Nat} (g:ByteArray × ByteArray→Int):∀ (ks:List (ByteArray × ByteArray)),(∀ k ∈ ks,0≤g k∧g k < n)→∃ f ∈ assigns n ks,∀ k ∈ ks,f k=g k
 | [],_=>⟨fun _=>0,by simp [assigns],fun k hk=>by cases hk⟩
 | x::ks,h=>by
  obtain ⟨f,hf,hfg⟩:=uq g ks fun k hk=>h k (List.mem_cons_of_mem _ hk);obtain ⟨h0,h1⟩:=h x (List.mem_cons_self ..);refine ⟨fun y=>if y=x then (((g x).toNat:Nat):Int) else f y,?_,fun k hk=>?_⟩
  ·simp only [assigns,List.mem_flatMap,List.mem_map];exact ⟨f,hf,(g x).toNat,List.mem_range.2 (by omega),rfl⟩
  ·show (if k=x then (((g x).toNat:Nat):Int) else f k)=g k;by_cases e:k=x
   ·rw [if_pos e,e]; omega
   ·rw [if_neg e];rcases List.mem_cons.1 hk with h2 | h2
    ·exact absurd h2 e
    ·exact hfg k h2
def Mi (ts:List Ty) (f:ByteArray × ByteArray→Int):Bool:=(az ts).all fun k=>(fI ts k).all fun d=>decide (f (d.typ,d.rel) + stepOf d≤f k)
theorem EY {ts:List Ty} {f:ByteArray × ByteArray→Int}:Mi ts f=true ↔ ∀ k ∈ az ts,∀ d ∈ fI ts k,f (d.typ,d.rel) + stepOf d≤f k:=by
 unfold Mi; simp only [List.all_eq_true,decide_eq_true_eq]
def wK (ts:List Ty):List (ByteArray × ByteArray→Int):=(assigns (az ts).length (az ts)).filter (Mi ts)
theorem F8 {ts:List Ty} {f:ByteArray × ByteArray→Int} (h:f ∈ wK ts):Sol ts f:=by
 unfold wK at h;rw [List.mem_filter] at h;exact ⟨ul h.1,EY.1 h.2⟩
theorem IV {ts:List Ty} {g:ByteArray × ByteArray→Int} (hF:Found ts) (h:Sol ts g) (hb:∀ k ∈ az ts,g k + 1≤(az ts).length):∃ f ∈ wK ts,∀ k ∈ az ts,f k=g k:=by
 obtain ⟨f,hf,hfg⟩:=uq (n:=(az ts).length) g (az ts) fun k hk=>⟨h.pos k,by have:=hb k hk; omega⟩;refine ⟨f,?_,hfg⟩;unfold wK;rw [List.mem_filter];refine ⟨hf,EY.2 fun k hk d hd=>?_⟩;rw [hfg k hk,hfg _ (hF k hk d hd)];exact h.up k hk d hd
def aA (ts:List Ty):Bool:=cu ts && je ts && !(wK ts).isEmpty
theorem dG {ts:List Ty}:aA ts=true ↔ bC ts:=by
 unfold aA bC;simp only [Bool.and_eq_true,Bool.not_eq_true'];constructor
 ·rintro ⟨⟨h1,h2⟩,h3⟩;refine ⟨h1,h2,?_⟩;cases e:wK ts with
  | nil=>rw [e] at h3; cases h3
  | cons f fs=>exact ⟨f,F8 (by rw [e]; exact List.mem_cons_self ..)⟩
 ·rintro ⟨h1,h2,f,hf⟩;refine ⟨⟨h1,h2⟩,?_⟩;obtain ⟨g,hg,hb⟩:=hf.few (nQ h2);obtain ⟨f2,hf2,-⟩:=IV (nQ h2) hg hb;cases e:wK ts with
  | nil=>rw [e] at hf2; cases hf2
  | cons f fs=>rfl
theorem ut {ts:List Ty} (h:bC ts):aA ts=true:=dG.2 h
theorem di {ts:List Ty} (h:¬ bC ts):aA ts=false:=by
 cases e:aA ts with
 | false=>rfl
 | true=>exact absurd (dG.1 e) h
end Go.Proofs.YteoflgocljfgeaaGreatDoor
