/- A schema's text, in plain words, and how long it can be. -/
import Derived.Test.YtajkkeikihhejaaGreatSq
import Derived.Test.YtajkkeikihhejaaGreatJ14
import Derived.Lib.IndexMore
import Derived.Lib.IndexBytes
import Derived.Lib.Strings
open Go.Proofs.Tryz
set_option maxHeartbeats 80000000
namespace Go.Proofs.YtajkkeikihhejaaGreat
open Pl
def sm:List Nat→Nat
 | []=>0
 | x::xs=>x + sm xs
theorem CK:∀ xs ys:List Nat,sm (xs ++ ys)=sm xs + sm ys
 | [],ys=>by simp [sm]
 | x::xs,ys=>by rw [List.cons_append]; simp only [sm]; rw [CK xs ys]; omega
theorem LA (sep:bH) (xs:List ByteArray):(fw sep xs).size≤sm (xs.map fun x=>x.size + sep.size):=by
 suffices h:∀ ys:List ByteArray,(fw sep ys.reverse).size≤sm (ys.reverse.map fun x=>x.size + sep.size) by
  have:=h xs.reverse;rwa [List.reverse_reverse] at this
 intro ys
 induction ys with
 | nil=>exact TS _
 | cons y ys ih =>
  rw [List.reverse_cons,oM,List.map_append,CK];simp only [List.map_cons,List.map_nil,sm];split
  ·omega
  simp only [Uh]; omega
def kU (f:Int→Int):List Int→Int
 | []=>0
 | k::ks=>(k - f k + 1) + kU f ks
theorem uI (f:Int→Int):∀ xs ys:List Int,kU f (xs ++ ys)=kU f xs + kU f ys
 | [],ys=>by simp [kU]
 | x::xs,ys=>by rw [List.cons_append]; simp only [kU]; rw [uI f xs ys]; omega
theorem sj (f:Int→Int):∀ xs:List Int,kU f xs.reverse=kU f xs
 | []=>rfl
 | x::xs=>by rw [List.reverse_cons,uI,sj f xs]; simp only [kU]; omega
theorem xN {f:Int→Int}:∀ (ks:List Int) (a:Int),0≤di f ks a→kU f ks=a + 1 - di f ks a
 | [],a,_=>by simp [kU,di]
 | k::ks,a,h=>by
  unfold di at h ⊢;split at h
  ·omega
  rename_i h1;rw [if_neg h1];split at h
  ·omega
  rename_i h2;rw [if_neg h2];have hk:k=a:=Decidable.byContradiction fun e=>h1 (.inr e);subst hk;simp only [kU];rw [xN ks _ h];omega
theorem Qt {es:List Ex} (hes:Rq es) (ht:∀ j,j < es.length→0≤ay es j) (n:Nat):n < es.length→∀ i,((iP es n i).size:Int)≤250 * ((n:Int) - ay es n + 1):=by
 induction n using Nat.strongRecOn with
 | ind n ih =>
  intro hn i;have hle:=iB es n;have h1:=FD (D5 es n) i (lY (jy es n) (D5 es n));unfold iP
  suffices h:((lY (jy es n) (D5 es n)).size:Int)≤250 * ((n:Int) - ay es n + 1) - 10 by omega
  have UA:=hes.2.1 n hn;obtain ⟨hk5,-⟩:=qd UA;rw [D7 hn];unfold lY;unfold ax at UA;split
  ·rename_i k;rw [if_pos k] at UA;simp only [TU] at UA;have:=jY UA.1.1.1;omega
  rename_i k1;rw [if_neg k1] at UA;split
  ·rename_i k2;rw [if_pos k2] at UA;simp only [TU] at UA;have:=bQ UA.1.1.1;omega
  rename_i k2;rw [if_neg k2] at UA;split
  ·rename_i k3;rw [if_pos k3] at UA;simp only [TU] at UA;have h1:=bQ UA.1.1.1;have h2:=bQ UA.1.1.2;have e1:(⟨#[45,62]⟩:ByteArray).size=2:=rfl;simp only [Uh];omega
  have hj:=LA (gG es[n].kind) (es[n].kids.map (jy es n));rw [lX,List.map_map] at hj;have hspan:kU (dx es n) es[n].kids=(n:Int) - ay es n:=by
   have h0:=ht n hn;rw [jb] at h0;have h2:=xN _ _ h0;rw [sj,← jb] at h2;have e:dC es n=es[n].kids:=by simp [dC,hn]
   rw [e] at h2;omega
  have hsum:∀ ks:List Int,(∀ k ∈ ks,0≤k∧k.toNat < n)→(sm (ks.map ((fun x:ByteArray=>x.size + 3) ∘ jy es n)):Int)≤250 * kU (dx es n) ks + 3 * (ks.length:Int):=by
   intro ks
   induction ks with
   | nil=>intro _; simp [sm,kU]
   | cons k ks ih2 =>
    intro hks;obtain ⟨hk0,hk1⟩:=hks k (Us ..);have h3:=ih2 fun x hx=>hks x (Uq _ hx);have h4:=ih k.toNat hk1 (by omega) true;have e1:jy es n k=iP es k.toNat true:=by unfold jy; rw [if_pos hk1,D6]
    have e2:dx es n k=ay es k.toNat:=by unfold dx; rw [if_pos ⟨hk0,hk1⟩]
    have e3:((k.toNat:Nat):Int)=k:=by omega
    simp only [List.map_cons,sm,kU,Function.comp_apply,List.length_cons];rw [e1,e2];rw [e3] at h4;omega
  have h5:=hsum es[n].kids (uw hes hn);rw [hspan] at h5;have:(es[n].kids.length:Int)≤5:=by omega
  omega
theorem N9 {es:List Ex} (h:aK es=true):∀ j,j < es.length→0≤ay es j:=by
 rw [vZ] at h;unfold kN at h;simp only [TU,Ud] at h;have h1:=h.2.1;unfold jw at h1;rw [Ub] at h1;intro j hj;simpa using h1 j (by simpa using hj)
theorem Eo (es:List Ex):(gP es).size≤3750:=by
 by_cases h:aK es=true
 ·have ht:=N9 h;have hf:=lu h;have h1:=Qt (Nu h) ht (es.length - 1) (by omega) false;have h2:=ht (es.length - 1) (by omega);rw [zm h];omega
 rw [Cs (by simpa using h)];show 0≤3750;omega
def FU (r:Rl):ByteArray:=((r.name ++ ⟨#[32,61,32]⟩) ++ gP r.expr) ++ ⟨#[10]⟩
def dN:List Rl→ByteArray
 | []=>⟨#[]⟩
 | r::rs=>FU r ++ dN rs
def mh (n:ByteArray):ByteArray:=(⟨#[116,121,112,101,32]⟩ ++ n) ++ ⟨#[10]⟩
def dw:List Ty→ByteArray
 | []=>⟨#[]⟩
 | t::ts=>(mh t.name ++ dN t.rels) ++ dw ts
theorem uJ (a:bH):a ++ (⟨#[]⟩:ByteArray)=a:=by apply jc; simp [ByteArray.data_append]
theorem qD:∀ (xs:List Rl) (r:Rl),dN (xs ++ [r])=dN xs ++ FU r
 | [],r=>by simp only [List.nil_append,dN,uJ,ry]
 | x::xs,r=>by rw [List.cons_append]; simp only [dN]; rw [qD xs r,← ByteArray.append_assoc]
theorem mi:∀ (xs:List Ty) (t:Ty),dw (xs ++ [t])=dw xs ++ (mh t.name ++ dN t.rels)
 | [],t=>by simp only [List.nil_append,dw,uJ,ry]
 | x::xs,t=>by rw [List.cons_append]; simp only [dw]; rw [mi xs t,← ByteArray.append_assoc]
theorem LB (rs:List RR) (k:Nat) (h:k < rs.length):eF (rs.take (k + 1))=eF (rs.take k) ++ [⟨rs[k].name,ak rs[k].rows⟩]:=by
 rw [TV h]; unfold eF; rw [List.map_append]; rfl
theorem LC (rs:List TR) (k:Nat) (h:k < rs.length):ae (rs.take (k + 1))=ae (rs.take k) ++ [⟨rs[k].name,eF rs[k].rows⟩]:=by
 rw [TV h]; unfold ae; rw [List.map_append]; rfl
theorem xO (n:bH):(mh n).size=n.size + 6:=by
 have e1:(⟨#[116,121,112,101,32]⟩:ByteArray).size=5:=rfl;have e2:(⟨#[10]⟩:ByteArray).size=1:=rfl;unfold mh;simp only [Uh];omega
end Go.Proofs.YtajkkeikihhejaaGreat
namespace Go.Proofs.YtajkkeikihhejaaGreat.Pl
theorem gu {a b:ByteArray} (h:a=b):Ending.returned (.string a)=.returned (.string b):=by rw [h]
theorem Kg {s:ByteArray} (h:nG s=true):1≤s.size∧s.size≤12:=by simpa [nG] using h
theorem nW {s:ByteArray} (h:aP s=true):1≤s.size∧s.size≤12:=by
 simp [aP,dL] at h; exact Kg h.1.1
theorem Oa {s:ByteArray} (h:pM s=true):1≤s.size∧s.size≤12:=by
 simp [pM,dL] at h; exact Kg h.1
theorem yJ {t i:ByteArray} (h:eT t i=true):t.size≤12∧i.size≤12:=by
 simp [eT] at h; exact ⟨(nW h.1).2,(Oa h.2).2⟩
def aB (t i:ByteArray):ByteArray:=if eT t i then t ++ ⟨#[58]⟩ ++ i else ⟨#[]⟩
theorem mP {t i:ByteArray} (h:eT t i=true):aB t i=t ++ ⟨#[58]⟩ ++ i:=by simp [aB,h]
theorem tq {t i:ByteArray} (h:eT t i=false):aB t i=⟨#[]⟩:=by simp [aB,h]
theorem iD (t i:bH):(aB t i).size≤25:=by
 unfold aB; split
 ·rename_i h;have h2:=yJ h;have e1:(ByteArray.mk #[58]).size=1:=rfl;rw [Uh,Uh,e1];omega
 exact TW _
def uK (s:ByteArray):Bool:=s.toList.isEmpty || aP s
def bI (a b r c d s:ByteArray):Bool:=eT a b && aP r && eT c d && uK s
def aX (a b r c d s:ByteArray):ByteArray :=
 if bI a b r c d s then
  (if s.toList.isEmpty then aB a b ++ ⟨#[35]⟩ ++ r ++ ⟨#[64]⟩ ++ aB c d else aB a b ++ ⟨#[35]⟩ ++ r ++ ⟨#[64]⟩ ++ aB c d ++ ⟨#[35]⟩ ++ s)
 else ⟨#[]⟩
theorem tC {a b r c d s:ByteArray} (h:bI a b r c d s=false):aX a b r c d s=⟨#[]⟩:=by simp [aX,h]
theorem mQ {a b r c d s:ByteArray} (h:bI a b r c d s=true) (hs:s.toList.isEmpty=true):aX a b r c d s=aB a b ++ ⟨#[35]⟩ ++ r ++ ⟨#[64]⟩ ++ aB c d:=by simp [aX,h,hs]
theorem mR {a b r c d s:ByteArray} (h:bI a b r c d s=true) (hs:s.toList.isEmpty=false):aX a b r c d s=aB a b ++ ⟨#[35]⟩ ++ r ++ ⟨#[64]⟩ ++ aB c d ++ ⟨#[35]⟩ ++ s:=by simp [aX,h,hs]
theorem zJ {a b r c d s:ByteArray} (h:eT a b=false):bI a b r c d s=false:=by simp [bI,h]
theorem zL {a b r c d s:ByteArray} (h:aP r=false):bI a b r c d s=false:=by simp [bI,h]
theorem zM {a b r c d s:ByteArray} (h:eT c d=false):bI a b r c d s=false:=by simp [bI,h]
theorem zP {a b r c d s:ByteArray} (h1:eT a b=true) (h2:aP r=true) (h3:eT c d=true):bI a b r c d s=uK s:=by simp [bI,h1,h2,h3]
theorem jU {a b r c d s:ByteArray} (h:bI a b r c d s=true):eT a b=true∧aP r=true∧eT c d=true∧uK s=true:=by
 simp [bI] at h; exact ⟨h.1.1.1,h.1.1.2,h.1.2,h.2⟩
theorem zQ {s:ByteArray} (h:s.toList.isEmpty=true):s.size=0:=by
 rw [Go.ByteArray.toList_eq] at h;have h2:s.data.toList=[]:=by simpa using h
 have h3:s.data.toList.length=0:=by rw [h2]; rfl
 simpa using h3
theorem Ep {s:ByteArray} (h:uK s=true):s.size≤12:=by
 simp only [uK,Bool.or_eq_true] at h;rcases h with h | h
 ·have:=zQ h; omega
 exact (nW h).2
def iV (c:UInt8):List UInt8→List UInt8 × List UInt8 × Bool
 | []=>([],[],false)
 | b::l=>if b=c then ([],l,true) else (b::(iV c l).1,(iV c l).2.1,(iV c l).2.2)
theorem Qu {c:UInt8} {l:List UInt8} {k:Nat} (hk:k < l.length) (hn:∀ x ∈ l.take k,x ≠ c) (hc:l[k]=c):iV c l=(l.take k,l.drop (k + 1),true):=by
 induction l generalizing k with
 | nil=>simp at hk
 | cons b l ih =>
  cases k with
  | zero=>simp at hc; simp [iV,hc]
  | succ k =>
   have hb:b ≠ c:=hn b (by simp);have:=ih (k:=k) (by simpa using hk) (fun x hx=>hn x (by simp [hx])) (by simpa using hc);simp [iV,hb,this]
theorem rD {c:UInt8} {l:List UInt8} (hn:∀ x ∈ l,x ≠ c):iV c l=(l,[],false):=by
 induction l with
 | nil=>rfl
 | cons b l ih =>
  have hb:b ≠ c:=hn b (by simp);have:=ih (fun x hx=>hn x (by simp [hx]));simp [iV,hb,this]
theorem FV (c:UInt8) (l:List UInt8):(iV c l).1.length≤l.length∧(iV c l).2.1.length≤l.length:=by
 induction l with
 | nil=>simp [iV]
 | cons b l ih =>
  unfold iV;split
  ·simp
  simp; omega
def kz (c:UInt8) (s:ByteArray):ByteArray:=⟨(iV c s.data.toList).1.toArray⟩
def iL (c:UInt8) (s:ByteArray):ByteArray:=⟨(iV c s.data.toList).2.1.toArray⟩
def o9 (c:UInt8) (s:ByteArray):Bool:=(iV c s.data.toList).2.2
theorem CL (l:List UInt8):(ByteArray.mk l.toArray).size=l.length:=rfl
theorem Qv (c:UInt8) (s:bH):(kz c s).size≤s.size:=by
 unfold kz; rw [CL]; exact (FV c s.data.toList).1
theorem Kh (c:UInt8) (s:bH):(iL c s).size≤s.size:=by
 unfold iL; rw [CL]; exact (FV c s.data.toList).2
theorem gI {a b:ByteArray} (h:a.data.toList=b.data.toList):a=b:=by
 cases a; cases b; simp at h; simp [h]
def R9 (c:UInt8) (s:ByteArray) (k:Nat):Prop:=∀ x ∈ s.data.toList.take k,x ≠ c
theorem Oc (c:UInt8) (s:bH):R9 c s 0:=by intro x hx; simp at hx
theorem Od {c:UInt8} {s:ByteArray} {k:Nat} (h:k < s.size) (hn:R9 c s k) (hc:s[k] ≠ c):R9 c s (k + 1):=by
 intro x hx;rw [Ce s k h] at hx;simp at hx;rcases hx with hx | hx
 ·exact hn x (by simpa using hx)
 subst hx; exact hc
theorem Sa {c:UInt8} {s:ByteArray} {k:Nat} (h:k < s.size) (hn:R9 c s k) (hc:s[k]=c):iV c s.data.toList=(s.data.toList.take k,s.data.toList.drop (k + 1),true) :=
 Qu (by simpa using h) hn (by simpa [ByteArray.getElem_eq_getElem_data] using hc)
theorem Oe {c:UInt8} {s:ByteArray} {k:Nat} (h:s.size≤k) (hn:R9 c s k):iV c s.data.toList=(s.data.toList,[],false) :=
 rD (fun x hx=>hn x (by rw [List.take_of_length_le (by simpa using h)]; exact hx))
def S9 (s:ByteArray):Bool:=eT (kz 58 s) (iL 58 s)
def TJ (s:ByteArray):ByteArray:=if S9 s then kz 58 s else ⟨#[]⟩
def TK (s:ByteArray):ByteArray:=if S9 s then iL 58 s else ⟨#[]⟩
theorem LD {c:UInt8} {l:List UInt8} (h:(iV c l).2.2=false):(iV c l).2.1=[]:=by
 induction l with
 | nil=>rfl
 | cons b l ih =>
  unfold iV at h ⊢;split
  ·rename_i hb; simp [hb] at h
  rename_i hb; simp [hb] at h; simpa [hb] using ih h
theorem Og {c:UInt8} {s:ByteArray} (h:o9 c s=false):iL c s=⟨#[]⟩:=by
 unfold o9 at h; unfold iL; rw [LD h]
theorem Oh {s:ByteArray} (h:S9 s=true):TJ s=kz 58 s∧TK s=iL 58 s:=by simp [TJ,TK,h]
end Go.Proofs.YtajkkeikihhejaaGreat.Pl
namespace Go.Proofs.YtajkkeikihhejaaGreat
open Pl
def Oi:ByteArray:=⟨#[116,121,112,101,32]⟩
def Tq:ByteArray:=⟨#[61,32]⟩
def Tt:ByteArray:=⟨#[10]⟩
def zR (l:ByteArray):Bool:=decide (5 < l.size) && (l.extract 0 5).toList == Oi.toList
def xP (t:ByteArray):Bool:=decide (2≤t.size) && (t.extract 0 2).toList == Tq.toList
def CO (l:ByteArray):ByteArray:=(iL 32 l).extract 2 (iL 32 l).size
def Es (acc:List Ty) (r:Rl):List Ty:=match acc.getLast? with
 | none=>[]
 | some t=>acc.dropLast ++ [⟨t.name,t.rels ++ [r]⟩]
theorem qE (xs:List Ty) (t:Ty) (r:Rl):Es (xs ++ [t]) r=xs ++ [⟨t.name,t.rels ++ [r]⟩]:=by
 unfold Es; simp
def mU (acc:List Ty) (l:ByteArray):Option (List Ty) :=
 if zR l then some (acc ++ [⟨l.extract 5 l.size,[]⟩])
 else if !acc.isEmpty && xP (iL 32 l) && ma (CO l) then some (Es acc ⟨kz 32 l,(ku (CO l)).out⟩) else none
def dO:Nat→ByteArray→List Ty→Option (List Ty)
 | 0,_,acc=>some acc
 | n + 1,rest,acc =>
  if rest.toList.isEmpty then some acc
  else if o9 10 rest then
   match mU acc (kz 10 rest) with
   | none=>none
   | some a=>dO n (iL 10 rest) a
  else none
theorem mo (b:bH):b.toList=b.data.toList:=Go.ByteArray.toList_eq b
theorem LF (c:UInt8) (l:List UInt8) (h:(iV c l).2.2=true):l=(iV c l).1 ++ c::(iV c l).2.1:=by
 induction l with
 | nil=>simp [iV] at h
 | cons b l ih =>
  unfold iV at h ⊢;split
  ·rename_i e; simp [e]
  rename_i e;rw [if_neg e] at h;simp only [List.cons_append,List.cons.injEq,true_and];exact ih h
theorem zS {c:UInt8} {s:ByteArray} (h:o9 c s=true):s=(kz c s ++ ⟨#[c]⟩) ++ iL c s:=by
 apply jc;have:=LF c s.data.toList h;simpa [kz,iL,ByteArray.data_append] using this
theorem FW {c:UInt8} {s:ByteArray} (h:o9 c s=true):(iL c s).size < s.size:=by
 have:=congrArg ByteArray.size (zS h);have e1:(⟨#[c]⟩:ByteArray).size=1:=rfl;simp only [Uh,e1] at this;omega
theorem FX (l:bH) (k:Nat) (hk:k≤l.size):l=l.extract 0 k ++ l.extract k l.size:=by
 apply jc;rw [ByteArray.data_append,ByteArray.data_extract,ByteArray.data_extract];have hk':k≤l.data.size:=hk;have h2:l.size=l.data.size:=rfl;rw [h2];simp;rw [show max k l.size=l.data.toList.length by simp [Nat.max_def]; omega,Ug]
theorem toList_inj {a b:ByteArray} (h:a.toList=b.toList):a=b:=by
 rw [mo,mo] at h; exact jc h
theorem Oj {l:ByteArray} (h:zR l=true):l=Oi ++ l.extract 5 l.size:=by
 unfold zR at h;simp only [TU,Ud,beq_iff_eq] at h;have e:=toList_inj h.2
 conv=>lhs; rw [FX l 5 (by omega),e]
theorem Ol {l:ByteArray} (h:xP (iL 32 l)=true):l=((kz 32 l ++ ⟨#[32,61,32]⟩) ++ CO l):=by
 unfold xP at h;simp only [TU,Ud,beq_iff_eq] at h;have hf:o9 32 l=true:=by
  cases e:o9 32 l;case true=>rfl
  rw [Og e] at h; exact absurd h.1 (by decide)
 have e:=toList_inj h.2;have e2:iL 32 l=Tq ++ CO l:=by
  conv=>lhs; rw [FX (iL 32 l) 2 h.1,e]
  rfl
 have e3:(⟨#[32,61,32]⟩:ByteArray)=⟨#[32]⟩ ++ Tq:=by apply jc; simp [ByteArray.data_append,Tq]
 conv=>lhs; rw [zS hf,e2]
 rw [e3];simp only [ByteArray.append_assoc]
theorem zT {s:ByteArray} (h:ma s=true):gP (ku s).out=s∧s.size≤1000∧aK (ku s).out=true:=by
 unfold ma at h;simp only [TU,Ud,beq_iff_eq] at h;exact ⟨toList_inj h.2,h.1.1.1.1,h.1.2⟩
theorem LG {acc acc':List Ty} {l:ByteArray} (h:mU acc l=some acc'):dw acc'=dw acc ++ (l ++ Tt):=by
 unfold mU at h;split at h
 ·rename_i ht;injection h with h;subst h;rw [mi]
  conv=>rhs; rw [Oj ht]
  simp only [mh,dN,uJ];rfl
 split at h
 ·rename_i h2;injection h with h;subst h;simp only [TU,Bool.not_eq_true'] at h2;obtain ⟨⟨h3,h4⟩,h5⟩:=h2;have hne:acc ≠ []:=fun e=>by rw [e] at h3; simp at h3
  have e1:=List.dropLast_concat_getLast hne;rw [← e1,qE,mi,mi,qD]
  conv=>rhs; rw [Ol h4]
  have e2:=(zT h5).1;simp only [FU,e2,ByteArray.append_assoc];rfl
 cases h
def Rx (T:List Ty):Prop:=∀ t ∈ T,∀ r ∈ t.rels,r.expr.length≤15∧∀ e ∈ r.expr,e.light∧e.fits
theorem Qw {acc acc':List Ty} {l:ByteArray} (h:mU acc l=some acc') (hk:Rx acc):Rx acc':=by
 unfold mU at h;split at h
 ·injection h with h;subst h;intro t ht r hr;rcases Uc.1 ht with ht | ht
  ·exact hk t ht r hr
  rw [Ua] at ht; subst ht; cases hr
 split at h
 ·rename_i h2;injection h with h;subst h;simp only [TU,Bool.not_eq_true'] at h2;obtain ⟨⟨h3,h4⟩,h5⟩:=h2;have hne:acc ≠ []:=fun e=>by rw [e] at h3; simp at h3
  have e1:=List.dropLast_concat_getLast hne;obtain ⟨-,hs,hsp⟩:=zT h5;intro t ht r hr;rw [← e1,qE] at ht;rcases Uc.1 ht with ht | ht
  ·exact hk t (by rw [← e1]; exact List.mem_append_left _ ht) r hr
  rw [Ua] at ht; subst ht;rcases Uc.1 hr with hr | hr
  ·exact hk (acc.getLast hne) (List.getLast_mem hne) r hr
  rw [Ua] at hr; subst hr;refine ⟨(lu hsp).2,fun e he=>?_⟩;exact (NN (s:=CO l) _ true ⟨0,false,[]⟩ (TW _) (fun e he=>by cases he) e he).light hs
 cases h
theorem xQ:∀ (rs:List Rl),rs.length * 4≤(dN rs).size∧∀ r ∈ rs,r.name.size + 4≤(dN rs).size
 | []=>⟨by simp,fun r hr=>by cases hr⟩
 | r::rs=>by
  obtain ⟨h1,h2⟩:=xQ rs;have e1:(⟨#[32,61,32]⟩:ByteArray).size=3:=rfl;have e2:(⟨#[10]⟩:ByteArray).size=1:=rfl;have h3:(dN (r::rs)).size=r.name.size + 3 + (gP r.expr).size + 1 + (dN rs).size:=by simp only [dN,FU,Uh,e1,e2]
  refine ⟨by rw [h3,List.length_cons]; omega,fun q hq=>?_⟩;rcases List.mem_cons.1 hq with rfl | hq
  ·omega
  have:=h2 q hq; omega
theorem zU:∀ (T:List Ty),T.length * 6≤(dw T).size∧∀ t ∈ T,t.name.size + 6 + (dN t.rels).size≤(dw T).size
 | []=>⟨by simp,fun r hr=>by cases hr⟩
 | t::ts=>by
  obtain ⟨h1,h2⟩:=zU ts;have h3:(dw (t::ts)).size=t.name.size + 6 + (dN t.rels).size + (dw ts).size:=by simp only [dw,Uh,xO]
  refine ⟨by rw [h3,List.length_cons]; omega,fun q hq=>?_⟩;rcases List.mem_cons.1 hq with rfl | hq
  ·omega
  have:=h2 q hq; omega
theorem rows_ok {rs:List TR} (hk:Rx (ae rs)) (hz:(dw (ae rs)).size≤3000):rs.length≤500∧(∀ r ∈ rs,r.rows.length≤750∧r.name.size≤3000∧∀ q ∈ r.rows,q.name.size≤3000)∧(∀ r ∈ rs,r.light)∧∀ r ∈ rs,r.fits:=by
 obtain ⟨h1,h2⟩:=zU (ae rs);rw [kY] at h1;have key:∀ r ∈ rs,r.rows.length≤750∧r.name.size≤3000∧∀ q ∈ r.rows,q.name.size≤3000:=fun r hr=>by
  have h3:=h2 r.p (Ue.2 ⟨r,hr,rfl⟩);obtain ⟨h4,h5⟩:=xQ (eF r.rows);rw [q9] at h4;have h6:r.name.size + 6 + (dN (eF r.rows)).size≤(dw (ae rs)).size:=h3;refine ⟨by omega,by omega,fun q hq=>?_⟩;have:=h5 q.p (Ue.2 ⟨q,hq,rfl⟩);have h7:q.name.size + 4≤(dN (eF r.rows)).size:=this;omega
 have kex:∀ r ∈ rs,∀ q ∈ r.rows,q.rows.length≤15∧∀ x ∈ q.rows,x.e.light∧x.e.fits:=fun r hr q hq=>by
  have:=hk r.p (Ue.2 ⟨r,hr,rfl⟩) q.p (Ue.2 ⟨q,hq,rfl⟩);exact ⟨by rw [← aT]; exact this.1,fun x hx=>this.2 x.e (Ue.2 ⟨x,hx,rfl⟩)⟩
 refine ⟨by omega,key,fun r hr=>⟨by have:=(key r hr).1; omega,fun q hq=>⟨by have:=(kex r hr q hq).1; omega,fun x hx=>((kex r hr q hq).2 x hx).1⟩⟩,fun r hr=>⟨by have:=(key r hr).2.1; unfold maxLen; omega,by have:=(key r hr).1; unfold maxLen; omega,fun q hq=>⟨by have:=(key r hr).2.2 q hq; unfold maxLen; omega,by have:=(kex r hr q hq).1; unfold maxLen; omega,fun x hx=>((kex r hr q hq).2 x hx).2⟩⟩⟩
open Go.ChangeAt Go.ChangeShapes Go.RowKit Go.WideShapes
theorem Sb (o n e:bH):(((o ++ n) ++ ⟨#[32,61,32]⟩) ++ e) ++ ⟨#[10]⟩=o ++ (((n ++ ⟨#[32,61,32]⟩) ++ e) ++ ⟨#[10]⟩):=by
 simp only [ByteArray.append_assoc]
theorem Om (o n:bH):((o ++ ⟨#[116,121,112,101,32]⟩) ++ n) ++ ⟨#[10]⟩=o ++ mh n:=by
 unfold mh; simp only [ByteArray.append_assoc]
structure Small3 (rs:List TR):Prop where
 six:rs.length≤500
 rels:∀ r ∈ rs,r.rows.length≤750
 name:∀ r ∈ rs,r.name.size≤3000
 names:∀ r ∈ rs,∀ q ∈ r.rows,q.name.size≤3000
set_option maxRecDepth 100000 in
theorem Et (ad:Option Addr) (cap:Nat) (rs:List TR) (w:af) (hm:Small3 rs) (hs:kX w ad rs) (hl:∀ r ∈ rs,r.light) (hf:∀ r ∈ rs,r.fits) :
  Calls prog 179 #[.slice ad rs.length cap] w fun e w'=>e=.returned (.string (dw (ae rs)))∧ag w w':=by
 have HS:=az hs;have HL:=az hl;have UL:=az hf;have HM:=az hm;have h6:=hm.six;clear hs hl hf hm;go_enter func179,ntmps179;go_wp2;go_loopw [3,4] (fun o i wr=>∃ (k:Nat) (out:ByteArray),k≤rs.length∧o=.string out∧i=.int .i64 k∧Hid (out=dw (ae (rs.take k)))∧out.size≤k * 5100000∧Hid (ag w wr)) (fun _ i _=>rs.length - (intOf i).toNat);case atStart=>exact ⟨0,⟨#[]⟩,TW _,rfl,rfl,rfl,TW _,TT _ _⟩
 case round =>
  obtain ⟨k,out,hk,rfl,rfl,HP,hz,HB⟩:=hrel;obtain ⟨wo,rfl⟩:∃ x,x=wr:=⟨_,rfl⟩;by_cases hlt:k < rs.length
  ·rcases HS.out.below HB.out with rfl | ⟨b,off,rfl,hb,hr,hok⟩
   ·simp at hlt
   obtain ⟨t0,t1⟩:=hr k hlt;have VF:Hid (rs[k].ok wo):=hok rs[k] (TQ hlt);have hn12:=HM.out.name rs[k] (TQ hlt);have Wh:=HM.out.rels rs[k] (TQ hlt);have HN12:Hid (∀ q ∈ rs[k].rows,q.name.size≤3000):=HM.out.names rs[k] (TQ hlt);have WH:Hid (rs[k].light):=HL.out _ (TQ hlt);have WR:Hid (rs[k].fits):=UL.out _ (TQ hlt);have hk1:=bB k;have hk2:(k:Int) < (rs.length:Int):=by omega
   have hrl:(rs[k].rows.length:Int)≤750:=by omega
   clear hr hok;go_wp2;go_loopw [3,5] (fun o i wr=>∃ (j:Nat) (o2:ByteArray),j≤rs[k].rows.length∧o=.string o2∧i=.int .i64 j∧Hid (o2=(out ++ mh rs[k].name) ++ dN (eF (rs[k].rows.take j)))∧o2.size≤k * 5100000 + 3010 + j * 6760∧Hid (ag wo wr)) (fun _ i _=>rs[k].rows.length - (intOf i).toNat);case atStart=>exact ⟨0,_,TW _,rfl,rfl,by show _=_; rw [Om,List.take_zero,show eF []=[] from rfl]; simp only [dN,uJ],by rw [Om,Uh,xO]; omega,TT _ _⟩
   case round =>
    obtain ⟨j,o2,hj,rfl,rfl,HI,hz2,HB2⟩:=hrel;replace t0:=aG HB2.out hb t0;replace t1:=aG HB2.out hb t1;have hbw:b < wr.heap.size:=TP hb HB2.out.size;by_cases hjl:j < rs[k].rows.length
    ·rcases VF.out.below HB2.out with hnil | ⟨b2,U0,had,hb2,hr2,hok2⟩
     ·rw [hnil] at hjl; simp at hjl
     rw [had] at t1;obtain ⟨u0,u1⟩:=hr2 j hjl;have HOQ:Hid (rs[k].rows[j].ok wr):=hok2 rs[k].rows[j] (TQ hjl);have hj1:=bB j;have hj2:(j:Int) < (rs[k].rows.length:Int):=by omega
     have hq12:=HN12.out _ (TQ hjl);have HQL:Hid (rs[k].rows[j].light):=WH.out.2 _ (TQ hjl);have HQF:Hid (rs[k].rows[j].fits):=WR.out.2.2 _ (TQ hjl);obtain ⟨ex,hex⟩:∃ ex,ex=gP (ak rs[k].rows[j].rows):=⟨_,rfl⟩;have Zq:Hid (ex=gP (ak rs[k].rows[j].rows)):=hex;have hxs:ex.size≤3750:=by rw [hex]; exact Eo _
     have q1:(9223372036854775807 < o2.size + rs[k].rows[j].name.size)=False:=by simp; omega
     have q2:(9223372036854775807 < o2.size + rs[k].rows[j].name.size + 3)=False:=by simp; omega
     have q3:(9223372036854775807 < o2.size + rs[k].rows[j].name.size + 3 + ex.size)=False:=by simp; omega
     have q4:(9223372036854775807 < o2.size + rs[k].rows[j].name.size + 3 + ex.size + 1)=False:=by simp; omega
     have HI2:Hid ((((o2 ++ rs[k].rows[j].name) ++ ⟨#[32,61,32]⟩) ++ ex) ++ ⟨#[10]⟩=(out ++ mh rs[k].name) ++ dN (eF (rs[k].rows.take (j + 1)))):=by
      show _=_;rw [Sb,LB _ _ hjl,qD,HI.out,hex];simp only [ByteArray.append_assoc,FU]
     have hz3:((((o2 ++ rs[k].rows[j].name) ++ ⟨#[32,61,32]⟩) ++ ex) ++ ⟨#[10]⟩:ByteArray).size≤k * 5100000 + 3010 + (j + 1) * 6760:=by
      have e1:(⟨#[32,61,32]⟩:ByteArray).size=3:=rfl;have e2:(⟨#[10]⟩:ByteArray).size=1:=rfl;simp only [Uh]; omega
     have HZ3:Hid (((((o2 ++ rs[k].rows[j].name) ++ ⟨#[32,61,32]⟩) ++ ex) ++ ⟨#[10]⟩:ByteArray).size≤k * 5100000 + 3010 + (j + 1) * 6760):=hz3;clear hr2 hok2 had hex hz3;go_wp2_with fail;refine lQ 24 (fun n=>(u31::u32::u33::u34::u35::u36::u37::u38::u39::u40::u41::u42::u43::u44::u45::u46::u47::u48::u49::u50::u51::u52::u53::u54::[]).getD n undef) (fun fq=>{ tmps:=List.toArray (Value.slice (some ⟨b,off,none⟩) rs.length cap::undef::.string { data:=#[] }::.string o2::.int .i64 k::.int .i64 j::.int .i64 k::.slice (some ⟨b,off,none⟩) rs.length cap::.int .i64 rs.length::.bool true::u10::u11::.string out::.string (out ++ { data:=#[116,121,112,101,32] })::.slice (some ⟨b,off,none⟩) rs.length cap::.int .i64 k::.pointer (some ⟨b,off + k * 2,none⟩)::.pointer (some ⟨b,off + k * 2,none⟩)::.string rs[k].name::.string (out ++ { data:=#[116,121,112,101,32] } ++ rs[k].name)::.string (out ++ { data:=#[116,121,112,101,32] } ++ rs[k].name ++ { data:=#[10] })::.int .i64 j::.slice (some ⟨b,off,none⟩) rs.length cap::.int .i64 k::.pointer (some ⟨b,off + k * 2,none⟩)::.pointer (some ⟨b,off + k * 2 + 1,none⟩)::.slice (some ⟨b2,U0,none⟩) rs[k].rows.length rs[k].cap::.int .i64 rs[k].rows.length::.bool true::u29::u30::fq 0::fq 1::fq 2::fq 3::fq 4::fq 5::fq 6::fq 7::fq 8::fq 9::fq 10::fq 11::fq 12::fq 13::fq 14::fq 15::fq 16::fq 17::fq 18::fq 19::fq 20::fq 21::fq 22::fq 23::undef::[]),defers:=[] }) (fun n v _=>v=(Value.string o2::.slice (some ⟨b,off,none⟩) rs.length cap::.int .i64 k::.pointer (some ⟨b,off + k * 2,none⟩)::.pointer (some ⟨b,off + k * 2 + 1,none⟩)::.slice (some ⟨b2,U0,none⟩) rs[k].rows.length rs[k].cap::.int .i64 j::.pointer (some ⟨b2,U0 + j * 2,none⟩)::.pointer (some ⟨b2,U0 + j * 2,none⟩)::.string rs[k].rows[j].name::.string (o2 ++ rs[k].rows[j].name)::.string ((o2 ++ rs[k].rows[j].name) ++ ⟨#[32,61,32]⟩)::.slice (some ⟨b,off,none⟩) rs.length cap::.int .i64 k::.pointer (some ⟨b,off + k * 2,none⟩)::.pointer (some ⟨b,off + k * 2 + 1,none⟩)::.slice (some ⟨b2,U0,none⟩) rs[k].rows.length rs[k].cap::.int .i64 j::.pointer (some ⟨b2,U0 + j * 2,none⟩)::.pointer (some ⟨b2,U0 + j * 2 + 1,none⟩)::.slice rs[k].rows[j].ad rs[k].rows[j].rows.length rs[k].rows[j].cap::.string ex::.string (((o2 ++ rs[k].rows[j].name) ++ ⟨#[32,61,32]⟩) ++ ex)::.string ((((o2 ++ rs[k].rows[j].name) ++ ⟨#[32,61,32]⟩) ++ ex) ++ ⟨#[10]⟩)::[]).getD n undef) (fun w'=>ag wr w') (by kernel_rfl) rfl (by kernel_rfl) (by kernel_rfl) rfl (TT _ _).drew ?stepS ?finS;case stepS =>
      rintro i hi o ho fq w' hG hpre;have HG:Hid (ag wr w'):=hG;replace t1:=aG hG hbw t1;replace u0:=aG hG hb2 u0;replace u1:=aG hG hb2 u1;have HM:Hid (∀ e ∈ o.after,Region.binds .any e=true→_):=hpre;clear hG hpre;have hc:=Tg (i:=i) (by omega);clear hi
      repeat' rcases hc with rfl | hc
      iterate 21
       ·cases ho;have hm:=HM.out
        try simp [Region.binds] at hm
        refine aa rfl fun K HK=>?_;clear HM
        try simp only [hm]
        go_simp;exact HK.out _ _ ⟨_,by simp [upd, *],HG.out,rfl,fun k u hu=>hu⟩
      ·cases ho;have e20:fq 20=.slice rs[k].rows[j].ad rs[k].rows[j].rows.length rs[k].rows[j].cap:=HM.out ⟨20,.data⟩ (by simp) rfl;refine aa rfl fun K HK=>?_;clear HM;simp only [e20];go_simp;refine (nJ _ _ rs[k].rows[j].rows _ HQL.out.1 HQL.out.2 HQF.out.2.2 (HOQ.out.below HG.out)).mono ?_;rintro e w5 ⟨rfl,hb5⟩;have HG5:=jP HG hb5;rw [← Zq.out];clear hb5;go_wp2_with fail;exact HK.out _ _ ⟨Value.string ex,by simp [upd,e20],HG5.out,rfl,fun k u hu=>hu⟩
      iterate 2
       ·cases ho;have hm:=HM.out
        try simp [Region.binds] at hm
        refine aa rfl fun K HK=>?_;clear HM
        try simp only [hm]
        go_simp;exact HK.out _ _ ⟨_,by simp [upd, *],HG.out,rfl,fun k u hu=>hu⟩
     case finS =>
      rintro o ho fq w' hG hall;have e23:fq 23=.string ((((o2 ++ rs[k].rows[j].name) ++ ⟨#[32,61,32]⟩) ++ ex) ++ ⟨#[10]⟩):=hall 23 (by omega);have HG:Hid (ag wr w'):=hG;clear hG hall;obtain rfl:=Option.some.inj ho;clear ho;refine wpOp_step rfl (fun K hK=>?_);have HK:Hid (∀ a w,_→K a w):=hK;clear hK;simp only [e23];go_simp;refine HK.out _ _ ?_;clear HK;have HB3:Hid (ag wo w'):=HB2.out.trans (HG.out.mono HB2.out.size);go_wp2;go_roundw;case rel=>exact ⟨j + 1,_,by omega,rfl,by go_num,HI2,HZ3.out,HB3⟩
      case measure=>simp [intOf] <;> omega
    ·obtain rfl:j=rs[k].rows.length:=by omega
     have UI:Hid (o2=dw (ae (rs.take (k + 1)))):=by
      show _=_;rw [HI.out,LC _ _ hlt,mi,HP.out,Ug,ByteArray.append_assoc]
     have Xl:o2.size≤(k + 1) * 5100000:=by omega
     have HB3:Hid (ag w wr):=HB.out.trans (HB2.out.mono HB.out.size);go_wp2;go_roundw;case rel=>exact ⟨k + 1,o2,by omega,rfl,by go_num,UI,Xl,HB3⟩
     case measure=>simp [intOf] <;> omega
  ·obtain rfl:k=rs.length:=by omega
   have HN:Hid (out=dw (ae rs)):=by show _=_; rw [HP.out,Ug]
   go_wp2;go_ret;exact ⟨by rw [HN.out]; rfl,HB.out⟩
theorem Ki {a b a' b':ByteArray} {f f':Bool} (ha:a=a') (hb:b=b') (hf:f=f'):Ending.returned (.tuple #[.string a,.string b,.bool f])=.returned (.tuple #[.string a',.string b',.bool f']):=by rw [ha,hb,hf]
theorem CP (s:bH) (c:UInt8) (w:af) (hs:s.size≤maxLen) :
  Calls prog 177 #[.string s,.int .u8 c.toNat] w fun e w'=>e=.returned (.tuple #[.string (kz c s),.string (iL c s),.bool (o9 c s)])∧∃ n,w'=w.drewN n:=by
 unfold maxLen at hs;go_enter func177,ntmps177;go_wp2
 go_loop [7] (fun i=>∃ k:Nat,k≤s.size∧i=.int .i64 k∧Hid (R9 c s k)) (fun i=>s.size - (intOf i).toNat)
 case atStart=>exact ⟨0,TW _,rfl,Oc _ _⟩
 obtain ⟨k,hk,rfl,hu⟩:=hrel;by_cases hlt:k < s.size
 ·by_cases hc:s[k]=c
  ·have HC:Hid (iV c s.data.toList=_):=Sa hlt hu.out hc;have hcb:((s[k].toNat:Int) == (c.toNat:Int))=true:=by simp [hc]
   have hk1:=bB k;have hk2:(k:Int)≤(s.size:Int):=by omega
   have hk3:(k:Int) + 1≤(s.size:Int):=by omega
   clear hc;go_wp2;go_quiet (fail);go_wp2
   go_ret3
   refine ⟨Ki (gI ?_) (gI ?_) (by simp [o9,HC.out]),nq,rfl⟩
   ·rw [Lib.extract_data]; simp [kz,HC.out]
   rw [Lib.extract_to_end]; simp [iL,HC.out]
  have HU:Hid (R9 c s (k + 1)):=Od hlt hu.out hc;have hcb:((s[k].toNat:Int) == (c.toNat:Int))=false:=by
   simp; intro h; exact hc (UInt8.toNat_inj.mp (by omega))
  clear hc;go_wp2;go_round;case rel=>exact ⟨k + 1,by omega,by go_num,HU⟩
  simp [intOf]; omega
 have HC:Hid (iV c s.data.toList=_):=Oe (Nat.le_of_not_lt hlt) hu.out;go_wp2
 go_ret3
 exact ⟨Ki (by simp [kz,HC.out]) (by simp [iL,HC.out]) (by simp [o9,HC.out]),0,rfl⟩
end Go.Proofs.YtajkkeikihhejaaGreat
