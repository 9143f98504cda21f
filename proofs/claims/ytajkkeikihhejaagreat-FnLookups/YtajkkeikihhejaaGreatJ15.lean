/- A schema's text, in plain words, and how long it can be. -/
import Derived.Test.YtajkkeikihhejaaGreatSq
import Derived.Test.YtajkkeikihhejaaGreatJ14
import Derived.Lib.IndexMore
import Derived.Lib.IndexBytes
import Derived.Lib.Strings
open Go.Proofs.Tryz
set_option maxHeartbeats 80000000
namespace Go.Proofs.YtajkkeikihhejaaGreat
open Pl
def sm:List Nat→Nat
 | []=>0
 | x::xs=>x + sm xs
theorem Cc:∀ xs ys:List Nat,sm (xs ++ ys)=sm xs + sm ys
 | [],ys=>by simp [sm]
 | x::xs,ys=>by rw [List.cons_append]; simp only [sm]; rw [Cc xs ys]; omega
theorem Ku (sep:aD) (xs:List ByteArray):(fu sep xs).size≤sm (xs.map fun x=>x.size + sep.size):=by
 suffices h:∀ ys:List ByteArray,(fu sep ys.reverse).size≤sm (ys.reverse.map fun x=>x.size + sep.size) by
  have:=h xs.reverse;rwa [List.reverse_reverse] at this
 intro ys
 induction ys with
 | nil=>exact Sy _
 | cons y ys ih =>
  rw [List.reverse_cons,oF,List.map_append,Cc];simp only [List.map_cons,List.map_nil,sm];split
  ·omega
  simp only [SV]; omega
def kY (f:Int→Int):List Int→Int
 | []=>0
 | k::ks=>(k - f k + 1) + kY f ks
theorem uC (f:Int→Int):∀ xs ys:List Int,kY f (xs ++ ys)=kY f xs + kY f ys
 | [],ys=>by simp [kY]
 | x::xs,ys=>by rw [List.cons_append]; simp only [kY]; rw [uC f xs ys]; omega
theorem rX (f:Int→Int):∀ xs:List Int,kY f xs.reverse=kY f xs
 | []=>rfl
 | x::xs=>by rw [List.reverse_cons,uC,rX f xs]; simp only [kY]; omega
theorem xz {f:Int→Int}:∀ (ks:List Int) (a:Int),0≤dE f ks a→kY f ks=a + 1 - dE f ks a
 | [],a,_=>by simp [kY,dE]
 | k::ks,a,h=>by
  unfold dE at h ⊢;split at h
  ·omega
  rename_i h1;rw [if_neg h1];split at h
  ·omega
  rename_i h2;rw [if_neg h2];have hk:k=a:=Decidable.byContradiction fun e=>h1 (.inr e);subst hk;simp only [kY];rw [xz ks _ h];omega
theorem Pt {es:List Ex} (hes:Qs es) (ht:∀ j,j < es.length→0≤aH es j) (n:Nat):n < es.length→∀ i,((iN es n i).size:Int)≤250 * ((n:Int) - aH es n + 1):=by
 induction n using Nat.strongRecOn with
 | ind n ih =>
  intro hn i;have hle:=nD es n;have h1:=EJ (Dl es n) i (lT (jv es n) (Dl es n));unfold iN
  suffices h:((lT (jv es n) (Dl es n)).size:Int)≤250 * ((n:Int) - aH es n + 1) - 10 by omega
  have Tw:=hes.2.1 n hn;obtain ⟨hk5,-⟩:=pU Tw;rw [Dn hn];unfold lT;unfold ay at Tw;split
  ·rename_i k;rw [if_pos k] at Tw;simp only [SB] at Tw;have:=j5 Tw.1.1.1;omega
  rename_i k1;rw [if_neg k1] at Tw;split
  ·rename_i k2;rw [if_pos k2] at Tw;simp only [SB] at Tw;have:=bG Tw.1.1.1;omega
  rename_i k2;rw [if_neg k2] at Tw;split
  ·rename_i k3;rw [if_pos k3] at Tw;simp only [SB] at Tw;have h1:=bG Tw.1.1.1;have h2:=bG Tw.1.1.2;have e1:(⟨#[45,62]⟩:ByteArray).size=2:=rfl;simp only [SV];omega
  have hj:=Ku (gG es[n].kind) (es[n].kids.map (jv es n));rw [lQ,List.map_map] at hj;have hspan:kY (dQ es n) es[n].kids=(n:Int) - aH es n:=by
   have h0:=ht n hn;rw [jO] at h0;have h2:=xz _ _ h0;rw [rX,← jO] at h2;have e:lN es n=es[n].kids:=by simp [lN,hn]
   rw [e] at h2;omega
  have hsum:∀ ks:List Int,(∀ k ∈ ks,0≤k∧k.toNat < n)→(sm (ks.map ((fun x:ByteArray=>x.size + 3) ∘ jv es n)):Int)≤250 * kY (dQ es n) ks + 3 * (ks.length:Int):=by
   intro ks
   induction ks with
   | nil=>intro _; simp [sm,kY]
   | cons k ks ih2 =>
    intro hks;obtain ⟨hk0,hk1⟩:=hks k (Tt ..);have h3:=ih2 fun x hx=>hks x (Tj _ hx);have h4:=ih k.toNat hk1 (by omega) true;have e1:jv es n k=iN es k.toNat true:=by unfold jv; rw [if_pos hk1,Dm]
    have e2:dQ es n k=aH es k.toNat:=by unfold dQ; rw [if_pos ⟨hk0,hk1⟩]
    have e3:((k.toNat:Nat):Int)=k:=by omega
    simp only [List.map_cons,sm,kY,Function.comp_apply,List.length_cons];rw [e1,e2];rw [e3] at h4;omega
  have h5:=hsum es[n].kids (uj hes hn);rw [hspan] at h5;have:(es[n].kids.length:Int)≤5:=by omega
  omega
theorem Ni {es:List Ex} (h:aN es=true):∀ j,j < es.length→0≤aH es j:=by
 rw [vJ] at h;unfold kW at h;simp only [SB,SN] at h;have h1:=h.2.1;unfold jr at h1;rw [SQ] at h1;intro j hj;simpa using h1 j (by simpa using hj)
theorem DK (es:List Ex):(gW es).size≤3750:=by
 by_cases h:aN es=true
 ·have ht:=Ni h;have hf:=nP h;have h1:=Pt (MC h) ht (es.length - 1) (by omega) false;have h2:=ht (es.length - 1) (by omega);rw [yV h];omega
 rw [BM (by simpa using h)];show 0≤3750;omega
def E9 (r:Rl):ByteArray:=((r.name ++ ⟨#[32,61,32]⟩) ++ gW r.expr) ++ ⟨#[10]⟩
def dM:List Rl→ByteArray
 | []=>⟨#[]⟩
 | r::rs=>E9 r ++ dM rs
def l7 (n:ByteArray):ByteArray:=(⟨#[116,121,112,101,32]⟩ ++ n) ++ ⟨#[10]⟩
def dm:List Ty→ByteArray
 | []=>⟨#[]⟩
 | t::ts=>(l7 t.name ++ dM t.rels) ++ dm ts
theorem uD (a:aD):a ++ (⟨#[]⟩:ByteArray)=a:=by apply jb; simp [ByteArray.data_append]
theorem qw:∀ (xs:List Rl) (r:Rl),dM (xs ++ [r])=dM xs ++ E9 r
 | [],r=>by simp only [List.nil_append,dM,uD,qV]
 | x::xs,r=>by rw [List.cons_append]; simp only [dM]; rw [qw xs r,← ByteArray.append_assoc]
theorem l8:∀ (xs:List Ty) (t:Ty),dm (xs ++ [t])=dm xs ++ (l7 t.name ++ dM t.rels)
 | [],t=>by simp only [List.nil_append,dm,uD,qV]
 | x::xs,t=>by rw [List.cons_append]; simp only [dm]; rw [l8 xs t,← ByteArray.append_assoc]
theorem Kv (rs:List RR) (k:Nat) (h:k < rs.length):eu (rs.take (k + 1))=eu (rs.take k) ++ [⟨rs[k].name,ak rs[k].rows⟩]:=by
 rw [SA h]; unfold eu; rw [List.map_append]; rfl
theorem Kw (rs:List TR) (k:Nat) (h:k < rs.length):ah (rs.take (k + 1))=ah (rs.take k) ++ [⟨rs[k].name,eu rs[k].rows⟩]:=by
 rw [SA h]; unfold ah; rw [List.map_append]; rfl
theorem xA (n:aD):(l7 n).size=n.size + 6:=by
 have e1:(⟨#[116,121,112,101,32]⟩:ByteArray).size=5:=rfl;have e2:(⟨#[10]⟩:ByteArray).size=1:=rfl;unfold l7;simp only [SV];omega
end Go.Proofs.YtajkkeikihhejaaGreat
namespace Go.Proofs.YtajkkeikihhejaaGreat.Pl
theorem gp {a b:ByteArray} (h:a=b):Ending.returned (.string a)=.returned (.string b):=by rw [h]
theorem Jq {s:ByteArray} (h:nC s=true):1≤s.size∧s.size≤12:=by simpa [nC] using h
theorem nQ {s:ByteArray} (h:aQ s=true):1≤s.size∧s.size≤12:=by
 simp [aQ,dK] at h; exact Jq h.1.1
theorem Nj {s:ByteArray} (h:pu s=true):1≤s.size∧s.size≤12:=by
 simp [pu,dK] at h; exact Jq h.1
theorem yw {t i:ByteArray} (h:eG t i=true):t.size≤12∧i.size≤12:=by
 simp [eG] at h; exact ⟨(nQ h.1).2,(Nj h.2).2⟩
def aA (t i:ByteArray):ByteArray:=if eG t i then t ++ ⟨#[58]⟩ ++ i else ⟨#[]⟩
theorem mJ {t i:ByteArray} (h:eG t i=true):aA t i=t ++ ⟨#[58]⟩ ++ i:=by simp [aA,h]
theorem sU {t i:ByteArray} (h:eG t i=false):aA t i=⟨#[]⟩:=by simp [aA,h]
theorem iD (t i:aD):(aA t i).size≤25:=by
 unfold aA; split
 ·rename_i h;have h2:=yw h;have e1:(ByteArray.mk #[58]).size=1:=rfl;rw [SV,SV,e1];omega
 exact SC _
def uE (s:ByteArray):Bool:=s.toList.isEmpty || aQ s
def bF (a b r c d s:ByteArray):Bool:=eG a b && aQ r && eG c d && uE s
def aY (a b r c d s:ByteArray):ByteArray :=
 if bF a b r c d s then
  (if s.toList.isEmpty then aA a b ++ ⟨#[35]⟩ ++ r ++ ⟨#[64]⟩ ++ aA c d else aA a b ++ ⟨#[35]⟩ ++ r ++ ⟨#[64]⟩ ++ aA c d ++ ⟨#[35]⟩ ++ s)
 else ⟨#[]⟩
theorem sV {a b r c d s:ByteArray} (h:bF a b r c d s=false):aY a b r c d s=⟨#[]⟩:=by simp [aY,h]
theorem mM {a b r c d s:ByteArray} (h:bF a b r c d s=true) (hs:s.toList.isEmpty=true):aY a b r c d s=aA a b ++ ⟨#[35]⟩ ++ r ++ ⟨#[64]⟩ ++ aA c d:=by simp [aY,h,hs]
theorem mP {a b r c d s:ByteArray} (h:bF a b r c d s=true) (hs:s.toList.isEmpty=false):aY a b r c d s=aA a b ++ ⟨#[35]⟩ ++ r ++ ⟨#[64]⟩ ++ aA c d ++ ⟨#[35]⟩ ++ s:=by simp [aY,h,hs]
theorem zw {a b r c d s:ByteArray} (h:eG a b=false):bF a b r c d s=false:=by simp [bF,h]
theorem zx {a b r c d s:ByteArray} (h:aQ r=false):bF a b r c d s=false:=by simp [bF,h]
theorem zy {a b r c d s:ByteArray} (h:eG c d=false):bF a b r c d s=false:=by simp [bF,h]
theorem zz {a b r c d s:ByteArray} (h1:eG a b=true) (h2:aQ r=true) (h3:eG c d=true):bF a b r c d s=uE s:=by simp [bF,h1,h2,h3]
theorem jU {a b r c d s:ByteArray} (h:bF a b r c d s=true):eG a b=true∧aQ r=true∧eG c d=true∧uE s=true:=by
 simp [bF] at h; exact ⟨h.1.1.1,h.1.1.2,h.1.2,h.2⟩
theorem zB {s:ByteArray} (h:s.toList.isEmpty=true):s.size=0:=by
 rw [Go.ByteArray.toList_eq] at h;have h2:s.data.toList=[]:=by simpa using h
 have h3:s.data.toList.length=0:=by rw [h2]; rfl
 simpa using h3
theorem DL {s:ByteArray} (h:uE s=true):s.size≤12:=by
 simp only [uE,Bool.or_eq_true] at h;rcases h with h | h
 ·have:=zB h; omega
 exact (nQ h).2
def iU (c:UInt8):List UInt8→List UInt8 × List UInt8 × Bool
 | []=>([],[],false)
 | b::l=>if b=c then ([],l,true) else (b::(iU c l).1,(iU c l).2.1,(iU c l).2.2)
theorem Pv {c:UInt8} {l:List UInt8} {k:Nat} (hk:k < l.length) (hn:∀ x ∈ l.take k,x ≠ c) (hc:l[k]=c):iU c l=(l.take k,l.drop (k + 1),true):=by
 induction l generalizing k with
 | nil=>simp at hk
 | cons b l ih =>
  cases k with
  | zero=>simp at hc; simp [iU,hc]
  | succ k =>
   have hb:b ≠ c:=hn b (by simp);have:=ih (k:=k) (by simpa using hk) (fun x hx=>hn x (by simp [hx])) (by simpa using hc);simp [iU,hb,this]
theorem qY {c:UInt8} {l:List UInt8} (hn:∀ x ∈ l,x ≠ c):iU c l=(l,[],false):=by
 induction l with
 | nil=>rfl
 | cons b l ih =>
  have hb:b ≠ c:=hn b (by simp);have:=ih (fun x hx=>hn x (by simp [hx]));simp [iU,hb,this]
theorem Fa (c:UInt8) (l:List UInt8):(iU c l).1.length≤l.length∧(iU c l).2.1.length≤l.length:=by
 induction l with
 | nil=>simp [iU]
 | cons b l ih =>
  unfold iU;split
  ·simp
  simp; omega
def kG (c:UInt8) (s:ByteArray):ByteArray:=⟨(iU c s.data.toList).1.toArray⟩
def iL (c:UInt8) (s:ByteArray):ByteArray:=⟨(iU c s.data.toList).2.1.toArray⟩
def oU (c:UInt8) (s:ByteArray):Bool:=(iU c s.data.toList).2.2
theorem Ce (l:List UInt8):(ByteArray.mk l.toArray).size=l.length:=rfl
theorem Pw (c:UInt8) (s:aD):(kG c s).size≤s.size:=by
 unfold kG; rw [Ce]; exact (Fa c s.data.toList).1
theorem Jr (c:UInt8) (s:aD):(iL c s).size≤s.size:=by
 unfold iL; rw [Ce]; exact (Fa c s.data.toList).2
theorem gI {a b:ByteArray} (h:a.data.toList=b.data.toList):a=b:=by
 cases a; cases b; simp at h; simp [h]
def QS (c:UInt8) (s:ByteArray) (k:Nat):Prop:=∀ x ∈ s.data.toList.take k,x ≠ c
theorem Nk (c:UInt8) (s:aD):QS c s 0:=by intro x hx; simp at hx
theorem Nl {c:UInt8} {s:ByteArray} {k:Nat} (h:k < s.size) (hn:QS c s k) (hc:s[k] ≠ c):QS c s (k + 1):=by
 intro x hx;rw [BA s k h] at hx;simp at hx;rcases hx with hx | hx
 ·exact hn x (by simpa using hx)
 subst hx; exact hc
theorem QT {c:UInt8} {s:ByteArray} {k:Nat} (h:k < s.size) (hn:QS c s k) (hc:s[k]=c):iU c s.data.toList=(s.data.toList.take k,s.data.toList.drop (k + 1),true) :=
 Pv (by simpa using h) hn (by simpa [ByteArray.getElem_eq_getElem_data] using hc)
theorem Nn {c:UInt8} {s:ByteArray} {k:Nat} (h:s.size≤k) (hn:QS c s k):iU c s.data.toList=(s.data.toList,[],false) :=
 qY (fun x hx=>hn x (by rw [List.take_of_length_le (by simpa using h)]; exact hx))
def Ry (s:ByteArray):Bool:=eG (kG 58 s) (iL 58 s)
def Sm (s:ByteArray):ByteArray:=if Ry s then kG 58 s else ⟨#[]⟩
def Sn (s:ByteArray):ByteArray:=if Ry s then iL 58 s else ⟨#[]⟩
theorem Kz {c:UInt8} {l:List UInt8} (h:(iU c l).2.2=false):(iU c l).2.1=[]:=by
 induction l with
 | nil=>rfl
 | cons b l ih =>
  unfold iU at h ⊢;split
  ·rename_i hb; simp [hb] at h
  rename_i hb; simp [hb] at h; simpa [hb] using ih h
theorem Np {c:UInt8} {s:ByteArray} (h:oU c s=false):iL c s=⟨#[]⟩:=by
 unfold oU at h; unfold iL; rw [Kz h]
theorem Nq {s:ByteArray} (h:Ry s=true):Sm s=kG 58 s∧Sn s=iL 58 s:=by simp [Sm,Sn,h]
end Go.Proofs.YtajkkeikihhejaaGreat.Pl
namespace Go.Proofs.YtajkkeikihhejaaGreat
open Pl
def Nr:ByteArray:=⟨#[116,121,112,101,32]⟩
def RY:ByteArray:=⟨#[61,32]⟩
def RZ:ByteArray:=⟨#[10]⟩
def zC (l:ByteArray):Bool:=decide (5 < l.size) && (l.extract 0 5).toList == Nr.toList
def xB (t:ByteArray):Bool:=decide (2≤t.size) && (t.extract 0 2).toList == RY.toList
def Cf (l:ByteArray):ByteArray:=(iL 32 l).extract 2 (iL 32 l).size
def DN (acc:List Ty) (r:Rl):List Ty:=match acc.getLast? with
 | none=>[]
 | some t=>acc.dropLast ++ [⟨t.name,t.rels ++ [r]⟩]
theorem qx (xs:List Ty) (t:Ty) (r:Rl):DN (xs ++ [t]) r=xs ++ [⟨t.name,t.rels ++ [r]⟩]:=by
 unfold DN; simp
def mQ (acc:List Ty) (l:ByteArray):Option (List Ty) :=
 if zC l then some (acc ++ [⟨l.extract 5 l.size,[]⟩])
 else if !acc.isEmpty && xB (iL 32 l) && lZ (Cf l) then some (DN acc ⟨kG 32 l,(kD (Cf l)).out⟩) else none
def dN:Nat→ByteArray→List Ty→Option (List Ty)
 | 0,_,acc=>some acc
 | n + 1,rest,acc =>
  if rest.toList.isEmpty then some acc
  else if oU 10 rest then
   match mQ acc (kG 10 rest) with
   | none=>none
   | some a=>dN n (iL 10 rest) a
  else none
theorem ma (b:aD):b.toList=b.data.toList:=Go.ByteArray.toList_eq b
theorem KA (c:UInt8) (l:List UInt8) (h:(iU c l).2.2=true):l=(iU c l).1 ++ c::(iU c l).2.1:=by
 induction l with
 | nil=>simp [iU] at h
 | cons b l ih =>
  unfold iU at h ⊢;split
  ·rename_i e; simp [e]
  rename_i e;rw [if_neg e] at h;simp only [List.cons_append,List.cons.injEq,true_and];exact ih h
theorem zD {c:UInt8} {s:ByteArray} (h:oU c s=true):s=(kG c s ++ ⟨#[c]⟩) ++ iL c s:=by
 apply jb;have:=KA c s.data.toList h;simpa [kG,iL,ByteArray.data_append] using this
theorem Fb {c:UInt8} {s:ByteArray} (h:oU c s=true):(iL c s).size < s.size:=by
 have:=congrArg ByteArray.size (zD h);have e1:(⟨#[c]⟩:ByteArray).size=1:=rfl;simp only [SV,e1] at this;omega
theorem Fe (l:aD) (k:Nat) (hk:k≤l.size):l=l.extract 0 k ++ l.extract k l.size:=by
 apply jb;rw [ByteArray.data_append,ByteArray.data_extract,ByteArray.data_extract];have hk':k≤l.data.size:=hk;have h2:l.size=l.data.size:=rfl;rw [h2];simp;rw [show max k l.size=l.data.toList.length by simp [Nat.max_def]; omega,SS]
theorem toList_inj {a b:ByteArray} (h:a.toList=b.toList):a=b:=by
 rw [ma,ma] at h; exact jb h
theorem Ns {l:ByteArray} (h:zC l=true):l=Nr ++ l.extract 5 l.size:=by
 unfold zC at h;simp only [SB,SN,beq_iff_eq] at h;have e:=toList_inj h.2
 conv=>lhs; rw [Fe l 5 (by omega),e]
theorem Nt {l:ByteArray} (h:xB (iL 32 l)=true):l=((kG 32 l ++ ⟨#[32,61,32]⟩) ++ Cf l):=by
 unfold xB at h;simp only [SB,SN,beq_iff_eq] at h;have hf:oU 32 l=true:=by
  cases e:oU 32 l;case true=>rfl
  rw [Np e] at h; exact absurd h.1 (by decide)
 have e:=toList_inj h.2;have e2:iL 32 l=RY ++ Cf l:=by
  conv=>lhs; rw [Fe (iL 32 l) 2 h.1,e]
  rfl
 have e3:(⟨#[32,61,32]⟩:ByteArray)=⟨#[32]⟩ ++ RY:=by apply jb; simp [ByteArray.data_append,RY]
 conv=>lhs; rw [zD hf,e2]
 rw [e3];simp only [ByteArray.append_assoc]
theorem zF {s:ByteArray} (h:lZ s=true):gW (kD s).out=s∧s.size≤1000∧aN (kD s).out=true:=by
 unfold lZ at h;simp only [SB,SN,beq_iff_eq] at h;exact ⟨toList_inj h.2,h.1.1.1.1,h.1.2⟩
theorem KC {acc acc':List Ty} {l:ByteArray} (h:mQ acc l=some acc'):dm acc'=dm acc ++ (l ++ RZ):=by
 unfold mQ at h;split at h
 ·rename_i ht;injection h with h;subst h;rw [l8]
  conv=>rhs; rw [Ns ht]
  simp only [l7,dM,uD];rfl
 split at h
 ·rename_i h2;injection h with h;subst h;simp only [SB,Bool.not_eq_true'] at h2;obtain ⟨⟨h3,h4⟩,h5⟩:=h2;have hne:acc ≠ []:=fun e=>by rw [e] at h3; simp at h3
  have e1:=List.dropLast_concat_getLast hne;rw [← e1,qx,l8,l8,qw]
  conv=>rhs; rw [Nt h4]
  have e2:=(zF h5).1;simp only [E9,e2,ByteArray.append_assoc];rfl
 cases h
def Qx (T:List Ty):Prop:=∀ t ∈ T,∀ r ∈ t.rels,r.expr.length≤15∧∀ e ∈ r.expr,e.light∧e.fits
theorem Px {acc acc':List Ty} {l:ByteArray} (h:mQ acc l=some acc') (hk:Qx acc):Qx acc':=by
 unfold mQ at h;split at h
 ·injection h with h;subst h;intro t ht r hr;rcases SI.1 ht with ht | ht
  ·exact hk t ht r hr
  rw [SG] at ht; subst ht; cases hr
 split at h
 ·rename_i h2;injection h with h;subst h;simp only [SB,Bool.not_eq_true'] at h2;obtain ⟨⟨h3,h4⟩,h5⟩:=h2;have hne:acc ≠ []:=fun e=>by rw [e] at h3; simp at h3
  have e1:=List.dropLast_concat_getLast hne;obtain ⟨-,hs,hsp⟩:=zF h5;intro t ht r hr;rw [← e1,qx] at ht;rcases SI.1 ht with ht | ht
  ·exact hk t (by rw [← e1]; exact List.mem_append_left _ ht) r hr
  rw [SG] at ht; subst ht;rcases SI.1 hr with hr | hr
  ·exact hk (acc.getLast hne) (List.getLast_mem hne) r hr
  rw [SG] at hr; subst hr;refine ⟨(nP hsp).2,fun e he=>?_⟩;exact (MW (s:=Cf l) _ true ⟨0,false,[]⟩ (SC _) (fun e he=>by cases he) e he).light hs
 cases h
theorem xC:∀ (rs:List Rl),rs.length * 4≤(dM rs).size∧∀ r ∈ rs,r.name.size + 4≤(dM rs).size
 | []=>⟨by simp,fun r hr=>by cases hr⟩
 | r::rs=>by
  obtain ⟨h1,h2⟩:=xC rs;have e1:(⟨#[32,61,32]⟩:ByteArray).size=3:=rfl;have e2:(⟨#[10]⟩:ByteArray).size=1:=rfl;have h3:(dM (r::rs)).size=r.name.size + 3 + (gW r.expr).size + 1 + (dM rs).size:=by simp only [dM,E9,SV,e1,e2]
  refine ⟨by rw [h3,List.length_cons]; omega,fun q hq=>?_⟩;rcases List.mem_cons.1 hq with rfl | hq
  ·omega
  have:=h2 q hq; omega
theorem zG:∀ (T:List Ty),T.length * 6≤(dm T).size∧∀ t ∈ T,t.name.size + 6 + (dM t.rels).size≤(dm T).size
 | []=>⟨by simp,fun r hr=>by cases hr⟩
 | t::ts=>by
  obtain ⟨h1,h2⟩:=zG ts;have h3:(dm (t::ts)).size=t.name.size + 6 + (dM t.rels).size + (dm ts).size:=by simp only [dm,SV,xA]
  refine ⟨by rw [h3,List.length_cons]; omega,fun q hq=>?_⟩;rcases List.mem_cons.1 hq with rfl | hq
  ·omega
  have:=h2 q hq; omega
theorem rows_ok {rs:List TR} (hk:Qx (ah rs)) (hz:(dm (ah rs)).size≤3000):rs.length≤500∧(∀ r ∈ rs,r.rows.length≤750∧r.name.size≤3000∧∀ q ∈ r.rows,q.name.size≤3000)∧(∀ r ∈ rs,r.light)∧∀ r ∈ rs,r.fits:=by
 obtain ⟨h1,h2⟩:=zG (ah rs);rw [lh] at h1;have key:∀ r ∈ rs,r.rows.length≤750∧r.name.size≤3000∧∀ q ∈ r.rows,q.name.size≤3000:=fun r hr=>by
  have h3:=h2 r.p (SK.2 ⟨r,hr,rfl⟩);obtain ⟨h4,h5⟩:=xC (eu r.rows);rw [qP] at h4;have h6:r.name.size + 6 + (dM (eu r.rows)).size≤(dm (ah rs)).size:=h3;refine ⟨by omega,by omega,fun q hq=>?_⟩;have:=h5 q.p (SK.2 ⟨q,hq,rfl⟩);have h7:q.name.size + 4≤(dM (eu r.rows)).size:=this;omega
 have kex:∀ r ∈ rs,∀ q ∈ r.rows,q.rows.length≤15∧∀ x ∈ q.rows,x.e.light∧x.e.fits:=fun r hr q hq=>by
  have:=hk r.p (SK.2 ⟨r,hr,rfl⟩) q.p (SK.2 ⟨q,hq,rfl⟩);exact ⟨by rw [← bi]; exact this.1,fun x hx=>this.2 x.e (SK.2 ⟨x,hx,rfl⟩)⟩
 refine ⟨by omega,key,fun r hr=>⟨by have:=(key r hr).1; omega,fun q hq=>⟨by have:=(kex r hr q hq).1; omega,fun x hx=>((kex r hr q hq).2 x hx).1⟩⟩,fun r hr=>⟨by have:=(key r hr).2.1; unfold maxLen; omega,by have:=(key r hr).1; unfold maxLen; omega,fun q hq=>⟨by have:=(key r hr).2.2 q hq; unfold maxLen; omega,by have:=(kex r hr q hq).1; unfold maxLen; omega,fun x hx=>((kex r hr q hq).2 x hx).2⟩⟩⟩
open Go.ChangeAt Go.ChangeShapes Go.RowKit Go.WideShapes
theorem QU (o n e:aD):(((o ++ n) ++ ⟨#[32,61,32]⟩) ++ e) ++ ⟨#[10]⟩=o ++ (((n ++ ⟨#[32,61,32]⟩) ++ e) ++ ⟨#[10]⟩):=by
 simp only [ByteArray.append_assoc]
theorem Nu (o n:aD):((o ++ ⟨#[116,121,112,101,32]⟩) ++ n) ++ ⟨#[10]⟩=o ++ l7 n:=by
 unfold l7; simp only [ByteArray.append_assoc]
structure Small3 (rs:List TR):Prop where
 six:rs.length≤500
 rels:∀ r ∈ rs,r.rows.length≤750
 name:∀ r ∈ rs,r.name.size≤3000
 names:∀ r ∈ rs,∀ q ∈ r.rows,q.name.size≤3000
set_option maxRecDepth 100000 in
theorem DR (ad:Option Addr) (cap:Nat) (rs:List TR) (w:ae) (hm:Small3 rs) (hs:mD w ad rs) (hl:∀ r ∈ rs,r.light) (hf:∀ r ∈ rs,r.fits) :
  Calls prog 179 #[.slice ad rs.length cap] w fun e w'=>e=.returned (.string (dm (ah rs)))∧af w w':=by
 have HS:=az hs;have HL:=az hl;have TP:=az hf;have HM:=az hm;have h6:=hm.six;clear hs hl hf hm;go_enter func179,ntmps179;go_wp2;go_loopw [3,4] (fun o i wr=>∃ (k:Nat) (out:ByteArray),k≤rs.length∧o=.string out∧i=.int .i64 k∧Hid (out=dm (ah (rs.take k)))∧out.size≤k * 5100000∧Hid (af w wr)) (fun _ i _=>rs.length - (intOf i).toNat);case atStart=>exact ⟨0,⟨#[]⟩,SC _,rfl,rfl,rfl,SC _,Sz _ _⟩
 case round =>
  obtain ⟨k,out,hk,rfl,rfl,HP,hz,HB⟩:=hrel;obtain ⟨wo,rfl⟩:∃ x,x=wr:=⟨_,rfl⟩;by_cases hlt:k < rs.length
  ·rcases HS.out.below HB.out with rfl | ⟨b,off,rfl,hb,hr,hok⟩
   ·simp at hlt
   obtain ⟨t0,t1⟩:=hr k hlt;have U6:Hid (rs[k].ok wo):=hok rs[k] (Sw hlt);have hn12:=HM.out.name rs[k] (Sw hlt);have VL:=HM.out.rels rs[k] (Sw hlt);have HN12:Hid (∀ q ∈ rs[k].rows,q.name.size≤3000):=HM.out.names rs[k] (Sw hlt);have Wh:Hid (rs[k].light):=HL.out _ (Sw hlt);have VZ:Hid (rs[k].fits):=TP.out _ (Sw hlt);have hk1:=bq k;have hk2:(k:Int) < (rs.length:Int):=by omega
   have hrl:(rs[k].rows.length:Int)≤750:=by omega
   clear hr hok;go_wp2;go_loopw [3,5] (fun o i wr=>∃ (j:Nat) (o2:ByteArray),j≤rs[k].rows.length∧o=.string o2∧i=.int .i64 j∧Hid (o2=(out ++ l7 rs[k].name) ++ dM (eu (rs[k].rows.take j)))∧o2.size≤k * 5100000 + 3010 + j * 6760∧Hid (af wo wr)) (fun _ i _=>rs[k].rows.length - (intOf i).toNat);case atStart=>exact ⟨0,_,SC _,rfl,rfl,by show _=_; rw [Nu,List.take_zero,show eu []=[] from rfl]; simp only [dM,uD],by rw [Nu,SV,xA]; omega,Sz _ _⟩
   case round =>
    obtain ⟨j,o2,hj,rfl,rfl,HI,hz2,HB2⟩:=hrel;replace t0:=aI HB2.out hb t0;replace t1:=aI HB2.out hb t1;have hbw:b < wr.heap.size:=Sv hb HB2.out.size;by_cases hjl:j < rs[k].rows.length
    ·rcases U6.out.below HB2.out with hnil | ⟨b2,Uc,had,hb2,hr2,hok2⟩
     ·rw [hnil] at hjl; simp at hjl
     rw [had] at t1;obtain ⟨u0,u1⟩:=hr2 j hjl;have HOQ:Hid (rs[k].rows[j].ok wr):=hok2 rs[k].rows[j] (Sw hjl);have hj1:=bq j;have hj2:(j:Int) < (rs[k].rows.length:Int):=by omega
     have hq12:=HN12.out _ (Sw hjl);have HQL:Hid (rs[k].rows[j].light):=Wh.out.2 _ (Sw hjl);have HQF:Hid (rs[k].rows[j].fits):=VZ.out.2.2 _ (Sw hjl);obtain ⟨ex,hex⟩:∃ ex,ex=gW (ak rs[k].rows[j].rows):=⟨_,rfl⟩;have ZA:Hid (ex=gW (ak rs[k].rows[j].rows)):=hex;have hxs:ex.size≤3750:=by rw [hex]; exact DK _
     have q1:(9223372036854775807 < o2.size + rs[k].rows[j].name.size)=False:=by simp; omega
     have q2:(9223372036854775807 < o2.size + rs[k].rows[j].name.size + 3)=False:=by simp; omega
     have q3:(9223372036854775807 < o2.size + rs[k].rows[j].name.size + 3 + ex.size)=False:=by simp; omega
     have q4:(9223372036854775807 < o2.size + rs[k].rows[j].name.size + 3 + ex.size + 1)=False:=by simp; omega
     have HI2:Hid ((((o2 ++ rs[k].rows[j].name) ++ ⟨#[32,61,32]⟩) ++ ex) ++ ⟨#[10]⟩=(out ++ l7 rs[k].name) ++ dM (eu (rs[k].rows.take (j + 1)))):=by
      show _=_;rw [QU,Kv _ _ hjl,qw,HI.out,hex];simp only [ByteArray.append_assoc,E9]
     have hz3:((((o2 ++ rs[k].rows[j].name) ++ ⟨#[32,61,32]⟩) ++ ex) ++ ⟨#[10]⟩:ByteArray).size≤k * 5100000 + 3010 + (j + 1) * 6760:=by
      have e1:(⟨#[32,61,32]⟩:ByteArray).size=3:=rfl;have e2:(⟨#[10]⟩:ByteArray).size=1:=rfl;simp only [SV]; omega
     have HZ3:Hid (((((o2 ++ rs[k].rows[j].name) ++ ⟨#[32,61,32]⟩) ++ ex) ++ ⟨#[10]⟩:ByteArray).size≤k * 5100000 + 3010 + (j + 1) * 6760):=hz3;clear hr2 hok2 had hex hz3;go_wp2_with fail;refine pM 24 (fun n=>(u31::u32::u33::u34::u35::u36::u37::u38::u39::u40::u41::u42::u43::u44::u45::u46::u47::u48::u49::u50::u51::u52::u53::u54::[]).getD n undef) (fun fq=>{ tmps:=List.toArray (Value.slice (some ⟨b,off,none⟩) rs.length cap::undef::.string { data:=#[] }::.string o2::.int .i64 k::.int .i64 j::.int .i64 k::.slice (some ⟨b,off,none⟩) rs.length cap::.int .i64 rs.length::.bool true::u10::u11::.string out::.string (out ++ { data:=#[116,121,112,101,32] })::.slice (some ⟨b,off,none⟩) rs.length cap::.int .i64 k::.pointer (some ⟨b,off + k * 2,none⟩)::.pointer (some ⟨b,off + k * 2,none⟩)::.string rs[k].name::.string (out ++ { data:=#[116,121,112,101,32] } ++ rs[k].name)::.string (out ++ { data:=#[116,121,112,101,32] } ++ rs[k].name ++ { data:=#[10] })::.int .i64 j::.slice (some ⟨b,off,none⟩) rs.length cap::.int .i64 k::.pointer (some ⟨b,off + k * 2,none⟩)::.pointer (some ⟨b,off + k * 2 + 1,none⟩)::.slice (some ⟨b2,Uc,none⟩) rs[k].rows.length rs[k].cap::.int .i64 rs[k].rows.length::.bool true::u29::u30::fq 0::fq 1::fq 2::fq 3::fq 4::fq 5::fq 6::fq 7::fq 8::fq 9::fq 10::fq 11::fq 12::fq 13::fq 14::fq 15::fq 16::fq 17::fq 18::fq 19::fq 20::fq 21::fq 22::fq 23::undef::[]),defers:=[] }) (fun n v _=>v=(Value.string o2::.slice (some ⟨b,off,none⟩) rs.length cap::.int .i64 k::.pointer (some ⟨b,off + k * 2,none⟩)::.pointer (some ⟨b,off + k * 2 + 1,none⟩)::.slice (some ⟨b2,Uc,none⟩) rs[k].rows.length rs[k].cap::.int .i64 j::.pointer (some ⟨b2,Uc + j * 2,none⟩)::.pointer (some ⟨b2,Uc + j * 2,none⟩)::.string rs[k].rows[j].name::.string (o2 ++ rs[k].rows[j].name)::.string ((o2 ++ rs[k].rows[j].name) ++ ⟨#[32,61,32]⟩)::.slice (some ⟨b,off,none⟩) rs.length cap::.int .i64 k::.pointer (some ⟨b,off + k * 2,none⟩)::.pointer (some ⟨b,off + k * 2 + 1,none⟩)::.slice (some ⟨b2,Uc,none⟩) rs[k].rows.length rs[k].cap::.int .i64 j::.pointer (some ⟨b2,Uc + j * 2,none⟩)::.pointer (some ⟨b2,Uc + j * 2 + 1,none⟩)::.slice rs[k].rows[j].ad rs[k].rows[j].rows.length rs[k].rows[j].cap::.string ex::.string (((o2 ++ rs[k].rows[j].name) ++ ⟨#[32,61,32]⟩) ++ ex)::.string ((((o2 ++ rs[k].rows[j].name) ++ ⟨#[32,61,32]⟩) ++ ex) ++ ⟨#[10]⟩)::[]).getD n undef) (fun w'=>af wr w') (by kernel_rfl) rfl (by kernel_rfl) (by kernel_rfl) rfl (Sz _ _).drew ?stepS ?finS;case stepS =>
      rintro i hi o ho fq w' hG hpre;have HG:Hid (af wr w'):=hG;replace t1:=aI hG hbw t1;replace u0:=aI hG hb2 u0;replace u1:=aI hG hb2 u1;have HM:Hid (∀ e ∈ o.after,Region.binds .any e=true→_):=hpre;clear hG hpre;have hc:=RH (i:=i) (by omega);clear hi
      repeat' rcases hc with rfl | hc
      iterate 21
       ·cases ho;have hm:=HM.out
        try simp [Region.binds] at hm
        refine aa rfl fun K HK=>?_;clear HM
        try simp only [hm]
        go_simp;exact HK.out _ _ ⟨_,by simp [upd, *],HG.out,rfl,fun k u hu=>hu⟩
      ·cases ho;have e20:fq 20=.slice rs[k].rows[j].ad rs[k].rows[j].rows.length rs[k].rows[j].cap:=HM.out ⟨20,.data⟩ (by simp) rfl;refine aa rfl fun K HK=>?_;clear HM;simp only [e20];go_simp;refine (nG _ _ rs[k].rows[j].rows _ HQL.out.1 HQL.out.2 HQF.out.2.2 (HOQ.out.below HG.out)).mono ?_;rintro e w5 ⟨rfl,hb5⟩;have HG5:=jI HG hb5;rw [← ZA.out];clear hb5;go_wp2_with fail;exact HK.out _ _ ⟨Value.string ex,by simp [upd,e20],HG5.out,rfl,fun k u hu=>hu⟩
      iterate 2
       ·cases ho;have hm:=HM.out
        try simp [Region.binds] at hm
        refine aa rfl fun K HK=>?_;clear HM
        try simp only [hm]
        go_simp;exact HK.out _ _ ⟨_,by simp [upd, *],HG.out,rfl,fun k u hu=>hu⟩
     case finS =>
      rintro o ho fq w' hG hall;have e23:fq 23=.string ((((o2 ++ rs[k].rows[j].name) ++ ⟨#[32,61,32]⟩) ++ ex) ++ ⟨#[10]⟩):=hall 23 (by omega);have HG:Hid (af wr w'):=hG;clear hG hall;obtain rfl:=Option.some.inj ho;clear ho;refine wpOp_step rfl (fun K hK=>?_);have HK:Hid (∀ a w,_→K a w):=hK;clear hK;simp only [e23];go_simp;refine HK.out _ _ ?_;clear HK;have HB3:Hid (af wo w'):=HB2.out.trans (HG.out.mono HB2.out.size);go_wp2;go_roundw;case rel=>exact ⟨j + 1,_,by omega,rfl,by go_num,HI2,HZ3.out,HB3⟩
      case measure=>simp [intOf] <;> omega
    ·obtain rfl:j=rs[k].rows.length:=by omega
     have TG:Hid (o2=dm (ah (rs.take (k + 1)))):=by
      show _=_;rw [HI.out,Kw _ _ hlt,l8,HP.out,SS,ByteArray.append_assoc]
     have Ww:o2.size≤(k + 1) * 5100000:=by omega
     have HB3:Hid (af w wr):=HB.out.trans (HB2.out.mono HB.out.size);go_wp2;go_roundw;case rel=>exact ⟨k + 1,o2,by omega,rfl,by go_num,TG,Ww,HB3⟩
     case measure=>simp [intOf] <;> omega
  ·obtain rfl:k=rs.length:=by omega
   have HN:Hid (out=dm (ah rs)):=by show _=_; rw [HP.out,SS]
   go_wp2;go_ret;exact ⟨by rw [HN.out]; rfl,HB.out⟩
theorem Js {a b a' b':ByteArray} {f f':Bool} (ha:a=a') (hb:b=b') (hf:f=f'):Ending.returned (.tuple #[.string a,.string b,.bool f])=.returned (.tuple #[.string a',.string b',.bool f']):=by rw [ha,hb,hf]
theorem Cg (s:aD) (c:UInt8) (w:ae) (hs:s.size≤maxLen) :
  Calls prog 177 #[.string s,.int .u8 c.toNat] w fun e w'=>e=.returned (.tuple #[.string (kG c s),.string (iL c s),.bool (oU c s)])∧∃ n,w'=w.drewN n:=by
 unfold maxLen at hs;go_enter func177,ntmps177;go_wp2
 go_loop [7] (fun i=>∃ k:Nat,k≤s.size∧i=.int .i64 k∧Hid (QS c s k)) (fun i=>s.size - (intOf i).toNat)
 case atStart=>exact ⟨0,SC _,rfl,Nk _ _⟩
 obtain ⟨k,hk,rfl,hu⟩:=hrel;by_cases hlt:k < s.size
 ·by_cases hc:s[k]=c
  ·have HC:Hid (iU c s.data.toList=_):=QT hlt hu.out hc;have hcb:((s[k].toNat:Int) == (c.toNat:Int))=true:=by simp [hc]
   have hk1:=bq k;have hk2:(k:Int)≤(s.size:Int):=by omega
   have hk3:(k:Int) + 1≤(s.size:Int):=by omega
   clear hc;go_wp2;go_quiet (fail);go_wp2
   go_ret3
   refine ⟨Js (gI ?_) (gI ?_) (by simp [oU,HC.out]),nq,rfl⟩
   ·rw [Lib.extract_data]; simp [kG,HC.out]
   rw [Lib.extract_to_end]; simp [iL,HC.out]
  have HU:Hid (QS c s (k + 1)):=Nl hlt hu.out hc;have hcb:((s[k].toNat:Int) == (c.toNat:Int))=false:=by
   simp; intro h; exact hc (UInt8.toNat_inj.mp (by omega))
  clear hc;go_wp2;go_round;case rel=>exact ⟨k + 1,by omega,by go_num,HU⟩
  simp [intOf]; omega
 have HC:Hid (iU c s.data.toList=_):=Nn (Nat.le_of_not_lt hlt) hu.out;go_wp2
 go_ret3
 exact ⟨Js (by simp [kG,HC.out]) (by simp [iL,HC.out]) (by simp [oU,HC.out]),0,rfl⟩
end Go.Proofs.YtajkkeikihhejaaGreat
