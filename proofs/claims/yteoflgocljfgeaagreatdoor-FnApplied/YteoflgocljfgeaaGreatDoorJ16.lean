/- A schema's text, in plain words, and how long it can be. -/
import Derived.Test.YteoflgocljfgeaaGreatDoorJ15
import Derived.Lib.IndexMore
import Derived.Lib.IndexBytes
import Derived.Lib.Strings
open Go.Proofs.Tryz
set_option maxHeartbeats 80000000
namespace Go.Proofs.YteoflgocljfgeaaGreatDoor
open Pl
def sm:List Nat→Nat
 | []=>0
 | x::xs=>x + sm xs
theorem zi:∀ xs ys:List Nat,sm (xs ++ ys)=sm xs + sm ys
 | [],ys=>by simp [sm]
 | x::xs,ys=>by rw [List.cons_append]; simp only [sm]; rw [zi xs ys]; omega
theorem Gb (sep:ByteArray) (xs:List ByteArray):(dS sep xs).size≤sm (xs.map fun x=>x.size + sep.size):=by
 suffices h:∀ ys:List ByteArray,(dS sep ys.reverse).size≤sm (ys.reverse.map fun x=>x.size + sep.size) by
  have:=h xs.reverse;rwa [List.reverse_reverse] at this
 intro ys
 induction ys with
 | nil=>exact Nat.le_refl _
 | cons y ys ih =>
  rw [List.reverse_cons,lZ,List.map_append,zi];simp only [List.map_cons,List.map_nil,sm];split
  ·omega
  ·simp only [ByteArray.size_append]; omega
def jH (f:Int→Int):List Int→Int
 | []=>0
 | k::ks=>(k - f k + 1) + jH f ks
theorem rC (f:Int→Int):∀ xs ys:List Int,jH f (xs ++ ys)=jH f xs + jH f ys
 | [],ys=>by simp [jH]
 | x::xs,ys=>by rw [List.cons_append]; simp only [jH]; rw [rC f xs ys]; omega
theorem pX (f:Int→Int):∀ xs:List Int,jH f xs.reverse=jH f xs
 | []=>rfl
 | x::xs=>by rw [List.reverse_cons,rC,pX f xs]; simp only [jH]; omega
theorem uw {f:Int→Int}:∀ (ks:List Int) (a:Int),0≤bZ f ks a→jH f ks=a + 1 - bZ f ks a
 | [],a,_=>by simp [jH,bZ]
 | k::ks,a,h=>by
  unfold bZ at h ⊢;split at h
  ·omega
  ·rename_i h1;rw [if_neg h1];split at h
   ·omega
   ·rename_i h2;rw [if_neg h2];have hk:k=a:=Decidable.byContradiction fun e=>h1 (.inr e);subst hk;simp only [jH];rw [uw ks _ h];omega
theorem KQ {es:List Ex} (hes:KA es) (ht:∀ j,j < es.length→0≤aH es j) (n:Nat):n < es.length→∀ i,((gq es n i).size:Int)≤250 * ((n:Int) - aH es n + 1):=by
 induction n using Nat.strongRecOn with
 | ind n ih =>
  intro hn i;have hle:=kZ es n;have h1:=Bu (zW es n) i (jU (ic es n) (zW es n));unfold gq
  suffices h:((jU (ic es n) (zW es n)).size:Int)≤250 * ((n:Int) - aH es n + 1) - 10 by omega
  have hnode:=hes.2.1 n hn;obtain ⟨hk5,-⟩:=qo hnode;rw [zY hn];unfold jU;unfold ay at hnode;split
  ·rename_i k;rw [if_pos k] at hnode;simp only [Bool.and_eq_true] at hnode;have:=jc hnode.1.1.1;omega
  rename_i k1;rw [if_neg k1] at hnode;split
  ·rename_i k2;rw [if_pos k2] at hnode;simp only [Bool.and_eq_true] at hnode;have:=bu hnode.1.1.1;omega
  rename_i k2;rw [if_neg k2] at hnode;split
  ·rename_i k3;rw [if_pos k3] at hnode;simp only [Bool.and_eq_true] at hnode;have h1:=bu hnode.1.1.1;have h2:=bu hnode.1.1.2;have e1:(⟨#[45,62]⟩:ByteArray).size=2:=rfl;simp only [ByteArray.size_append];omega
  ·have hj:=Gb (eT es[n].kind) (es[n].kids.map (ic es n));rw [jT,List.map_map] at hj;have hspan:jH (dA es n) es[n].kids=(n:Int) - aH es n:=by
    have h0:=ht n hn;rw [iL] at h0;have h2:=uw _ _ h0;rw [pX,← iL] at h2;have e:kP es n=es[n].kids:=by simp [kP,hn]
    rw [e] at h2;omega
   have hsum:∀ ks:List Int,(∀ k ∈ ks,0≤k∧k.toNat < n)→(sm (ks.map ((fun x:ByteArray=>x.size + 3) ∘ ic es n)):Int)≤250 * jH (dA es n) ks + 3 * (ks.length:Int):=by
    intro ks
    induction ks with
    | nil=>intro _; simp [sm,jH]
    | cons k ks ih2 =>
     intro hks;obtain ⟨hk0,hk1⟩:=hks k (List.mem_cons_self ..);have h3:=ih2 fun x hx=>hks x (List.mem_cons_of_mem _ hx);have h4:=ih k.toNat hk1 (by omega) true;have e1:ic es n k=gq es k.toNat true:=by unfold ic; rw [if_pos hk1,zX]
     have e2:dA es n k=aH es k.toNat:=by unfold dA; rw [if_pos ⟨hk0,hk1⟩]
     have e3:((k.toNat:Nat):Int)=k:=by omega
     simp only [List.map_cons,sm,jH,Function.comp_apply,List.length_cons];rw [e1,e2];rw [e3] at h4;omega
   have h5:=hsum es[n].kids (qX hes hn);rw [hspan] at h5;have:(es[n].kids.length:Int)≤5:=by omega
   omega
theorem IY {es:List Ex} (h:aS es=true):∀ j,j < es.length→0≤aH es j:=by
 rw [sD] at h;unfold ji at h;simp only [Bool.and_eq_true,decide_eq_true_eq] at h;have h1:=h.2.1;unfold ib at h1;rw [List.all_eq_true] at h1;intro j hj;simpa using h1 j (by simpa using hj)
theorem Aq (es:List Ex):(fu es).size≤3750:=by
 by_cases h:aS es=true
 ·have ht:=IY h;have hf:=lw h;have h1:=KQ (Ig h) ht (es.length - 1) (by omega) false;have h2:=ht (es.length - 1) (by omega);rw [wh h];omega
 ·rw [yT (by simpa using h)];show 0≤3750;omega
def BL (r:Rl):ByteArray:=((r.name ++ ⟨#[32,61,32]⟩) ++ fu r.expr) ++ ⟨#[10]⟩
def dm:List Rl→ByteArray
 | []=>⟨#[]⟩
 | r::rs=>BL r ++ dm rs
def j3 (n:ByteArray):ByteArray:=(⟨#[116,121,112,101,32]⟩ ++ n) ++ ⟨#[10]⟩
def bN:List Ty→ByteArray
 | []=>⟨#[]⟩
 | t::ts=>(j3 t.name ++ dm t.rels) ++ bN ts
theorem rD (a:ByteArray):a ++ (⟨#[]⟩:ByteArray)=a:=by apply gM; simp [ByteArray.data_append]
theorem nW:∀ (xs:List Rl) (r:Rl),dm (xs ++ [r])=dm xs ++ BL r
 | [],r=>by simp only [List.nil_append,dm,rD,oO]
 | x::xs,r=>by rw [List.cons_append]; simp only [dm]; rw [nW xs r,← ByteArray.append_assoc]
theorem j4:∀ (xs:List Ty) (t:Ty),bN (xs ++ [t])=bN xs ++ (j3 t.name ++ dm t.rels)
 | [],t=>by simp only [List.nil_append,bN,rD,oO]
 | x::xs,t=>by rw [List.cons_append]; simp only [bN]; rw [j4 xs t,← ByteArray.append_assoc]
theorem Gc (rs:List RR) (k:Nat) (h:k < rs.length):dO (rs.take (k + 1))=dO (rs.take k) ++ [⟨rs[k].name,au rs[k].rows⟩]:=by
 rw [List.take_succ_eq_append_getElem h]; unfold dO; rw [List.map_append]; rfl
theorem Gd (rs:List TR) (k:Nat) (h:k < rs.length):ah (rs.take (k + 1))=ah (rs.take k) ++ [⟨rs[k].name,dO rs[k].rows⟩]:=by
 rw [List.take_succ_eq_append_getElem h]; unfold ah; rw [List.map_append]; rfl
theorem uy (n:ByteArray):(j3 n).size=n.size + 6:=by
 have e1:(⟨#[116,121,112,101,32]⟩:ByteArray).size=5:=rfl;have e2:(⟨#[10]⟩:ByteArray).size=1:=rfl;unfold j3;simp only [ByteArray.size_append];omega
end Go.Proofs.YteoflgocljfgeaaGreatDoor
namespace Go.Proofs.YteoflgocljfgeaaGreatDoor.Pl
theorem jf {a b:ByteArray} (h:a=b):Ending.returned (.string a)=.returned (.string b):=by rw [h]
theorem EZ {s:ByteArray} (h:kY s=true):1≤s.size∧s.size≤12:=by simpa [kY] using h
theorem rE {s:ByteArray} (h:aU s=true):1≤s.size∧s.size≤12:=by
 simp [aU,dh] at h; exact EZ h.1.1
theorem IZ {s:ByteArray} (h:mW s=true):1≤s.size∧s.size≤12:=by
 simp [mW,dh] at h; exact EZ h.1
theorem Ar {t i:ByteArray} (h:fF t i=true):t.size≤12∧i.size≤12:=by
 simp [fF] at h; exact ⟨(rE h.1).2,(IZ h.2).2⟩
def aG (t i:ByteArray):ByteArray:=if fF t i then t ++ ⟨#[58]⟩ ++ i else ⟨#[]⟩
theorem nX {t i:ByteArray} (h:fF t i=true):aG t i=t ++ ⟨#[58]⟩ ++ i:=by simp [aG,h]
theorem wO {t i:ByteArray} (h:fF t i=false):aG t i=⟨#[]⟩:=by simp [aG,h]
theorem jO (t i:ByteArray):(aG t i).size≤25:=by
 unfold aG; split
 ·rename_i h;have h2:=Ar h;have e1:(ByteArray.mk #[58]).size=1:=rfl;rw [ByteArray.size_append,ByteArray.size_append,e1];omega
 ·exact Nat.zero_le _
def wP (s:ByteArray):Bool:=s.toList.isEmpty || aU s
def bB (a b r c d s:ByteArray):Bool:=fF a b && aU r && fF c d && wP s
def bn (a b r c d s:ByteArray):ByteArray :=
 if bB a b r c d s then
  (if s.toList.isEmpty then aG a b ++ ⟨#[35]⟩ ++ r ++ ⟨#[64]⟩ ++ aG c d else aG a b ++ ⟨#[35]⟩ ++ r ++ ⟨#[64]⟩ ++ aG c d ++ ⟨#[35]⟩ ++ s)
 else ⟨#[]⟩
theorem wQ {a b r c d s:ByteArray} (h:bB a b r c d s=false):bn a b r c d s=⟨#[]⟩:=by simp [bn,h]
theorem nY {a b r c d s:ByteArray} (h:bB a b r c d s=true) (hs:s.toList.isEmpty=true):bn a b r c d s=aG a b ++ ⟨#[35]⟩ ++ r ++ ⟨#[64]⟩ ++ aG c d:=by simp [bn,h,hs]
theorem nZ {a b r c d s:ByteArray} (h:bB a b r c d s=true) (hs:s.toList.isEmpty=false):bn a b r c d s=aG a b ++ ⟨#[35]⟩ ++ r ++ ⟨#[64]⟩ ++ aG c d ++ ⟨#[35]⟩ ++ s:=by simp [bn,h,hs]
theorem BM {a b r c d s:ByteArray} (h:fF a b=false):bB a b r c d s=false:=by simp [bB,h]
theorem BN {a b r c d s:ByteArray} (h:aU r=false):bB a b r c d s=false:=by simp [bB,h]
theorem BO {a b r c d s:ByteArray} (h:fF c d=false):bB a b r c d s=false:=by simp [bB,h]
theorem BP {a b r c d s:ByteArray} (h1:fF a b=true) (h2:aU r=true) (h3:fF c d=true):bB a b r c d s=wP s:=by simp [bB,h1,h2,h3]
theorem j5 {a b r c d s:ByteArray} (h:bB a b r c d s=true):fF a b=true∧aU r=true∧fF c d=true∧wP s=true:=by
 simp [bB] at h; exact ⟨h.1.1.1,h.1.1.2,h.1.2,h.2⟩
theorem wR {s:ByteArray} (h:s.toList.isEmpty=true):s.size=0:=by
 rw [Go.ByteArray.toList_eq] at h;have h2:s.data.toList=[]:=by simpa using h
 have h3:s.data.toList.length=0:=by rw [h2]; rfl
 simpa using h3
theorem E5 {s:ByteArray} (h:wP s=true):s.size≤12:=by
 simp only [wP,Bool.or_eq_true] at h;rcases h with h | h
 ·have:=wR h; omega
 ·exact (rE h).2
def gD (c:UInt8):List UInt8→List UInt8 × List UInt8 × Bool
 | []=>([],[],false)
 | b::l=>if b=c then ([],l,true) else (b::(gD c l).1,(gD c l).2.1,(gD c l).2.2)
theorem KR {c:UInt8} {l:List UInt8} {k:Nat} (hk:k < l.length) (hn:∀ x ∈ l.take k,x ≠ c) (hc:l[k]=c):gD c l=(l.take k,l.drop (k + 1),true):=by
 induction l generalizing k with
 | nil=>simp at hk
 | cons b l ih =>
  cases k with
  | zero=>simp at hc; simp [gD,hc]
  | succ k =>
   have hb:b ≠ c:=hn b (by simp);have:=ih (k:=k) (by simpa using hk) (fun x hx=>hn x (by simp [hx])) (by simpa using hc);simp [gD,hb,this]
theorem oV {c:UInt8} {l:List UInt8} (hn:∀ x ∈ l,x ≠ c):gD c l=(l,[],false):=by
 induction l with
 | nil=>rfl
 | cons b l ih =>
  have hb:b ≠ c:=hn b (by simp);have:=ih (fun x hx=>hn x (by simp [hx]));simp [gD,hb,this]
theorem BQ (c:UInt8) (l:List UInt8):(gD c l).1.length≤l.length∧(gD c l).2.1.length≤l.length:=by
 induction l with
 | nil=>simp [gD]
 | cons b l ih =>
  unfold gD;split
  ·simp
  ·simp; omega
def jq (c:UInt8) (s:ByteArray):ByteArray:=⟨(gD c s.data.toList).1.toArray⟩
def fV (c:UInt8) (s:ByteArray):ByteArray:=⟨(gD c s.data.toList).2.1.toArray⟩
def mD (c:UInt8) (s:ByteArray):Bool:=(gD c s.data.toList).2.2
theorem zk (l:List UInt8):(ByteArray.mk l.toArray).size=l.length:=rfl
theorem KS (c:UInt8) (s:ByteArray):(jq c s).size≤s.size:=by
 unfold jq; rw [zk]; exact (BQ c s.data.toList).1
theorem E8 (c:UInt8) (s:ByteArray):(fV c s).size≤s.size:=by
 unfold fV; rw [zk]; exact (BQ c s.data.toList).2
theorem eX {a b:ByteArray} (h:a.data.toList=b.data.toList):a=b:=by
 cases a; cases b; simp at h; simp [h]
def Mj (c:UInt8) (s:ByteArray) (k:Nat):Prop:=∀ x ∈ s.data.toList.take k,x ≠ c
theorem I1 (c:UInt8) (s:ByteArray):Mj c s 0:=by intro x hx; simp at hx
theorem I4 {c:UInt8} {s:ByteArray} {k:Nat} (h:k < s.size) (hn:Mj c s k) (hc:s[k] ≠ c):Mj c s (k + 1):=by
 intro x hx;rw [yK s k h] at hx;simp at hx;rcases hx with hx | hx
 ·exact hn x (by simpa using hx)
 ·subst hx; exact hc
theorem Mk {c:UInt8} {s:ByteArray} {k:Nat} (h:k < s.size) (hn:Mj c s k) (hc:s[k]=c):gD c s.data.toList=(s.data.toList.take k,s.data.toList.drop (k + 1),true) :=
 KR (by simpa using h) hn (by simpa [ByteArray.getElem_eq_getElem_data] using hc)
theorem I5 {c:UInt8} {s:ByteArray} {k:Nat} (h:s.size≤k) (hn:Mj c s k):gD c s.data.toList=(s.data.toList,[],false) :=
 oV (fun x hx=>hn x (by rw [List.take_of_length_le (by simpa using h)]; exact hx))
def M0 (s:ByteArray):Bool:=fF (jq 58 s) (fV 58 s)
def NC (s:ByteArray):ByteArray:=if M0 s then jq 58 s else ⟨#[]⟩
def ND (s:ByteArray):ByteArray:=if M0 s then fV 58 s else ⟨#[]⟩
theorem Gf {c:UInt8} {l:List UInt8} (h:(gD c l).2.2=false):(gD c l).2.1=[]:=by
 induction l with
 | nil=>rfl
 | cons b l ih =>
  unfold gD at h ⊢;split
  ·rename_i hb; simp [hb] at h
  ·rename_i hb; simp [hb] at h; simpa [hb] using ih h
theorem I6 {c:UInt8} {s:ByteArray} (h:mD c s=false):fV c s=⟨#[]⟩:=by
 unfold mD at h; unfold fV; rw [Gf h]
theorem I7 {s:ByteArray} (h:M0 s=true):NC s=jq 58 s∧ND s=fV 58 s:=by simp [NC,ND,h]
end Go.Proofs.YteoflgocljfgeaaGreatDoor.Pl
namespace Go.Proofs.YteoflgocljfgeaaGreatDoor
open Pl
def I8:ByteArray:=⟨#[116,121,112,101,32]⟩
def Nk:ByteArray:=⟨#[61,32]⟩
def Nl:ByteArray:=⟨#[10]⟩
def wS (l:ByteArray):Bool:=decide (5 < l.size) && (l.extract 0 5).toList == I8.toList
def uz (t:ByteArray):Bool:=decide (2≤t.size) && (t.extract 0 2).toList == Nk.toList
def zl (l:ByteArray):ByteArray:=(fV 32 l).extract 2 (fV 32 l).size
def Au (acc:List Ty) (r:Rl):List Ty:=match acc.getLast? with
 | none=>[]
 | some t=>acc.dropLast ++ [⟨t.name,t.rels ++ [r]⟩]
theorem og (xs:List Ty) (t:Ty) (r:Rl):Au (xs ++ [t]) r=xs ++ [⟨t.name,t.rels ++ [r]⟩]:=by
 unfold Au; simp
def kJ (acc:List Ty) (l:ByteArray):Option (List Ty) :=
 if wS l then some (acc ++ [⟨l.extract 5 l.size,[]⟩])
 else if !acc.isEmpty && uz (fV 32 l) && jY (zl l) then some (Au acc ⟨jq 32 l,(jm (zl l)).out⟩) else none
def dw:Nat→ByteArray→List Ty→Option (List Ty)
 | 0,_,acc=>some acc
 | n + 1,rest,acc =>
  if rest.toList.isEmpty then some acc
  else if mD 10 rest then
   match kJ acc (jq 10 rest) with
   | none=>none
   | some a=>dw n (fV 10 rest) a
  else none
theorem j6 (b:ByteArray):b.toList=b.data.toList:=Go.ByteArray.toList_eq b
theorem Gg (c:UInt8) (l:List UInt8) (h:(gD c l).2.2=true):l=(gD c l).1 ++ c::(gD c l).2.1:=by
 induction l with
 | nil=>simp [gD] at h
 | cons b l ih =>
  unfold gD at h ⊢;split
  ·rename_i e; simp [e]
  ·rename_i e;rw [if_neg e] at h;simp only [List.cons_append,List.cons.injEq,true_and];exact ih h
theorem wT {c:UInt8} {s:ByteArray} (h:mD c s=true):s=(jq c s ++ ⟨#[c]⟩) ++ fV c s:=by
 apply gM;have:=Gg c s.data.toList h;simpa [jq,fV,ByteArray.data_append] using this
theorem BR {c:UInt8} {s:ByteArray} (h:mD c s=true):(fV c s).size < s.size:=by
 have:=congrArg ByteArray.size (wT h);have e1:(⟨#[c]⟩:ByteArray).size=1:=rfl;simp only [ByteArray.size_append,e1] at this;omega
theorem BS (l:ByteArray) (k:Nat) (hk:k≤l.size):l=l.extract 0 k ++ l.extract k l.size:=by
 apply gM;rw [ByteArray.data_append,ByteArray.data_extract,ByteArray.data_extract];have hk':k≤l.data.size:=hk;have h2:l.size=l.data.size:=rfl;rw [h2];simp;rw [show max k l.size=l.data.toList.length by simp [Nat.max_def]; omega,List.take_length]
theorem toList_inj {a b:ByteArray} (h:a.toList=b.toList):a=b:=by
 rw [j6,j6] at h; exact gM h
theorem I9 {l:ByteArray} (h:wS l=true):l=I8 ++ l.extract 5 l.size:=by
 unfold wS at h;simp only [Bool.and_eq_true,decide_eq_true_eq,beq_iff_eq] at h;have e:=toList_inj h.2
 conv=>lhs; rw [BS l 5 (by omega),e]
theorem Ja {l:ByteArray} (h:uz (fV 32 l)=true):l=((jq 32 l ++ ⟨#[32,61,32]⟩) ++ zl l):=by
 unfold uz at h;simp only [Bool.and_eq_true,decide_eq_true_eq,beq_iff_eq] at h;have hf:mD 32 l=true:=by
  cases e:mD 32 l with
  | true=>rfl
  | false=>rw [I6 e] at h; exact absurd h.1 (by decide)
 have e:=toList_inj h.2;have e2:fV 32 l=Nk ++ zl l:=by
  conv=>lhs; rw [BS (fV 32 l) 2 h.1,e]
  rfl
 have e3:(⟨#[32,61,32]⟩:ByteArray)=⟨#[32]⟩ ++ Nk:=by apply gM; simp [ByteArray.data_append,Nk]
 conv=>lhs; rw [wT hf,e2]
 rw [e3];simp only [ByteArray.append_assoc]
theorem wU {s:ByteArray} (h:jY s=true):fu (jm s).out=s∧s.size≤1000∧aS (jm s).out=true:=by
 unfold jY at h;simp only [Bool.and_eq_true,decide_eq_true_eq,beq_iff_eq] at h;exact ⟨toList_inj h.2,h.1.1.1.1,h.1.2⟩
theorem Gh {acc acc':List Ty} {l:ByteArray} (h:kJ acc l=some acc'):bN acc'=bN acc ++ (l ++ Nl):=by
 unfold kJ at h;split at h
 ·rename_i ht;injection h with h;subst h;rw [j4]
  conv=>rhs; rw [I9 ht]
  simp only [j3,dm,rD];rfl
 ·split at h
  ·rename_i h2;injection h with h;subst h;simp only [Bool.and_eq_true,Bool.not_eq_true'] at h2;obtain ⟨⟨h3,h4⟩,h5⟩:=h2;have hne:acc ≠ []:=fun e=>by rw [e] at h3; simp at h3
   have e1:=List.dropLast_concat_getLast hne;rw [← e1,og,j4,j4,nW]
   conv=>rhs; rw [Ja h4]
   have e2:=(wU h5).1;simp only [BL,e2,ByteArray.append_assoc];rfl
  ·cases h
def LF (T:List Ty):Prop:=∀ t ∈ T,∀ r ∈ t.rels,r.expr.length≤15∧∀ e ∈ r.expr,e.light∧e.fits
theorem KT {acc acc':List Ty} {l:ByteArray} (h:kJ acc l=some acc') (hk:LF acc):LF acc':=by
 unfold kJ at h;split at h
 ·injection h with h;subst h;intro t ht r hr;rcases List.mem_append.1 ht with ht | ht
  ·exact hk t ht r hr
  ·rw [List.mem_singleton] at ht; subst ht; cases hr
 ·split at h
  ·rename_i h2;injection h with h;subst h;simp only [Bool.and_eq_true,Bool.not_eq_true'] at h2;obtain ⟨⟨h3,h4⟩,h5⟩:=h2;have hne:acc ≠ []:=fun e=>by rw [e] at h3; simp at h3
   have e1:=List.dropLast_concat_getLast hne;obtain ⟨-,hs,hsp⟩:=wU h5;intro t ht r hr;rw [← e1,og] at ht;rcases List.mem_append.1 ht with ht | ht
   ·exact hk t (by rw [← e1]; exact List.mem_append_left _ ht) r hr
   ·rw [List.mem_singleton] at ht; subst ht;rcases List.mem_append.1 hr with hr | hr
    ·exact hk (acc.getLast hne) (List.getLast_mem hne) r hr
    ·rw [List.mem_singleton] at hr; subst hr;refine ⟨(lw hsp).2,fun e he=>?_⟩;exact (IC (s:=zl l) _ true ⟨0,false,[]⟩ (Nat.zero_le _) (fun e he=>by cases he) e he).light hs
  ·cases h
theorem uA:∀ (rs:List Rl),rs.length * 4≤(dm rs).size∧∀ r ∈ rs,r.name.size + 4≤(dm rs).size
 | []=>⟨by simp,fun r hr=>by cases hr⟩
 | r::rs=>by
  obtain ⟨h1,h2⟩:=uA rs;have e1:(⟨#[32,61,32]⟩:ByteArray).size=3:=rfl;have e2:(⟨#[10]⟩:ByteArray).size=1:=rfl;have h3:(dm (r::rs)).size=r.name.size + 3 + (fu r.expr).size + 1 + (dm rs).size:=by simp only [dm,BL,ByteArray.size_append,e1,e2]
  refine ⟨by rw [h3,List.length_cons]; omega,fun q hq=>?_⟩;rcases List.mem_cons.1 hq with rfl | hq
  ·omega
  ·have:=h2 q hq; omega
theorem wV:∀ (T:List Ty),T.length * 6≤(bN T).size∧∀ t ∈ T,t.name.size + 6 + (dm t.rels).size≤(bN T).size
 | []=>⟨by simp,fun r hr=>by cases hr⟩
 | t::ts=>by
  obtain ⟨h1,h2⟩:=wV ts;have h3:(bN (t::ts)).size=t.name.size + 6 + (dm t.rels).size + (bN ts).size:=by simp only [bN,ByteArray.size_append,uy]
  refine ⟨by rw [h3,List.length_cons]; omega,fun q hq=>?_⟩;rcases List.mem_cons.1 hq with rfl | hq
  ·omega
  ·have:=h2 q hq; omega
theorem rows_ok {rs:List TR} (hk:LF (ah rs)) (hz:(bN (ah rs)).size≤3000):rs.length≤500∧(∀ r ∈ rs,r.rows.length≤750∧r.name.size≤3000∧∀ q ∈ r.rows,q.name.size≤3000)∧(∀ r ∈ rs,r.light)∧∀ r ∈ rs,r.fits:=by
 obtain ⟨h1,h2⟩:=wV (ah rs);rw [jL] at h1;have key:∀ r ∈ rs,r.rows.length≤750∧r.name.size≤3000∧∀ q ∈ r.rows,q.name.size≤3000:=fun r hr=>by
  have h3:=h2 r.p (List.mem_map.2 ⟨r,hr,rfl⟩);obtain ⟨h4,h5⟩:=uA (dO r.rows);rw [qQ] at h4;have h6:r.name.size + 6 + (dm (dO r.rows)).size≤(bN (ah rs)).size:=h3;refine ⟨by omega,by omega,fun q hq=>?_⟩;have:=h5 q.p (List.mem_map.2 ⟨q,hq,rfl⟩);have h7:q.name.size + 4≤(dm (dO r.rows)).size:=this;omega
 have kex:∀ r ∈ rs,∀ q ∈ r.rows,q.rows.length≤15∧∀ x ∈ q.rows,x.e.light∧x.e.fits:=fun r hr q hq=>by
  have:=hk r.p (List.mem_map.2 ⟨r,hr,rfl⟩) q.p (List.mem_map.2 ⟨q,hq,rfl⟩);exact ⟨by rw [← bq]; exact this.1,fun x hx=>this.2 x.e (List.mem_map.2 ⟨x,hx,rfl⟩)⟩
 refine ⟨by omega,key,fun r hr=>⟨by have:=(key r hr).1; omega,fun q hq=>⟨by have:=(kex r hr q hq).1; omega,fun x hx=>((kex r hr q hq).2 x hx).1⟩⟩,fun r hr=>⟨by have:=(key r hr).2.1; unfold maxLen; omega,by have:=(key r hr).1; unfold maxLen; omega,fun q hq=>⟨by have:=(key r hr).2.2 q hq; unfold maxLen; omega,by have:=(kex r hr q hq).1; unfold maxLen; omega,fun x hx=>((kex r hr q hq).2 x hx).2⟩⟩⟩
open Go.ChangeAt Go.ChangeShapes Go.RowKit Go.WideShapes
theorem Ml (o n e:ByteArray):(((o ++ n) ++ ⟨#[32,61,32]⟩) ++ e) ++ ⟨#[10]⟩=o ++ (((n ++ ⟨#[32,61,32]⟩) ++ e) ++ ⟨#[10]⟩):=by
 simp only [ByteArray.append_assoc]
theorem Jb (o n:ByteArray):((o ++ ⟨#[116,121,112,101,32]⟩) ++ n) ++ ⟨#[10]⟩=o ++ j3 n:=by
 unfold j3; simp only [ByteArray.append_assoc]
structure Small3 (rs:List TR):Prop where
 six:rs.length≤500
 rels:∀ r ∈ rs,r.rows.length≤750
 name:∀ r ∈ rs,r.name.size≤3000
 names:∀ r ∈ rs,∀ q ∈ r.rows,q.name.size≤3000
set_option maxRecDepth 100000 in
theorem Av (ad:Option Addr) (cap:Nat) (rs:List TR) (w:World) (hm:Small3 rs) (hs:gp w ad rs) (hl:∀ r ∈ rs,r.light) (hf:∀ r ∈ rs,r.fits) :
  Calls prog 131 #[.slice ad rs.length cap] w fun e w'=>e=.returned (.string (bN (ah rs)))∧Below w.heap.size w w':=by
 have HS:Hid (gp w ad rs):=hs;have HL:Hid (∀ r ∈ rs,r.light):=hl;have HFT:Hid (∀ r ∈ rs,r.fits):=hf;have HM:Hid (Small3 rs):=hm;have h6:=hm.six;clear hs hl hf hm;go_enter func131,ntmps131;go_wp2;go_loopw [3,4] (fun o i wr=>∃ (k:Nat) (out:ByteArray),k≤rs.length∧o=.string out∧i=.int .i64 k∧Hid (out=bN (ah (rs.take k)))∧out.size≤k * 5100000∧Hid (Below w.heap.size w wr)) (fun _ i _=>rs.length - (intOf i).toNat);case atStart=>exact ⟨0,⟨#[]⟩,Nat.zero_le _,rfl,rfl,rfl,Nat.zero_le _,Below.refl _ _⟩
 case round =>
  obtain ⟨k,out,hk,rfl,rfl,HP,hz,HB⟩:=hrel;obtain ⟨wo,rfl⟩:∃ x,x=wr:=⟨_,rfl⟩;by_cases hlt:k < rs.length
  ·rcases HS.out.below HB.out with rfl | ⟨b,off,rfl,hb,hr,hok⟩
   ·simp at hlt
   obtain ⟨t0,t1⟩:=hr k hlt;have HOK:Hid (rs[k].ok wo):=hok rs[k] (List.getElem_mem hlt);have hn12:=HM.out.name rs[k] (List.getElem_mem hlt);have hr6:=HM.out.rels rs[k] (List.getElem_mem hlt);have HN12:Hid (∀ q ∈ rs[k].rows,q.name.size≤3000):=HM.out.names rs[k] (List.getElem_mem hlt);have HLG:Hid (rs[k].light):=HL.out _ (List.getElem_mem hlt);have HFE:Hid (rs[k].fits):=HFT.out _ (List.getElem_mem hlt);have hk1:=bR k;have hk2:(k:Int) < (rs.length:Int):=by omega
   have hrl:(rs[k].rows.length:Int)≤750:=by omega
   clear hr hok;go_wp2;go_loopw [3,5] (fun o i wr=>∃ (j:Nat) (o2:ByteArray),j≤rs[k].rows.length∧o=.string o2∧i=.int .i64 j∧Hid (o2=(out ++ j3 rs[k].name) ++ dm (dO (rs[k].rows.take j)))∧o2.size≤k * 5100000 + 3010 + j * 6760∧Hid (Below wo.heap.size wo wr)) (fun _ i _=>rs[k].rows.length - (intOf i).toNat);case atStart=>exact ⟨0,_,Nat.zero_le _,rfl,rfl,by show _=_; rw [Jb,List.take_zero,show dO []=[] from rfl]; simp only [dm,rD],by rw [Jb,ByteArray.size_append,uy]; omega,Below.refl _ _⟩
   case round =>
    obtain ⟨j,o2,hj,rfl,rfl,HI,hz2,HB2⟩:=hrel;replace t0:=ak HB2.out hb t0;replace t1:=ak HB2.out hb t1;have hbw:b < wr.heap.size:=Nat.lt_of_lt_of_le hb HB2.out.size;by_cases hjl:j < rs[k].rows.length
    ·rcases HOK.out.below HB2.out with hnil | ⟨b2,off2,had,hb2,hr2,hok2⟩
     ·rw [hnil] at hjl; simp at hjl
     rw [had] at t1;obtain ⟨u0,u1⟩:=hr2 j hjl;have HOQ:Hid (rs[k].rows[j].ok wr):=hok2 rs[k].rows[j] (List.getElem_mem hjl);have hj1:=bR j;have hj2:(j:Int) < (rs[k].rows.length:Int):=by omega
     have hq12:=HN12.out _ (List.getElem_mem hjl);have HQL:Hid (rs[k].rows[j].light):=HLG.out.2 _ (List.getElem_mem hjl);have HQF:Hid (rs[k].rows[j].fits):=HFE.out.2.2 _ (List.getElem_mem hjl);obtain ⟨ex,hex⟩:∃ ex,ex=fu (au rs[k].rows[j].rows):=⟨_,rfl⟩;have HEX:Hid (ex=fu (au rs[k].rows[j].rows)):=hex;have hxs:ex.size≤3750:=by rw [hex]; exact Aq _
     have q1:(9223372036854775807 < o2.size + rs[k].rows[j].name.size)=False:=by simp; omega
     have q2:(9223372036854775807 < o2.size + rs[k].rows[j].name.size + 3)=False:=by simp; omega
     have q3:(9223372036854775807 < o2.size + rs[k].rows[j].name.size + 3 + ex.size)=False:=by simp; omega
     have q4:(9223372036854775807 < o2.size + rs[k].rows[j].name.size + 3 + ex.size + 1)=False:=by simp; omega
     have HI2:Hid ((((o2 ++ rs[k].rows[j].name) ++ ⟨#[32,61,32]⟩) ++ ex) ++ ⟨#[10]⟩=(out ++ j3 rs[k].name) ++ dm (dO (rs[k].rows.take (j + 1)))):=by
      show _=_;rw [Ml,Gc _ _ hjl,nW,HI.out,hex];simp only [ByteArray.append_assoc,BL]
     have hz3:((((o2 ++ rs[k].rows[j].name) ++ ⟨#[32,61,32]⟩) ++ ex) ++ ⟨#[10]⟩:ByteArray).size≤k * 5100000 + 3010 + (j + 1) * 6760:=by
      have e1:(⟨#[32,61,32]⟩:ByteArray).size=3:=rfl;have e2:(⟨#[10]⟩:ByteArray).size=1:=rfl;simp only [ByteArray.size_append]; omega
     have HZ3:Hid (((((o2 ++ rs[k].rows[j].name) ++ ⟨#[32,61,32]⟩) ++ ex) ++ ⟨#[10]⟩:ByteArray).size≤k * 5100000 + 3010 + (j + 1) * 6760):=hz3;clear hr2 hok2 had hex hz3;go_wp2_with fail;refine dZ 24 (fun n=>(u31::u32::u33::u34::u35::u36::u37::u38::u39::u40::u41::u42::u43::u44::u45::u46::u47::u48::u49::u50::u51::u52::u53::u54::[]).getD n undef) (fun fq=>{ tmps:=List.toArray (Value.slice (some ⟨b,off,none⟩) rs.length cap::undef::.string { data:=#[] }::.string o2::.int .i64 k::.int .i64 j::.int .i64 k::.slice (some ⟨b,off,none⟩) rs.length cap::.int .i64 rs.length::.bool true::u10::u11::.string out::.string (out ++ { data:=#[116,121,112,101,32] })::.slice (some ⟨b,off,none⟩) rs.length cap::.int .i64 k::.pointer (some ⟨b,off + k * 2,none⟩)::.pointer (some ⟨b,off + k * 2,none⟩)::.string rs[k].name::.string (out ++ { data:=#[116,121,112,101,32] } ++ rs[k].name)::.string (out ++ { data:=#[116,121,112,101,32] } ++ rs[k].name ++ { data:=#[10] })::.int .i64 j::.slice (some ⟨b,off,none⟩) rs.length cap::.int .i64 k::.pointer (some ⟨b,off + k * 2,none⟩)::.pointer (some ⟨b,off + k * 2 + 1,none⟩)::.slice (some ⟨b2,off2,none⟩) rs[k].rows.length rs[k].cap::.int .i64 rs[k].rows.length::.bool true::u29::u30::fq 0::fq 1::fq 2::fq 3::fq 4::fq 5::fq 6::fq 7::fq 8::fq 9::fq 10::fq 11::fq 12::fq 13::fq 14::fq 15::fq 16::fq 17::fq 18::fq 19::fq 20::fq 21::fq 22::fq 23::undef::[]),defers:=[] }) (fun n v _=>v=(Value.string o2::.slice (some ⟨b,off,none⟩) rs.length cap::.int .i64 k::.pointer (some ⟨b,off + k * 2,none⟩)::.pointer (some ⟨b,off + k * 2 + 1,none⟩)::.slice (some ⟨b2,off2,none⟩) rs[k].rows.length rs[k].cap::.int .i64 j::.pointer (some ⟨b2,off2 + j * 2,none⟩)::.pointer (some ⟨b2,off2 + j * 2,none⟩)::.string rs[k].rows[j].name::.string (o2 ++ rs[k].rows[j].name)::.string ((o2 ++ rs[k].rows[j].name) ++ ⟨#[32,61,32]⟩)::.slice (some ⟨b,off,none⟩) rs.length cap::.int .i64 k::.pointer (some ⟨b,off + k * 2,none⟩)::.pointer (some ⟨b,off + k * 2 + 1,none⟩)::.slice (some ⟨b2,off2,none⟩) rs[k].rows.length rs[k].cap::.int .i64 j::.pointer (some ⟨b2,off2 + j * 2,none⟩)::.pointer (some ⟨b2,off2 + j * 2 + 1,none⟩)::.slice rs[k].rows[j].ad rs[k].rows[j].rows.length rs[k].rows[j].cap::.string ex::.string (((o2 ++ rs[k].rows[j].name) ++ ⟨#[32,61,32]⟩) ++ ex)::.string ((((o2 ++ rs[k].rows[j].name) ++ ⟨#[32,61,32]⟩) ++ ex) ++ ⟨#[10]⟩)::[]).getD n undef) (fun w'=>Below wr.heap.size wr w') (by kernel_rfl) rfl (by kernel_rfl) (by kernel_rfl) rfl (Below.refl _ _).drew ?stepS ?finS;case stepS =>
      rintro i hi o ho fq w' hG hpre;have HG:Hid (Below wr.heap.size wr w'):=hG;replace t1:=ak hG hbw t1;replace u0:=ak hG hb2 u0;replace u1:=ak hG hb2 u1;have HM:Hid (∀ e ∈ o.after,Region.binds .any e=true→_):=hpre;clear hG hpre;have hc:=M7 (i:=i) (by omega);clear hi
      repeat' rcases hc with rfl | hc
      iterate 21
       ·obtain rfl:=Option.some.inj ho;have hm:=HM.out
        try simp [Region.binds] at hm
        refine aa rfl fun K HK=>?_;clear ho HM
        try simp only [hm]
        go_simp;exact HK.out _ _ ⟨_,by simp [upd, *],HG.out,rfl,fun k u hu=>hu⟩
      ·obtain rfl:=Option.some.inj ho;have e20:fq 20=.slice rs[k].rows[j].ad rs[k].rows[j].rows.length rs[k].rows[j].cap:=HM.out ⟨20,.data⟩ (by simp) rfl;refine aa rfl fun K HK=>?_;clear ho HM;simp only [e20];go_simp;refine (lh _ _ rs[k].rows[j].rows _ HQL.out.1 HQL.out.2 HQF.out.2.2 (HOQ.out.below HG.out)).mono ?_;rintro e w5 ⟨rfl,hb5⟩;have HG5:=gW HG hb5;rw [← HEX.out];clear hb5;go_wp2_with fail;exact HK.out _ _ ⟨Value.string ex,by simp [upd,e20],HG5.out,rfl,fun k u hu=>hu⟩
      iterate 2
       ·obtain rfl:=Option.some.inj ho;have hm:=HM.out
        try simp [Region.binds] at hm
        refine aa rfl fun K HK=>?_;clear ho HM
        try simp only [hm]
        go_simp;exact HK.out _ _ ⟨_,by simp [upd, *],HG.out,rfl,fun k u hu=>hu⟩
     case finS =>
      rintro o ho fq w' hG hall;have e23:fq 23=.string ((((o2 ++ rs[k].rows[j].name) ++ ⟨#[32,61,32]⟩) ++ ex) ++ ⟨#[10]⟩):=hall 23 (by omega);have HG:Hid (Below wr.heap.size wr w'):=hG;clear hG hall;obtain rfl:=Option.some.inj ho;clear ho;refine wpOp_step rfl (fun K hK=>?_);have HK:Hid (∀ a w,_→K a w):=hK;clear hK;simp only [e23];go_simp;refine HK.out _ _ ?_;clear HK;have HB3:Hid (Below wo.heap.size wo w'):=HB2.out.trans (HG.out.mono HB2.out.size);go_wp2;go_roundw;case rel=>exact ⟨j + 1,_,by omega,rfl,by go_num,HI2,HZ3.out,HB3⟩
      case measure=>simp [intOf] <;> omega
    ·obtain rfl:j=rs[k].rows.length:=by omega
     have HP2:Hid (o2=bN (ah (rs.take (k + 1)))):=by
      show _=_;rw [HI.out,Gd _ _ hlt,j4,HP.out,List.take_length,ByteArray.append_assoc]
     have hz4:o2.size≤(k + 1) * 5100000:=by omega
     have HB3:Hid (Below w.heap.size w wr):=HB.out.trans (HB2.out.mono HB.out.size);go_wp2;go_roundw;case rel=>exact ⟨k + 1,o2,by omega,rfl,by go_num,HP2,hz4,HB3⟩
     case measure=>simp [intOf] <;> omega
  ·obtain rfl:k=rs.length:=by omega
   have HN:Hid (out=bN (ah rs)):=by show _=_; rw [HP.out,List.take_length]
   go_wp2;go_ret;exact ⟨by rw [HN.out]; rfl,HB.out⟩
theorem E9 {a b a' b':ByteArray} {f f':Bool} (ha:a=a') (hb:b=b') (hf:f=f'):Ending.returned (.tuple #[.string a,.string b,.bool f])=.returned (.tuple #[.string a',.string b',.bool f']):=by rw [ha,hb,hf]
theorem zm (s:ByteArray) (c:UInt8) (w:World) (hs:s.size≤maxLen) :
  Calls prog 129 #[.string s,.int .u8 c.toNat] w fun e w'=>e=.returned (.tuple #[.string (jq c s),.string (fV c s),.bool (mD c s)])∧∃ n,w'=w.drewN n:=by
 unfold maxLen at hs;go_enter func129,ntmps129;go_wp2
 go_loop [7] (fun i=>∃ k:Nat,k≤s.size∧i=.int .i64 k∧Hid (Mj c s k)) (fun i=>s.size - (intOf i).toNat)
 case atStart=>exact ⟨0,Nat.zero_le _,rfl,I1 _ _⟩
 case round =>
  obtain ⟨k,hk,rfl,hu⟩:=hrel;by_cases hlt:k < s.size
  ·by_cases hc:s[k]=c
   ·have HC:Hid (gD c s.data.toList=_):=Mk hlt hu.out hc;have hcb:((s[k].toNat:Int) == (c.toNat:Int))=true:=by simp [hc]
    have hk1:=bR k;have hk2:(k:Int)≤(s.size:Int):=by omega
    have hk3:(k:Int) + 1≤(s.size:Int):=by omega
    clear hc;go_wp2;go_quiet (fail);go_wp2
    go_ret3
    refine ⟨E9 (eX ?_) (eX ?_) (by simp [mD,HC.out]),nq,rfl⟩
    ·rw [Lib.extract_data]; simp [jq,HC.out]
    ·rw [Lib.extract_to_end]; simp [fV,HC.out]
   ·have HU:Hid (Mj c s (k + 1)):=I4 hlt hu.out hc;have hcb:((s[k].toNat:Int) == (c.toNat:Int))=false:=by
     simp; intro h; exact hc (UInt8.toNat_inj.mp (by omega))
    clear hc;go_wp2;go_round;case rel=>exact ⟨k + 1,by omega,by go_num,HU⟩
    case measure=>simp [intOf]; omega
  ·have HC:Hid (gD c s.data.toList=_):=I5 (Nat.le_of_not_lt hlt) hu.out;go_wp2
   go_ret3
   exact ⟨E9 (by simp [jq,HC.out]) (by simp [fV,HC.out]) (by simp [mD,HC.out]),0,rfl⟩
end Go.Proofs.YteoflgocljfgeaaGreatDoor
