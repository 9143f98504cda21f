/- Plain functions on bytes: the texts of objects and tuples, and what their sizes are. Nothing of the program is read here. -/
import Derived.Test.YtdmniljjnaebbaaGreatDoorSq
import Derived.Lib.IndexMore
import Derived.Lib.IndexBytes
import Derived.Lib.Strings
import Derived.Below
import Derived.Laws.IdiomStrings
import Derived.Test.YtdmniljjnaebbaaGreatDoorJ3
import Derived.WideKeyEntry
import Derived.WalkArith
import Derived.RangeFuncNested
open Go.Proofs.Tryz
set_option maxHeartbeats 80000000
namespace Go.Proofs.YtdmniljjnaebbaaGreatDoor.Pl
theorem fu {a b:ByteArray} (h:a=b):Ending.returned (.string a)=.returned (.string b):=by rw [h]
theorem I1 {s:ByteArray} (h:ni s=true):1≤s.size∧s.size≤12:=by simpa [ni] using h
theorem lW {s:ByteArray} (h:aR s=true):1≤s.size∧s.size≤12:=by
 simp [aR,dK] at h; exact I1 h.1.1
theorem LP {s:ByteArray} (h:og s=true):1≤s.size∧s.size≤12:=by
 simp [og,dK] at h; exact I1 h.1
theorem wW {t i:ByteArray} (h:dS t i=true):t.size≤12∧i.size≤12:=by
 simp [dS] at h; exact ⟨(lW h.1).2,(LP h.2).2⟩
def ax (t i:ByteArray):ByteArray:=if dS t i then t ++ ⟨#[58]⟩ ++ i else ⟨#[]⟩
theorem kS {t i:ByteArray} (h:dS t i=true):ax t i=t ++ ⟨#[58]⟩ ++ i:=by simp [ax,h]
theorem qM {t i:ByteArray} (h:dS t i=false):ax t i=⟨#[]⟩:=by simp [ax,h]
theorem fZ (t i:dB):(ax t i).size≤25:=by
 unfold ax; split
 ·rename_i h;have h2:=wW h;have e1:(ByteArray.mk #[58]).size=1:=rfl;rw [ByteArray.size_append,ByteArray.size_append,e1];omega
 exact Sm _
def rH (s:ByteArray):Bool:=s.toList.isEmpty || aR s
def bn (a b r c d s:ByteArray):Bool:=dS a b && aR r && dS c d && rH s
def aU (a b r c d s:ByteArray):ByteArray :=
 if bn a b r c d s then
  (if s.toList.isEmpty then ax a b ++ ⟨#[35]⟩ ++ r ++ ⟨#[64]⟩ ++ ax c d else ax a b ++ ⟨#[35]⟩ ++ r ++ ⟨#[64]⟩ ++ ax c d ++ ⟨#[35]⟩ ++ s)
 else ⟨#[]⟩
theorem qN {a b r c d s:ByteArray} (h:bn a b r c d s=false):aU a b r c d s=⟨#[]⟩:=by simp [aU,h]
theorem kT {a b r c d s:ByteArray} (h:bn a b r c d s=true) (hs:s.toList.isEmpty=true):aU a b r c d s=ax a b ++ ⟨#[35]⟩ ++ r ++ ⟨#[64]⟩ ++ ax c d:=by simp [aU,h,hs]
theorem kU {a b r c d s:ByteArray} (h:bn a b r c d s=true) (hs:s.toList.isEmpty=false):aU a b r c d s=ax a b ++ ⟨#[35]⟩ ++ r ++ ⟨#[64]⟩ ++ ax c d ++ ⟨#[35]⟩ ++ s:=by simp [aU,h,hs]
theorem xC {a b r c d s:ByteArray} (h:dS a b=false):bn a b r c d s=false:=by simp [bn,h]
theorem xD {a b r c d s:ByteArray} (h:aR r=false):bn a b r c d s=false:=by simp [bn,h]
theorem xE {a b r c d s:ByteArray} (h:dS c d=false):bn a b r c d s=false:=by simp [bn,h]
theorem xG {a b r c d s:ByteArray} (h1:dS a b=true) (h2:aR r=true) (h3:dS c d=true):bn a b r c d s=rH s:=by simp [bn,h1,h2,h3]
theorem jf {a b r c d s:ByteArray} (h:bn a b r c d s=true):dS a b=true∧aR r=true∧dS c d=true∧rH s=true:=by
 simp [bn] at h; exact ⟨h.1.1.1,h.1.1.2,h.1.2,h.2⟩
theorem xH {s:ByteArray} (h:s.toList.isEmpty=true):s.size=0:=by
 rw [Go.ByteArray.toList_eq] at h;have h2:s.data.toList=[]:=by simpa using h
 have h3:s.data.toList.length=0:=by rw [h2]; rfl
 simpa using h3
theorem Ce {s:ByteArray} (h:rH s=true):s.size≤12:=by
 simp only [rH,Bool.or_eq_true] at h;rcases h with h | h
 ·have:=xH h; omega
 exact (lW h).2
def tL (c:UInt8):List UInt8→List UInt8 × List UInt8 × Bool
 | []=>([],[],false)
 | b::l=>if b=c then ([],l,true) else (b::(tL c l).1,(tL c l).2.1,(tL c l).2.2)
theorem tN {c:UInt8} {l:List UInt8} (hn:∀ x ∈ l,x ≠ c):tL c l=(l,[],false):=by
 induction l with
 | nil=>rfl
 | cons b l ih =>
  have hb:b ≠ c:=hn b (by simp);have:=ih (fun x hx=>hn x (by simp [hx]));simp [tL,hb,this]
def wh (c:UInt8) (s:ByteArray):ByteArray:=⟨(tL c s.data.toList).1.toArray⟩
def tO (c:UInt8) (s:ByteArray):ByteArray:=⟨(tL c s.data.toList).2.1.toArray⟩
def LQ (c:UInt8) (s:ByteArray):Bool:=(tL c s.data.toList).2.2
theorem gQ {a b:ByteArray} (h:a.data.toList=b.data.toList):a=b:=by
 cases a; cases b; simp at h; simp [h]
def Rh (s:ByteArray):Bool:=dS (wh 58 s) (tO 58 s)
def R3 (s:ByteArray):ByteArray:=if Rh s then wh 58 s else ⟨#[]⟩
def R4 (s:ByteArray):ByteArray:=if Rh s then tO 58 s else ⟨#[]⟩
theorem LU {s:ByteArray} (h:Rh s=true):R3 s=wh 58 s∧R4 s=tO 58 s:=by simp [R3,R4,h]
theorem LV {c:UInt8} {l m:List UInt8} (h:∀ x ∈ l,x ≠ c):tL c (l ++ c::m)=(l,m,true):=by
 induction l with
 | nil=>simp [tL]
 | cons b l ih =>
  have hb:b ≠ c:=h b (by simp);have:=ih (fun x hx=>h x (by simp [hx]));simp [tL,hb,this]
theorem AC (c:UInt8) (s:dB):(wh c s).data.toList=(tL c s.data.toList).1:=by simp [wh]
theorem AJ (c:UInt8) (s:dB):(tO c s).data.toList=(tL c s.data.toList).2.1:=by simp [tO]
theorem DU (a b:dB):(a ++ b).data.toList=a.data.toList ++ b.data.toList:=by simp [ByteArray.data_append]
theorem wY {c:UInt8} {s:ByteArray} {l m:List UInt8} (hs:s.data.toList=l ++ c::m) (h:∀ x ∈ l,x ≠ c):(wh c s).data.toList=l∧(tO c s).data.toList=m∧LQ c s=true:=by
 rw [AC,AJ,LQ,hs,LV h]; exact ⟨rfl,rfl,rfl⟩
theorem OL {c:UInt8} {s:ByteArray} (h:∀ x ∈ s.data.toList,x ≠ c):wh c s=s∧tO c s=⟨#[]⟩∧LQ c s=false:=by
 refine ⟨gQ ?_,gQ ?_,?_⟩
 ·rw [AC,tN h]
 ·rw [AJ,tN h]
 rw [LQ,tN h]
def LW (l:List UInt8):Prop:=∀ x ∈ l,x ≠ 35∧x ≠ 58∧x ≠ 64
theorem AL {x:UInt8} (h:wQ x=true):x ≠ 35∧x ≠ 58∧x ≠ 64:=by
 refine ⟨?_,?_,?_⟩ <;> (rintro rfl; revert h; decide)
theorem Gi {x:UInt8} (h:iH x=true):x ≠ 35∧x ≠ 58∧x ≠ 64:=AL (by simp [wQ,h])
theorem oI {s:ByteArray} (h:aR s=true):LW s.data.toList:=by
 simp only [aR,dK,qJ,Sn,SC] at h;exact fun x hx=>Gi (h.1.2 x hx)
theorem DV {s:ByteArray} (h:og s=true):LW s.data.toList:=by
 simp only [og,dK,qJ,Sn,SC] at h;exact fun x hx=>AL (h.2 x hx)
theorem qO {a b:ByteArray} (h:dS a b=true):aR a=true∧og b=true:=by simpa [dS] using h
theorem rJ {a b:ByteArray} (h:dS a b=true):(ax a b).data.toList=a.data.toList ++ 58::b.data.toList:=by
 rw [kS h,DU,DU]; simp
theorem qy {a b:ByteArray} (h:dS a b=true):∀ x ∈ (ax a b).data.toList,x ≠ 35∧x ≠ 64:=by
 intro x hx;rw [rJ h] at hx;have h1:=oI (qO h).1;have h2:=DV (qO h).2;simp only [Sz,List.mem_cons] at hx;rcases hx with hx | hx | hx
 ·exact ⟨(h1 x hx).1,(h1 x hx).2.2⟩
 ·subst hx; decide
 exact ⟨(h2 x hx).1,(h2 x hx).2.2⟩
theorem nu {a b:ByteArray} (h:dS a b=true):Rh (ax a b)=true∧R3 (ax a b)=a∧R4 (ax a b)=b:=by
 obtain ⟨h1,h2,-⟩:=wY (c:=58) (rJ h) (fun x hx=>(oI (qO h).1 x hx).2.1);have e1:wh 58 (ax a b)=a:=gQ h1;have e2:tO 58 (ax a b)=b:=gQ h2;have hb:Rh (ax a b)=true:=by rw [Rh,e1,e2]; exact h
 exact ⟨hb,by rw [(LU hb).1,e1],by rw [(LU hb).2,e2]⟩
def AO (s:ByteArray):List UInt8:=if s.toList.isEmpty then [] else 35::s.data.toList
theorem Cf {a b r c d s:ByteArray} (h:bn a b r c d s=true) :
  (aU a b r c d s).data.toList=(ax a b).data.toList ++ 35::(r.data.toList ++ 64::((ax c d).data.toList ++ AO s)):=by
 by_cases hs:s.toList.isEmpty=true
 ·rw [kT h hs,AO,if_pos hs]; simp
 have hs':s.toList.isEmpty=false:=by simpa using hs
 rw [kU h hs',AO,if_neg hs]; simp
theorem LX {s:ByteArray} (h:s.toList.isEmpty=true):s=⟨#[]⟩:=by
 refine gQ ?_;rw [Go.ByteArray.toList_eq] at h;simpa using h
theorem LY {o s x:ByteArray} (ho:∀ y ∈ o.data.toList,y ≠ 35) (hx:x.data.toList=o.data.toList ++ AO s) :
  wh 35 x=o∧tO 35 x=s∧LQ 35 x=!s.toList.isEmpty:=by
 by_cases hs:s.toList.isEmpty=true
 ·have e:x=o:=gQ (by rw [hx,AO,if_pos hs]; simp);subst e;obtain ⟨h1,h2,h3⟩:=OL (c:=35) (s:=x) ho;exact ⟨h1,by rw [h2,LX hs],by rw [h3,hs]; rfl⟩
 rw [AO,if_neg hs] at hx;obtain ⟨h1,h2,h3⟩:=wY hx ho;have hs':s.toList.isEmpty=false:=by simpa using hs
 exact ⟨gQ h1,gQ h2,by rw [h3,hs']; rfl⟩
def sR (s:ByteArray):=tO 64 s
def i1 (s:ByteArray):=tO 35 s
def i2 (s:ByteArray):=tO 64 (i1 s)
theorem xI {a b r c d t s:ByteArray} (h:bn a b r c d t=true) (hs:aU a b r c d t=s) :
  wh 35 s=ax a b∧wh 64 (i1 s)=r∧wh 35 (i2 s)=ax c d∧tO 35 (i2 s)=t:=by
 obtain ⟨h1,h2,h3,h4⟩:=jf h;have hl:=Cf h;rw [hs] at hl;obtain ⟨c1,c2,-⟩:=wY hl (fun x hx=>(qy h1 x hx).1);obtain ⟨d1,d2,-⟩:=wY (s:=i1 s) c2 (fun x hx=>(oI h2 x hx).2.2);obtain ⟨e1,e2,-⟩:=LY (o:=ax c d) (s:=t) (x:=i2 s) (fun x hx=>(qy h3 x hx).1) d2;exact ⟨gQ c1,gQ d1,e1,e2⟩
def Gj (s a b r c d t:ByteArray) (f:Bool):Prop :=
 (f=true∧bn a b r c d t=true∧aU a b r c d t=s) ∨
 (f=false∧(a=⟨#[]⟩∧b=⟨#[]⟩∧r=⟨#[]⟩∧c=⟨#[]⟩∧d=⟨#[]⟩∧t=⟨#[]⟩)∧∀ a b r c d t,bn a b r c d t=true→aU a b r c d t ≠ s)
theorem oJ {a b r c d t a' b' r' c' d' t':ByteArray} (h:bn a b r c d t=true) (h':bn a' b' r' c' d' t'=true) (e:aU a b r c d t=aU a' b' r' c' d' t') :
  a=a'∧b=b'∧r=r'∧c=c'∧d=d'∧t=t':=by
 obtain ⟨x1,x2,x3,x4⟩:=xI h e;obtain ⟨y1,y2,y3,y4⟩:=xI h' rfl;obtain ⟨p1,p2,p3,p4⟩:=jf h;obtain ⟨q1,q2,q3,q4⟩:=jf h';have o1:ax a b=ax a' b':=x1.symm.trans y1;have o2:ax c d=ax c' d':=x3.symm.trans y3;obtain ⟨-,u1,u2⟩:=nu p1;obtain ⟨-,v1,v2⟩:=nu q1;obtain ⟨-,u3,u4⟩:=nu p3;obtain ⟨-,v3,v4⟩:=nu q3;rw [o1] at u1 u2;rw [o2] at u3 u4;exact ⟨u1.symm.trans v1,u2.symm.trans v2,x2.symm.trans y2,u3.symm.trans v3,u4.symm.trans v4,x4.symm.trans y4⟩
theorem Gj.one {s a b r c d t a' b' r' c' d' t':ByteArray} {f f':Bool} (h:Gj s a b r c d t f) (h':Gj s a' b' r' c' d' t' f') :
  (a=a'∧b=b'∧r=r'∧c=c'∧d=d'∧t=t')∧f=f':=by
 rcases h with ⟨rfl,h1,h2⟩ | ⟨rfl,h1,h2⟩
 ·rcases h' with ⟨rfl,k1,k2⟩ | ⟨rfl,k1,k2⟩
  ·exact ⟨oJ h1 k1 (h2.trans k2.symm),rfl⟩
  exact absurd h2 (k2 _ _ _ _ _ _ h1)
 rcases h' with ⟨rfl,k1,k2⟩ | ⟨rfl,k1,k2⟩
 ·exact absurd k2 (h2 _ _ _ _ _ _ k1)
 obtain ⟨rfl,rfl,rfl,rfl,rfl,rfl⟩:=h1;obtain ⟨rfl,rfl,rfl,rfl,rfl,rfl⟩:=k1;exact ⟨⟨rfl,rfl,rfl,rfl,rfl,rfl⟩,rfl⟩
end Go.Proofs.YtdmniljjnaebbaaGreatDoor.Pl
namespace Go.Proofs.YtdmniljjnaebbaaGreatDoor
open Go.ChangeShapes Go.WideShapes Go.ChangeAt Go.RowKit
theorem mO {w:af} {g i j:Nat} {v:Value} (h:i ≠ j):(w.setCell ⟨g,i,none⟩ v).cell? ⟨g,j,none⟩=w.cell? ⟨g,j,none⟩:=by
 apply World.cell?_setCell_other;intro e;exact h (congrArg Addr.off e)
theorem mS {w:af} {a:Addr} {v u:Value} (h:w.cell? a=some u):(w.setCell a v).cell? a=some v:=by
 apply World.cell?_setCell_same; exact h
theorem mK {W w1:af} {n o:Nat} {v:Value} (hb:aa W w1) (hn:n < W.heap.size) (h:W.cell? ⟨n,o,none⟩=some v):w1.cell? ⟨n,o,none⟩=some v:=by
 rw [hb.cell (p:=⟨n,o,none⟩) hn]; exact h
theorem mF {W w1:af} {n o:Nat} (hb:aa W w1) (hn:n < W.heap.size) (h:W.frozen? ⟨n,o,none⟩=false):w1.frozen? ⟨n,o,none⟩=false:=by
 rw [hb.frozen (p:=⟨n,o,none⟩) hn]; exact h
def dD (w:World) (g:Nat):Prop:=∀ j,w.frozen? ⟨g,j,none⟩=false
structure Chg (S:Nat→Prop) (w w':World):Prop where
 base:Below 0 w w'
 block:∀ k,k < w.heap.size→¬ S k→w'.heap[k]?=w.heap[k]?
 free:∀ g,g < w.heap.size→dD w g→dD w' g
theorem Chg.refl (S:Nat→Prop) (w:af):Chg S w w:=⟨Si _ _,fun _ _ _=>rfl,fun _ _ h=>h⟩
theorem Chg.size {S:Nat→Prop} {w w':af} (h:Chg S w w'):w.heap.size≤w'.heap.size:=h.base.size
theorem Chg.trans {S:Nat→Prop} {a b c:af} (h:Chg S a b) (k:Chg S b c):Chg S a c :=
 ⟨h.base.trans k.base,fun i hi hs=>(k.block i (Sg hi h.size) hs).trans (h.block i hi hs),fun g hg hf=>k.free g (Sg hg h.size) (h.free g hg hf)⟩
theorem Chg.mono {S T:Nat→Prop} {a b:af} (h:Chg S a b) (hs:∀ g,S g→T g):Chg T a b :=
 ⟨h.base,fun i hi hn=>h.block i hi fun e=>hn (hs i e),h.free⟩
theorem Chg.of {S:Nat→Prop} {w w':af} (h:aa w w'):Chg S w w' :=
 ⟨h.mono (Sm _),fun k hk _=>h.block k hk,fun g hg hf j=>by rw [h.frozen (p:=⟨g,j,none⟩) hg]; exact hf j⟩
theorem Chg.set {S:Nat→Prop} {w:af} {g j:Nat} (v:Value) (hs:S g):Chg S w (w.setCell ⟨g,j,none⟩ v) :=
 ⟨(Si 0 w).setCell (Sm _) v,fun k _ hk=>Below.heap_setCell _ _ _ _ (fun e=>hk (by rw [e]; exact hs)),fun g' _ hf j'=>by simpa using hf j'⟩
theorem Chg.below {S:Nat→Prop} {w w':af} {m:Nat} (h:Chg S w w') (hm:∀ g,S g→m≤g) (hw:m≤w.heap.size):Below m w w' :=
 ⟨h.base.os,h.base.tape,h.base.output,h.base.size,fun k hk=>h.block k (Sg hk hw) fun e=>by have:=hm k e; omega⟩
theorem Chg.cell {S:Nat→Prop} {w w':af} (h:Chg S w w') {g o:Nat} (hg:g < w.heap.size) (hs:¬ S g):w'.cell? ⟨g,o,none⟩=w.cell? ⟨g,o,none⟩:=by
 have:=h.block g hg hs;unfold World.cell?;simp only [this]
def LZ (k:Nat) (o:ByteArray):ByteArray:=if _h:k=0 then o else LZ (k / 10) (⟨#[UInt8.ofNat (48 + k % 10)]⟩ ++ o)
def aT (k:Nat):ByteArray:=⟨#[109]⟩ ++ LZ k ⟨#[]⟩
theorem L6 (o:dB):LZ 0 o=o:=by rw [LZ,dif_pos rfl]
theorem L8 {k:Nat} (h:0 < k) (o:dB):LZ k o=LZ (k / 10) (⟨#[UInt8.ofNat (48 + k % 10)]⟩ ++ o):=by
 rw [LZ,dif_neg (Nat.ne_of_gt h)]
set_option maxRecDepth 8000 in
theorem Cg (k:Nat) (w:af) (h0:0 < k) (h1:k≤1000000000) :
  Calls prog 40 #[.int .i64 (k:Int)] w fun e w'=>e=.returned (.string (aT k))∧aa w w':=by
 have hk0:¬ (k:Int)≤0:=by omega
 go_enter func40,ntmps40;go_wp2;go_loopw [0,3] (fun kv ov wr=>∃ (x:Nat) (o:ByteArray),kv=.int .i64 (x:Int)∧ov=.string o∧Hid (LZ x o=LZ k ⟨#[]⟩)∧x * 10 ^ o.size≤k∧x≤k∧(x=0→o.size≤12)∧Hid (aa w wr)) (fun kv _ _=>(intOf kv).toNat);case atStart=>exact ⟨k,⟨#[]⟩,rfl,rfl,rfl,(Nat.le_of_eq (Nat.mul_one k):k * 10 ^ 0≤k),Sj _,fun _=>Sm _,Si _ _⟩
 obtain ⟨x,o,rfl,rfl,HD,hx,hxk,hz,HB⟩:=hrel;by_cases hpos:0 < x
 ·have hsz:o.size≤9:=by
   rcases Nat.lt_or_ge 9 o.size with h | h
   ·have:10 ^ 10≤10 ^ o.size:=Nat.pow_le_pow_right (by omega) h;have h2:1 * 10 ^ o.size≤x * 10 ^ o.size:=Nat.mul_le_mul_right _ hpos;omega
   exact h
  have hx0:(0:Int) < (x:Int):=by omega
  obtain ⟨dd,hdd⟩:∃ dd:UInt8,dd=UInt8.ofNat (48 + x % 10):=⟨_,rfl⟩;have hbt:(48 + (x:Int) % 10)=((dd).toNat:Int):=by
   rw [hdd,UInt8.toNat_ofNat']; omega
  have HCV:(convert 119 9 (.slice (some ⟨wr.heap.size,0,none⟩) 1 1)).run prog (wr.alloc (.cells #[.int .u8 (48 + (x:Int) % 10)] 5))=.ok (.string ⟨#[dd]⟩) (wr.alloc (.cells #[.int .u8 (48 + (x:Int) % 10)] 5)) :=
   run_convert_bytes_back _ 119 9 5 ⟨wr.heap.size,0,none⟩ 1 [dd] underlying119 underlying5 underlying9 (fun j hj=>by
    have:j=0:=by simpa using hj
    subst this;rw [hbt];exact World.cell?_alloc_mark wr #[.int .u8 ((dd).toNat:Int)] 5 (0,0) 0)
  have TQ:Hid ((48 + (x:Int) % 10)=((dd).toNat:Int)):=hbt;have hone:(⟨#[dd]⟩:ByteArray).size=1:=rfl;have HD2:Hid (LZ (x / 10) (⟨#[dd]⟩ ++ o)=LZ k ⟨#[]⟩):=by show _=_; rw [← HD.out]; rw [hdd]; exact (L8 hpos o).symm
  have Ud:Hid (x / 10 * 10 ^ ((⟨#[dd]⟩ ++ o:ByteArray)).size≤k):=by
   show _≤_;rw [ByteArray.size_append,hone,Nat.add_comm,Nat.pow_succ];have:x / 10 * (10 ^ o.size * 10)=(x / 10 * 10) * 10 ^ o.size:=by rw [Nat.mul_comm (10 ^ o.size),Nat.mul_assoc]
   rw [this];exact Sq (Nat.mul_le_mul_right _ (by omega)) hx
  have HZ2:Hid ((⟨#[dd]⟩ ++ o:ByteArray).size≤12):=by show _≤_; rw [ByteArray.size_append,hone]; omega
  have HB2:Hid (aa w (wr.alloc (.cells #[.int .u8 (48 + (x:Int) % 10)] 5))):=HB.out.alloc HB.out.size _;have HQ:Hid ((x:Int) / 10=((x / 10:Nat):Int)):=by show _=_; omega
  clear hbt hone hdd;go_wp2;go_roundw;case rel=>exact ⟨x / 10,_,congrArg (Value.int .i64) HQ.out,rfl,HD2,Ud.out,by omega,fun _=>HZ2.out,HB2⟩
  simp [intOf]; omega
 obtain rfl:x=0:=by omega
 have hz2:=hz rfl;have HN:Hid (aT k=⟨#[109]⟩ ++ o):=by show _=_; unfold aT; rw [← HD.out,L6]
 have hx0:¬ (0:Int) < ((0:Nat):Int):=by omega
 go_wp2;go_ret;exact ⟨by rw [HN.out]; rfl,HB.out⟩
theorem aI (x:Int) (k:Nat) (w:af) (hx:x=(k:Int)) (h0:0 < k) (h1:k≤1000000000) :
  Calls prog 40 #[.int .i64 x] w fun e w'=>e=.returned (.string (aT k))∧aa w w':=by
 rw [hx]; exact Cg k w h0 h1
open Go.Maps
open Go.ChangeMaps (setBlock heap_setBlock_same heap_setBlock_other)
section
variable {K:Type} {enc:K→Value} {P:Program} {k:TypeId} {w:World} {b n:Nat} {M:K→Option Value}
theorem aJ.of_block {w':af} (h:aJ enc P k w b n M) (e:w'.heap[b]?=w.heap[b]?):aJ enc P k w' b n M:=by
 obtain ⟨D,⟨es,clock,hb,r⟩,h2⟩:=h;exact ⟨D,⟨es,clock,e.trans hb,r⟩,h2⟩
theorem oK {w:af} {b:Nat} {es es':Array MapEntry} {c c':Nat} (hb:w.heap[b]?=some (.map es c)):w.grownBy (setBlock w b (.map es' c')) (some b) :=
 ⟨rfl,rfl,rfl,by simp [setBlock],fun i _ hi=>heap_setBlock_other hb _ (fun e=>hi (by rw [e]))⟩
theorem aJ.entry [DecidableEq K] {t e:TypeId} (h:aJ enc P k w b n M) (L:WideMaps.KeyLaw P k) (hinj:∀ x y,enc x=enc y→x=y) (ht:P.underlying t=some (.map k e)) {z:Value} (hz:∀ u:World,(zeroValue e).run P u=.ok z u) (hn:n < maxLen) {x:K} {kl:Lit} (hkey:keyOf P k (enc x)=some kl) :
  ∃ (st:Nat) (w1:World),(Instr.mapEntry t (.map (some b)) (enc x)).run P w=.ok (.tuple #[(M x).getD z,goInt st]) w1∧w.grownBy w1 (some b) ∧
   ∀ (w2:World) (val:Value),w2.heap[b]?=w1.heap[b]?→∃ w3,(Instr.entryStore t (.map (some b)) (goInt st) val).run P w2=.ok () w3∧aJ enc P k w3 b (n + 1) (jV M x (some val))∧w2.grownBy w3 (some b):=by
 have LK:=Keyed.of_law L;have hlook:=h.look LK ht (hz w) hkey;have hst:=fun v=>h.store LK hinj ht hn hkey v;obtain ⟨D,⟨es,clock,hb,F,hs,hD⟩,h2⟩:=h;obtain ⟨v0,st,es1,clock1,hrun,hv0,hback⟩:=WideElems.entry_then_store L ht hz hb F hkey;have hb1:(setBlock w b (.map es1 clock1)).heap[b]?=some (.map es1 clock1):=heap_setBlock_same hb _;have ev:v0=(M x).getD z:=by
  have hl:=hlook;rcases Maps.fit_look false LK ht (hz w) hb F hkey with ⟨UB,hno,-⟩ | ⟨e0,y,hmem,hek,UB,-,-,-⟩
  ·rw [hl] at UB;injection UB with e1;rcases hv0 with ⟨e0,hm,hk0,-⟩ | ⟨-,hz0⟩
   ·exact absurd hk0 (hno e0 hm)
   rw [hz0,e1]; rfl
  rw [hl] at UB;injection UB with e1;rcases hv0 with ⟨e1',hm,hk0,hv⟩ | ⟨hno,-⟩
  ·have hnd:=F.stamped.2.2;have:e1'=e0:=by
    have h3:e1'.key=e0.key:=by rw [hk0,hek]
    obtain ⟨i,hi,hie⟩:=List.mem_iff_getElem.1 hm;obtain ⟨j,hj,hje⟩:=List.mem_iff_getElem.1 hmem;have h4:(es.toList.map (·.key))[i]'(by simpa using hi)=(es.toList.map (·.key))[j]'(by simpa using hj):=by simp only [List.getElem_map,hie,hje]; exact h3
    have h6:=List.pairwise_iff_getElem.1 hnd;have h5:i=j:=by
     rcases Nat.lt_trichotomy i j with hl | hl | hl
     ·exact absurd h4 (h6 i j _ _ hl)
     ·exact hl
     exact absurd h4.symm (h6 j i _ _ hl)
    subst h5;rw [← hie,← hje]
   rw [hv,this,e1]; rfl
  exact absurd hek (hno e0 hmem)
 refine ⟨st,_,by rw [hrun,ev],oK hb,fun w2 val hw2=>?_⟩;have hw2':w2.heap[b]?=some (.map es1 clock1):=hw2.trans hb1;obtain ⟨es',clock',hr1,hr2⟩:=hback w2 val hw2';obtain ⟨w',hr3,hM',-⟩:=hst val;rw [hr2] at hr3;injection hr3 with _ e3;refine ⟨_,hr1,hM'.of_block ?_,oK hw2'⟩;rw [← e3,heap_setBlock_same hb,heap_setBlock_same hw2']
end
section
variable {K:Type} {enc:K→Value} {P:Program} (w:World) {ops:Array Oper} {rest:List Oper} {o:Oper} {a:Act} {Q:Exit→Act→World→Prop}
theorem zR [DecidableEq K] (hg:o.guard=none) (m x:Operand) (t:TypeId) (hop:o.op=Op.mapEntry t m x) (k e:TypeId) (L:WideMaps.KeyLaw P k) (hinj:∀ x y,enc x=enc y→x=y) (ht:P.underlying t=some (.map k e)) {z:Value} (hz:∀ u:World,(zeroValue e).run P u=.ok z u) (b n:Nat) (M:K→Option Value)
  (hm:a.eval m=.map (some b)) (hV:aJ enc P k w b n M) (hn:n < maxLen) (y:K) (kl:Lit) (hx:a.eval x=enc y) (hkey:keyOf P k (enc y)=some kl)
  (hK:∀ (st:Nat) (w1:World),w.grownBy w1 (some b)→(∀ (w2:World) (val:Value),w2.heap[b]?=w1.heap[b]?→∃ w3,(Instr.entryStore t (.map (some b)) (goInt st) val).run P w2=.ok () w3∧aJ enc P k w3 b (n + 1) (jV M y (some val))∧w2.grownBy w3 (some b)) →
   wpList P ops Q rest (a.put o.dst (.tuple #[(M y).getD z,goInt st])) w1):wpList P ops Q (o::rest) a w:=by
 refine wpList_plain hg fun K' hK'=>?_;obtain ⟨st,w1,hrun,h1,h2⟩:=hV.entry L hinj ht hz hn hkey;unfold Oper.wp;simp [execOp,hop,hm,hx,hrun,Result.andThen];exact hK' _ _ (hK st w1 h1 h2)
theorem qP (hg:o.guard=none) (m s v:Operand) (t:TypeId) (hop:o.op=Op.entryStore t m s v) (b st:Nat) (hm:a.eval m=.map (some b)) (hs:a.eval s=goInt st) (u:Value) (hv:a.eval v=u) (k:TypeId) (n:Nat) (M:K→Option Value)
  (hback:∃ w3,(Instr.entryStore t (.map (some b)) (goInt st) u).run P w=.ok () w3∧aJ enc P k w3 b n M∧w.grownBy w3 (some b))
  (hK:∀ w',aJ enc P k w' b n M→w.grownBy w' (some b)→wpList P ops Q rest (a.put o.dst undef) w'):wpList P ops Q (o::rest) a w:=by
 refine wpList_plain hg fun K' hK'=>?_;obtain ⟨w3,hrun,h1,h2⟩:=hback;unfold Oper.wp;simp [execOp,hop,hm,hs,hv,hrun,Result.andThen];exact hK' _ _ (hK w3 h1 h2)
end
end Go.Proofs.YtdmniljjnaebbaaGreatDoor
namespace Go.Proofs.YtdmniljjnaebbaaGreatDoor.G
open Go.ChangeShapes Go.WideShapes Go.ChangeAt Go.RowKit Go.Maps
open Pl
variable {K α:Type} {enc:K→Value} {P:Program} {kt et:TypeId} {sz:Nat} {cl:α→List Value}
def FreeB (M:K→Option Value) (g:Nat):Prop:=∀ k v,M k=some v→v.ownBlock ≠ some g
structure Stl (W:World) (M:K→Option Value) (w2:World) (M2:K→Option Value) (bL:Nat):Prop where
 size:W.heap.size≤w2.heap.size
 block:∀ g,g < W.heap.size→g ≠ bL→FreeB M g→w2.heap[g]?=W.heap[g]?
 free:∀ g,g < W.heap.size→FreeB M g→FreeB M2 g
theorem Stl.refl (W:af) (M:K→Option Value) (bL:Nat):Stl W M W M bL:=⟨Sj _,fun _ _ _ _=>rfl,fun _ _ h=>h⟩
theorem Stl.trans {W w2 w3:af} {M M2 M3:K→Option Value} {bL:Nat} (h:Stl W M w2 M2 bL) (h2:Stl w2 M2 w3 M3 bL):Stl W M w3 M3 bL where
 size:=Sq h.size h2.size
 block g hg hb hf:=(h2.block g (Sg hg h.size) hb (h.free g hg hf)).trans (h.block g hg hb hf)
 free g hg hf:=h2.free g (Sg hg h.size) (h.free g hg hf)
theorem Stl.below {W w2:af} {M:K→Option Value} {bL:Nat} (hB:aa W w2):Stl W M w2 M bL:=⟨hB.size,fun g hg _ _=>hB.block g hg,fun _ _ h=>h⟩
structure Cel (w:World) (M:K→Option Value) (bL g o:Nat) (u:Value):Prop where
 cell:w.cell? ⟨g,o,none⟩=some u
 lt:g < w.heap.size
 free:FreeB M g
 ne:g ≠ bL
theorem Cel.stl {w w2:af} {M M2:K→Option Value} {bL g o:Nat} {u:Value} (h:Cel w M bL g o u) (hS:Stl w M w2 M2 bL):Cel w2 M2 bL g o u where
 cell:=(SI (w:=w) (hS.block g h.lt h.ne h.free)).trans h.cell
 lt:=Sg h.lt hS.size
 free:=hS.free g h.lt h.free
 ne:=h.ne
theorem Gl {w w':af} {base:Nat} {e:TypeId} {size:Nat} {v:Value} {n:Nat} {xs:List Value} (h:w.ownsRow base e size v n xs) (hb:aa w w'):w'.ownsRow base e size v n xs:=by
 have hl:=fun g hg=>(h.lt g hg).2;refine ⟨h.1,?_⟩;rcases h.2 with h0 | ⟨g,cap,cur,rfl,h1,h2,h3⟩
 ·exact .inl h0
 exact .inr ⟨g,cap,cur,rfl,h1,(hb.block g (hl g rfl)).trans h2,h3⟩
variable [DecidableEq K]
def flatG (cl:α→List Value) (xs:List α):List Value:=xs.flatMap cl
theorem Gm (cl:α→List Value) (xs:List α) (x:α):flatG cl (xs ++ [x])=flatG cl xs ++ cl x:=by simp [flatG]
def lookL (E:List (K × α)) (k:K):List α:=E.filterMap fun p=>if p.1=k then some p.2 else none
theorem lookL_append (E F:List (K × α)) (k:K):lookL (E ++ F) k=lookL E k ++ lookL F k:=by unfold lookL; rw [List.filterMap_append]
theorem qQ (E:List (K × α)) (k:K) (s:α):lookL (E ++ [(k,s)]) k=lookL E k ++ [s]:=by rw [lookL_append]; simp [lookL]
theorem oL (E:List (K × α)) {k y:K} (s:α) (h:k ≠ y):lookL (E ++ [(y,s)]) k=lookL E k:=by rw [lookL_append]; simp [lookL,Ne.symm h]
theorem mem_lookL {E:List (K × α)} {k:K} {s:α}:s ∈ lookL E k ↔ (k,s) ∈ E:=by
 unfold lookL;rw [List.mem_filterMap];constructor
 ·rintro ⟨⟨a,b⟩,h1,h2⟩;simp only at h2;split at h2
  ·rename_i e; injection h2 with h2; rw [← e,← h2]; exact h1
  cases h2
 intro h; exact ⟨(k,s),h,by simp⟩
structure Grp (enc:K→Value) (P:Program) (kt et:TypeId) (sz:Nat) (cl:α→List Value) (w:World) (bL n:Nat) (M:K→Option Value) (E:List (K × α)):Prop where
 map:aJ enc P kt w bL n M
 row:∀ k,(M k=none∧lookL E k=[]) ∨ ∃ v,M k=some v∧w.ownsRow (bL + 1) et sz v (lookL E k).length (flatG cl (lookL E k))
 apart:∀ k k' v v',k ≠ k'→M k=some v→M k'=some v'→∀ g,v.ownBlock=some g→v'.ownBlock ≠ some g
theorem Grp.lt {w:af} {bL n:Nat} {M:K→Option Value} {E:List (K × α)} (h:Grp enc P kt et sz cl w bL n M E) {k:K} {v:Value} (hk:M k=some v) {g:Nat} (hg:v.ownBlock=some g):bL < g∧g < w.heap.size:=by
 rcases h.row k with ⟨e,-⟩ | ⟨v',e,ho⟩
 ·rw [e] at hk; cases hk
 rw [e] at hk; injection hk with hk; subst hk;have:=ho.lt g hg;exact ⟨by omega,this.2⟩
theorem Grp.fresh {w:af} {bL n:Nat} {M:K→Option Value} {E:List (K × α)} (h:Grp enc P kt et sz cl w bL n M E) {g:Nat} (hg:w.heap.size≤g):FreeB M g:=fun k v hk e=>by
 have:=(h.lt hk e).2; omega
theorem Grp.mono {w:af} {bL n n':Nat} {M:K→Option Value} {E:List (K × α)} (h:Grp enc P kt et sz cl w bL n M E) (hn:n≤n'):Grp enc P kt et sz cl w bL n' M E:=⟨h.map.mono hn,h.row,h.apart⟩
theorem Grp.below {w w':af} {bL n:Nat} {M:K→Option Value} {E:List (K × α)} (h:Grp enc P kt et sz cl w bL n M E) (hB:aa w w'):Grp enc P kt et sz cl w' bL n M E where
 map:=h.map.below hB
 row k:=by
  rcases h.row k with e | ⟨v,e,ho⟩
  ·exact .inl e
  exact .inr ⟨v,e,Gl ho hB⟩
 apart:=h.apart
theorem grp_made (w:af):Grp enc P kt et sz cl (w.alloc (.map #[] 0)) w.heap.size 0 (fun _=>none) [] where
 map:=j6 _ _ _ w
 row k:=.inl ⟨rfl,rfl⟩
 apart k k' v v' _ h:=by cases h
theorem Grp.step {W0 w1 w2 w3:af} {bL n:Nat} {M:K→Option Value} {E:List (K × α)} {y:K} {v':Value} {s:α} (h:Grp enc P kt et sz cl W0 bL n M E) (hg1:W0.grownBy w1 (some bL)) (hown:w2.ownsRow (bL + 1) et sz v' ((lookL E y).length + 1) (flatG cl (lookL E y) ++ cl s))
  (hg2:w1.grownBy w2 ((M y).getD (.slice none 0 0)).ownBlock) (hloc:v'.ownBlock=((M y).getD (.slice none 0 0)).ownBlock ∨ v'.ownBlock=some w1.heap.size) (hg3:w2.grownBy w3 (some bL)) (hM:aJ enc P kt w3 bL (n + 1) (jV M y (some v'))) :
  Grp enc P kt et sz cl w3 bL (n + 1) (jV M y (some v')) (E ++ [(y,s)])∧Stl W0 M w3 (jV M y (some v')) bL:=by
 have hrow0:∀ k v,M k=some v→∃ xs m,W0.ownsRow (bL + 1) et sz v m xs:=fun k v hk=>by
  rcases h.row k with ⟨e,-⟩ | ⟨v1,e,ho⟩
  ·rw [e] at hk; cases hk
  rw [e] at hk; injection hk with hk; subst hk; exact ⟨_,_,ho⟩
 have hne2:∀ k v,k ≠ y→M k=some v→v.ownBlock=none ∨ v.ownBlock ≠ ((M y).getD (.slice none 0 0)).ownBlock:=fun k v hky hk=>by
  cases e:v.ownBlock with
  | none=>exact .inl rfl
  | some g =>
   right;cases ey:M y with
   | none=>simp [Value.ownBlock]
   | some vy=>intro e2; exact h.apart k y v vy hky hk ey g e (by simpa using e2.symm)
 have hnb:∀ v,(∃ k,M k=some v)→v.ownBlock=none ∨ v.ownBlock ≠ some bL:=fun v ⟨k,hk⟩=>by
  cases e:v.ownBlock with
  | none=>exact .inl rfl
  | some g=>right; have:=(h.lt hk e).1; intro e2; injection e2 with e2; omega
 have hnew:∀ g,v'.ownBlock=some g→bL < g:=fun g e=>by have:=(hown.lt g e).1; omega
 have hv'b:v'.ownBlock=none ∨ v'.ownBlock ≠ some bL:=by
  cases e:v'.ownBlock with
  | none=>exact .inl rfl
  | some g=>right; have:=hnew g e; intro e2; injection e2 with e2; omega
 constructor
 ·refine ⟨hM,fun k=>?_,fun k k' v u hkk hk hk' g e=>?_⟩
  ·by_cases ek:k=y
   ·subst ek;rw [dJ,qQ];refine .inr ⟨v',rfl,?_⟩;rw [Gm,Sr];exact hown.kept hg3 hv'b
   rw [bQ ek,oL _ _ ek];rcases h.row k with e | ⟨v,e,ho⟩
   ·exact .inl e
   exact .inr ⟨v,e,((ho.kept hg1 (hnb v ⟨k,e⟩)).kept hg2 (hne2 k v ek e)).kept hg3 (hnb v ⟨k,e⟩)⟩
  by_cases ek:k=y
  ·subst ek;rw [dJ] at hk; injection hk with hk; subst hk;rw [bQ (Ne.symm hkk)] at hk';intro e2;rcases hloc with el | el
   ·rw [e] at el;cases ey:M k with
    | none=>rw [ey] at el; simp [Value.ownBlock] at el
    | some vy=>rw [ey] at el; exact h.apart k k' vy u hkk ey hk' g (by simpa using el.symm) e2
   rw [e] at el; injection el with el;have:=(h.lt hk' e2).2;have:=hg1.size;omega
  rw [bQ ek] at hk;by_cases ek':k'=y
  ·subst ek';rw [dJ] at hk'; injection hk' with hk'; subst hk';intro e2;rcases hloc with el | el
   ·rw [e2] at el;cases ey:M k' with
    | none=>rw [ey] at el; simp [Value.ownBlock] at el
    | some vy=>rw [ey] at el; exact h.apart k k' v vy hkk hk ey g e (by simpa using el.symm)
   rw [e2] at el; injection el with el;have:=(h.lt hk e).2;have:=hg1.size;omega
  rw [bQ ek'] at hk';exact h.apart k k' v u hkk hk hk' g e
 refine ⟨Sq hg1.size (Sq hg2.size hg3.size),fun g hg hb hf=>?_,fun g hg hf k v hk=>?_⟩
 ·have h1:=hg1.block g hg (fun e=>hb (by injection e));have h2:=hg2.block g (Sg hg hg1.size) (fun e=>by
   cases ey:M y with
   | none=>rw [ey] at e; simp [Value.ownBlock] at e
   | some vy=>rw [ey] at e; exact hf y vy ey (by simpa using e.symm))
  have h3:=hg3.block g (Sg hg (Sq hg1.size hg2.size)) (fun e=>hb (by injection e));rw [h3,h2,h1]
 by_cases ek:k=y
 ·subst ek;rw [dJ] at hk; injection hk with hk; subst hk;intro e2;rcases hloc with el | el
  ·rw [e2] at el;cases ey:M k with
   | none=>rw [ey] at el; simp [Value.ownBlock] at el
   | some vy=>rw [ey] at el; exact hf k vy ey (by simpa using el.symm)
  rw [e2] at el; injection el with el; have:=hg1.size; omega
 rw [bQ ek] at hk;exact hf k v hk
end Go.Proofs.YtdmniljjnaebbaaGreatDoor.G
namespace Go.Proofs.YtdmniljjnaebbaaGreatDoor
open Go.RowKit
variable {P:Program} {ops:Array Oper} {Q:Exit→Act→World→Prop}
def Ch (ops:Array Oper):Bool:=(List.range ops.size).all (fun i=>(ops[i]?.map (fun o=>o.after.all (fun e=>!Region.binds .any e || decide (e.on < i)))).getD true)
theorem AP {ops:Array Oper} (h:Ch ops=true):∀ (i:Nat) (o:Oper),ops[i]?=some o→∀ e ∈ o.after,Region.binds .any e=true→e.on < i:=by
 intro i o ho e he hb;rw [Ch,SC] at h;have h1:=h i (by simpa using (Array.getElem?_eq_some_iff.1 ho).1);rw [ho] at h1;simp only [Option.map_some,Option.getD_some,Array.all_eq_true_iff_forall_mem] at h1;have h2:=h1 e he;rw [hb] at h2;simpa using h2
theorem ve {listed:Array Bool} {n:Nat} (hr:Region.ready .any ops listed=[]) (hs:ops.size=n) (UW:∀ (i:Nat) (o:Oper),ops[i]?=some o→∀ e ∈ o.after,Region.binds .any e=true→e.on < i) (hsz:listed.size=n):∀ i,i < n→listed.getD i true=true:=by
 intro i
 induction i using Nat.strongRecOn with
 | ind i ih =>
  intro hi;cases hl:listed.getD i true;case true=>rfl
  exfalso;have hmem:i ∈ Region.ready .any ops listed:=by
   refine mem_ready.2 ⟨hl,ops[i]'(by omega),SS (by omega),fun e he hb=>?_⟩;have hlt:=UW i _ (SS (by omega)) e he hb;have:=ih e.on hlt (by omega);rw [SK,SS (by omega)] at this ⊢;simpa using this
  rw [hr] at hmem;cases hmem
section
variable {P:Program} {ops:Array Oper} {Q:Exit→Act→World→Prop}
theorem om {id:Nat} {a:Act} {w:af} (L:Nat) (f0:Nat→Value) (F:(Nat→Value)→Act) (I:(Nat→Bool)→(Nat→Value)→World→Prop)
  (hm:P.follows .mixedOrders=true) (hsz:ops.size=L + 1) (UW:Ch ops=true) (hlo:Gh ops L=true)
  (h0:a=F f0) (hI0:I (fun _=>false) f0 w.drew)
  (hstep:∀ i,i < L→∀ o,ops[i]?=some o→∀ (l:Nat→Bool) f w',l i=false→I l f w'→(∀ e ∈ o.after,Region.binds .any e=true→l e.on=true) →
   wpOp P ops Q i (fun a' w''=>∃ v,a'=F (upd f i v)∧I (fun k=>if k=i then true else l k) (upd f i v) w'') (F f) w')
  (hfin:∀ o,ops[L]?=some o→∀ (l:Nat→Bool) f w',(∀ k,k < L→l k=true)→I l f w'→wpOp P ops Q L (fun a' w''=>Q .normal a' w'') (F f) w') :
  (Code.region id ops true).wp P Q a w:=by
 refine jq (fun listed a' w'=>listed.size=L + 1∧((listed.getD L false=false∧∃ f,a'=F f∧I (fun k=>listed.getD k false) f w') ∨ ((∀ j,j≤L→listed.getD j true=true)∧Q .normal a' w'))) hm ?_ ?_ ?_
 ·refine ⟨by simpa using hsz,Or.inl ⟨?_,_,h0,?_⟩⟩
  ·rw [SK,Array.getElem?_replicate]; split <;> rfl
  have:(fun k=>(Array.replicate ops.size false).getD k false)=fun _=>false:=funext fun k=>by rw [SK,Array.getElem?_replicate]; split <;> rfl
  rw [this]; exact hI0
 ·rintro listed a' w' ⟨hs,h⟩ i hi;obtain ⟨hl,o,ho,hpre⟩:=mem_ready.1 hi;have hiL:i < L + 1:=by have:=(Array.getElem?_eq_some_iff.1 ho).1; omega
  rcases h with ⟨hn,f,rfl,hI⟩ | ⟨hall,-⟩
  ·by_cases e:i=L
   ·subst e;have hall:∀ k,k < i→listed.getD k false=true:=fun k hk=>by
     obtain ⟨e,he,rfl,hb⟩:=JK hlo o ho k hk;exact hpre e he hb
    refine wpOp_mono (fun a'' w'' hq=>⟨by simpa using hs,Or.inr ⟨fun j hj=>?_,hq⟩⟩) (hfin o ho _ f w' hall hI);rw [oh (by simp; omega),eP _ _ _ (by omega)];by_cases e:j=i
    ·simp [e]
    rw [if_neg e]; exact hall j (by omega)
   refine wpOp_mono ?_ (hstep i (by omega) o ho _ f w' (by rw [← oh (by omega)]; exact hl) hI (fun e he hb=>hpre e he hb));rintro a'' w'' ⟨v,rfl,hI'⟩;refine ⟨by simpa using hs,Or.inl ⟨?_,_,rfl,?_⟩⟩
   ·rw [eP _ _ _ (by omega),if_neg (Ne.symm e)]; exact hn
   have:(fun k=>(listed.setIfInBounds i true).getD k false)=fun k=>if k=i then true else listed.getD k false:=funext fun k=>eP _ _ _ (by omega)
   rw [this]; exact hI'
  rw [hall i (by omega)] at hl; cases hl
 rintro listed a' w' ⟨hs,h⟩ hr;rcases h with ⟨hn,-⟩ | ⟨-,hq⟩
 ·have:=ve hr hsz (AP UW) hs L (by omega);rw [oh (by omega)] at this;rw [this] at hn; cases hn
 exact hq
end
end Go.Proofs.YtdmniljjnaebbaaGreatDoor
namespace Go.Proofs.YtdmniljjnaebbaaGreatDoor.G
set_option linter.unusedVariables false
open Go.ChangeShapes Go.WideShapes Go.ChangeAt Go.RowKit Go.Maps
open Pl
def Back {K:Type} [DecidableEq K] (enc:K→Value) (P:Program) (kt t:TypeId) (bp n:Nat) (M:K→Option Value) (y:K) (st:Nat) (w:World):Prop :=
 ∀ (w2:World) (val:Value),w2.heap[bp]?=w.heap[bp]?→∃ w3,(Instr.entryStore t (.map (some bp)) (goInt st) val).run P w2=.ok () w3∧aJ enc P kt w3 bp (n + 1) (jV M y (some val))∧w2.grownBy w3 (some bp)
def put (l:Nat→Bool) (i:Nat):Nat→Bool:=fun k=>if k=i then true else l k
structure EA (C:Nat→Value) (NEW:Array Value) (et:TypeId) (W:World) (l:Nat→Bool) (f:Nat→Value) (w:World):Prop where
 late:∀ k,7≤k→k≤10→l k=false
 bel:aa W w
 val:∀ k,k≤5→l k=true→f k=C k
 row:l 6=true→∃ g,f 6=.slice (some ⟨g,0,none⟩) 1 1∧W.heap.size≤g∧w.heap[g]?=some (.cells NEW et (0,0))
structure EB (C:Nat→Value) (NEW:Array Value) (et:TypeId) (W:World) (bp:Nat) (row0:Value) (BK:Nat→World→Prop) (l:Nat→Bool) (f:Nat→Value) (w:World):Prop where
 low:∀ k,k≤7→l k=true
 l9:l 9=false
 val:∀ k,k≤5→f k=C k
 mid:∃ (W0:World) (st g:Nat),aa W W0∧f 6=.slice (some ⟨g,0,none⟩) 1 1∧W.heap.size≤g∧W0.heap[g]?=some (.cells NEW et (0,0))∧W0.grownBy w (some bp)∧f 7=.tuple #[row0,goInt st]∧BK st w∧(l 8=true→f 8=row0)∧(l 10=true→f 10=goInt st)
structure EC (C:Nat→Value) (NEW:Array Value) (et:TypeId) (sz:Nat) (W:World) (bp:Nat) (row0:Value) (nn:Nat) (xs:List Value) (BK:Nat→World→Prop) (l:Nat→Bool) (f:Nat→Value) (w:World):Prop where
 low:∀ k,k≤9→l k=true
 val:∀ k,k≤5→f k=C k
 mid:∃ (W0 w1:World) (st:Nat),aa W W0∧W0.grownBy w1 (some bp)∧w1.grownBy w row0.ownBlock∧w.ownsRow (bp + 1) et sz (f 9) (nn + 1) (xs ++ NEW.toList)∧((f 9).ownBlock=row0.ownBlock ∨ (f 9).ownBlock=some w1.heap.size)∧BK st w1∧f 7=.tuple #[row0,goInt st]∧(l 10=true→f 10=goInt st)
def EI (C:Nat→Value) (NEW:Array Value) (et:TypeId) (sz:Nat) (W:World) (bp:Nat) (row0:Value) (nn:Nat) (xs:List Value) (BK:Nat→World→Prop) (l:Nat→Bool) (f:Nat→Value) (w:World):Prop :=
 EA C NEW et W l f w ∨ EB C NEW et W bp row0 BK l f w ∨ EC C NEW et sz W bp row0 nn xs BK l f w
section
variable {C:Nat→Value} {NEW:Array Value} {et:TypeId} {sz:Nat} {W:World} {bp:Nat} {row0:Value} {nn:Nat} {xs:List Value} {BK:Nat→World→Prop} {l:Nat→Bool} {f:Nat→Value} {w:World}
theorem ei_start (W:af):EI C NEW et sz W bp row0 nn xs BK (fun _=>false) f W.drew:=.inl ⟨fun _ _ _=>rfl,(Si _ _).drew,fun _ _ h=>(by cases h),fun h=>(by cases h)⟩
theorem EI.early (h:EI C NEW et sz W bp row0 nn xs BK l f w) {i:Nat} (hi:i≤7) (hl:l i=false):EA C NEW et W l f w:=by
 rcases h with h | h | h
 ·exact h
 ·rw [h.low i hi] at hl; cases hl
 rw [h.low i (by omega)] at hl; cases hl
theorem EA.put {i:Nat} (h:EA C NEW et W l f w) (hi:i≤5) {v:Value} (hv:v=C i):EI C NEW et sz W bp row0 nn xs BK (fun k=>if k=i then true else l k) (upd f i v) w:=by
 refine .inl ⟨fun k h7 h10=>?_,h.bel,fun k hk hl=>?_,fun hl=>?_⟩
 ·show (if _=_ then true else _)=_; rw [if_neg (by omega)]; exact h.late k h7 h10
 ·by_cases e:k=i
  ·subst e; simp [upd,hv]
  simp only [if_neg e] at hl;simp only [upd,if_neg e]; exact h.val k hk hl
 replace hl:(if _=_ then true else _)=true:=hl;rw [if_neg (by omega)] at hl;simp only [upd];rw [if_neg (by omega)];exact h.row hl
theorem EA.lay (h:EA C NEW et W l f w):EI C NEW et sz W bp row0 nn xs BK (fun k=>if k=6 then true else l k) (upd f 6 (.slice (some ⟨w.heap.size,0,none⟩) 1 1)) (w.alloc (.cells NEW et)):=by
 refine .inl ⟨fun k h7 h10=>?_,h.bel.alloc h.bel.size _,fun k hk hl=>?_,fun _=>⟨w.heap.size,by simp [upd],h.bel.size,heap_alloc_new w _⟩⟩
 ·show (if _=_ then true else _)=_; rw [if_neg (by omega)]; exact h.late k h7 h10
 replace hl:(if _=_ then true else _)=true:=hl;rw [if_neg (by omega)] at hl;simp only [upd];rw [if_neg (by omega)]; exact h.val k hk hl
theorem EA.took (h:EA C NEW et W l f w) (hall:∀ k,k≤6→l k=true) {st:Nat} {w1:af} (hg:w.grownBy w1 (some bp)) (hb:BK st w1):EI C NEW et sz W bp row0 nn xs BK (fun k=>if k=7 then true else l k) (upd f 7 (.tuple #[row0,goInt st])) w1:=by
 obtain ⟨g,e6,WZ,hc⟩:=h.row (hall 6 (by omega));refine .inr (.inl ⟨fun k hk=>?_,?_,fun k hk=>?_,w,st,g,h.bel,?_,WZ,hc,hg,?_,hb,fun h8=>?_,fun h10=>?_⟩)
 ·by_cases e:k=7
  ·simp [e]
  simp only [if_neg e]; exact hall k (by omega)
 ·show (if (9:Nat)=7 then true else l 9)=false;rw [if_neg (by omega)]; exact h.late 9 (by omega) (by omega)
 ·simp only [upd]; rw [if_neg (by omega)]; exact h.val k hk (hall k (by omega))
 ·simp only [upd]; rw [if_neg (by omega)]; exact e6
 ·simp [upd]
 ·have:(if (8:Nat)=7 then true else l 8)=true:=h8;rw [if_neg (by omega),h.late 8 (by omega) (by omega)] at this; cases this
 have:(if (10:Nat)=7 then true else l 10)=true:=h10;rw [if_neg (by omega),h.late 10 (by omega) (by omega)] at this; cases this
theorem EI.midB (h:EI C NEW et sz W bp row0 nn xs BK l f w) (h7:l 7=true) {i:Nat} (hi:i≤9) (hl:l i=false):EB C NEW et W bp row0 BK l f w:=by
 rcases h with h | h | h
 ·rw [h.late 7 (by omega) (by omega)] at h7; cases h7
 ·exact h
 rw [h.low i hi] at hl; cases hl
theorem EI.seven (h:EI C NEW et sz W bp row0 nn xs BK l f w) (h7:l 7=true):∃ st:Nat,f 7=.tuple #[row0,goInt st]:=by
 rcases h with h | h | h
 ·rw [h.late 7 (by omega) (by omega)] at h7; cases h7
 ·obtain ⟨_,st,_,_,_,_,_,_,e,_⟩:=h.mid; exact ⟨st,e⟩
 obtain ⟨_,_,st,_,_,_,_,_,_,e,_⟩:=h.mid; exact ⟨st,e⟩
theorem EB.first (h:EB C NEW et W bp row0 BK l f w):EI C NEW et sz W bp row0 nn xs BK (fun k=>if k=8 then true else l k) (upd f 8 row0) w:=by
 obtain ⟨W0,st,g,h1,h2,h3,h4,h5,h6,h7,h8,h9⟩:=h.mid;refine .inr (.inl ⟨fun k hk=>?_,?_,fun k hk=>?_,W0,st,g,h1,?_,h3,h4,h5,?_,h7,fun _=>?_,fun h10=>?_⟩)
 ·show (if _=_ then true else _)=_; rw [if_neg (by omega)]; exact h.low k hk
 ·show (if (9:Nat)=8 then true else l 9)=false;rw [if_neg (by omega)]; exact h.l9
 ·simp only [upd]; rw [if_neg (by omega)]; exact h.val k hk
 ·simp only [upd]; rw [if_neg (by omega)]; exact h2
 ·simp only [upd]; rw [if_neg (by omega)]; exact h6
 ·simp [upd]
 have XW:(if (10:Nat)=8 then true else l 10)=true:=h10;rw [if_neg (by omega)] at XW;simp only [upd]; rw [if_neg (by omega)]; exact h9 XW
theorem EI.second (h:EI C NEW et sz W bp row0 nn xs BK l f w) (h7:l 7=true) {st:Nat} (e:f 7=.tuple #[row0,goInt st]):EI C NEW et sz W bp row0 nn xs BK (fun k=>if k=10 then true else l k) (upd f 10 (goInt st)) w:=by
 have same:∀ st':Nat,.tuple #[row0,goInt st']=Value.tuple #[row0,goInt st]→goInt st'=goInt st:=fun st' e=>by
  injection e with e;have:=congrArg Array.toList e;simp only [List.cons.injEq] at this;exact this.2.1
 rcases h with h | h | h
 ·rw [h.late 7 (by omega) (by omega)] at h7; cases h7
 ·obtain ⟨W0,st',g,h1,h2,h3,h4,h5,h6,hb,h8,h9⟩:=h.mid;have es:=same st' (h6.symm.trans e);refine .inr (.inl ⟨fun k hk=>?_,?_,fun k hk=>?_,W0,st',g,h1,?_,h3,h4,h5,?_,hb,fun h8'=>?_,fun _=>?_⟩)
  ·show (if _=_ then true else _)=_; rw [if_neg (by omega)]; exact h.low k hk
  ·show (if (9:Nat)=10 then true else l 9)=false;rw [if_neg (by omega)]; exact h.l9
  ·simp only [upd]; rw [if_neg (by omega)]; exact h.val k hk
  ·simp only [upd]; rw [if_neg (by omega)]; exact h2
  ·simp only [upd]; rw [if_neg (by omega)]; exact h6
  ·have h8'':(if (8:Nat)=10 then true else l 8)=true:=h8';rw [if_neg (by omega)] at h8'';simp only [upd]; rw [if_neg (by omega)]; exact h8 h8''
  simp [upd,es]
 obtain ⟨W0,w1,st',h1,h2,h3,h4,h5,hb,h6,h9⟩:=h.mid;have es:=same st' (h6.symm.trans e);refine .inr (.inr ⟨fun k hk=>?_,fun k hk=>?_,W0,w1,st',h1,h2,h3,?_,?_,hb,?_,fun _=>?_⟩)
 ·show (if _=_ then true else _)=_; rw [if_neg (by omega)]; exact h.low k hk
 ·simp only [upd]; rw [if_neg (by omega)]; exact h.val k hk
 ·simp only [upd]; rw [if_neg (by omega)]; exact h4
 ·simp only [upd]; rw [if_neg (by omega)]; exact h5
 ·simp only [upd]; rw [if_neg (by omega)]; exact h6
 simp [upd,es]
theorem EB.app (h:EB C NEW et W bp row0 BK l f w) (h8:l 8=true) {v':Value} {w':af} (hg:w.grownBy w' row0.ownBlock) (ho:w'.ownsRow (bp + 1) et sz v' (nn + 1) (xs ++ NEW.toList)) (hloc:v'.ownBlock=row0.ownBlock ∨ v'.ownBlock=some w.heap.size):EI C NEW et sz W bp row0 nn xs BK (fun k=>if k=9 then true else l k) (upd f 9 v') w':=by
 obtain ⟨W0,st,g,h1,h2,h3,h4,h5,h6,hb,_,h9⟩:=h.mid;refine .inr (.inr ⟨fun k hk=>?_,fun k hk=>?_,W0,w,st,h1,h5,hg,?_,?_,hb,?_,fun h10=>?_⟩)
 ·by_cases e:k=9
  ·simp [e]
  by_cases e8:k=8
  ·simp only [if_neg e]; rw [e8]; exact h8
  simp only [if_neg e]; exact h.low k (by omega)
 ·simp only [upd]; rw [if_neg (by omega)]; exact h.val k hk
 ·simp only [upd,if_true]; exact ho
 ·simp only [upd,if_true]; exact hloc
 ·simp only [upd]; rw [if_neg (by omega)]; exact h6
 have XW:(if (10:Nat)=9 then true else l 10)=true:=h10;rw [if_neg (by omega)] at XW;simp only [upd]; rw [if_neg (by omega)]; exact h9 XW
theorem EI.last (h:EI C NEW et sz W bp row0 nn xs BK l f w) (hall:∀ k,k < 11→l k=true):EC C NEW et sz W bp row0 nn xs BK l f w:=by
 rcases h with h | h | h
 ·have:=hall 7 (by omega); rw [h.late 7 (by omega) (by omega)] at this; cases this
 ·have:=hall 9 (by omega); rw [h.l9] at this; cases this
 exact h
end
end Go.Proofs.YtdmniljjnaebbaaGreatDoor.G
namespace Go.Proofs.YtdmniljjnaebbaaGreatDoor
open Go.ChangeShapes Go.WideShapes Go.ChangeAt Go.RowKit Go.Maps
abbrev K3:=ByteArray × ByteArray × ByteArray
def oM (k:K3):Value:=.agg #[.string k.1,.string k.2.1,.string k.2.2]
theorem L9 (x y:K3) (h:oM x=oM y):x=y:=by
 unfold oM at h;injection h with h;have h1:=congrArg Array.toList h;simp at h1;exact Prod.ext h1.1 (Prod.ext h1.2.1 h1.2.2)
theorem Ro:(233:TypeId) < prog.types.size:=of_decide_eq_true (by kernel_rfl)
theorem Qt:(match prog.underlying 233 with | some (.array _ _) | some (.struct _)=>true | _=>false)=true:=by rw [underlying233]
set_option maxRecDepth 100000 in
theorem Ma:WideMaps.KeyLaw prog 233:=deep_law_laid xB (m:=3) (by omega) Ro (by kernel_rfl) Qt
theorem PY:Keyed prog 233:=Keyed.of_law Ma
theorem Qu:prog.keyType 233=true:=by kernel_rfl
theorem I4:prog.cellsOf 233=3:=by kernel_rfl
theorem JM:prog.cellsOf 40=2:=by kernel_rfl
theorem JN:2≤prog.types.size:=of_decide_eq_true (by kernel_rfl)
theorem xJ:∃ n,prog.types.size=n + 2:=⟨prog.types.size - 2,by have:=JN; omega⟩
set_option maxRecDepth 100000 in
theorem Ci (k:K3) (h0:k.1.size≤maxLen) (h1:k.2.1.size≤maxLen) (h2:k.2.2.size≤maxLen):∃ kl,keyOf prog 233 (oM k)=some kl:=by
 obtain ⟨n,hn⟩:=xJ;refine ⟨.string (keyBytes [.string k.1.data.toList,.string k.2.1.data.toList,.string k.2.2.data.toList]),?_⟩;unfold keyOf;rw [underlying233];simp only [Qu,oM,Value.formed,underlying233,I4,hn,Value.cells];simp +decide [Program.keyLits,underlying233,underlying40,underlying9,I4,JM,strCells,h0,h1,h2]
abbrev KL:=ByteArray × Int
def DW (k:KL):Value:=.agg #[.string k.1,.int .i64 k.2]
theorem Mc (x y:KL) (h:DW x=DW y):x=y:=by
 unfold DW at h;injection h with h;have h1:=congrArg Array.toList h;simp at h1;exact Prod.ext h1.1 h1.2
theorem Rp:(174:TypeId) < prog.types.size:=of_decide_eq_true (by kernel_rfl)
theorem Qv:(match prog.underlying 174 with | some (.array _ _) | some (.struct _)=>true | _=>false)=true:=by rw [underlying174]
set_option maxRecDepth 100000 in
theorem Md:WideMaps.KeyLaw prog 174:=deep_law_laid xB (m:=2) (by omega) Rp (by kernel_rfl) Qv
theorem Rq:Keyed prog 174:=Keyed.of_law Md
theorem Qw:prog.keyType 174=true:=by kernel_rfl
theorem I5:prog.cellsOf 174=2:=by kernel_rfl
theorem Me:prog.cellsOf 2=1:=by kernel_rfl
set_option maxRecDepth 100000 in
theorem I6 (k:KL) (h0:k.1.size≤maxLen) (h1:0≤k.2) (h2:k.2≤1000000):∃ kl,keyOf prog 174 (DW k)=some kl:=by
 have hw:(Lit.int .i64 k.2).wf=true:=WalkArith.wf_i64 ⟨by omega,by omega⟩;obtain ⟨n,hn⟩:=xJ;refine ⟨.string (keyBytes [.string k.1.data.toList,.int .i64 k.2]),?_⟩;unfold keyOf;rw [underlying174];simp only [Qw,DW,Value.formed,underlying174,I5,hn,Value.cells];simp +decide [Program.keyLits,underlying174,underlying2,underlying9,I5,Me,strCells,h0,hw]
section
variable {P:Program} {ops:Array Oper} {Q:Exit→Act→World→Prop}
theorem jg {id:Nat} {a:Act} {w:af} (L:Nat) (f0:Nat→Value) (F:(Nat→Value)→Act) (I:(Nat→Bool)→(Nat→Value)→World→Prop)
  (hm:P.follows .mixedOrders=true) (hsz:ops.size=L + 1) (UW:Ch ops=true)
  (hcl:∀ o,ops[L]?=some o→∀ (l:Nat→Bool) f w',I l f w'→(∀ e ∈ o.after,Region.binds .any e=true→l e.on=true)→∀ k,k < L→l k=true)
  (h0:a=F f0) (hI0:I (fun _=>false) f0 w.drew)
  (hstep:∀ i,i < L→∀ o,ops[i]?=some o→∀ (l:Nat→Bool) f w',l i=false→I l f w'→(∀ e ∈ o.after,Region.binds .any e=true→l e.on=true) →
   wpOp P ops Q i (fun a' w''=>∃ v,a'=F (upd f i v)∧I (fun k=>if k=i then true else l k) (upd f i v) w'') (F f) w')
  (hfin:∀ o,ops[L]?=some o→∀ (l:Nat→Bool) f w',(∀ k,k < L→l k=true)→I l f w'→wpOp P ops Q L (fun a' w''=>Q .normal a' w'') (F f) w') :
  (Code.region id ops true).wp P Q a w:=by
 refine jq (fun listed a' w'=>listed.size=L + 1∧((listed.getD L false=false∧∃ f,a'=F f∧I (fun k=>listed.getD k false) f w') ∨ ((∀ j,j≤L→listed.getD j true=true)∧Q .normal a' w'))) hm ?_ ?_ ?_
 ·refine ⟨by simpa using hsz,Or.inl ⟨?_,_,h0,?_⟩⟩
  ·rw [SK,Array.getElem?_replicate]; split <;> rfl
  have:(fun k=>(Array.replicate ops.size false).getD k false)=fun _=>false:=funext fun k=>by rw [SK,Array.getElem?_replicate]; split <;> rfl
  rw [this]; exact hI0
 ·rintro listed a' w' ⟨hs,h⟩ i hi;obtain ⟨hl,o,ho,hpre⟩:=mem_ready.1 hi;have hiL:i < L + 1:=by have:=(Array.getElem?_eq_some_iff.1 ho).1; omega
  rcases h with ⟨hn,f,rfl,hI⟩ | ⟨hall,-⟩
  ·by_cases e:i=L
   ·subst e;have hall:∀ k,k < i→listed.getD k false=true:=hcl o ho _ f w' hI (fun e he hb=>hpre e he hb);refine wpOp_mono (fun a'' w'' hq=>⟨by simpa using hs,Or.inr ⟨fun j hj=>?_,hq⟩⟩) (hfin o ho _ f w' hall hI);rw [oh (by simp; omega),eP _ _ _ (by omega)];by_cases e:j=i
    ·simp [e]
    rw [if_neg e]; exact hall j (by omega)
   refine wpOp_mono ?_ (hstep i (by omega) o ho _ f w' (by rw [← oh (by omega)]; exact hl) hI (fun e he hb=>hpre e he hb));rintro a'' w'' ⟨v,rfl,hI'⟩;refine ⟨by simpa using hs,Or.inl ⟨?_,_,rfl,?_⟩⟩
   ·rw [eP _ _ _ (by omega),if_neg (Ne.symm e)]; exact hn
   have:(fun k=>(listed.setIfInBounds i true).getD k false)=fun k=>if k=i then true else listed.getD k false:=funext fun k=>eP _ _ _ (by omega)
   rw [this]; exact hI'
  rw [hall i (by omega)] at hl; cases hl
 rintro listed a' w' ⟨hs,h⟩ hr;rcases h with ⟨hn,-⟩ | ⟨-,hq⟩
 ·have:=ve hr hsz (AP UW) hs L (by omega);rw [oh (by omega)] at this;rw [this] at hn; cases hn
 exact hq
end
end Go.Proofs.YtdmniljjnaebbaaGreatDoor
namespace Go.Proofs.YtdmniljjnaebbaaGreatDoor.G
set_option linter.unusedVariables false
open Go.ChangeShapes Go.WideShapes Go.ChangeAt Go.RowKit
structure WI (C:Nat→Value) (W:World) (CD:Value→World→Prop) (l:Nat→Bool) (f:Nat→Value) (w:World):Prop where
 val:∀ k,k≤9→k ≠ 7→l k=true→f k=C k
 seq:l 7=true→l 4=true∧l 6=true
 nin:l 9=true→l 8=true
 mid:(l 7=false∧aa W w) ∨ (l 7=true∧CD (f 7) w)
section
variable {C:Nat→Value} {W:World} {CD:Value→World→Prop} {l:Nat→Bool} {f:Nat→Value} {w:World}
theorem wi_start (W:af):WI C W CD (fun _=>false) f W.drew:=⟨fun _ _ _ h=>(by cases h),fun h=>(by cases h),fun h=>(by cases h),.inl ⟨rfl,(Si _ _).drew⟩⟩
theorem WI.put (h:WI C W CD l f w) {i:Nat} (hi:i ≠ 7) (h9:i=9→l 8=true) {v:Value} (hv:v=C i):WI C W CD (fun k=>if k=i then true else l k) (upd f i v) w:=by
 refine ⟨fun k hk h7 hl=>?_,fun hl=>?_,fun hl=>?_,?_⟩
 ·by_cases e:k=i
  ·subst e; simp [upd,hv]
  simp only [if_neg e] at hl;simp only [upd,if_neg e]; exact h.val k hk h7 hl
 ·have hl':(if (7:Nat)=i then true else l 7)=true:=hl;rw [if_neg (Ne.symm hi)] at hl';have:=h.seq hl';constructor
  ·show (if (4:Nat)=i then true else l 4)=true; rw [this.1]; split <;> rfl
  show (if (6:Nat)=i then true else l 6)=true; rw [this.2]; split <;> rfl
 ·have hl':(if (9:Nat)=i then true else l 9)=true:=hl;show (if (8:Nat)=i then true else l 8)=true;by_cases e:(9:Nat)=i
  ·rw [h9 e.symm]; split <;> rfl
  rw [if_neg e] at hl'; rw [h.nin hl']; split <;> rfl
 have e7:(if (7:Nat)=i then true else l 7)=l 7:=if_neg (Ne.symm hi);have f7:upd f i v 7=f 7:=by simp only [upd]; rw [if_neg (Ne.symm hi)]
 rcases h.mid with ⟨h1,h2⟩ | ⟨h1,h2⟩
 ·exact .inl ⟨e7.trans h1,h2⟩
 exact .inr ⟨e7.trans h1,by rw [f7]; exact h2⟩
theorem WI.before (h:WI C W CD l f w) (hl:l 7=false):aa W w:=by
 rcases h.mid with ⟨_,h2⟩ | ⟨h1,_⟩
 ·exact h2
 rw [h1] at hl; cases hl
theorem WI.early (h:WI C W CD l f w) (hl:l 4=false ∨ l 6=false):aa W w:=by
 refine h.before ?_;cases h7:l 7;case false=>rfl
 obtain ⟨h4,h6⟩:=h.seq h7;rcases hl with e | e
 ·rw [h4] at e; cases e
 rw [h6] at e; cases e
theorem WI.call (h:WI C W CD l f w) (h4:l 4=true) (h6:l 6=true) {v:Value} {w':af} (hc:CD v w'):WI C W CD (fun k=>if k=7 then true else l k) (upd f 7 v) w':=by
 refine ⟨fun k hk h7 hl=>?_,fun _=>⟨by simp [h4],by simp [h6]⟩,fun hl=>h.nin hl,.inr ⟨by simp,by simp only [upd,if_true]; exact hc⟩⟩;simp only [if_neg h7] at hl;simp only [upd,if_neg h7]; exact h.val k hk h7 hl
theorem WI.last (h:WI C W CD l f w) (hall:∀ k,k < 10→l k=true):(∀ k,k≤9→k ≠ 7→f k=C k)∧CD (f 7) w:=by
 refine ⟨fun k hk h7=>h.val k hk h7 (hall k (by omega)),?_⟩;rcases h.mid with ⟨h1,_⟩ | ⟨_,h2⟩
 ·rw [hall 7 (by omega)] at h1; cases h1
 exact h2
end
end Go.Proofs.YtdmniljjnaebbaaGreatDoor.G
namespace Go.Proofs.YtdmniljjnaebbaaGreatDoor
set_option linter.unusedVariables false
open Go.RowKit
def Cj {α:Type} (F:Fence) (n:Nat) (P:Program) (g:Nat) (lb:Array Value) (encs:α→Array Value) (Kp:Nat→World→World→Prop) (Q:List α→World→Prop) (E:List α→α→Prop) (S:List α→Prop) (w:World):Prop :=
 ∀ (l:Nat) (J:List α→World→Prop) (W:World),aa w W→l < W.heap.size→w.heap.size≤l→OwnFrom W.heap.size J→(∀ pre W1,J pre W1→Q pre W1) →
  (∀ pre x W1,J pre W1→E pre x→YieldAt F (n - 1) P l (encs x) W1 fun e W'=>e=.returned (.bool true)∧J (pre ++ [x]) W'∧Kp l W1 W') →
  J [] W →
  CallsIn F n P g (#[.func (.yield l) #[] #[]] ++ lb) W fun e W'=>(∃ v,e=.returned v)∧∃ xs,S xs∧J xs W'
def Mf (B:Nat) (R:World→Prop) (W:World):Exit→Act→World→Prop
 | .normal,_,W'=>KeepsFrom B W W'∧R W'
 | _,_,_=>False
theorem I7 {β:Type} {B k:Nat} {o:Obj} (hk:k < B):OwnFrom B (fun (_:β) W=>W.heap[k]?=some o):=fun _ X Y row hs hg hr=>(hg.block k (Array.getElem?_eq_some_iff.1 hs).1 fun e=>by have:=(hr k e.symm).1; omega).trans hs
theorem Qx {β:Type} {B B':Nat} {I:β→World→Prop} (h:OwnFrom B I) (hB:B≤B'):OwnFrom B' I:=fun s X Y row hs hg hr=>h s X Y row hs hg fun r e=>⟨Sq hB (hr r e).1,(hr r e).2⟩
theorem oN {α:Type} {F:Fence} {n:Nat} {P:Program} {g:Operand} {ps:Array Tmp} {assign body:Code} {Q:Exit→Act→World→Prop} {a:Act} {w:af} (hro:F.round=none) (h1:1≤n) {gf:Nat} {lb:Array Value} (hg:a.eval g=.func (.func gf) #[] lb) (hFg:F.fn gf) (eg:∀ args w,(callFunc gf args).run P w=.ok (.enter gf args) w)
  {encs:α→Array Value} {Kp:Nat→World→World→Prop} {Tell:List α→World→Prop} {E:List α→α→Prop} {S:List α→Prop} {w0:World} (hseq:Cj F (n - 1) P gf lb encs Kp Tell E S w0) (hb0:aa w0 w) (hps:∀ x,(encs x).size=ps.size)
  (hKt:∀ {l:Nat} {X Y Z:World},Kp l X Y→Kp l Y Z→Kp l X Z) (hKb:∀ (W:World) (l:Nat) (o o':Obj),W.heap[l]?=some o→o.isCells=false→Kp l W (W.putObj l o'))
  (I:List α→World→Prop) (hI:OwnFrom w.heap.size I) (hT:∀ pre W,I pre W→Tell pre W) (h0:I [] w)
  (Ax:α→Act→World→Prop) (hAx:∀ x a',OwnFrom w.heap.size (fun (_:Unit) W=>Ax x a' W))
  (hassign:∀ (l:Nat) (pre:List α) (x:α) (W:World) (K:Act→World→Prop),I pre W→(∀ a' W',KeepsFrom w.heap.size W W'→Kp l W W'→I pre W'→Ax x a' W'→K a' W') →
   assign.wpIn (F.inRound l) (n - 1 - 1) P (Exit.then K (fun _ _ _=>False)) { tmps:=(ps.zip (encs x)).foldl (fun t (p,v)=>t.setIfInBounds p v) a.tmps,defers:=[] } W)
  (hbody:∀ (l:Nat) (pre:List α) (x:α) (a':Act) (W:World),w.heap.size≤l→E pre x→I pre W→Ax x a' W→body.wpIn (F.inRound l) (n - 1 - 1) P (Mf w.heap.size (fun W'=>Kp l W W'∧I (pre ++ [x]) W') W) a' W)
  (hdone:∀ (D:Nat) (xs:List α) (W:World),w.heap.size≤D→S xs→I xs W→W.heap[D]?=some (.deferred (some []))→Q .normal { a with defers:={ target:=.collected D,args:=#[] }::a.defers } W) :
  (Code.rangeFunc g ps assign body).wpIn F n P Q a w:=by
 refine wpIn_rangeFunc fun fn hfn=>?_;rw [hro];obtain ⟨rc,hrc⟩:∃ rc:LoopState→Loop,rc=fun st=>{ state:=st,pending:=none,fn,tmps:=a.tmps,params:=ps,assign,body,defers:=w.heap.size }:=⟨_,rfl⟩;obtain ⟨W0,hW0⟩:∃ W0,W0=w.alloc (.deferred (some [])):=⟨_,rfl⟩;have s0:W0.heap.size=w.heap.size + 1:=by rw [hW0]; simp
 obtain ⟨W1,hW1⟩:∃ W1,W1=W0.alloc (.loop (rc .ready)):=⟨_,rfl⟩;have s1:W1.heap.size=w.heap.size + 2:=by rw [hW1]; simp; omega
 have k0:W0.heap[w.heap.size]?=some (.deferred (some [])):=by rw [hW0]; exact World.alloc_heap_new w _
 have k1:W1.heap[w.heap.size]?=some (.deferred (some [])):=by rw [hW1]; exact (Below.heap_alloc _ _ _ (by omega)).trans k0
 have r1:W1.heap[w.heap.size + 1]?=some (.loop (rc .ready)):=by rw [hW1,← s0]; exact World.alloc_heap_new W0 _
 have i1:I [] W1:=by rw [hW1,hW0]; exact hI.alloc _ (hI.alloc _ h0)
 have b1:aa w W1:=by rw [hW1,hW0]; exact ((Si _ w).alloc (Sj _) _).alloc (by simp) _
 have bb:aa w0 W1:=hb0.trans (b1.mono hb0.size);refine ⟨w.heap.size + 1,[{ target:=.collected w.heap.size,args:=#[] }],W1,{ target:=.fn (.func gf) lb,args:=#[.func (.yield (w.heap.size + 1)) #[] #[]] },W1,gf,#[.func (.yield (w.heap.size + 1)) #[] #[]] ++ lb,W1,?_,?_,?_,?_,fun _=>h1,?_⟩
 ·rw [hW1,hW0,hrc]; exact run_enterLoop_outer _ _ _ _ _
 ·simp only [resolve,hg];simp [go_sem]
 ·intro f hf; simp [Target.leads] at hf; subst hf; exact hFg
 ·simp [invoke,go_sem,eg]
 have hJ:OwnFrom W1.heap.size (fun pre W=>I pre W∧W.heap[w.heap.size + 1]?=some (.loop (rc .ready))∧W.heap[w.heap.size]?=some (.deferred (some []))) :=
  (Qx hI (by omega)).and ((I7 (by omega)).and (I7 (by omega)))
 refine (hseq (w.heap.size + 1) _ W1 bb (by omega) (by have:=hb0.size; omega) hJ (fun pre W h=>hT pre W h.1) ?_ ⟨i1,r1,k1⟩).mono ?_
 ·rintro pre x W ⟨hi,hl,hk⟩ hEx;have hy:=run_yield (P:=P) (args:=encs x) hl (by rw [hrc]; exact hps x);rw [hrc] at hy;refine ⟨fn,_,assign,body,hy,roundIn_of_wpIn hfn (hassign _ pre x W _ hi ?_)⟩;clear hy;intro a' Wa hka hkp hia hax;have hla:=hka.same _ _ (by omega) hl rfl;have hda:=hka.same _ _ (Sj _) hk rfl;have hlt:w.heap.size + 1 < Wa.heap.size:=(Array.getElem?_eq_some_iff.1 hla).1;refine ⟨_,run_beginRound hla (by rw [hrc]),?_⟩;obtain ⟨Wb,hWb⟩:∃ Wb,Wb=Wa.putObj (w.heap.size + 1) (.loop { rc .ready with state:=.busy }):=⟨_,rfl⟩;rw [← hWb];have lb2:Wb.heap[w.heap.size + 1]?=some (.loop { rc .ready with state:=.busy }):=by rw [hWb]; exact World.putObj_heap_same hlt
  have db2:Wb.heap[w.heap.size]?=some (.deferred (some [])):=by rw [hWb]; exact (World.putObj_heap_other (by omega)).trans hda
  have kb2:Kp (w.heap.size + 1) Wa Wb:=by rw [hWb]; exact hKb _ _ _ _ hla rfl
  have ib2:I pre Wb:=by rw [hWb]; exact hI.putObj _ hia (by omega) hla rfl
  have ab2:Ax x a' Wb:=by rw [hWb]; exact (hAx x a').putObj (s:=()) _ hax (by omega) hla rfl
  refine wpIn_mono (hbody _ pre x a' _ (by omega) hEx ib2 ab2) ?_;intro e a3 W3 hp;cases e;case normal=>
   obtain ⟨hk3,hkp3,hi3⟩:=hp;have hl3:=hk3.same _ _ (by omega) lb2 rfl;have hd3:=hk3.same _ _ (Sj _) db2 rfl;have hend:=run_endRound (P:=P) none hl3;rw [hrc] at hend;refine ⟨_,_,hend,rfl,⟨hI.putObj _ hi3 (by omega) hl3 rfl,?_,(World.putObj_heap_other (by omega)).trans hd3⟩,hKt hkp (hKt (hKt kb2 hkp3) (hKb _ _ _ _ hl3 rfl))⟩;rw [hrc];exact World.putObj_heap_same (Array.getElem?_eq_some_iff.1 hl3).1
  case ret=>exact hp.elim
  case exit id=>exact hp.elim
  case goto t=>exact hp.elim
  case panic ch=>exact hp.elim
  exact hp.elim
 rintro e W2 ⟨⟨v,rfl⟩,xs,hS,hi,hl,hk⟩;have hend:=run_endLoop (P:=P) hl (by rw [hrc]; simp);rw [hrc] at hend;exact ⟨none,_,hend,hdone _ xs _ (Sj _) hS (hI.putObj _ hi (by omega) hl rfl) ((World.putObj_heap_other (by omega)).trans hk)⟩
structure Few {φ υ:Type} (us:φ→υ) (H:List φ→φ→Bool) (qs:List φ) (users:List υ) (out:List φ):Prop where
 set:∀ f ∈ qs,us f ∉ users→f ∈ out ∨ H out f=false
theorem Few.start {φ υ:Type} {us:φ→υ} {H:List φ→φ→Bool} {qs:List φ} {users:List υ} {out:List φ} (h:∀ f ∈ qs,us f ∈ users):Few us H qs users out:=⟨fun f hf hn=>absurd (h f hf) hn⟩
section
variable {φ υ:Type} [DecidableEq φ] {us:φ→υ} {H:List φ→φ→Bool}
def Loc (us:φ→υ) (H:List φ→φ→Bool):Prop:=∀ (a b:List φ) (f:φ),(∀ g,us g=us f→(g ∈ a ↔ g ∈ b))→H a f=H b f
def fe (H:List φ→φ→Bool) (out:List φ) (f:φ):List φ:=if f ∈ out ∨ H out f=false then out else out ++ [f]
def bI (H:List φ→φ→Bool) (qs:List φ) (out:List φ):List φ:=qs.foldl (fe H) out
theorem Mg (out:List φ):bI H [] out=out:=rfl
theorem pM (q:φ) (qs out:List φ):bI H (q::qs) out=bI H qs (fe H out q):=rfl
theorem DX (zas bs out:List φ):bI H (zas ++ bs) out=bI H bs (bI H zas out):=by unfold bI; rw [List.foldl_append]
theorem tQ (out:List φ) (f:φ):∃ new,fe H out f=out ++ new∧∀ g ∈ new,g=f∧g ∉ out∧H out f=true:=by
 unfold fe;split
 ·exact ⟨[],by simp,fun g hg=>by cases hg⟩
 rename_i h;refine ⟨[f],rfl,fun g hg=>?_⟩;rw [SF] at hg;subst hg;refine ⟨rfl,fun e=>h (.inl e),?_⟩;cases e:H out g;case true=>rfl
 exact absurd (.inr e) h
theorem jC:∀ (qs out:List φ),∃ new,bI H qs out=out ++ new∧∀ g ∈ new,g ∈ qs∧g ∉ out
 | [],out=>⟨[],by simp [Mg],fun g hg=>by cases hg⟩
 | q::qs,out=>by
  obtain ⟨n1,e1,h1⟩:=tQ (H:=H) out q;obtain ⟨n2,e2,h2⟩:=jC qs (fe H out q);refine ⟨n1 ++ n2,by rw [pM,e2,e1,List.append_assoc],fun g hg=>?_⟩;rcases Sz.1 hg with hg | hg
  ·exact ⟨by rw [(h1 g hg).1]; exact S9 ..,(h1 g hg).2.1⟩
  obtain ⟨h3,h4⟩:=h2 g hg;exact ⟨SQ _ h3,fun e=>h4 (by rw [e1]; exact List.mem_append_left _ e)⟩
theorem oO {qs out:List φ} {g:φ} (h:g ∈ out):g ∈ bI H qs out:=by
 obtain ⟨n,e,-⟩:=jC (H:=H) qs out;rw [e]; exact List.mem_append_left _ h
theorem tT {out:List φ} {f g:φ} (h:g ∈ out):g ∈ fe H out f:=by
 obtain ⟨n,e,-⟩:=tQ (H:=H) out f;rw [e]; exact List.mem_append_left _ h
theorem Gn {out:List φ} (h:out.Nodup) (f:φ):(fe H out f).Nodup:=by
 unfold fe;split
 ·exact h
 rename_i hn;refine List.nodup_append.2 ⟨h,by simp,fun a ha b hb e=>?_⟩;rw [SF] at hb;subst hb;subst e;exact hn (.inl ha)
theorem tV:∀ (qs:List φ) {out:List φ},out.Nodup→(bI H qs out).Nodup
 | [],_,h=>h
 | q::qs,_,h=>tV qs (Gn h q)
theorem JO {qs out:List φ} (h:∀ f ∈ qs,f ∈ out ∨ H out f=false):bI H qs out=out:=by
 induction qs with
 | nil=>rfl
 | cons q qs ih =>
  have e:fe H out q=out:=if_pos (h q (S9 ..));rw [pM,e];exact ih fun f hf=>h f (SQ _ hf)
theorem kV (hL:Loc us H) (P:υ→Bool):∀ (qs out:List φ),(∀ f ∈ qs,P (us f)=false→f ∈ out ∨ H out f=false)→bI H qs out=bI H (qs.filter fun f=>P (us f)) out
 | [],_,_=>rfl
 | q::qs,out,h=>by
  rw [pM,List.filter_cons];cases hp:P (us q);case false=>
   have e:fe H out q=out:=if_pos (h q (S9 ..) hp);rw [e];exact kV hL P qs out fun f hf=>h f (SQ _ hf)
  rw [if_pos rfl,pM];refine kV hL P qs _ fun f hf hpf=>?_;have hne:us f ≠ us q:=fun e=>by rw [e,hp] at hpf; cases hpf
  obtain ⟨n,e,hn⟩:=tQ (H:=H) out q;have hm:∀ g,us g=us f→(g ∈ out ↔ g ∈ fe H out q):=fun g hg=>by
   rw [e];refine ⟨fun h=>List.mem_append_left _ h,fun h=>?_⟩;rcases Sz.1 h with h | h
   ·exact h
   exact absurd (by rw [(hn g h).1] at hg; exact hg.symm) hne
  rcases h f (SQ _ hf) hpf with h1 | h1
  ·exact .inl ((hm f rfl).1 h1)
  exact .inr (by rw [← hL out _ f hm]; exact h1)
theorem rM (hL:Loc us H) (u:υ):∀ (qs out:List φ),(∀ g ∈ bI H qs out,us g=u→g ∈ out)→∀ f ∈ qs,us f=u→f ∈ bI H qs out ∨ H (bI H qs out) f=false
 | [],_,_,f,hf,_=>by cases hf
 | q::qs,out,h,f,hf,hu=>by
  have hsame:∀ g,us g=u→(g ∈ fe H out q ↔ g ∈ bI H qs (fe H out q)):=fun g hg=>⟨fun h1=>oO h1,fun h1=>tT (h g h1 hg)⟩;have hrest:∀ g ∈ bI H qs (fe H out q),us g=u→g ∈ fe H out q:=fun g h1 h2=>(hsame g h2).2 h1;rcases List.mem_cons.1 hf with rfl | hf
  ·show f ∈ bI H qs (fe H out f) ∨ H (bI H qs (fe H out f)) f=false;by_cases hq:f ∈ out ∨ H out f=false
   ·rcases hq with h1 | h1
    ·exact .inl (oO (tT h1))
    refine .inr ?_;rw [← hL out _ f fun g hg=>?_]
    ·exact h1
    exact ⟨fun h2=>oO (tT h2),fun h2=>h g h2 (hg.trans hu)⟩
   have e:fe H out f=out ++ [f]:=if_neg hq;exact .inl (oO (by rw [e]; simp))
  exact rM hL u qs _ hrest f hf hu
def kW (H:List φ→φ→Bool) (qs:List φ):Nat→List φ→List φ
 | 0,out=>out
 | k + 1,out=>if bI H qs out=out then out else kW H qs k (bI H qs out)
def kX (qs out:List φ):Nat:=(qs.filter fun f=>decide (f ∉ out)).length
theorem Mh (qs:List φ) {a b:List φ} (h:∀ g ∈ a,g ∈ b):kX qs b≤kX qs a:=by
 unfold kX
 induction qs with
 | nil=>simp
 | cons q qs ih =>
  simp only [List.filter_cons];by_cases hb:q ∈ b
  ·by_cases ha:q ∈ a
   ·simp [ha,hb]; simpa using ih
   simp [ha,hb]; have:=ih; simp at this; omega
  have ha:q ∉ a:=fun e=>hb (h q e);simp [ha,hb]; simpa using ih
theorem Mi (qs:List φ) {a b:List φ} (h:∀ g ∈ a,g ∈ b) {x:φ} (hx:x ∈ qs) (ha:x ∉ a) (hb:x ∈ b):kX qs b < kX qs a:=by
 induction qs with
 | nil=>cases hx
 | cons q qs ih =>
  have hle:=Mh qs h;unfold kX at ih hle ⊢;simp only [List.filter_cons];rcases List.mem_cons.1 hx with rfl | hx
  ·simp [ha,hb]; simp at hle; omega
  have:=ih hx;by_cases h1:q ∈ b
  ·by_cases h2:q ∈ a
   ·simp [h1,h2]; simpa using this
   simp [h1,h2]; simp at this; omega
  have h2:q ∉ a:=fun e=>h1 (h q e);simp [h1,h2]; simpa using this
theorem AQ {qs out:List φ} (h:bI H qs out ≠ out):kX qs (bI H qs out) < kX qs out:=by
 obtain ⟨n,e,hn⟩:=jC (H:=H) qs out;cases n with
 | nil=>exact absurd (by simpa using e) h
 | cons x n =>
  obtain ⟨h1,h2⟩:=hn x (S9 ..);exact Mi qs (fun g hg=>oO hg) h1 h2 (by rw [e]; simp)
theorem xK (qs:List φ):∀ (k j:Nat) (out:List φ),kX qs out < k→kX qs out < j→kW H qs k out=kW H qs j out
 | 0,_,_,h,_=>absurd h (SV _)
 | _ + 1,0,_,_,h=>absurd h (SV _)
 | k + 1,j + 1,out,h1,h2=>by
  unfold kW;by_cases e:bI H qs out=out
  ·rw [if_pos e,if_pos e]
  rw [if_neg e,if_neg e];have:=AQ (H:=H) e;exact xK qs k j _ (by omega) (by omega)
def ny (H:List φ→φ→Bool) (qs out:List φ):List φ:=kW H qs (kX qs out + 1) out
theorem tX {qs out:List φ} (h:bI H qs out=out):ny H qs out=out:=by
 unfold ny kW; rw [if_pos h]
theorem AR (qs out:List φ):ny H qs (bI H qs out)=ny H qs out:=by
 by_cases h:bI H qs out=out
 ·rw [h]
 have hlt:=AQ (H:=H) h;have e:ny H qs out=kW H qs (kX qs out) (bI H qs out):=by
  show kW H qs (kX qs out + 1) out=_;rw [kW,if_neg h]
 rw [e];unfold ny;exact xK qs _ _ _ (Nat.lt_succ_self _) hlt
theorem Mj (out:List φ):ny H [] out=out:=tX rfl
theorem AU (qs:List φ):∀ (k:Nat) (out:List φ),∃ new,kW H qs k out=out ++ new∧∀ g ∈ new,g ∈ qs
 | 0,out=>⟨[],by simp [kW],fun g hg=>by cases hg⟩
 | k + 1,out=>by
  unfold kW;split
  ·exact ⟨[],by simp,fun g hg=>by cases hg⟩
  obtain ⟨n1,e1,h1⟩:=jC (H:=H) qs out;obtain ⟨n2,e2,h2⟩:=AU qs k (bI H qs out);refine ⟨n1 ++ n2,by rw [e2,e1,List.append_assoc],fun g hg=>?_⟩;rcases Sz.1 hg with hg | hg
  ·exact (h1 g hg).1
  exact h2 g hg
theorem xL (qs:List φ):∀ (k:Nat) {out:List φ},out.Nodup→(kW H qs k out).Nodup
 | 0,_,h=>h
 | k + 1,out,h=>by
  unfold kW;split
  ·exact h
  exact xL qs k (tV qs h)
theorem JP (qs:List φ) {out:List φ} (h:out.Nodup):(ny H qs out).Nodup:=xL qs _ h
theorem Few.round [DecidableEq υ] (hL:Loc us H) {qs:List φ} {users:List υ} {out:List φ} (h:Few us H qs users out):bI H (qs.filter fun f=>decide (us f ∈ users)) out=bI H qs out :=
 (kV hL (fun u=>decide (u ∈ users)) qs out fun f hf hp=>h.set f hf (by simpa using hp)).symm
theorem Few.next [DecidableEq υ] (hL:Loc us H) {qs:List φ} {users XX:List υ} {out new:List φ} (h:Few us H qs users out) (hn:bI H qs out=out ++ new) (hu:∀ u,u ∈ XX ↔ u ∈ users∧∃ g ∈ new,us g=u):Few us H qs XX (out ++ new):=by
 refine ⟨fun f hf hnf=>?_⟩;have key:∀ g ∈ bI H qs out,us g=us f→g ∈ out:=fun g hg hgu=>by
  rw [hn] at hg;rcases Sz.1 hg with hg | hg
  ·exact hg
  by_cases hin:us f ∈ users
  ·exact absurd ((hu _).2 ⟨hin,g,hg,hgu⟩) hnf
  -- a user that was left out before finds none
  have e:=h.round hL;obtain ⟨n2,e2,h2⟩:=jC (H:=H) (qs.filter fun f=>decide (us f ∈ users)) out;rw [e,hn] at e2;have e3:new=n2:=List.append_cancel_left e2;rw [e3] at hg;have h3:=(h2 g hg).1;rw [SX] at h3;have h4:us g ∈ users:=by simpa using h3.2
  rw [hgu] at h4;exact absurd h4 hin
 have:=rM hL (us f) qs out key f hf rfl;rw [hn] at this;exact this
theorem Few.done {qs:List φ} {out:List φ} (h:Few us H qs [] out):ny H qs out=out:=tX (JO fun f hf=>h.set f hf List.not_mem_nil)
end
end Go.Proofs.YtdmniljjnaebbaaGreatDoor
namespace Go.Proofs.YtdmniljjnaebbaaGreatDoor.Ls
theorem lt_irrefl:∀ x:List UInt8,Op.bytesLess x x=false
 | []=>rfl
 | a::x=>by simp [Op.bytesLess,lt_irrefl x]
theorem lt_trans:∀ x y z:List UInt8,Op.bytesLess x y=true→Op.bytesLess y z=true→Op.bytesLess x z=true
 | [],_,[],h,k=>by cases ‹List UInt8› <;> simp [Op.bytesLess] at h k
 | [],_,_::_,_,_=>rfl
 | _::_,[],_,h,_=>by simp [Op.bytesLess] at h
 | _::_,_::_,[],_,k=>by simp [Op.bytesLess] at k
 | a::x,b::y,c::z,h,k=>by
  simp only [Op.bytesLess,Bool.or_eq_true,Sn,SE,beq_iff_eq] at h k ⊢;rcases h with h | ⟨h,h'⟩
  ·rcases k with k | ⟨k,k'⟩
   ·exact .inl (UInt8.lt_trans h k)
   exact .inl (k ▸ h)
  rcases k with k | ⟨k,k'⟩
  ·exact .inl (h ▸ k)
  exact .inr ⟨h.trans k,lt_trans x y z h' k'⟩
theorem lt_total:∀ x y:List UInt8,x ≠ y→Op.bytesLess x y=true ∨ Op.bytesLess y x=true
 | [],[],h=>absurd rfl h
 | [],_::_,_=>.inl rfl
 | _::_,[],_=>.inr rfl
 | a::x,b::y,h=>by
  simp only [Op.bytesLess,Bool.or_eq_true,Sn,SE,beq_iff_eq];by_cases e:a=b
  ·subst e;rcases lt_total x y (fun e=>h (by rw [e])) with k | k
   ·exact .inl (.inr ⟨rfl,k⟩)
   exact .inr (.inr ⟨rfl,k⟩)
  rcases Nat.lt_or_gt_of_ne (fun k=>e (UInt8.toNat_inj.1 k)) with k | k
  ·exact .inl (.inl k)
  exact .inr (.inl k)
theorem lt_asymm (x y:List UInt8) (h:Op.bytesLess x y=true):Op.bytesLess y x=false:=by
 cases k:Op.bytesLess y x;case false=>rfl
 have:=lt_trans x y x h k; rw [lt_irrefl] at this; cases this
end Go.Proofs.YtdmniljjnaebbaaGreatDoor.Ls
namespace Go.Proofs.YtdmniljjnaebbaaGreatDoor
set_option linter.unusedVariables false
section
variable {α:Type} {lt:α→α→Bool}
def oP (lt:α→α→Bool) (r:α):List α→List α
 | []=>[r]
 | x::xs=>if lt x r then x::oP lt r xs else r::x::xs
def jD (lt:α→α→Bool) (rs:List α):List α:=rs.foldl (fun out r=>oP lt r out) []
theorem Ck {r:α}:∀ {xs:List α} {p:Nat},p≤xs.length→(∀ (i:Nat) (h:i < xs.length),i < p→lt xs[i] r=true)→(∀ h:p < xs.length,lt xs[p] r=false)→oP lt r xs=xs.take p ++ r::xs.drop p
 | [],p,hp,_,_=>by
  obtain rfl:p=0:=by simpa using hp
  rfl
 | x::xs,0,_,_,h2=>by
  have:=h2 (by simp);simp only [List.getElem_cons_zero] at this;simp [oP,this]
 | x::xs,p + 1,hp,h1,h2=>by
  have h0:=h1 0 (by simp) (by omega);simp only [List.getElem_cons_zero] at h0;have ih:=Ck (r:=r) (xs:=xs) (p:=p) (by simpa using hp) (fun i h hi=>h1 (i + 1) (by simpa using h) (by omega)) (fun h=>h2 (by simpa using h));simp [oP,h0,ih]
theorem pO (r:α):∀ xs:List α,(oP lt r xs).Perm (r::xs)
 | []=>List.Perm.refl _
 | x::xs=>by
  unfold oP;split
  ·exact ((pO r xs).cons x).trans (List.Perm.swap _ _ _)
  exact List.Perm.refl _
theorem xM:∀ (rs acc:List α),(rs.foldl (fun out r=>oP lt r out) acc).Perm (rs ++ acc)
 | [],acc=>List.Perm.refl _
 | r::rs,acc=>(xM rs (oP lt r acc)).trans (((pO r acc).append_left rs).trans List.perm_middle)
theorem ik (rs:List α):(jD lt rs).Perm rs:=by simpa [jD] using xM rs []
theorem Gp (rs:List α) (r:α):jD lt (rs ++ [r])=oP lt r (jD lt rs):=by unfold jD; rw [List.foldl_append]; rfl
structure OrdO (lt:α→α→Bool) (rs:List α):Prop where
 trans:∀ x ∈ rs,∀ y ∈ rs,∀ z ∈ rs,lt x y=true→lt y z=true→lt x z=true
 asymm:∀ x ∈ rs,∀ y ∈ rs,lt x y=true→lt y x=false
 total:∀ x ∈ rs,∀ y ∈ rs,x ≠ y→lt x y=true ∨ lt y x=true
theorem OrdO.mono {rs qs:List α} (h:OrdO lt rs) (hs:∀ x ∈ qs,x ∈ rs):OrdO lt qs :=
 ⟨fun x hx y hy z hz=>h.trans x (hs x hx) y (hs y hy) z (hs z hz),fun x hx y hy=>h.asymm x (hs x hx) y (hs y hy),fun x hx y hy=>h.total x (hs x hx) y (hs y hy)⟩
def PZ (lt:α→α→Bool) (xs:List α):Prop:=xs.Pairwise fun x y=>lt x y=true
theorem I8 {r:α}:∀ {xs:List α},OrdO lt (r::xs)→r ∉ xs→PZ lt xs→PZ lt (oP lt r xs)
 | [],_,_,_=>List.pairwise_singleton _ _
 | x::xs,ho,hn,h=>by
  obtain ⟨h1,h2⟩:=List.pairwise_cons.1 h;have hx:x ∈ r::x::xs:=by simp
  have hr:r ∈ r::x::xs:=by simp
  unfold oP;split
  ·rename_i hl;refine List.pairwise_cons.2 ⟨fun y hy=>?_,I8 (ho.mono fun z hz=>?_) (fun hm=>hn (SQ _ hm)) h2⟩
   ·rcases List.mem_cons.1 ((pO r xs).mem_iff.1 hy) with rfl | hy
    ·exact hl
    exact h1 y hy
   rcases List.mem_cons.1 hz with rfl | hz
   ·simp
   simp [hz]
  rename_i hl;have hne:r ≠ x:=fun e=>hn (by rw [e]; simp);have hrx:lt r x=true:=by
   rcases ho.total r hr x hx hne with h3 | h3
   ·exact h3
   exact absurd h3 hl
  refine List.pairwise_cons.2 ⟨fun y hy=>?_,h⟩;rcases List.mem_cons.1 hy with rfl | hy
  ·exact hrx
  exact ho.trans r hr x hx y (by simp [hy]) hrx (h1 y hy)
theorem DY:∀ (rs acc:List α),OrdO lt (rs ++ acc)→rs.Nodup→(∀ r ∈ rs,r ∉ acc)→PZ lt acc→PZ lt (rs.foldl (fun out r=>oP lt r out) acc)
 | [],acc,_,_,_,h=>h
 | r::rs,acc,ho,hd,hn,h=>by
  obtain ⟨hr,hd2⟩:=List.nodup_cons.1 hd;have hp:=pO (lt:=lt) r acc;refine DY rs (oP lt r acc) (ho.mono fun x hx=>?_) hd2 (fun x hx hm=>?_) (I8 (ho.mono fun x hx=>?_) (hn r (by simp)) h)
  ·rcases Sz.1 hx with hx | hx
   ·simp [hx]
   rcases List.mem_cons.1 (hp.mem_iff.1 hx) with rfl | hx
   ·simp
   simp [hx]
  ·rcases List.mem_cons.1 (hp.mem_iff.1 hm) with rfl | hm
   ·exact hr hx
   exact hn x (by simp [hx]) hm
  rcases List.mem_cons.1 hx with rfl | hx
  ·simp
  simp [hx]
theorem Mk {rs:List α} (ho:OrdO lt rs) (hd:rs.Nodup):PZ lt (jD lt rs):=DY rs [] (by simpa using ho) hd (fun _ _=>List.not_mem_nil) List.Pairwise.nil
theorem xN:∀ {xs ys:List α},OrdO lt xs→PZ lt xs→PZ lt ys→xs.Perm ys→xs=ys
 | [],ys,_,_,_,hp=>(List.Perm.nil_eq hp)
 | x::xs,[],_,_,_,hp=>absurd hp.length_eq (by simp)
 | x::xs,y::ys,ho,hx,hy,hp=>by
  obtain ⟨h1,h2⟩:=List.pairwise_cons.1 hx;obtain ⟨h3,h4⟩:=List.pairwise_cons.1 hy;have hyx:y ∈ x::xs:=hp.mem_iff.2 (by simp);have hxy:x ∈ y::ys:=hp.mem_iff.1 (by simp);have e:x=y:=by
   rcases List.mem_cons.1 hyx with e | hm
   ·exact e.symm
   rcases List.mem_cons.1 hxy with e | hm2
   ·exact e
   have a1:=h1 y hm;have a2:=h3 x hm2;rw [ho.asymm x (by simp) y hyx a1] at a2;cases a2
  subst e;rw [xN (ho.mono fun z hz=>SQ _ hz) h2 h4 hp.cons_inv]
theorem Ml {rs qs:List α} (ho:OrdO lt rs) (hd:rs.Nodup) (h:PZ lt qs) (hp:qs.Perm rs):jD lt rs=qs :=
 xN (ho.mono fun x hx=>(ik rs).mem_iff.1 hx) (Mk ho hd) h ((ik rs).trans hp.symm)
end
end Go.Proofs.YtdmniljjnaebbaaGreatDoor
