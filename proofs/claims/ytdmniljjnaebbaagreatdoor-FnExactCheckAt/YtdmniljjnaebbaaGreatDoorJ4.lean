/- Plain functions on bytes: a text cut at the first such byte. Nothing of the program is read here. -/
import Derived.Lib.IndexMore
import Derived.Lib.IndexBytes
import Derived.Lib.Strings
import Derived.Test.YtdmniljjnaebbaaGreatDoorJ3
import Derived.Laws.IdiomStrings
namespace Go.Proofs.YtdmniljjnaebbaaGreatDoor.Pl
def rO (c:UInt8):List UInt8→List UInt8 × List UInt8 × Bool
 | []=>([],[],false)
 | b::l=>if b=c then ([],l,true) else (b::(rO c l).1,(rO c l).2.1,(rO c l).2.2)
theorem rP {c:UInt8} {l:List UInt8} (hn:∀ x ∈ l,x ≠ c):rO c l=(l,[],false):=by
 induction l with
 | nil=>rfl
 | cons b l ih =>
  have hb:b ≠ c:=hn b (by simp);have:=ih (fun x hx=>hn x (by simp [hx]));simp [rO,hb,this]
def uD (c:UInt8) (s:ByteArray):ByteArray:=⟨(rO c s.data.toList).1.toArray⟩
def rQ (c:UInt8) (s:ByteArray):ByteArray:=⟨(rO c s.data.toList).2.1.toArray⟩
def Je (c:UInt8) (s:ByteArray):Bool:=(rO c s.data.toList).2.2
theorem gp {a b:ByteArray} (h:a.data.toList=b.data.toList):a=b:=by
 cases a; cases b; simp at h; simp [h]
def Ny (s:ByteArray):Bool:=dS (uD 58 s) (rQ 58 s)
def Oi (s:ByteArray):ByteArray:=if Ny s then uD 58 s else ⟨#[]⟩
def Oj (s:ByteArray):ByteArray:=if Ny s then rQ 58 s else ⟨#[]⟩
theorem Jf {s:ByteArray} (h:Ny s=true):Oi s=uD 58 s∧Oj s=rQ 58 s:=by simp [Oi,Oj,h]
theorem Jg {c:UInt8} {l m:List UInt8} (h:∀ x ∈ l,x ≠ c):rO c (l ++ c::m)=(l,m,true):=by
 induction l with
 | nil=>simp [rO]
 | cons b l ih =>
  have hb:b ≠ c:=h b (by simp);have:=ih (fun x hx=>h x (by simp [hx]));simp [rO,hb,this]
theorem yR (c:UInt8) (s:ByteArray):(uD c s).data.toList=(rO c s.data.toList).1:=by simp [uD]
theorem yS (c:UInt8) (s:ByteArray):(rQ c s).data.toList=(rO c s.data.toList).2.1:=by simp [rQ]
theorem BP (a b:ByteArray):(a ++ b).data.toList=a.data.toList ++ b.data.toList:=by simp [ByteArray.data_append]
theorem uU {c:UInt8} {s:ByteArray} {l m:List UInt8} (hs:s.data.toList=l ++ c::m) (h:∀ x ∈ l,x ≠ c):(uD c s).data.toList=l∧(rQ c s).data.toList=m∧Je c s=true:=by
 rw [yR,yS,Je,hs,Jg h]; exact ⟨rfl,rfl,rfl⟩
theorem Lf {c:UInt8} {s:ByteArray} (h:∀ x ∈ s.data.toList,x ≠ c):uD c s=s∧rQ c s=⟨#[]⟩∧Je c s=false:=by
 refine ⟨gp ?_,gp ?_,?_⟩
 ·rw [yR,rP h]
 ·rw [yS,rP h]
 ·rw [Je,rP h]
def Jh (l:List UInt8):Prop:=∀ x ∈ l,x ≠ 35∧x ≠ 58∧x ≠ 64
theorem yT {x:UInt8} (h:uP x=true):x ≠ 35∧x ≠ 58∧x ≠ 64:=by
 refine ⟨?_,?_,?_⟩ <;> (rintro rfl; revert h; decide)
theorem Ed {x:UInt8} (h:gZ x=true):x ≠ 35∧x ≠ 58∧x ≠ 64:=yT (by simp [uP,h])
theorem mr {s:ByteArray} (h:aO s=true):Jh s.data.toList:=by
 simp only [aO,dA,pu,Bool.and_eq_true,List.all_eq_true] at h;exact fun x hx=>Ed (h.1.2 x hx)
theorem BQ {s:ByteArray} (h:l5 s=true):Jh s.data.toList:=by
 simp only [l5,dA,pu,Bool.and_eq_true,List.all_eq_true] at h;exact fun x hx=>yT (h.2 x hx)
theorem pG {a b:ByteArray} (h:dS a b=true):aO a=true∧l5 b=true:=by simpa [dS] using h
theorem qB {a b:ByteArray} (h:dS a b=true):(av a b).data.toList=a.data.toList ++ 58::b.data.toList:=by
 rw [jS h,BP,BP]; simp
theorem oJ {a b:ByteArray} (h:dS a b=true):∀ x ∈ (av a b).data.toList,x ≠ 35∧x ≠ 64:=by
 intro x hx;rw [qB h] at hx;have h1:=mr (pG h).1;have h2:=BQ (pG h).2;simp only [List.mem_append,List.mem_cons] at hx;rcases hx with hx | hx | hx
 ·exact ⟨(h1 x hx).1,(h1 x hx).2.2⟩
 ·subst hx; decide
 ·exact ⟨(h2 x hx).1,(h2 x hx).2.2⟩
theorem lq {a b:ByteArray} (h:dS a b=true):Ny (av a b)=true∧Oi (av a b)=a∧Oj (av a b)=b:=by
 obtain ⟨h1,h2,-⟩:=uU (c:=58) (qB h) (fun x hx=>(mr (pG h).1 x hx).2.1);have e1:uD 58 (av a b)=a:=gp h1;have e2:rQ 58 (av a b)=b:=gp h2;have hb:Ny (av a b)=true:=by rw [Ny,e1,e2]; exact h
 exact ⟨hb,by rw [(Jf hb).1,e1],by rw [(Jf hb).2,e2]⟩
def yU (s:ByteArray):List UInt8:=if s.toList.isEmpty then [] else 35::s.data.toList
theorem Ap {a b r c d s:ByteArray} (h:aT a b r c d s=true) :
  (aN a b r c d s).data.toList=(av a b).data.toList ++ 35::(r.data.toList ++ 64::((av c d).data.toList ++ yU s)):=by
 by_cases hs:s.toList.isEmpty=true
 ·rw [jT h hs,yU,if_pos hs]; simp
 ·have hs':s.toList.isEmpty=false:=by simpa using hs
  rw [jU h hs',yU,if_neg hs]; simp
theorem Ji {s:ByteArray} (h:s.toList.isEmpty=true):s=⟨#[]⟩:=by
 refine gp ?_;rw [Go.ByteArray.toList_eq] at h;simpa using h
theorem Jj {o s x:ByteArray} (ho:∀ y ∈ o.data.toList,y ≠ 35) (hx:x.data.toList=o.data.toList ++ yU s) :
  uD 35 x=o∧rQ 35 x=s∧Je 35 x=!s.toList.isEmpty:=by
 by_cases hs:s.toList.isEmpty=true
 ·have e:x=o:=gp (by rw [hx,yU,if_pos hs]; simp);subst e;obtain ⟨h1,h2,h3⟩:=Lf (c:=35) (s:=x) ho;exact ⟨h1,by rw [h2,Ji hs],by rw [h3,hs]; rfl⟩
 ·rw [yU,if_neg hs] at hx;obtain ⟨h1,h2,h3⟩:=uU hx ho;have hs':s.toList.isEmpty=false:=by simpa using hs
  exact ⟨gp h1,gp h2,by rw [h3,hs']; rfl⟩
def sR (s:ByteArray):=rQ 64 s
def i1 (s:ByteArray):=rQ 35 s
def i2 (s:ByteArray):=rQ 64 (i1 s)
theorem vO {a b r c d t s:ByteArray} (h:aT a b r c d t=true) (hs:aN a b r c d t=s) :
  uD 35 s=av a b∧uD 64 (i1 s)=r∧uD 35 (i2 s)=av c d∧rQ 35 (i2 s)=t:=by
 obtain ⟨h1,h2,h3,h4⟩:=iI h;have hl:=Ap h;rw [hs] at hl;obtain ⟨c1,c2,-⟩:=uU hl (fun x hx=>(oJ h1 x hx).1);obtain ⟨d1,d2,-⟩:=uU (s:=i1 s) c2 (fun x hx=>(mr h2 x hx).2.2);obtain ⟨e1,e2,-⟩:=Jj (o:=av c d) (s:=t) (x:=i2 s) (fun x hx=>(oJ h3 x hx).1) d2;exact ⟨gp c1,gp d1,e1,e2⟩
def Ee (s a b r c d t:ByteArray) (f:Bool):Prop :=
 (f=true∧aT a b r c d t=true∧aN a b r c d t=s) ∨
 (f=false∧(a=⟨#[]⟩∧b=⟨#[]⟩∧r=⟨#[]⟩∧c=⟨#[]⟩∧d=⟨#[]⟩∧t=⟨#[]⟩)∧∀ a b r c d t,aT a b r c d t=true→aN a b r c d t ≠ s)
theorem tN {a b r c d t a' b' r' c' d' t':ByteArray} (h:aT a b r c d t=true) (h':aT a' b' r' c' d' t'=true) (e:aN a b r c d t=aN a' b' r' c' d' t') :
  a=a'∧b=b'∧r=r'∧c=c'∧d=d'∧t=t':=by
 obtain ⟨x1,x2,x3,x4⟩:=vO h e;obtain ⟨y1,y2,y3,y4⟩:=vO h' rfl;obtain ⟨p1,p2,p3,p4⟩:=iI h;obtain ⟨q1,q2,q3,q4⟩:=iI h';have o1:av a b=av a' b':=x1.symm.trans y1;have o2:av c d=av c' d':=x3.symm.trans y3;obtain ⟨-,u1,u2⟩:=lq p1;obtain ⟨-,v1,v2⟩:=lq q1;obtain ⟨-,u3,u4⟩:=lq p3;obtain ⟨-,v3,v4⟩:=lq q3;rw [o1] at u1 u2;rw [o2] at u3 u4;exact ⟨u1.symm.trans v1,u2.symm.trans v2,x2.symm.trans y2,u3.symm.trans v3,u4.symm.trans v4,x4.symm.trans y4⟩
theorem Ee.one {s a b r c d t a' b' r' c' d' t':ByteArray} {f f':Bool} (h:Ee s a b r c d t f) (h':Ee s a' b' r' c' d' t' f') :
  (a=a'∧b=b'∧r=r'∧c=c'∧d=d'∧t=t')∧f=f':=by
 rcases h with ⟨rfl,h1,h2⟩ | ⟨rfl,h1,h2⟩
 ·rcases h' with ⟨rfl,k1,k2⟩ | ⟨rfl,k1,k2⟩
  ·exact ⟨tN h1 k1 (h2.trans k2.symm),rfl⟩
  ·exact absurd h2 (k2 _ _ _ _ _ _ h1)
 ·rcases h' with ⟨rfl,k1,k2⟩ | ⟨rfl,k1,k2⟩
  ·exact absurd k2 (h2 _ _ _ _ _ _ k1)
  ·obtain ⟨rfl,rfl,rfl,rfl,rfl,rfl⟩:=h1;obtain ⟨rfl,rfl,rfl,rfl,rfl,rfl⟩:=k1;exact ⟨⟨rfl,rfl,rfl,rfl,rfl,rfl⟩,rfl⟩
end Go.Proofs.YtdmniljjnaebbaaGreatDoor.Pl
namespace Go.Proofs.YtdmniljjnaebbaaGreatDoor
open Pl
theorem tO:∀ x:List UInt8,Op.bytesLess x x=false
 | []=>rfl
 | a::x=>by simp [Op.bytesLess,tO x]
theorem vP:∀ x y z:List UInt8,Op.bytesLess x y=true→Op.bytesLess y z=true→Op.bytesLess x z=true
 | [],_,[],h,k=>by cases ‹List UInt8› <;> simp [Op.bytesLess] at h k
 | [],_,_::_,_,_=>rfl
 | _::_,[],_,h,_=>by simp [Op.bytesLess] at h
 | _::_,_::_,[],_,k=>by simp [Op.bytesLess] at k
 | a::x,b::y,c::z,h,k=>by
  simp only [Op.bytesLess,Bool.or_eq_true,Bool.and_eq_true,decide_eq_true_eq,beq_iff_eq] at h k ⊢;rcases h with h | ⟨h,h'⟩
  ·rcases k with k | ⟨k,k'⟩
   ·exact .inl (UInt8.lt_trans h k)
   ·exact .inl (k ▸ h)
  ·rcases k with k | ⟨k,k'⟩
   ·exact .inl (h ▸ k)
   ·exact .inr ⟨h.trans k,vP x y z h' k'⟩
theorem vQ:∀ x y:List UInt8,x ≠ y→Op.bytesLess x y=true ∨ Op.bytesLess y x=true
 | [],[],h=>absurd rfl h
 | [],_::_,_=>.inl rfl
 | _::_,[],_=>.inr rfl
 | a::x,b::y,h=>by
  simp only [Op.bytesLess,Bool.or_eq_true,Bool.and_eq_true,decide_eq_true_eq,beq_iff_eq];by_cases e:a=b
  ·subst e;rcases vQ x y (fun e=>h (by rw [e])) with k | k
   ·exact .inl (.inr ⟨rfl,k⟩)
   ·exact .inr (.inr ⟨rfl,k⟩)
  ·rcases Nat.lt_or_gt_of_ne (fun k=>e (UInt8.toNat_inj.1 k)) with k | k
   ·exact .inl (.inl k)
   ·exact .inr (.inl k)
open Go.ChangeAt Go.ChangeShapes Go.RowKit Go.WideShapes
theorem mK {W w1:World} {n o:Nat} {v:Value} (hb:Below W.heap.size W w1) (hn:n < W.heap.size) (h:W.cell? ⟨n,o,none⟩=some v):w1.cell? ⟨n,o,none⟩=some v:=by
 rw [hb.cell (p:=⟨n,o,none⟩) hn]; exact h
theorem mF {W w1:World} {n o:Nat} (hb:Below W.heap.size W w1) (hn:n < W.heap.size) (h:W.frozen? ⟨n,o,none⟩=false):w1.frozen? ⟨n,o,none⟩=false:=by
 rw [hb.frozen (p:=⟨n,o,none⟩) hn]; exact h
def BR (w:World) (g:Nat):Prop:=∀ j,w.frozen? ⟨g,j,none⟩=false
structure Chg (S:Nat→Prop) (w w':World):Prop where
 base:Below 0 w w'
 block:∀ k,k < w.heap.size→¬ S k→w'.heap[k]?=w.heap[k]?
 free:∀ g,g < w.heap.size→BR w g→BR w' g
theorem Chg.refl (S:Nat→Prop) (w:World):Chg S w w:=⟨Below.refl _ _,fun _ _ _=>rfl,fun _ _ h=>h⟩
theorem Chg.size {S:Nat→Prop} {w w':World} (h:Chg S w w'):w.heap.size≤w'.heap.size:=h.base.size
theorem Chg.trans {S:Nat→Prop} {a b c:World} (h:Chg S a b) (k:Chg S b c):Chg S a c :=
 ⟨h.base.trans k.base,fun i hi hs=>(k.block i (Nat.lt_of_lt_of_le hi h.size) hs).trans (h.block i hi hs),fun g hg hf=>k.free g (Nat.lt_of_lt_of_le hg h.size) (h.free g hg hf)⟩
theorem Chg.mono {S T:Nat→Prop} {a b:World} (h:Chg S a b) (hs:∀ g,S g→T g):Chg T a b :=
 ⟨h.base,fun i hi hn=>h.block i hi fun e=>hn (hs i e),h.free⟩
theorem Chg.of {S:Nat→Prop} {w w':World} (h:Below w.heap.size w w'):Chg S w w' :=
 ⟨h.mono (Nat.zero_le _),fun k hk _=>h.block k hk,fun g hg hf j=>by rw [h.frozen (p:=⟨g,j,none⟩) hg]; exact hf j⟩
theorem Chg.set {S:Nat→Prop} {w:World} {g j:Nat} (v:Value) (hs:S g):Chg S w (w.setCell ⟨g,j,none⟩ v) :=
 ⟨(Below.refl 0 w).setCell (Nat.zero_le _) v,fun k _ hk=>Below.heap_setCell _ _ _ _ (fun e=>hk (by rw [e]; exact hs)),fun g' _ hf j'=>by simpa using hf j'⟩
theorem Chg.below {S:Nat→Prop} {w w':World} {m:Nat} (h:Chg S w w') (hm:∀ g,S g→m≤g) (hw:m≤w.heap.size):Below m w w' :=
 ⟨h.base.os,h.base.tape,h.base.output,h.base.size,fun k hk=>h.block k (Nat.lt_of_lt_of_le hk hw) fun e=>by have:=hm k e; omega⟩
theorem Chg.cell {S:Nat→Prop} {w w':World} (h:Chg S w w') {g o:Nat} (hg:g < w.heap.size) (hs:¬ S g):w'.cell? ⟨g,o,none⟩=w.cell? ⟨g,o,none⟩:=by
 have:=h.block g hg hs;unfold World.cell?;simp only [this]
end Go.Proofs.YtdmniljjnaebbaaGreatDoor
