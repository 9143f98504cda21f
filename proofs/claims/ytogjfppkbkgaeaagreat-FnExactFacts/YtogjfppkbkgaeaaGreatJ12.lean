/- Plain functions on bytes: a text cut at the first such byte. Nothing of the program is read here. -/
import Derived.Test.YtogjfppkbkgaeaaGreatJ6
import Derived.Lib.IndexMore
import Derived.Lib.IndexBytes
import Derived.Lib.Strings
import Derived.Test.YtogjfppkbkgaeaaGreatAhead
import Derived.Test.YtogjfppkbkgaeaaGreatTuplesOk
import Derived.Test.YtogjfppkbkgaeaaGreatJ8
import Derived.Sort.Statements
import Derived.Deep.QuietTactic
import Derived.BigQuiet
namespace Go.Proofs.YtogjfppkbkgaeaaGreat.Pl
def q8 (c:UInt8):List UInt8→List UInt8 × List UInt8 × Bool
 | []=>([],[],false)
 | b::l=>if b=c then ([],l,true) else (b::(q8 c l).1,(q8 c l).2.1,(q8 c l).2.2)
theorem q9 {c:UInt8} {l:List UInt8} (hn:∀ x ∈ l,x ≠ c):q8 c l=(l,[],false):=by
 induction l with
 | nil=>rfl
 | cons b l ih =>
  have hb:b ≠ c:=hn b (by simp);have:=ih (fun x hx=>hn x (by simp [hx]));simp [q8,hb,this]
def tV (c:UInt8) (s:ByteArray):ByteArray:=⟨(q8 c s.data.toList).1.toArray⟩
def rf (c:UInt8) (s:ByteArray):ByteArray:=⟨(q8 c s.data.toList).2.1.toArray⟩
def Jh (c:UInt8) (s:ByteArray):Bool:=(q8 c s.data.toList).2.2
theorem fT {a b:ByteArray} (h:a.data.toList=b.data.toList):a=b:=by
 cases a; cases b; simp at h; simp [h]
def MJ (s:ByteArray):Bool:=dC (tV 58 s) (rf 58 s)
def Nj (s:ByteArray):ByteArray:=if MJ s then tV 58 s else ⟨#[]⟩
def Nk (s:ByteArray):ByteArray:=if MJ s then rf 58 s else ⟨#[]⟩
theorem Ji {s:ByteArray} (h:MJ s=true):Nj s=tV 58 s∧Nk s=rf 58 s:=by simp [Nj,Nk,h]
theorem Jj {c:UInt8} {l m:List UInt8} (h:∀ x ∈ l,x ≠ c):q8 c (l ++ c::m)=(l,m,true):=by
 induction l with
 | nil=>simp [q8]
 | cons b l ih =>
  have hb:b ≠ c:=h b (by simp);have:=ih (fun x hx=>h x (by simp [hx]));simp [q8,hb,this]
theorem yK (c:UInt8) (s:ByteArray):(tV c s).data.toList=(q8 c s.data.toList).1:=by simp [tV]
theorem yL (c:UInt8) (s:ByteArray):(rf c s).data.toList=(q8 c s.data.toList).2.1:=by simp [rf]
theorem BN (a b:ByteArray):(a ++ b).data.toList=a.data.toList ++ b.data.toList:=by simp [ByteArray.data_append]
theorem uz {c:UInt8} {s:ByteArray} {l m:List UInt8} (hs:s.data.toList=l ++ c::m) (h:∀ x ∈ l,x ≠ c):(tV c s).data.toList=l∧(rf c s).data.toList=m∧Jh c s=true:=by
 rw [yK,yL,Jh,hs,Jj h]; exact ⟨rfl,rfl,rfl⟩
theorem KC {c:UInt8} {s:ByteArray} (h:∀ x ∈ s.data.toList,x ≠ c):tV c s=s∧rf c s=⟨#[]⟩∧Jh c s=false:=by
 refine ⟨fT ?_,fT ?_,?_⟩
 ·rw [yK,q9 h]
 ·rw [yL,q9 h]
 ·rw [Jh,q9 h]
def Jk (l:List UInt8):Prop:=∀ x ∈ l,x ≠ 35∧x ≠ 58∧x ≠ 64
theorem yM {x:UInt8} (h:ul x=true):x ≠ 35∧x ≠ 58∧x ≠ 64:=by
 refine ⟨?_,?_,?_⟩ <;> (rintro rfl; revert h; decide)
theorem DX {x:UInt8} (h:gM x=true):x ≠ 35∧x ≠ 58∧x ≠ 64:=yM (by simp [ul,h])
theorem mI {s:ByteArray} (h:aL s=true):Jk s.data.toList:=by
 simp only [aL,dx,oC,Bool.and_eq_true,List.all_eq_true] at h;exact fun x hx=>DX (h.1.2 x hx)
theorem BO {s:ByteArray} (h:lw s=true):Jk s.data.toList:=by
 simp only [lw,dx,oC,Bool.and_eq_true,List.all_eq_true] at h;exact fun x hx=>yM (h.2 x hx)
theorem oO {a b:ByteArray} (h:dC a b=true):aL a=true∧lw b=true:=by simpa [dC] using h
theorem qg {a b:ByteArray} (h:dC a b=true):(ak a b).data.toList=a.data.toList ++ 58::b.data.toList:=by
 rw [jK h,BN,BN]; simp
theorem nX {a b:ByteArray} (h:dC a b=true):∀ x ∈ (ak a b).data.toList,x ≠ 35∧x ≠ 64:=by
 intro x hx;rw [qg h] at hx;have h1:=mI (oO h).1;have h2:=BO (oO h).2;simp only [List.mem_append,List.mem_cons] at hx;rcases hx with hx | hx | hx
 ·exact ⟨(h1 x hx).1,(h1 x hx).2.2⟩
 ·subst hx; decide
 ·exact ⟨(h2 x hx).1,(h2 x hx).2.2⟩
theorem kW {a b:ByteArray} (h:dC a b=true):MJ (ak a b)=true∧Nj (ak a b)=a∧Nk (ak a b)=b:=by
 obtain ⟨h1,h2,-⟩:=uz (c:=58) (qg h) (fun x hx=>(mI (oO h).1 x hx).2.1);have e1:tV 58 (ak a b)=a:=fT h1;have e2:rf 58 (ak a b)=b:=fT h2;have hb:MJ (ak a b)=true:=by rw [MJ,e1,e2]; exact h
 exact ⟨hb,by rw [(Ji hb).1,e1],by rw [(Ji hb).2,e2]⟩
def yN (s:ByteArray):List UInt8:=if s.toList.isEmpty then [] else 35::s.data.toList
theorem Ab {a b r c d s:ByteArray} (h:aU a b r c d s=true) :
  (aN a b r c d s).data.toList=(ak a b).data.toList ++ 35::(r.data.toList ++ 64::((ak c d).data.toList ++ yN s)):=by
 by_cases hs:s.toList.isEmpty=true
 ·rw [jL h hs,yN,if_pos hs]; simp
 ·have hs':s.toList.isEmpty=false:=by simpa using hs
  rw [jM h hs',yN,if_neg hs]; simp
theorem Jl {s:ByteArray} (h:s.toList.isEmpty=true):s=⟨#[]⟩:=by
 refine fT ?_;rw [Go.ByteArray.toList_eq] at h;simpa using h
theorem Jm {o s x:ByteArray} (ho:∀ y ∈ o.data.toList,y ≠ 35) (hx:x.data.toList=o.data.toList ++ yN s) :
  tV 35 x=o∧rf 35 x=s∧Jh 35 x=!s.toList.isEmpty:=by
 by_cases hs:s.toList.isEmpty=true
 ·have e:x=o:=fT (by rw [hx,yN,if_pos hs]; simp);subst e;obtain ⟨h1,h2,h3⟩:=KC (c:=35) (s:=x) ho;exact ⟨h1,by rw [h2,Jl hs],by rw [h3,hs]; rfl⟩
 ·rw [yN,if_neg hs] at hx;obtain ⟨h1,h2,h3⟩:=uz hx ho;have hs':s.toList.isEmpty=false:=by simpa using hs
  exact ⟨fT h1,fT h2,by rw [h3,hs']; rfl⟩
def sR (s:ByteArray):=rf 64 s
def i1 (s:ByteArray):=rf 35 s
def i2 (s:ByteArray):=rf 64 (i1 s)
theorem vP {a b r c d t s:ByteArray} (h:aU a b r c d t=true) (hs:aN a b r c d t=s) :
  tV 35 s=ak a b∧tV 64 (i1 s)=r∧tV 35 (i2 s)=ak c d∧rf 35 (i2 s)=t:=by
 obtain ⟨h1,h2,h3,h4⟩:=iy h;have hl:=Ab h;rw [hs] at hl;obtain ⟨c1,c2,-⟩:=uz hl (fun x hx=>(nX h1 x hx).1);obtain ⟨d1,d2,-⟩:=uz (s:=i1 s) c2 (fun x hx=>(mI h2 x hx).2.2);obtain ⟨e1,e2,-⟩:=Jm (o:=ak c d) (s:=t) (x:=i2 s) (fun x hx=>(nX h3 x hx).1) d2;exact ⟨fT c1,fT d1,e1,e2⟩
def DY (s a b r c d t:ByteArray) (f:Bool):Prop :=
 (f=true∧aU a b r c d t=true∧aN a b r c d t=s) ∨
 (f=false∧(a=⟨#[]⟩∧b=⟨#[]⟩∧r=⟨#[]⟩∧c=⟨#[]⟩∧d=⟨#[]⟩∧t=⟨#[]⟩)∧∀ a b r c d t,aU a b r c d t=true→aN a b r c d t ≠ s)
theorem sS {a b r c d t a' b' r' c' d' t':ByteArray} (h:aU a b r c d t=true) (h':aU a' b' r' c' d' t'=true) (e:aN a b r c d t=aN a' b' r' c' d' t') :
  a=a'∧b=b'∧r=r'∧c=c'∧d=d'∧t=t':=by
 obtain ⟨x1,x2,x3,x4⟩:=vP h e;obtain ⟨y1,y2,y3,y4⟩:=vP h' rfl;obtain ⟨p1,p2,p3,p4⟩:=iy h;obtain ⟨q1,q2,q3,q4⟩:=iy h';have o1:ak a b=ak a' b':=x1.symm.trans y1;have o2:ak c d=ak c' d':=x3.symm.trans y3;obtain ⟨-,u1,u2⟩:=kW p1;obtain ⟨-,v1,v2⟩:=kW q1;obtain ⟨-,u3,u4⟩:=kW p3;obtain ⟨-,v3,v4⟩:=kW q3;rw [o1] at u1 u2;rw [o2] at u3 u4;exact ⟨u1.symm.trans v1,u2.symm.trans v2,x2.symm.trans y2,u3.symm.trans v3,u4.symm.trans v4,x4.symm.trans y4⟩
theorem DY.one {s a b r c d t a' b' r' c' d' t':ByteArray} {f f':Bool} (h:DY s a b r c d t f) (h':DY s a' b' r' c' d' t' f') :
  (a=a'∧b=b'∧r=r'∧c=c'∧d=d'∧t=t')∧f=f':=by
 rcases h with ⟨rfl,h1,h2⟩ | ⟨rfl,h1,h2⟩
 ·rcases h' with ⟨rfl,k1,k2⟩ | ⟨rfl,k1,k2⟩
  ·exact ⟨sS h1 k1 (h2.trans k2.symm),rfl⟩
  ·exact absurd h2 (k2 _ _ _ _ _ _ h1)
 ·rcases h' with ⟨rfl,k1,k2⟩ | ⟨rfl,k1,k2⟩
  ·exact absurd k2 (h2 _ _ _ _ _ _ k1)
  ·obtain ⟨rfl,rfl,rfl,rfl,rfl,rfl⟩:=h1;obtain ⟨rfl,rfl,rfl,rfl,rfl,rfl⟩:=k1;exact ⟨⟨rfl,rfl,rfl,rfl,rfl,rfl⟩,rfl⟩
end Go.Proofs.YtogjfppkbkgaeaaGreat.Pl
namespace Go.Proofs.YtogjfppkbkgaeaaGreat
open Pl
theorem vQ:∀ x y z:List UInt8,Op.bytesLess x y=true→Op.bytesLess y z=true→Op.bytesLess x z=true
 | [],_,[],h,k=>by cases ‹List UInt8› <;> simp [Op.bytesLess] at h k
 | [],_,_::_,_,_=>rfl
 | _::_,[],_,h,_=>by simp [Op.bytesLess] at h
 | _::_,_::_,[],_,k=>by simp [Op.bytesLess] at k
 | a::x,b::y,c::z,h,k=>by
  simp only [Op.bytesLess,Bool.or_eq_true,Bool.and_eq_true,decide_eq_true_eq,beq_iff_eq] at h k ⊢;rcases h with h | ⟨h,h'⟩
  ·rcases k with k | ⟨k,k'⟩
   ·exact .inl (UInt8.lt_trans h k)
   ·exact .inl (k ▸ h)
  ·rcases k with k | ⟨k,k'⟩
   ·exact .inl (h ▸ k)
   ·exact .inr ⟨h.trans k,vQ x y z h' k'⟩
def Tp.text (t:Tp):List UInt8:=(aN t.a t.b t.r t.c t.d t.s).toList
theorem oP {x y:Tp} (hx:x.ok=true) (hy:y.ok=true):x.ahead y=Op.bytesLess x.text y.text:=oN hx hy
theorem BP {x y:Tp} (h:x.ahead y=true):x.ok=true∧y.ok=true:=by
 unfold Tp.ahead di at h;simp only [Bool.and_eq_true] at h;exact ⟨h.1.1,h.1.2⟩
theorem BQ {x y z:Tp} (h:x.ahead y=true) (k:y.ahead z=true):x.ahead z=true:=by
 obtain ⟨hx,hy⟩:=BP h;obtain ⟨-,hz⟩:=BP k;rw [oP hx hy] at h;rw [oP hy hz] at k;rw [oP hx hz];exact vQ _ _ _ h k
def Up (l:List Tp):Prop:=l.Pairwise fun x y=>x.ahead y=true
theorem MR {ts:List Tp} (h:dR ts=true):Up ts∧(∀ t ∈ ts,t.ok=true)∧ts.length≤40:=by
 unfold dR at h;simp only [Bool.and_eq_true,decide_eq_true_eq] at h;obtain ⟨hl,hu⟩:=h;have hat:∀ i,i < ts.length→qX ts i=true:=fun i hi=>by
  unfold qc at hu;exact List.all_eq_true.1 hu i (List.mem_range.2 hi)
 have hok:∀ i (hi:i < ts.length),ts[i].ok=true:=fun i hi=>by
  have:=hat i hi;cases i with
  | zero=>rw [qY hi] at this; exact this
  | succ j=>rw [ny hi] at this; simp only [Bool.and_eq_true] at this; exact this.1
 have hnx:∀ i (hi:i + 1 < ts.length),ts[i].ahead ts[i + 1]=true:=fun i hi=>by
  have:=hat (i + 1) hi;rw [ny hi] at this; simp only [Bool.and_eq_true] at this; exact this.2
 refine ⟨List.pairwise_iff_getElem.2 fun i j hi hj hij=>?_,fun t ht=>?_,hl⟩
 ·obtain ⟨d,rfl⟩:∃ d,j=i + 1 + d:=⟨j - (i + 1),by omega⟩
  induction d with
  | zero=>exact hnx i hj
  | succ d ih=>exact BQ (ih (by omega) (by omega)) (hnx (i + 1 + d) (by omega))
 ·obtain ⟨i,hi,rfl⟩:=List.mem_iff_getElem.1 ht;exact hok i hi
open Go.ChangeAt Go.ChangeShapes Go.Maps Go.RowKit Go.WideShapes
def yO (w:World) (g:Nat) (t:Tp):Prop:=w.cell? ⟨g,0,none⟩=some (.string t.a)∧w.cell? ⟨g,1,none⟩=some (.string t.b)∧w.cell? ⟨g,2,none⟩=some (.string t.r)∧w.cell? ⟨g,3,none⟩=some (.string t.c)∧w.cell? ⟨g,4,none⟩=some (.string t.d)∧w.cell? ⟨g,5,none⟩=some (.string t.s)∧g < w.heap.size
theorem yO.below {w w':World} {g:Nat} {t:Tp} (h:yO w g t) (hb:Below w.heap.size w w'):yO w' g t :=
 ⟨mK hb h.2.2.2.2.2.2 h.1,mK hb h.2.2.2.2.2.2 h.2.1,mK hb h.2.2.2.2.2.2 h.2.2.1,mK hb h.2.2.2.2.2.2 h.2.2.2.1,mK hb h.2.2.2.2.2.2 h.2.2.2.2.1,mK hb h.2.2.2.2.2.2 h.2.2.2.2.2.1,Nat.lt_of_lt_of_le h.2.2.2.2.2.2 hb.size⟩
theorem KD (w:World) (t:Tp) (T:TypeId):yO (w.alloc (.cells #[.string t.a,.string t.b,.string t.r,.string t.c,.string t.d,.string t.s] T)) w.heap.size t:=by
 refine ⟨?_,?_,?_,?_,?_,?_,?_⟩ <;> simp
theorem yO.grown {w w':World} {g:Nat} {t:Tp} {row:Option Nat} (h:yO w g t) (hg:w.grownBy w' row) (hne:some g ≠ row):yO w' g t :=
 ⟨hg.cell h.1 hne,hg.cell h.2.1 hne,hg.cell h.2.2.1 hne,hg.cell h.2.2.2.1 hne,hg.cell h.2.2.2.2.1 hne,hg.cell h.2.2.2.2.2.1 hne,Nat.lt_of_lt_of_le h.2.2.2.2.2.2 hg.size⟩
theorem qh {W:World} {base base':Nat} {e:TypeId} {size:Nat} {v:Value} {k:Nat} {xs:List Value} (h:W.ownsRow base e size v k xs) (hb:base'≤base):W.ownsRow base' e size v k xs:=by
 refine ⟨h.1,?_⟩;rcases h.2 with hn | ⟨g,cap,cur,hv,hbg,rest⟩
 ·exact .inl hn
 ·exact .inr ⟨g,cap,cur,hv,Nat.le_trans hb hbg,rest⟩
theorem lX {p:Prop} (h:p):Hid p:=h
end Go.Proofs.YtogjfppkbkgaeaaGreat
