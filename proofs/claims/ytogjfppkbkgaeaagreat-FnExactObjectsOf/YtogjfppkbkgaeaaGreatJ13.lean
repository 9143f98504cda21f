/- Plain functions on bytes: a text cut at the first such byte. Nothing of the program is read here. -/
import Derived.Test.YtogjfppkbkgaeaaGreatJ5
import Derived.Lib.IndexMore
import Derived.Lib.IndexBytes
import Derived.Lib.Strings
import Derived.Test.YtogjfppkbkgaeaaGreatJ9
import Derived.Test.YtogjfppkbkgaeaaGreatTuplesOk
import Derived.Test.YtogjfppkbkgaeaaGreatJ7
import Derived.Sort.Statements
import Derived.Deep.QuietTactic
import Derived.BigQuiet
namespace Go.Proofs.YtogjfppkbkgaeaaGreat.Pl
def rA (c:UInt8):List UInt8→List UInt8 × List UInt8 × Bool
 | []=>([],[],false)
 | b::l=>if b=c then ([],l,true) else (b::(rA c l).1,(rA c l).2.1,(rA c l).2.2)
theorem rC {c:UInt8} {l:List UInt8} (hn:∀ x ∈ l,x ≠ c):rA c l=(l,[],false):=by
 induction l with
 | nil=>rfl
 | cons b l ih =>
  have hb:b ≠ c:=hn b (by simp);have:=ih (fun x hx=>hn x (by simp [hx]));simp [rA,hb,this]
def ui (c:UInt8) (s:ByteArray):ByteArray:=⟨(rA c s.data.toList).1.toArray⟩
def rD (c:UInt8) (s:ByteArray):ByteArray:=⟨(rA c s.data.toList).2.1.toArray⟩
def Jr (c:UInt8) (s:ByteArray):Bool:=(rA c s.data.toList).2.2
theorem gp {a b:ByteArray} (h:a.data.toList=b.data.toList):a=b:=by
 cases a; cases b; simp at h; simp [h]
def MU (s:ByteArray):Bool:=dG (ui 58 s) (rD 58 s)
def Nv (s:ByteArray):ByteArray:=if MU s then ui 58 s else ⟨#[]⟩
def Nw (s:ByteArray):ByteArray:=if MU s then rD 58 s else ⟨#[]⟩
theorem Js {s:ByteArray} (h:MU s=true):Nv s=ui 58 s∧Nw s=rD 58 s:=by simp [Nv,Nw,h]
theorem Jt {c:UInt8} {l m:List UInt8} (h:∀ x ∈ l,x ≠ c):rA c (l ++ c::m)=(l,m,true):=by
 induction l with
 | nil=>simp [rA]
 | cons b l ih =>
  have hb:b ≠ c:=h b (by simp);have:=ih (fun x hx=>h x (by simp [hx]));simp [rA,hb,this]
theorem yV (c:UInt8) (s:ByteArray):(ui c s).data.toList=(rA c s.data.toList).1:=by simp [ui]
theorem yX (c:UInt8) (s:ByteArray):(rD c s).data.toList=(rA c s.data.toList).2.1:=by simp [rD]
theorem Cc (a b:ByteArray):(a ++ b).data.toList=a.data.toList ++ b.data.toList:=by simp [ByteArray.data_append]
theorem uH {c:UInt8} {s:ByteArray} {l m:List UInt8} (hs:s.data.toList=l ++ c::m) (h:∀ x ∈ l,x ≠ c):(ui c s).data.toList=l∧(rD c s).data.toList=m∧Jr c s=true:=by
 rw [yV,yX,Jr,hs,Jt h]; exact ⟨rfl,rfl,rfl⟩
theorem KR {c:UInt8} {s:ByteArray} (h:∀ x ∈ s.data.toList,x ≠ c):ui c s=s∧rD c s=⟨#[]⟩∧Jr c s=false:=by
 refine ⟨gp ?_,gp ?_,?_⟩
 ·rw [yV,rC h]
 ·rw [yX,rC h]
 ·rw [Jr,rC h]
def Ju (l:List UInt8):Prop:=∀ x ∈ l,x ≠ 35∧x ≠ 58∧x ≠ 64
theorem yY {x:UInt8} (h:uA x=true):x ≠ 35∧x ≠ 58∧x ≠ 64:=by
 refine ⟨?_,?_,?_⟩ <;> (rintro rfl; revert h; decide)
theorem Eg {x:UInt8} (h:gV x=true):x ≠ 35∧x ≠ 58∧x ≠ 64:=yY (by simp [uA,h])
theorem mX {s:ByteArray} (h:aL s=true):Ju s.data.toList:=by
 simp only [aL,dC,oI,Bool.and_eq_true,List.all_eq_true] at h;exact fun x hx=>Eg (h.1.2 x hx)
theorem Ce {s:ByteArray} (h:lT s=true):Ju s.data.toList:=by
 simp only [lT,dC,oI,Bool.and_eq_true,List.all_eq_true] at h;exact fun x hx=>yY (h.2 x hx)
theorem oZ {a b:ByteArray} (h:dG a b=true):aL a=true∧lT b=true:=by simpa [dG] using h
theorem qp {a b:ByteArray} (h:dG a b=true):(au a b).data.toList=a.data.toList ++ 58::b.data.toList:=by
 rw [jQ h,Cc,Cc]; simp
theorem ow {a b:ByteArray} (h:dG a b=true):∀ x ∈ (au a b).data.toList,x ≠ 35∧x ≠ 64:=by
 intro x hx;rw [qp h] at hx;have h1:=mX (oZ h).1;have h2:=Ce (oZ h).2;simp only [List.mem_append,List.mem_cons] at hx;rcases hx with hx | hx | hx
 ·exact ⟨(h1 x hx).1,(h1 x hx).2.2⟩
 ·subst hx; decide
 ·exact ⟨(h2 x hx).1,(h2 x hx).2.2⟩
theorem lm {a b:ByteArray} (h:dG a b=true):MU (au a b)=true∧Nv (au a b)=a∧Nw (au a b)=b:=by
 obtain ⟨h1,h2,-⟩:=uH (c:=58) (qp h) (fun x hx=>(mX (oZ h).1 x hx).2.1);have e1:ui 58 (au a b)=a:=gp h1;have e2:rD 58 (au a b)=b:=gp h2;have hb:MU (au a b)=true:=by rw [MU,e1,e2]; exact h
 exact ⟨hb,by rw [(Js hb).1,e1],by rw [(Js hb).2,e2]⟩
def yZ (s:ByteArray):List UInt8:=if s.toList.isEmpty then [] else 35::s.data.toList
theorem Ap {a b r c d s:ByteArray} (h:aU a b r c d s=true) :
  (aN a b r c d s).data.toList=(au a b).data.toList ++ 35::(r.data.toList ++ 64::((au c d).data.toList ++ yZ s)):=by
 by_cases hs:s.toList.isEmpty=true
 ·rw [jR h hs,yZ,if_pos hs]; simp
 ·have hs':s.toList.isEmpty=false:=by simpa using hs
  rw [jS h hs',yZ,if_neg hs]; simp
theorem Jv {s:ByteArray} (h:s.toList.isEmpty=true):s=⟨#[]⟩:=by
 refine gp ?_;rw [Go.ByteArray.toList_eq] at h;simpa using h
theorem Jw {o s x:ByteArray} (ho:∀ y ∈ o.data.toList,y ≠ 35) (hx:x.data.toList=o.data.toList ++ yZ s) :
  ui 35 x=o∧rD 35 x=s∧Jr 35 x=!s.toList.isEmpty:=by
 by_cases hs:s.toList.isEmpty=true
 ·have e:x=o:=gp (by rw [hx,yZ,if_pos hs]; simp);subst e;obtain ⟨h1,h2,h3⟩:=KR (c:=35) (s:=x) ho;exact ⟨h1,by rw [h2,Jv hs],by rw [h3,hs]; rfl⟩
 ·rw [yZ,if_neg hs] at hx;obtain ⟨h1,h2,h3⟩:=uH hx ho;have hs':s.toList.isEmpty=false:=by simpa using hs
  exact ⟨gp h1,gp h2,by rw [h3,hs']; rfl⟩
def sR (s:ByteArray):=rD 64 s
def i1 (s:ByteArray):=rD 35 s
def i2 (s:ByteArray):=rD 64 (i1 s)
theorem wu {a b r c d t s:ByteArray} (h:aU a b r c d t=true) (hs:aN a b r c d t=s) :
  ui 35 s=au a b∧ui 64 (i1 s)=r∧ui 35 (i2 s)=au c d∧rD 35 (i2 s)=t:=by
 obtain ⟨h1,h2,h3,h4⟩:=iD h;have hl:=Ap h;rw [hs] at hl;obtain ⟨c1,c2,-⟩:=uH hl (fun x hx=>(ow h1 x hx).1);obtain ⟨d1,d2,-⟩:=uH (s:=i1 s) c2 (fun x hx=>(mX h2 x hx).2.2);obtain ⟨e1,e2,-⟩:=Jw (o:=au c d) (s:=t) (x:=i2 s) (fun x hx=>(ow h3 x hx).1) d2;exact ⟨gp c1,gp d1,e1,e2⟩
def Eh (s a b r c d t:ByteArray) (f:Bool):Prop :=
 (f=true∧aU a b r c d t=true∧aN a b r c d t=s) ∨
 (f=false∧(a=⟨#[]⟩∧b=⟨#[]⟩∧r=⟨#[]⟩∧c=⟨#[]⟩∧d=⟨#[]⟩∧t=⟨#[]⟩)∧∀ a b r c d t,aU a b r c d t=true→aN a b r c d t ≠ s)
theorem tu {a b r c d t a' b' r' c' d' t':ByteArray} (h:aU a b r c d t=true) (h':aU a' b' r' c' d' t'=true) (e:aN a b r c d t=aN a' b' r' c' d' t') :
  a=a'∧b=b'∧r=r'∧c=c'∧d=d'∧t=t':=by
 obtain ⟨x1,x2,x3,x4⟩:=wu h e;obtain ⟨y1,y2,y3,y4⟩:=wu h' rfl;obtain ⟨p1,p2,p3,p4⟩:=iD h;obtain ⟨q1,q2,q3,q4⟩:=iD h';have o1:au a b=au a' b':=x1.symm.trans y1;have o2:au c d=au c' d':=x3.symm.trans y3;obtain ⟨-,u1,u2⟩:=lm p1;obtain ⟨-,v1,v2⟩:=lm q1;obtain ⟨-,u3,u4⟩:=lm p3;obtain ⟨-,v3,v4⟩:=lm q3;rw [o1] at u1 u2;rw [o2] at u3 u4;exact ⟨u1.symm.trans v1,u2.symm.trans v2,x2.symm.trans y2,u3.symm.trans v3,u4.symm.trans v4,x4.symm.trans y4⟩
theorem Eh.one {s a b r c d t a' b' r' c' d' t':ByteArray} {f f':Bool} (h:Eh s a b r c d t f) (h':Eh s a' b' r' c' d' t' f') :
  (a=a'∧b=b'∧r=r'∧c=c'∧d=d'∧t=t')∧f=f':=by
 rcases h with ⟨rfl,h1,h2⟩ | ⟨rfl,h1,h2⟩
 ·rcases h' with ⟨rfl,k1,k2⟩ | ⟨rfl,k1,k2⟩
  ·exact ⟨tu h1 k1 (h2.trans k2.symm),rfl⟩
  ·exact absurd h2 (k2 _ _ _ _ _ _ h1)
 ·rcases h' with ⟨rfl,k1,k2⟩ | ⟨rfl,k1,k2⟩
  ·exact absurd k2 (h2 _ _ _ _ _ _ k1)
  ·obtain ⟨rfl,rfl,rfl,rfl,rfl,rfl⟩:=h1;obtain ⟨rfl,rfl,rfl,rfl,rfl,rfl⟩:=k1;exact ⟨⟨rfl,rfl,rfl,rfl,rfl,rfl⟩,rfl⟩
end Go.Proofs.YtogjfppkbkgaeaaGreat.Pl
namespace Go.Proofs.YtogjfppkbkgaeaaGreat
open Pl
theorem ww:∀ x y z:List UInt8,Op.bytesLess x y=true→Op.bytesLess y z=true→Op.bytesLess x z=true
 | [],_,[],h,k=>by cases ‹List UInt8› <;> simp [Op.bytesLess] at h k
 | [],_,_::_,_,_=>rfl
 | _::_,[],_,h,_=>by simp [Op.bytesLess] at h
 | _::_,_::_,[],_,k=>by simp [Op.bytesLess] at k
 | a::x,b::y,c::z,h,k=>by
  simp only [Op.bytesLess,Bool.or_eq_true,Bool.and_eq_true,decide_eq_true_eq,beq_iff_eq] at h k ⊢;rcases h with h | ⟨h,h'⟩
  ·rcases k with k | ⟨k,k'⟩
   ·exact .inl (UInt8.lt_trans h k)
   ·exact .inl (k ▸ h)
  ·rcases k with k | ⟨k,k'⟩
   ·exact .inl (h ▸ k)
   ·exact .inr ⟨h.trans k,ww x y z h' k'⟩
def Tp.text (t:Tp):List UInt8:=(aN t.a t.b t.r t.c t.d t.s).toList
theorem pg {x y:Tp} (hx:x.ok=true) (hy:y.ok=true):x.ahead y=Op.bytesLess x.text y.text:=oU hx hy
theorem Cf {x y:Tp} (h:x.ahead y=true):x.ok=true∧y.ok=true:=by
 unfold Tp.ahead dx at h;simp only [Bool.and_eq_true] at h;exact ⟨h.1.1,h.1.2⟩
theorem Cg {x y z:Tp} (h:x.ahead y=true) (k:y.ahead z=true):x.ahead z=true:=by
 obtain ⟨hx,hy⟩:=Cf h;obtain ⟨-,hz⟩:=Cf k;rw [pg hx hy] at h;rw [pg hy hz] at k;rw [pg hx hz];exact ww _ _ _ h k
def Up (l:List Tp):Prop:=l.Pairwise fun x y=>x.ahead y=true
theorem M7 {ts:List Tp} (h:dY ts=true):Up ts∧(∀ t ∈ ts,t.ok=true)∧ts.length≤40:=by
 unfold dY at h;simp only [Bool.and_eq_true,decide_eq_true_eq] at h;obtain ⟨hl,hu⟩:=h;have hat:∀ i,i < ts.length→ru ts i=true:=fun i hi=>by
  unfold qm at hu;exact List.all_eq_true.1 hu i (List.mem_range.2 hi)
 have hok:∀ i (hi:i < ts.length),ts[i].ok=true:=fun i hi=>by
  have:=hat i hi;cases i with
  | zero=>rw [ry hi] at this; exact this
  | succ j=>rw [nN hi] at this; simp only [Bool.and_eq_true] at this; exact this.1
 have hnx:∀ i (hi:i + 1 < ts.length),ts[i].ahead ts[i + 1]=true:=fun i hi=>by
  have:=hat (i + 1) hi;rw [nN hi] at this; simp only [Bool.and_eq_true] at this; exact this.2
 refine ⟨List.pairwise_iff_getElem.2 fun i j hi hj hij=>?_,fun t ht=>?_,hl⟩
 ·obtain ⟨d,rfl⟩:∃ d,j=i + 1 + d:=⟨j - (i + 1),by omega⟩
  induction d with
  | zero=>exact hnx i hj
  | succ d ih=>exact Cg (ih (by omega) (by omega)) (hnx (i + 1 + d) (by omega))
 ·obtain ⟨i,hi,rfl⟩:=List.mem_iff_getElem.1 ht;exact hok i hi
open Go.ChangeAt Go.ChangeShapes Go.Maps Go.RowKit Go.WideShapes
def za (w:World) (g:Nat) (t:Tp):Prop:=w.cell? ⟨g,0,none⟩=some (.string t.a)∧w.cell? ⟨g,1,none⟩=some (.string t.b)∧w.cell? ⟨g,2,none⟩=some (.string t.r)∧w.cell? ⟨g,3,none⟩=some (.string t.c)∧w.cell? ⟨g,4,none⟩=some (.string t.d)∧w.cell? ⟨g,5,none⟩=some (.string t.s)∧g < w.heap.size
theorem za.below {w w':World} {g:Nat} {t:Tp} (h:za w g t) (hb:Below w.heap.size w w'):za w' g t :=
 ⟨mK hb h.2.2.2.2.2.2 h.1,mK hb h.2.2.2.2.2.2 h.2.1,mK hb h.2.2.2.2.2.2 h.2.2.1,mK hb h.2.2.2.2.2.2 h.2.2.2.1,mK hb h.2.2.2.2.2.2 h.2.2.2.2.1,mK hb h.2.2.2.2.2.2 h.2.2.2.2.2.1,Nat.lt_of_lt_of_le h.2.2.2.2.2.2 hb.size⟩
theorem KS (w:World) (t:Tp) (T:TypeId):za (w.alloc (.cells #[.string t.a,.string t.b,.string t.r,.string t.c,.string t.d,.string t.s] T)) w.heap.size t:=by
 refine ⟨?_,?_,?_,?_,?_,?_,?_⟩ <;> simp
theorem za.grown {w w':World} {g:Nat} {t:Tp} {row:Option Nat} (h:za w g t) (hg:w.grownBy w' row) (hne:some g ≠ row):za w' g t :=
 ⟨hg.cell h.1 hne,hg.cell h.2.1 hne,hg.cell h.2.2.1 hne,hg.cell h.2.2.2.1 hne,hg.cell h.2.2.2.2.1 hne,hg.cell h.2.2.2.2.2.1 hne,Nat.lt_of_lt_of_le h.2.2.2.2.2.2 hg.size⟩
theorem qw {W:World} {base base':Nat} {e:TypeId} {size:Nat} {v:Value} {k:Nat} {xs:List Value} (h:W.ownsRow base e size v k xs) (hb:base'≤base):W.ownsRow base' e size v k xs:=by
 refine ⟨h.1,?_⟩;rcases h.2 with hn | ⟨g,cap,cur,hv,hbg,rest⟩
 ·exact .inl hn
 ·exact .inr ⟨g,cap,cur,hv,Nat.le_trans hb hbg,rest⟩
theorem iJ {p:Prop} (h:p):Hid p:=h
end Go.Proofs.YtogjfppkbkgaeaaGreat
