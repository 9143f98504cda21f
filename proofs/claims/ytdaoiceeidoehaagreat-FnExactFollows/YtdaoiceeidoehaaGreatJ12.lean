/- Plain functions on bytes: a text cut at the first such byte. Nothing of the program is read here. -/
import Derived.Lib.IndexMore
import Derived.Lib.IndexBytes
import Derived.Lib.Strings
import Derived.Test.YtdaoiceeidoehaaGreatTuplesOk
import Derived.Sort.Statements
namespace Go.Proofs.YtdaoiceeidoehaaGreat.Pl
def qN (c:UInt8):List UInt8→List UInt8 × List UInt8 × Bool
 | []=>([],[],false)
 | b::l=>if b=c then ([],l,true) else (b::(qN c l).1,(qN c l).2.1,(qN c l).2.2)
theorem qO {c:UInt8} {l:List UInt8} (hn:∀ x ∈ l,x ≠ c):qN c l=(l,[],false):=by
 induction l with
 | nil=>rfl
 | cons b l ih =>
  have hb:b ≠ c:=hn b (by simp);have:=ih (fun x hx=>hn x (by simp [hx]));simp [qN,hb,this]
def sH (c:UInt8) (s:ByteArray):ByteArray:=⟨(qN c s.data.toList).1.toArray⟩
def qP (c:UInt8) (s:ByteArray):ByteArray:=⟨(qN c s.data.toList).2.1.toArray⟩
def Io (c:UInt8) (s:ByteArray):Bool:=(qN c s.data.toList).2.2
theorem gm {a b:ByteArray} (h:a.data.toList=b.data.toList):a=b:=by
 cases a; cases b; simp at h; simp [h]
def LH (s:ByteArray):Bool:=eF (sH 58 s) (qP 58 s)
def Mt (s:ByteArray):ByteArray:=if LH s then sH 58 s else ⟨#[]⟩
def Mv (s:ByteArray):ByteArray:=if LH s then qP 58 s else ⟨#[]⟩
theorem Ip {s:ByteArray} (h:LH s=true):Mt s=sH 58 s∧Mv s=qP 58 s:=by simp [Mt,Mv,h]
theorem Iq {c:UInt8} {l m:List UInt8} (h:∀ x ∈ l,x ≠ c):qN c (l ++ c::m)=(l,m,true):=by
 induction l with
 | nil=>simp [qN]
 | cons b l ih =>
  have hb:b ≠ c:=h b (by simp);have:=ih (fun x hx=>h x (by simp [hx]));simp [qN,hb,this]
theorem xH (c:UInt8) (s:ByteArray):(sH c s).data.toList=(qN c s.data.toList).1:=by simp [sH]
theorem xI (c:UInt8) (s:ByteArray):(qP c s).data.toList=(qN c s.data.toList).2.1:=by simp [qP]
theorem AX (a b:ByteArray):(a ++ b).data.toList=a.data.toList ++ b.data.toList:=by simp [ByteArray.data_append]
theorem tu {c:UInt8} {s:ByteArray} {l m:List UInt8} (hs:s.data.toList=l ++ c::m) (h:∀ x ∈ l,x ≠ c):(sH c s).data.toList=l∧(qP c s).data.toList=m∧Io c s=true:=by
 rw [xH,xI,Io,hs,Iq h]; exact ⟨rfl,rfl,rfl⟩
theorem JU {c:UInt8} {s:ByteArray} (h:∀ x ∈ s.data.toList,x ≠ c):sH c s=s∧qP c s=⟨#[]⟩∧Io c s=false:=by
 refine ⟨gm ?_,gm ?_,?_⟩
 ·rw [xH,qO h]
 ·rw [xI,qO h]
 ·rw [Io,qO h]
def Ir (l:List UInt8):Prop:=∀ x ∈ l,x ≠ 35∧x ≠ 58∧x ≠ 64
theorem xJ {x:UInt8} (h:sU x=true):x ≠ 35∧x ≠ 58∧x ≠ 64:=by
 refine ⟨?_,?_,?_⟩ <;> (rintro rfl; revert h; decide)
theorem Dh {x:UInt8} (h:gQ x=true):x ≠ 35∧x ≠ 58∧x ≠ 64:=xJ (by simp [sU,h])
theorem ma {s:ByteArray} (h:aO s=true):Ir s.data.toList:=by
 simp only [aO,dz,og,Bool.and_eq_true,List.all_eq_true] at h;exact fun x hx=>Dh (h.1.2 x hx)
theorem AY {s:ByteArray} (h:kT s=true):Ir s.data.toList:=by
 simp only [kT,dz,og,Bool.and_eq_true,List.all_eq_true] at h;exact fun x hx=>xJ (h.2 x hx)
theorem oD {a b:ByteArray} (h:eF a b=true):aO a=true∧kT b=true:=by simpa [eF] using h
theorem pR {a b:ByteArray} (h:eF a b=true):(aA a b).data.toList=a.data.toList ++ 58::b.data.toList:=by
 rw [lW h,AX,AX]; simp
theorem nO {a b:ByteArray} (h:eF a b=true):∀ x ∈ (aA a b).data.toList,x ≠ 35∧x ≠ 64:=by
 intro x hx;rw [pR h] at hx;have h1:=ma (oD h).1;have h2:=AY (oD h).2;simp only [List.mem_append,List.mem_cons] at hx;rcases hx with hx | hx | hx
 ·exact ⟨(h1 x hx).1,(h1 x hx).2.2⟩
 ·subst hx; decide
 ·exact ⟨(h2 x hx).1,(h2 x hx).2.2⟩
theorem kF {a b:ByteArray} (h:eF a b=true):LH (aA a b)=true∧Mt (aA a b)=a∧Mv (aA a b)=b:=by
 obtain ⟨h1,h2,-⟩:=tu (c:=58) (pR h) (fun x hx=>(ma (oD h).1 x hx).2.1);have e1:sH 58 (aA a b)=a:=gm h1;have e2:qP 58 (aA a b)=b:=gm h2;have hb:LH (aA a b)=true:=by rw [LH,e1,e2]; exact h
 exact ⟨hb,by rw [(Ip hb).1,e1],by rw [(Ip hb).2,e2]⟩
def xK (s:ByteArray):List UInt8:=if s.toList.isEmpty then [] else 35::s.data.toList
theorem zh {a b r c d s:ByteArray} (h:bn a b r c d s=true) :
  (aU a b r c d s).data.toList=(aA a b).data.toList ++ 35::(r.data.toList ++ 64::((aA c d).data.toList ++ xK s)):=by
 by_cases hs:s.toList.isEmpty=true
 ·rw [lX h hs,xK,if_pos hs]; simp
 ·have hs':s.toList.isEmpty=false:=by simpa using hs
  rw [lY h hs',xK,if_neg hs]; simp
theorem Iu {s:ByteArray} (h:s.toList.isEmpty=true):s=⟨#[]⟩:=by
 refine gm ?_;rw [Go.ByteArray.toList_eq] at h;simpa using h
theorem Iw {o s x:ByteArray} (ho:∀ y ∈ o.data.toList,y ≠ 35) (hx:x.data.toList=o.data.toList ++ xK s) :
  sH 35 x=o∧qP 35 x=s∧Io 35 x=!s.toList.isEmpty:=by
 by_cases hs:s.toList.isEmpty=true
 ·have e:x=o:=gm (by rw [hx,xK,if_pos hs]; simp);subst e;obtain ⟨h1,h2,h3⟩:=JU (c:=35) (s:=x) ho;exact ⟨h1,by rw [h2,Iu hs],by rw [h3,hs]; rfl⟩
 ·rw [xK,if_neg hs] at hx;obtain ⟨h1,h2,h3⟩:=tu hx ho;have hs':s.toList.isEmpty=false:=by simpa using hs
  exact ⟨gm h1,gm h2,by rw [h3,hs']; rfl⟩
def sR (s:ByteArray):=qP 64 s
def i1 (s:ByteArray):=qP 35 s
def i2 (s:ByteArray):=qP 64 (i1 s)
theorem uS {a b r c d t s:ByteArray} (h:bn a b r c d t=true) (hs:aU a b r c d t=s) :
  sH 35 s=aA a b∧sH 64 (i1 s)=r∧sH 35 (i2 s)=aA c d∧qP 35 (i2 s)=t:=by
 obtain ⟨h1,h2,h3,h4⟩:=jh h;have hl:=zh h;rw [hs] at hl;obtain ⟨c1,c2,-⟩:=tu hl (fun x hx=>(nO h1 x hx).1);obtain ⟨d1,d2,-⟩:=tu (s:=i1 s) c2 (fun x hx=>(ma h2 x hx).2.2);obtain ⟨e1,e2,-⟩:=Iw (o:=aA c d) (s:=t) (x:=i2 s) (fun x hx=>(nO h3 x hx).1) d2;exact ⟨gm c1,gm d1,e1,e2⟩
def Di (s a b r c d t:ByteArray) (f:Bool):Prop :=
 (f=true∧bn a b r c d t=true∧aU a b r c d t=s) ∨
 (f=false∧(a=⟨#[]⟩∧b=⟨#[]⟩∧r=⟨#[]⟩∧c=⟨#[]⟩∧d=⟨#[]⟩∧t=⟨#[]⟩)∧∀ a b r c d t,bn a b r c d t=true→aU a b r c d t ≠ s)
theorem AZ {a b r c d t a' b' r' c' d' t':ByteArray} (h:bn a b r c d t=true) (h':bn a' b' r' c' d' t'=true) (e:aU a b r c d t=aU a' b' r' c' d' t') :
  a=a'∧b=b'∧r=r'∧c=c'∧d=d'∧t=t':=by
 obtain ⟨x1,x2,x3,x4⟩:=uS h e;obtain ⟨y1,y2,y3,y4⟩:=uS h' rfl;obtain ⟨p1,p2,p3,p4⟩:=jh h;obtain ⟨q1,q2,q3,q4⟩:=jh h';have o1:aA a b=aA a' b':=x1.symm.trans y1;have o2:aA c d=aA c' d':=x3.symm.trans y3;obtain ⟨-,u1,u2⟩:=kF p1;obtain ⟨-,v1,v2⟩:=kF q1;obtain ⟨-,u3,u4⟩:=kF p3;obtain ⟨-,v3,v4⟩:=kF q3;rw [o1] at u1 u2;rw [o2] at u3 u4;exact ⟨u1.symm.trans v1,u2.symm.trans v2,x2.symm.trans y2,u3.symm.trans v3,u4.symm.trans v4,x4.symm.trans y4⟩
theorem Di.one {s a b r c d t a' b' r' c' d' t':ByteArray} {f f':Bool} (h:Di s a b r c d t f) (h':Di s a' b' r' c' d' t' f') :
  (a=a'∧b=b'∧r=r'∧c=c'∧d=d'∧t=t')∧f=f':=by
 rcases h with ⟨rfl,h1,h2⟩ | ⟨rfl,h1,h2⟩
 ·rcases h' with ⟨rfl,k1,k2⟩ | ⟨rfl,k1,k2⟩
  ·exact ⟨AZ h1 k1 (h2.trans k2.symm),rfl⟩
  ·exact absurd h2 (k2 _ _ _ _ _ _ h1)
 ·rcases h' with ⟨rfl,k1,k2⟩ | ⟨rfl,k1,k2⟩
  ·exact absurd k2 (h2 _ _ _ _ _ _ k1)
  ·obtain ⟨rfl,rfl,rfl,rfl,rfl,rfl⟩:=h1;obtain ⟨rfl,rfl,rfl,rfl,rfl,rfl⟩:=k1;exact ⟨⟨rfl,rfl,rfl,rfl,rfl,rfl⟩,rfl⟩
end Go.Proofs.YtdaoiceeidoehaaGreat.Pl
namespace Go.Proofs.YtdaoiceeidoehaaGreat
open Pl
theorem uU:∀ x y z:List UInt8,Op.bytesLess x y=true→Op.bytesLess y z=true→Op.bytesLess x z=true
 | [],_,[],h,k=>by cases ‹List UInt8› <;> simp [Op.bytesLess] at h k
 | [],_,_::_,_,_=>rfl
 | _::_,[],_,h,_=>by simp [Op.bytesLess] at h
 | _::_,_::_,[],_,k=>by simp [Op.bytesLess] at k
 | a::x,b::y,c::z,h,k=>by
  simp only [Op.bytesLess,Bool.or_eq_true,Bool.and_eq_true,decide_eq_true_eq,beq_iff_eq] at h k ⊢;rcases h with h | ⟨h,h'⟩
  ·rcases k with k | ⟨k,k'⟩
   ·exact .inl (UInt8.lt_trans h k)
   ·exact .inl (k ▸ h)
  ·rcases k with k | ⟨k,k'⟩
   ·exact .inl (h ▸ k)
   ·exact .inr ⟨h.trans k,uU x y z h' k'⟩
def Tp.text (t:Tp):List UInt8:=(aU t.a t.b t.r t.c t.d t.s).toList
theorem oF {x y:Tp} (hx:x.ok=true) (hy:y.ok=true):x.ahead y=Op.bytesLess x.text y.text:=oC hx hy
theorem A7 {x y:Tp} (h:x.ahead y=true):x.ok=true∧y.ok=true:=by
 unfold Tp.ahead dQ at h;simp only [Bool.and_eq_true] at h;exact ⟨h.1.1,h.1.2⟩
theorem A8 {x y z:Tp} (h:x.ahead y=true) (k:y.ahead z=true):x.ahead z=true:=by
 obtain ⟨hx,hy⟩:=A7 h;obtain ⟨-,hz⟩:=A7 k;rw [oF hx hy] at h;rw [oF hy hz] at k;rw [oF hx hz];exact uU _ _ _ h k
def Up (l:List Tp):Prop:=l.Pairwise fun x y=>x.ahead y=true
theorem LX {ts:List Tp} (h:dW ts=true):Up ts∧(∀ t ∈ ts,t.ok=true)∧ts.length≤40:=by
 unfold dW at h;simp only [Bool.and_eq_true,decide_eq_true_eq] at h;obtain ⟨hl,hu⟩:=h;have hat:∀ i,i < ts.length→sG ts i=true:=fun i hi=>by
  unfold qK at hu;exact List.all_eq_true.1 hu i (List.mem_range.2 hi)
 have hok:∀ i (hi:i < ts.length),ts[i].ok=true:=fun i hi=>by
  have:=hat i hi;cases i with
  | zero=>rw [qL hi] at this; exact this
  | succ j=>rw [mU hi] at this; simp only [Bool.and_eq_true] at this; exact this.1
 have hnx:∀ i (hi:i + 1 < ts.length),ts[i].ahead ts[i + 1]=true:=fun i hi=>by
  have:=hat (i + 1) hi;rw [mU hi] at this; simp only [Bool.and_eq_true] at this; exact this.2
 refine ⟨List.pairwise_iff_getElem.2 fun i j hi hj hij=>?_,fun t ht=>?_,hl⟩
 ·obtain ⟨d,rfl⟩:∃ d,j=i + 1 + d:=⟨j - (i + 1),by omega⟩
  induction d with
  | zero=>exact hnx i hj
  | succ d ih=>exact A8 (ih (by omega) (by omega)) (hnx (i + 1 + d) (by omega))
 ·obtain ⟨i,hi,rfl⟩:=List.mem_iff_getElem.1 ht;exact hok i hi
open Go.ChangeAt Go.ChangeShapes Go.Maps Go.RowKit Go.WideShapes
def xL (w:World) (g:Nat) (t:Tp):Prop:=w.cell? ⟨g,0,none⟩=some (.string t.a)∧w.cell? ⟨g,1,none⟩=some (.string t.b)∧w.cell? ⟨g,2,none⟩=some (.string t.r)∧w.cell? ⟨g,3,none⟩=some (.string t.c)∧w.cell? ⟨g,4,none⟩=some (.string t.d)∧w.cell? ⟨g,5,none⟩=some (.string t.s)∧g < w.heap.size
theorem xL.below {w w':World} {g:Nat} {t:Tp} (h:xL w g t) (hb:Below w.heap.size w w'):xL w' g t :=
 ⟨mK hb h.2.2.2.2.2.2 h.1,mK hb h.2.2.2.2.2.2 h.2.1,mK hb h.2.2.2.2.2.2 h.2.2.1,mK hb h.2.2.2.2.2.2 h.2.2.2.1,mK hb h.2.2.2.2.2.2 h.2.2.2.2.1,mK hb h.2.2.2.2.2.2 h.2.2.2.2.2.1,Nat.lt_of_lt_of_le h.2.2.2.2.2.2 hb.size⟩
theorem JV (w:World) (t:Tp) (T:TypeId):xL (w.alloc (.cells #[.string t.a,.string t.b,.string t.r,.string t.c,.string t.d,.string t.s] T)) w.heap.size t:=by
 refine ⟨?_,?_,?_,?_,?_,?_,?_⟩ <;> simp
theorem xL.grown {w w':World} {g:Nat} {t:Tp} {row:Option Nat} (h:xL w g t) (hg:w.grownBy w' row) (hne:some g ≠ row):xL w' g t :=
 ⟨hg.cell h.1 hne,hg.cell h.2.1 hne,hg.cell h.2.2.1 hne,hg.cell h.2.2.2.1 hne,hg.cell h.2.2.2.2.1 hne,hg.cell h.2.2.2.2.2.1 hne,Nat.lt_of_lt_of_le h.2.2.2.2.2.2 hg.size⟩
theorem kG {W:World} {base base':Nat} {e:TypeId} {size:Nat} {v:Value} {k:Nat} {xs:List Value} (h:W.ownsRow base e size v k xs) (hb:base'≤base):W.ownsRow base' e size v k xs:=by
 refine ⟨h.1,?_⟩;rcases h.2 with hn | ⟨g,cap,cur,hv,hbg,rest⟩
 ·exact .inl hn
 ·exact .inr ⟨g,cap,cur,hv,Nat.le_trans hb hbg,rest⟩
theorem kZ {p:Prop} (h:p):Hid p:=h
end Go.Proofs.YtdaoiceeidoehaaGreat
