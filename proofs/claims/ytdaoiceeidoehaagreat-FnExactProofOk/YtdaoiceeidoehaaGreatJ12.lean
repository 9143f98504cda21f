/- Plain functions on bytes: a text cut at the first such byte. Nothing of the program is read here. -/
import Derived.Lib.IndexMore
import Derived.Lib.IndexBytes
import Derived.Lib.Strings
import Derived.Test.YtdaoiceeidoehaaGreatTuplesOk
import Derived.Sort.Statements
namespace Go.Proofs.YtdaoiceeidoehaaGreat.Pl
def qM (c:UInt8):List UInt8→List UInt8 × List UInt8 × Bool
 | []=>([],[],false)
 | b::l=>if b=c then ([],l,true) else (b::(qM c l).1,(qM c l).2.1,(qM c l).2.2)
theorem qN {c:UInt8} {l:List UInt8} (hn:∀ x ∈ l,x ≠ c):qM c l=(l,[],false):=by
 induction l with
 | nil=>rfl
 | cons b l ih =>
  have hb:b ≠ c:=hn b (by simp);have:=ih (fun x hx=>hn x (by simp [hx]));simp [qM,hb,this]
def sG (c:UInt8) (s:ByteArray):ByteArray:=⟨(qM c s.data.toList).1.toArray⟩
def qO (c:UInt8) (s:ByteArray):ByteArray:=⟨(qM c s.data.toList).2.1.toArray⟩
def Ip (c:UInt8) (s:ByteArray):Bool:=(qM c s.data.toList).2.2
theorem gu {a b:ByteArray} (h:a.data.toList=b.data.toList):a=b:=by
 cases a; cases b; simp at h; simp [h]
def LP (s:ByteArray):Bool:=eF (sG 58 s) (qO 58 s)
def MB (s:ByteArray):ByteArray:=if LP s then sG 58 s else ⟨#[]⟩
def MC (s:ByteArray):ByteArray:=if LP s then qO 58 s else ⟨#[]⟩
theorem Iq {s:ByteArray} (h:LP s=true):MB s=sG 58 s∧MC s=qO 58 s:=by simp [MB,MC,h]
theorem Ir {c:UInt8} {l m:List UInt8} (h:∀ x ∈ l,x ≠ c):qM c (l ++ c::m)=(l,m,true):=by
 induction l with
 | nil=>simp [qM]
 | cons b l ih =>
  have hb:b ≠ c:=h b (by simp);have:=ih (fun x hx=>h x (by simp [hx]));simp [qM,hb,this]
theorem xG (c:UInt8) (s:ByteArray):(sG c s).data.toList=(qM c s.data.toList).1:=by simp [sG]
theorem xH (c:UInt8) (s:ByteArray):(qO c s).data.toList=(qM c s.data.toList).2.1:=by simp [qO]
theorem AZ (a b:ByteArray):(a ++ b).data.toList=a.data.toList ++ b.data.toList:=by simp [ByteArray.data_append]
theorem tq {c:UInt8} {s:ByteArray} {l m:List UInt8} (hs:s.data.toList=l ++ c::m) (h:∀ x ∈ l,x ≠ c):(sG c s).data.toList=l∧(qO c s).data.toList=m∧Ip c s=true:=by
 rw [xG,xH,Ip,hs,Ir h]; exact ⟨rfl,rfl,rfl⟩
theorem JW {c:UInt8} {s:ByteArray} (h:∀ x ∈ s.data.toList,x ≠ c):sG c s=s∧qO c s=⟨#[]⟩∧Ip c s=false:=by
 refine ⟨gu ?_,gu ?_,?_⟩
 ·rw [xG,qN h]
 ·rw [xH,qN h]
 ·rw [Ip,qN h]
def Iu (l:List UInt8):Prop:=∀ x ∈ l,x ≠ 35∧x ≠ 58∧x ≠ 64
theorem xI {x:UInt8} (h:sS x=true):x ≠ 35∧x ≠ 58∧x ≠ 64:=by
 refine ⟨?_,?_,?_⟩ <;> (rintro rfl; revert h; decide)
theorem Dh {x:UInt8} (h:gQ x=true):x ≠ 35∧x ≠ 58∧x ≠ 64:=xI (by simp [sS,h])
theorem l7 {s:ByteArray} (h:aO s=true):Iu s.data.toList:=by
 simp only [aO,dx,nY,Bool.and_eq_true,List.all_eq_true] at h;exact fun x hx=>Dh (h.1.2 x hx)
theorem A7 {s:ByteArray} (h:kR s=true):Iu s.data.toList:=by
 simp only [kR,dx,nY,Bool.and_eq_true,List.all_eq_true] at h;exact fun x hx=>xI (h.2 x hx)
theorem oz {a b:ByteArray} (h:eF a b=true):aO a=true∧kR b=true:=by simpa [eF] using h
theorem pQ {a b:ByteArray} (h:eF a b=true):(aA a b).data.toList=a.data.toList ++ 58::b.data.toList:=by
 rw [lT h,AZ,AZ]; simp
theorem nM {a b:ByteArray} (h:eF a b=true):∀ x ∈ (aA a b).data.toList,x ≠ 35∧x ≠ 64:=by
 intro x hx;rw [pQ h] at hx;have h1:=l7 (oz h).1;have h2:=A7 (oz h).2;simp only [List.mem_append,List.mem_cons] at hx;rcases hx with hx | hx | hx
 ·exact ⟨(h1 x hx).1,(h1 x hx).2.2⟩
 ·subst hx; decide
 ·exact ⟨(h2 x hx).1,(h2 x hx).2.2⟩
theorem kD {a b:ByteArray} (h:eF a b=true):LP (aA a b)=true∧MB (aA a b)=a∧MC (aA a b)=b:=by
 obtain ⟨h1,h2,-⟩:=tq (c:=58) (pQ h) (fun x hx=>(l7 (oz h).1 x hx).2.1);have e1:sG 58 (aA a b)=a:=gu h1;have e2:qO 58 (aA a b)=b:=gu h2;have hb:LP (aA a b)=true:=by rw [LP,e1,e2]; exact h
 exact ⟨hb,by rw [(Iq hb).1,e1],by rw [(Iq hb).2,e2]⟩
def xJ (s:ByteArray):List UInt8:=if s.toList.isEmpty then [] else 35::s.data.toList
theorem zk {a b r c d s:ByteArray} (h:bi a b r c d s=true) :
  (aT a b r c d s).data.toList=(aA a b).data.toList ++ 35::(r.data.toList ++ 64::((aA c d).data.toList ++ xJ s)):=by
 by_cases hs:s.toList.isEmpty=true
 ·rw [lV h hs,xJ,if_pos hs]; simp
 ·have hs':s.toList.isEmpty=false:=by simpa using hs
  rw [lW h hs',xJ,if_neg hs]; simp
theorem Iw {s:ByteArray} (h:s.toList.isEmpty=true):s=⟨#[]⟩:=by
 refine gu ?_;rw [Go.ByteArray.toList_eq] at h;simpa using h
theorem Iy {o s x:ByteArray} (ho:∀ y ∈ o.data.toList,y ≠ 35) (hx:x.data.toList=o.data.toList ++ xJ s) :
  sG 35 x=o∧qO 35 x=s∧Ip 35 x=!s.toList.isEmpty:=by
 by_cases hs:s.toList.isEmpty=true
 ·have e:x=o:=gu (by rw [hx,xJ,if_pos hs]; simp);subst e;obtain ⟨h1,h2,h3⟩:=JW (c:=35) (s:=x) ho;exact ⟨h1,by rw [h2,Iw hs],by rw [h3,hs]; rfl⟩
 ·rw [xJ,if_neg hs] at hx;obtain ⟨h1,h2,h3⟩:=tq hx ho;have hs':s.toList.isEmpty=false:=by simpa using hs
  exact ⟨gu h1,gu h2,by rw [h3,hs']; rfl⟩
def sR (s:ByteArray):=qO 64 s
def i1 (s:ByteArray):=qO 35 s
def i2 (s:ByteArray):=qO 64 (i1 s)
theorem uR {a b r c d t s:ByteArray} (h:bi a b r c d t=true) (hs:aT a b r c d t=s) :
  sG 35 s=aA a b∧sG 64 (i1 s)=r∧sG 35 (i2 s)=aA c d∧qO 35 (i2 s)=t:=by
 obtain ⟨h1,h2,h3,h4⟩:=jg h;have hl:=zk h;rw [hs] at hl;obtain ⟨c1,c2,-⟩:=tq hl (fun x hx=>(nM h1 x hx).1);obtain ⟨d1,d2,-⟩:=tq (s:=i1 s) c2 (fun x hx=>(l7 h2 x hx).2.2);obtain ⟨e1,e2,-⟩:=Iy (o:=aA c d) (s:=t) (x:=i2 s) (fun x hx=>(nM h3 x hx).1) d2;exact ⟨gu c1,gu d1,e1,e2⟩
def Di (s a b r c d t:ByteArray) (f:Bool):Prop :=
 (f=true∧bi a b r c d t=true∧aT a b r c d t=s) ∨
 (f=false∧(a=⟨#[]⟩∧b=⟨#[]⟩∧r=⟨#[]⟩∧c=⟨#[]⟩∧d=⟨#[]⟩∧t=⟨#[]⟩)∧∀ a b r c d t,bi a b r c d t=true→aT a b r c d t ≠ s)
theorem A8 {a b r c d t a' b' r' c' d' t':ByteArray} (h:bi a b r c d t=true) (h':bi a' b' r' c' d' t'=true) (e:aT a b r c d t=aT a' b' r' c' d' t') :
  a=a'∧b=b'∧r=r'∧c=c'∧d=d'∧t=t':=by
 obtain ⟨x1,x2,x3,x4⟩:=uR h e;obtain ⟨y1,y2,y3,y4⟩:=uR h' rfl;obtain ⟨p1,p2,p3,p4⟩:=jg h;obtain ⟨q1,q2,q3,q4⟩:=jg h';have o1:aA a b=aA a' b':=x1.symm.trans y1;have o2:aA c d=aA c' d':=x3.symm.trans y3;obtain ⟨-,u1,u2⟩:=kD p1;obtain ⟨-,v1,v2⟩:=kD q1;obtain ⟨-,u3,u4⟩:=kD p3;obtain ⟨-,v3,v4⟩:=kD q3;rw [o1] at u1 u2;rw [o2] at u3 u4;exact ⟨u1.symm.trans v1,u2.symm.trans v2,x2.symm.trans y2,u3.symm.trans v3,u4.symm.trans v4,x4.symm.trans y4⟩
theorem Di.one {s a b r c d t a' b' r' c' d' t':ByteArray} {f f':Bool} (h:Di s a b r c d t f) (h':Di s a' b' r' c' d' t' f') :
  (a=a'∧b=b'∧r=r'∧c=c'∧d=d'∧t=t')∧f=f':=by
 rcases h with ⟨rfl,h1,h2⟩ | ⟨rfl,h1,h2⟩
 ·rcases h' with ⟨rfl,k1,k2⟩ | ⟨rfl,k1,k2⟩
  ·exact ⟨A8 h1 k1 (h2.trans k2.symm),rfl⟩
  ·exact absurd h2 (k2 _ _ _ _ _ _ h1)
 ·rcases h' with ⟨rfl,k1,k2⟩ | ⟨rfl,k1,k2⟩
  ·exact absurd k2 (h2 _ _ _ _ _ _ k1)
  ·obtain ⟨rfl,rfl,rfl,rfl,rfl,rfl⟩:=h1;obtain ⟨rfl,rfl,rfl,rfl,rfl,rfl⟩:=k1;exact ⟨⟨rfl,rfl,rfl,rfl,rfl,rfl⟩,rfl⟩
end Go.Proofs.YtdaoiceeidoehaaGreat.Pl
namespace Go.Proofs.YtdaoiceeidoehaaGreat
open Pl
theorem uS:∀ x y z:List UInt8,Op.bytesLess x y=true→Op.bytesLess y z=true→Op.bytesLess x z=true
 | [],_,[],h,k=>by cases ‹List UInt8› <;> simp [Op.bytesLess] at h k
 | [],_,_::_,_,_=>rfl
 | _::_,[],_,h,_=>by simp [Op.bytesLess] at h
 | _::_,_::_,[],_,k=>by simp [Op.bytesLess] at k
 | a::x,b::y,c::z,h,k=>by
  simp only [Op.bytesLess,Bool.or_eq_true,Bool.and_eq_true,decide_eq_true_eq,beq_iff_eq] at h k ⊢;rcases h with h | ⟨h,h'⟩
  ·rcases k with k | ⟨k,k'⟩
   ·exact .inl (UInt8.lt_trans h k)
   ·exact .inl (k ▸ h)
  ·rcases k with k | ⟨k,k'⟩
   ·exact .inl (h ▸ k)
   ·exact .inr ⟨h.trans k,uS x y z h' k'⟩
def Tp.text (t:Tp):List UInt8:=(aT t.a t.b t.r t.c t.d t.s).toList
theorem oC {x y:Tp} (hx:x.ok=true) (hy:y.ok=true):x.ahead y=Op.bytesLess x.text y.text:=ow hx hy
theorem A9 {x y:Tp} (h:x.ahead y=true):x.ok=true∧y.ok=true:=by
 unfold Tp.ahead dQ at h;simp only [Bool.and_eq_true] at h;exact ⟨h.1.1,h.1.2⟩
theorem Ba {x y z:Tp} (h:x.ahead y=true) (k:y.ahead z=true):x.ahead z=true:=by
 obtain ⟨hx,hy⟩:=A9 h;obtain ⟨-,hz⟩:=A9 k;rw [oC hx hy] at h;rw [oC hy hz] at k;rw [oC hx hz];exact uS _ _ _ h k
def Up (l:List Tp):Prop:=l.Pairwise fun x y=>x.ahead y=true
theorem L8 {ts:List Tp} (h:dX ts=true):Up ts∧(∀ t ∈ ts,t.ok=true)∧ts.length≤40:=by
 unfold dX at h;simp only [Bool.and_eq_true,decide_eq_true_eq] at h;obtain ⟨hl,hu⟩:=h;have hat:∀ i,i < ts.length→sF ts i=true:=fun i hi=>by
  unfold qJ at hu;exact List.all_eq_true.1 hu i (List.mem_range.2 hi)
 have hok:∀ i (hi:i < ts.length),ts[i].ok=true:=fun i hi=>by
  have:=hat i hi;cases i with
  | zero=>rw [qK hi] at this; exact this
  | succ j=>rw [mR hi] at this; simp only [Bool.and_eq_true] at this; exact this.1
 have hnx:∀ i (hi:i + 1 < ts.length),ts[i].ahead ts[i + 1]=true:=fun i hi=>by
  have:=hat (i + 1) hi;rw [mR hi] at this; simp only [Bool.and_eq_true] at this; exact this.2
 refine ⟨List.pairwise_iff_getElem.2 fun i j hi hj hij=>?_,fun t ht=>?_,hl⟩
 ·obtain ⟨d,rfl⟩:∃ d,j=i + 1 + d:=⟨j - (i + 1),by omega⟩
  induction d with
  | zero=>exact hnx i hj
  | succ d ih=>exact Ba (ih (by omega) (by omega)) (hnx (i + 1 + d) (by omega))
 ·obtain ⟨i,hi,rfl⟩:=List.mem_iff_getElem.1 ht;exact hok i hi
open Go.ChangeAt Go.ChangeShapes Go.Maps Go.RowKit Go.WideShapes
def xK (w:World) (g:Nat) (t:Tp):Prop:=w.cell? ⟨g,0,none⟩=some (.string t.a)∧w.cell? ⟨g,1,none⟩=some (.string t.b)∧w.cell? ⟨g,2,none⟩=some (.string t.r)∧w.cell? ⟨g,3,none⟩=some (.string t.c)∧w.cell? ⟨g,4,none⟩=some (.string t.d)∧w.cell? ⟨g,5,none⟩=some (.string t.s)∧g < w.heap.size
theorem xK.below {w w':World} {g:Nat} {t:Tp} (h:xK w g t) (hb:Below w.heap.size w w'):xK w' g t :=
 ⟨mK hb h.2.2.2.2.2.2 h.1,mK hb h.2.2.2.2.2.2 h.2.1,mK hb h.2.2.2.2.2.2 h.2.2.1,mK hb h.2.2.2.2.2.2 h.2.2.2.1,mK hb h.2.2.2.2.2.2 h.2.2.2.2.1,mK hb h.2.2.2.2.2.2 h.2.2.2.2.2.1,Nat.lt_of_lt_of_le h.2.2.2.2.2.2 hb.size⟩
theorem JX (w:World) (t:Tp) (T:TypeId):xK (w.alloc (.cells #[.string t.a,.string t.b,.string t.r,.string t.c,.string t.d,.string t.s] T)) w.heap.size t:=by
 refine ⟨?_,?_,?_,?_,?_,?_,?_⟩ <;> simp
theorem xK.grown {w w':World} {g:Nat} {t:Tp} {row:Option Nat} (h:xK w g t) (hg:w.grownBy w' row) (hne:some g ≠ row):xK w' g t :=
 ⟨hg.cell h.1 hne,hg.cell h.2.1 hne,hg.cell h.2.2.1 hne,hg.cell h.2.2.2.1 hne,hg.cell h.2.2.2.2.1 hne,hg.cell h.2.2.2.2.2.1 hne,Nat.lt_of_lt_of_le h.2.2.2.2.2.2 hg.size⟩
theorem kE {W:World} {base base':Nat} {e:TypeId} {size:Nat} {v:Value} {k:Nat} {xs:List Value} (h:W.ownsRow base e size v k xs) (hb:base'≤base):W.ownsRow base' e size v k xs:=by
 refine ⟨h.1,?_⟩;rcases h.2 with hn | ⟨g,cap,cur,hv,hbg,rest⟩
 ·exact .inl hn
 ·exact .inr ⟨g,cap,cur,hv,Nat.le_trans hb hbg,rest⟩
theorem sH {p:Prop} (h:p):Hid p:=h
end Go.Proofs.YtdaoiceeidoehaaGreat
