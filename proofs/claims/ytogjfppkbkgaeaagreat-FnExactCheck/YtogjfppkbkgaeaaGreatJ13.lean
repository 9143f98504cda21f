/- Plain functions on bytes: a text cut at the first such byte. Nothing of the program is read here. -/
import Derived.Test.YtogjfppkbkgaeaaGreatJ6
import Derived.Lib.IndexMore
import Derived.Lib.IndexBytes
import Derived.Lib.Strings
import Derived.Test.YtogjfppkbkgaeaaGreatAhead
import Derived.Test.YtogjfppkbkgaeaaGreatTuplesOk
import Derived.Test.YtogjfppkbkgaeaaGreatJ8
import Derived.Sort.Statements
import Derived.Deep.QuietTactic
import Derived.BigQuiet
namespace Go.Proofs.YtogjfppkbkgaeaaGreat.Pl
def cutL (c:UInt8):List UInt8→List UInt8 × List UInt8 × Bool
 | []=>([],[],false)
 | b::l=>if b=c then ([],l,true) else (b::(cutL c l).1,(cutL c l).2.1,(cutL c l).2.2)
theorem cutL_none {c:UInt8} {l:List UInt8} (hn:∀ x ∈ l,x ≠ c):cutL c l=(l,[],false):=by
 induction l with
 | nil=>rfl
 | cons b l ih =>
  have hb:b ≠ c:=hn b (by simp)
  have:=ih (fun x hx=>hn x (by simp [hx]))
  simp [cutL,hb,this]
def cutA (c:UInt8) (s:ByteArray):ByteArray:=⟨(cutL c s.data.toList).1.toArray⟩
def cutZ (c:UInt8) (s:ByteArray):ByteArray:=⟨(cutL c s.data.toList).2.1.toArray⟩
def cutF (c:UInt8) (s:ByteArray):Bool:=(cutL c s.data.toList).2.2
theorem ext_data {a b:ByteArray} (h:a.data.toList=b.data.toList):a=b:=by
 cases a; cases b; simp at h; simp [h]
def rdB (s:ByteArray):Bool:=objB (cutA 58 s) (cutZ 58 s)
def rdT (s:ByteArray):ByteArray:=if rdB s then cutA 58 s else ⟨#[]⟩
def rdI (s:ByteArray):ByteArray:=if rdB s then cutZ 58 s else ⟨#[]⟩
theorem rd_yes {s:ByteArray} (h:rdB s=true):rdT s=cutA 58 s∧rdI s=cutZ 58 s:=by simp [rdT,rdI,h]
end Go.Proofs.YtogjfppkbkgaeaaGreat.Pl
namespace Go.Proofs.YtogjfppkbkgaeaaGreat.Pl
theorem cutL_mid {c:UInt8} {l m:List UInt8} (h:∀ x ∈ l,x ≠ c):cutL c (l ++ c::m)=(l,m,true):=by
 induction l with
 | nil=>simp [cutL]
 | cons b l ih =>
  have hb:b ≠ c:=h b (by simp)
  have:=ih (fun x hx=>h x (by simp [hx]))
  simp [cutL,hb,this]
theorem cutA_list (c:UInt8) (s:ByteArray):(cutA c s).data.toList=(cutL c s.data.toList).1:=by simp [cutA]
theorem cutZ_list (c:UInt8) (s:ByteArray):(cutZ c s).data.toList=(cutL c s.data.toList).2.1:=by simp [cutZ]
theorem app_list (a b:ByteArray):(a ++ b).data.toList=a.data.toList ++ b.data.toList:=by simp [ByteArray.data_append]
theorem cut_mid {c:UInt8} {s:ByteArray} {l m:List UInt8} (hs:s.data.toList=l ++ c::m) (h:∀ x ∈ l,x ≠ c):(cutA c s).data.toList=l∧(cutZ c s).data.toList=m∧cutF c s=true:=by
 rw [cutA_list,cutZ_list,cutF,hs,cutL_mid h]; exact ⟨rfl,rfl,rfl⟩
theorem cut_not {c:UInt8} {s:ByteArray} (h:∀ x ∈ s.data.toList,x ≠ c):cutA c s=s∧cutZ c s=⟨#[]⟩∧cutF c s=false:=by
 refine ⟨ext_data ?_,ext_data ?_,?_⟩
 ·rw [cutA_list,cutL_none h]
 ·rw [cutZ_list,cutL_none h]
 ·rw [cutF,cutL_none h]
def plainB (l:List UInt8):Prop:=∀ x ∈ l,x ≠ 35∧x ≠ 58∧x ≠ 64
theorem idB_plain {x:UInt8} (h:idB x=true):x ≠ 35∧x ≠ 58∧x ≠ 64:=by
 refine ⟨?_,?_,?_⟩ <;> (rintro rfl; revert h; decide)
theorem letB_plain {x:UInt8} (h:letB x=true):x ≠ 35∧x ≠ 58∧x ≠ 64:=idB_plain (by simp [idB,h])
theorem nameB_plain {s:ByteArray} (h:nameB s=true):plainB s.data.toList:=by
 simp only [nameB,signsB,allB,Bool.and_eq_true,List.all_eq_true] at h
 exact fun x hx=>letB_plain (h.1.2 x hx)
theorem isIdB_plain {s:ByteArray} (h:isIdB s=true):plainB s.data.toList:=by
 simp only [isIdB,signsB,allB,Bool.and_eq_true,List.all_eq_true] at h
 exact fun x hx=>idB_plain (h.2 x hx)
theorem objB_parts {a b:ByteArray} (h:objB a b=true):nameB a=true∧isIdB b=true:=by simpa [objB] using h
theorem objText_list {a b:ByteArray} (h:objB a b=true):(objText a b).data.toList=a.data.toList ++ 58::b.data.toList:=by
 rw [objText_yes h,app_list,app_list]; simp
theorem objText_plain {a b:ByteArray} (h:objB a b=true):∀ x ∈ (objText a b).data.toList,x ≠ 35∧x ≠ 64:=by
 intro x hx
 rw [objText_list h] at hx
 have h1:=nameB_plain (objB_parts h).1
 have h2:=isIdB_plain (objB_parts h).2
 simp only [List.mem_append,List.mem_cons] at hx
 rcases hx with hx | hx | hx
 ·exact ⟨(h1 x hx).1,(h1 x hx).2.2⟩
 ·subst hx; decide
 ·exact ⟨(h2 x hx).1,(h2 x hx).2.2⟩
theorem rd_objText {a b:ByteArray} (h:objB a b=true):rdB (objText a b)=true∧rdT (objText a b)=a∧rdI (objText a b)=b:=by
 obtain ⟨h1,h2,-⟩:=cut_mid (c:=58) (objText_list h) (fun x hx=>(nameB_plain (objB_parts h).1 x hx).2.1)
 have e1:cutA 58 (objText a b)=a:=ext_data h1
 have e2:cutZ 58 (objText a b)=b:=ext_data h2
 have hb:rdB (objText a b)=true:=by rw [rdB,e1,e2]; exact h
 exact ⟨hb,by rw [(rd_yes hb).1,e1],by rw [(rd_yes hb).2,e2]⟩
def tailT (s:ByteArray):List UInt8:=if s.toList.isEmpty then [] else 35::s.data.toList
theorem tupText_list {a b r c d s:ByteArray} (h:tupB a b r c d s=true) :
  (tupText a b r c d s).data.toList=(objText a b).data.toList ++ 35::(r.data.toList ++ 64::((objText c d).data.toList ++ tailT s)):=by
 by_cases hs:s.toList.isEmpty=true
 ·rw [tupText_one h hs,tailT,if_pos hs]; simp
 ·have hs':s.toList.isEmpty=false:=by simpa using hs
  rw [tupText_two h hs',tailT,if_neg hs]; simp
theorem empty_of {s:ByteArray} (h:s.toList.isEmpty=true):s=⟨#[]⟩:=by
 refine ext_data ?_
 rw [Go.ByteArray.toList_eq] at h
 simpa using h
theorem cut_tail {o s x:ByteArray} (ho:∀ y ∈ o.data.toList,y ≠ 35) (hx:x.data.toList=o.data.toList ++ tailT s) :
  cutA 35 x=o∧cutZ 35 x=s∧cutF 35 x=!s.toList.isEmpty:=by
 by_cases hs:s.toList.isEmpty=true
 ·have e:x=o:=ext_data (by rw [hx,tailT,if_pos hs]; simp)
  subst e
  obtain ⟨h1,h2,h3⟩:=cut_not (c:=35) (s:=x) ho
  exact ⟨h1,by rw [h2,empty_of hs],by rw [h3,hs]; rfl⟩
 ·rw [tailT,if_neg hs] at hx
  obtain ⟨h1,h2,h3⟩:=cut_mid hx ho
  have hs':s.toList.isEmpty=false:=by simpa using hs
  exact ⟨ext_data h1,ext_data h2,by rw [h3,hs']; rfl⟩
def sR (s:ByteArray):=cutZ 64 s
def i1 (s:ByteArray):=cutZ 35 s
def i2 (s:ByteArray):=cutZ 64 (i1 s)
theorem impl_reads {a b r c d t s:ByteArray} (h:tupB a b r c d t=true) (hs:tupText a b r c d t=s) :
  cutA 35 s=objText a b∧cutA 64 (i1 s)=r∧cutA 35 (i2 s)=objText c d∧cutZ 35 (i2 s)=t:=by
 obtain ⟨h1,h2,h3,h4⟩:=tupB_parts h
 have hl:=tupText_list h
 rw [hs] at hl
 obtain ⟨c1,c2,-⟩:=cut_mid hl (fun x hx=>(objText_plain h1 x hx).1)
 obtain ⟨d1,d2,-⟩:=cut_mid (s:=i1 s) c2 (fun x hx=>(nameB_plain h2 x hx).2.2)
 obtain ⟨e1,e2,-⟩:=cut_tail (o:=objText c d) (s:=t) (x:=i2 s) (fun x hx=>(objText_plain h3 x hx).1) d2
 exact ⟨ext_data c1,ext_data d1,e1,e2⟩
def ReadAs (s a b r c d t:ByteArray) (f:Bool):Prop :=
 (f=true∧tupB a b r c d t=true∧tupText a b r c d t=s) ∨
 (f=false∧(a=⟨#[]⟩∧b=⟨#[]⟩∧r=⟨#[]⟩∧c=⟨#[]⟩∧d=⟨#[]⟩∧t=⟨#[]⟩)∧∀ a b r c d t,tupB a b r c d t=true→tupText a b r c d t ≠ s)
theorem tupText_inj {a b r c d t a' b' r' c' d' t':ByteArray} (h:tupB a b r c d t=true) (h':tupB a' b' r' c' d' t'=true) (e:tupText a b r c d t=tupText a' b' r' c' d' t') :
  a=a'∧b=b'∧r=r'∧c=c'∧d=d'∧t=t':=by
 obtain ⟨x1,x2,x3,x4⟩:=impl_reads h e
 obtain ⟨y1,y2,y3,y4⟩:=impl_reads h' rfl
 obtain ⟨p1,p2,p3,p4⟩:=tupB_parts h
 obtain ⟨q1,q2,q3,q4⟩:=tupB_parts h'
 have o1:objText a b=objText a' b':=x1.symm.trans y1
 have o2:objText c d=objText c' d':=x3.symm.trans y3
 obtain ⟨-,u1,u2⟩:=rd_objText p1
 obtain ⟨-,v1,v2⟩:=rd_objText q1
 obtain ⟨-,u3,u4⟩:=rd_objText p3
 obtain ⟨-,v3,v4⟩:=rd_objText q3
 rw [o1] at u1 u2
 rw [o2] at u3 u4
 exact ⟨u1.symm.trans v1,u2.symm.trans v2,x2.symm.trans y2,u3.symm.trans v3,u4.symm.trans v4,x4.symm.trans y4⟩
theorem ReadAs.one {s a b r c d t a' b' r' c' d' t':ByteArray} {f f':Bool} (h:ReadAs s a b r c d t f) (h':ReadAs s a' b' r' c' d' t' f') :
  (a=a'∧b=b'∧r=r'∧c=c'∧d=d'∧t=t')∧f=f':=by
 rcases h with ⟨rfl,h1,h2⟩ | ⟨rfl,h1,h2⟩
 ·rcases h' with ⟨rfl,k1,k2⟩ | ⟨rfl,k1,k2⟩
  ·exact ⟨tupText_inj h1 k1 (h2.trans k2.symm),rfl⟩
  ·exact absurd h2 (k2 _ _ _ _ _ _ h1)
 ·rcases h' with ⟨rfl,k1,k2⟩ | ⟨rfl,k1,k2⟩
  ·exact absurd k2 (h2 _ _ _ _ _ _ k1)
  ·obtain ⟨rfl,rfl,rfl,rfl,rfl,rfl⟩:=h1
   obtain ⟨rfl,rfl,rfl,rfl,rfl,rfl⟩:=k1
   exact ⟨⟨rfl,rfl,rfl,rfl,rfl,rfl⟩,rfl⟩
end Go.Proofs.YtogjfppkbkgaeaaGreat.Pl
namespace Go.Proofs.YtogjfppkbkgaeaaGreat
open Pl
theorem less_trans:∀ x y z:List UInt8,Op.bytesLess x y=true→Op.bytesLess y z=true→Op.bytesLess x z=true
 | [],_,[],h,k=>by cases ‹List UInt8› <;> simp [Op.bytesLess] at h k
 | [],_,_::_,_,_=>rfl
 | _::_,[],_,h,_=>by simp [Op.bytesLess] at h
 | _::_,_::_,[],_,k=>by simp [Op.bytesLess] at k
 | a::x,b::y,c::z,h,k=>by
  simp only [Op.bytesLess,Bool.or_eq_true,Bool.and_eq_true,decide_eq_true_eq,beq_iff_eq] at h k ⊢
  rcases h with h | ⟨h,h'⟩
  ·rcases k with k | ⟨k,k'⟩
   ·exact .inl (UInt8.lt_trans h k)
   ·exact .inl (k ▸ h)
  ·rcases k with k | ⟨k,k'⟩
   ·exact .inl (h ▸ k)
   ·exact .inr ⟨h.trans k,less_trans x y z h' k'⟩
end Go.Proofs.YtogjfppkbkgaeaaGreat
namespace Go.Proofs.YtogjfppkbkgaeaaGreat
open Pl
def Tp.text (t:Tp):List UInt8:=(tupText t.a t.b t.r t.c t.d t.s).toList
theorem ahead_less {x y:Tp} (hx:x.ok=true) (hy:y.ok=true):x.ahead y=Op.bytesLess x.text y.text:=aheadB_yes hx hy
theorem ahead_ok {x y:Tp} (h:x.ahead y=true):x.ok=true∧y.ok=true:=by
 unfold Tp.ahead aheadB at h
 simp only [Bool.and_eq_true] at h
 exact ⟨h.1.1,h.1.2⟩
theorem ahead_trans {x y z:Tp} (h:x.ahead y=true) (k:y.ahead z=true):x.ahead z=true:=by
 obtain ⟨hx,hy⟩:=ahead_ok h
 obtain ⟨-,hz⟩:=ahead_ok k
 rw [ahead_less hx hy] at h
 rw [ahead_less hy hz] at k
 rw [ahead_less hx hz]
 exact less_trans _ _ _ h k
def Up (l:List Tp):Prop:=l.Pairwise fun x y=>x.ahead y=true
theorem up_of {ts:List Tp} (h:tupsB ts=true):Up ts∧(∀ t ∈ ts,t.ok=true)∧ts.length≤40:=by
 unfold tupsB at h
 simp only [Bool.and_eq_true,decide_eq_true_eq] at h
 obtain ⟨hl,hu⟩:=h
 have hat:∀ i,i < ts.length→okAt ts i=true:=fun i hi=>by
  unfold upOk at hu
  exact List.all_eq_true.1 hu i (List.mem_range.2 hi)
 have hok:∀ i (hi:i < ts.length),ts[i].ok=true:=fun i hi=>by
  have:=hat i hi
  cases i with
  | zero=>rw [okAt_zero hi] at this; exact this
  | succ j=>rw [okAt_succ hi] at this; simp only [Bool.and_eq_true] at this; exact this.1
 have hnx:∀ i (hi:i + 1 < ts.length),ts[i].ahead ts[i + 1]=true:=fun i hi=>by
  have:=hat (i + 1) hi
  rw [okAt_succ hi] at this; simp only [Bool.and_eq_true] at this; exact this.2
 refine ⟨List.pairwise_iff_getElem.2 fun i j hi hj hij=>?_,fun t ht=>?_,hl⟩
 ·obtain ⟨d,rfl⟩:∃ d,j=i + 1 + d:=⟨j - (i + 1),by omega⟩
  induction d with
  | zero=>exact hnx i hj
  | succ d ih=>exact ahead_trans (ih (by omega) (by omega)) (hnx (i + 1 + d) (by omega))
 ·obtain ⟨i,hi,rfl⟩:=List.mem_iff_getElem.1 ht
  exact hok i hi
end Go.Proofs.YtogjfppkbkgaeaaGreat
namespace Go.Proofs.YtogjfppkbkgaeaaGreat
open Go.ChangeShapes Go.WideShapes Go.ChangeAt Go.RowKit Go.Maps
open Pl
def Six (w:World) (g:Nat) (t:Tp):Prop:=w.cell? ⟨g,0,none⟩=some (.string t.a)∧w.cell? ⟨g,1,none⟩=some (.string t.b)∧w.cell? ⟨g,2,none⟩=some (.string t.r)∧w.cell? ⟨g,3,none⟩=some (.string t.c)∧w.cell? ⟨g,4,none⟩=some (.string t.d)∧w.cell? ⟨g,5,none⟩=some (.string t.s)∧g < w.heap.size
theorem Six.below {w w':World} {g:Nat} {t:Tp} (h:Six w g t) (hb:Below w.heap.size w w'):Six w' g t :=
 ⟨mK hb h.2.2.2.2.2.2 h.1,mK hb h.2.2.2.2.2.2 h.2.1,mK hb h.2.2.2.2.2.2 h.2.2.1,mK hb h.2.2.2.2.2.2 h.2.2.2.1,mK hb h.2.2.2.2.2.2 h.2.2.2.2.1,mK hb h.2.2.2.2.2.2 h.2.2.2.2.2.1,Nat.lt_of_lt_of_le h.2.2.2.2.2.2 hb.size⟩
theorem six_new (w:World) (t:Tp) (T:TypeId):Six (w.alloc (.cells #[.string t.a,.string t.b,.string t.r,.string t.c,.string t.d,.string t.s] T)) w.heap.size t:=by
 refine ⟨?_,?_,?_,?_,?_,?_,?_⟩ <;> simp
theorem Six.grown {w w':World} {g:Nat} {t:Tp} {row:Option Nat} (h:Six w g t) (hg:w.grownBy w' row) (hne:some g ≠ row):Six w' g t :=
 ⟨hg.cell h.1 hne,hg.cell h.2.1 hne,hg.cell h.2.2.1 hne,hg.cell h.2.2.2.1 hne,hg.cell h.2.2.2.2.1 hne,hg.cell h.2.2.2.2.2.1 hne,Nat.lt_of_lt_of_le h.2.2.2.2.2.2 hg.size⟩
theorem ownsRow_base {W:World} {base base':Nat} {e:TypeId} {size:Nat} {v:Value} {k:Nat} {xs:List Value} (h:W.ownsRow base e size v k xs) (hb:base'≤base):W.ownsRow base' e size v k xs:=by
 refine ⟨h.1,?_⟩
 rcases h.2 with hn | ⟨g,cap,cur,hv,hbg,rest⟩
 ·exact .inl hn
 ·exact .inr ⟨g,cap,cur,hv,Nat.le_trans hb hbg,rest⟩
theorem HID {p:Prop} (h:p):Hid p:=h
end Go.Proofs.YtogjfppkbkgaeaaGreat
