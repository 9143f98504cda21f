/- Plain functions on bytes: a text cut at the first such byte. Nothing of the program is read here. -/
import Derived.Test.YtpnjoniolfmbnaaGreatDoorJ1
import Derived.Lib.IndexMore
import Derived.Lib.IndexBytes
import Derived.Lib.Strings
import Derived.Test.YtpnjoniolfmbnaaGreatDoorAhead
import Derived.Test.YtpnjoniolfmbnaaGreatDoorRows
import Derived.Below
import Derived.WalkKit
import Derived.WalkLawsBesides
import Derived.ProofKit
import Derived.Laws.IdiomStrings
namespace Go.Proofs.YtpnjoniolfmbnaaGreatDoor.Pl
def cutL (c:UInt8):List UInt8→List UInt8 × List UInt8 × Bool
 | []=>([],[],false)
 | b::l=>if b=c then ([],l,true) else (b::(cutL c l).1,(cutL c l).2.1,(cutL c l).2.2)
theorem cutL_none {c:UInt8} {l:List UInt8} (hn:∀ x ∈ l,x ≠ c):cutL c l=(l,[],false):=by
 induction l with
 | nil=>rfl
 | cons b l ih =>
  have hb:b ≠ c:=hn b (by simp)
  have:=ih (fun x hx=>hn x (by simp [hx]))
  simp [cutL,hb,this]
def cutA (c:UInt8) (s:ByteArray):ByteArray:=⟨(cutL c s.data.toList).1.toArray⟩
def cutZ (c:UInt8) (s:ByteArray):ByteArray:=⟨(cutL c s.data.toList).2.1.toArray⟩
def cutF (c:UInt8) (s:ByteArray):Bool:=(cutL c s.data.toList).2.2
theorem ext_data {a b:ByteArray} (h:a.data.toList=b.data.toList):a=b:=by
 cases a; cases b; simp at h; simp [h]
def rdB (s:ByteArray):Bool:=objB (cutA 58 s) (cutZ 58 s)
def rdT (s:ByteArray):ByteArray:=if rdB s then cutA 58 s else ⟨#[]⟩
def rdI (s:ByteArray):ByteArray:=if rdB s then cutZ 58 s else ⟨#[]⟩
theorem rd_yes {s:ByteArray} (h:rdB s=true):rdT s=cutA 58 s∧rdI s=cutZ 58 s:=by simp [rdT,rdI,h]
end Go.Proofs.YtpnjoniolfmbnaaGreatDoor.Pl
namespace Go.Proofs.YtpnjoniolfmbnaaGreatDoor.Pl
theorem cutL_mid {c:UInt8} {l m:List UInt8} (h:∀ x ∈ l,x ≠ c):cutL c (l ++ c::m)=(l,m,true):=by
 induction l with
 | nil=>simp [cutL]
 | cons b l ih =>
  have hb:b ≠ c:=h b (by simp)
  have:=ih (fun x hx=>h x (by simp [hx]))
  simp [cutL,hb,this]
theorem cutA_list (c:UInt8) (s:ByteArray):(cutA c s).data.toList=(cutL c s.data.toList).1:=by simp [cutA]
theorem cutZ_list (c:UInt8) (s:ByteArray):(cutZ c s).data.toList=(cutL c s.data.toList).2.1:=by simp [cutZ]
theorem app_list (a b:ByteArray):(a ++ b).data.toList=a.data.toList ++ b.data.toList:=by simp [ByteArray.data_append]
theorem cut_mid {c:UInt8} {s:ByteArray} {l m:List UInt8} (hs:s.data.toList=l ++ c::m) (h:∀ x ∈ l,x ≠ c):(cutA c s).data.toList=l∧(cutZ c s).data.toList=m∧cutF c s=true:=by
 rw [cutA_list,cutZ_list,cutF,hs,cutL_mid h]; exact ⟨rfl,rfl,rfl⟩
theorem cut_not {c:UInt8} {s:ByteArray} (h:∀ x ∈ s.data.toList,x ≠ c):cutA c s=s∧cutZ c s=⟨#[]⟩∧cutF c s=false:=by
 refine ⟨ext_data ?_,ext_data ?_,?_⟩
 ·rw [cutA_list,cutL_none h]
 ·rw [cutZ_list,cutL_none h]
 ·rw [cutF,cutL_none h]
def plainB (l:List UInt8):Prop:=∀ x ∈ l,x ≠ 35∧x ≠ 58∧x ≠ 64
theorem idB_plain {x:UInt8} (h:idB x=true):x ≠ 35∧x ≠ 58∧x ≠ 64:=by
 refine ⟨?_,?_,?_⟩ <;> (rintro rfl; revert h; decide)
theorem letB_plain {x:UInt8} (h:letB x=true):x ≠ 35∧x ≠ 58∧x ≠ 64:=idB_plain (by simp [idB,h])
theorem nameB_plain {s:ByteArray} (h:nameB s=true):plainB s.data.toList:=by
 simp only [nameB,signsB,allB,Bool.and_eq_true,List.all_eq_true] at h
 exact fun x hx=>letB_plain (h.1.2 x hx)
theorem isIdB_plain {s:ByteArray} (h:isIdB s=true):plainB s.data.toList:=by
 simp only [isIdB,signsB,allB,Bool.and_eq_true,List.all_eq_true] at h
 exact fun x hx=>idB_plain (h.2 x hx)
theorem objB_parts {a b:ByteArray} (h:objB a b=true):nameB a=true∧isIdB b=true:=by simpa [objB] using h
theorem objText_list {a b:ByteArray} (h:objB a b=true):(objText a b).data.toList=a.data.toList ++ 58::b.data.toList:=by
 rw [objText_yes h,app_list,app_list]; simp
theorem objText_plain {a b:ByteArray} (h:objB a b=true):∀ x ∈ (objText a b).data.toList,x ≠ 35∧x ≠ 64:=by
 intro x hx
 rw [objText_list h] at hx
 have h1:=nameB_plain (objB_parts h).1
 have h2:=isIdB_plain (objB_parts h).2
 simp only [List.mem_append,List.mem_cons] at hx
 rcases hx with hx | hx | hx
 ·exact ⟨(h1 x hx).1,(h1 x hx).2.2⟩
 ·subst hx; decide
 ·exact ⟨(h2 x hx).1,(h2 x hx).2.2⟩
theorem rd_objText {a b:ByteArray} (h:objB a b=true):rdB (objText a b)=true∧rdT (objText a b)=a∧rdI (objText a b)=b:=by
 obtain ⟨h1,h2,-⟩:=cut_mid (c:=58) (objText_list h) (fun x hx=>(nameB_plain (objB_parts h).1 x hx).2.1)
 have e1:cutA 58 (objText a b)=a:=ext_data h1
 have e2:cutZ 58 (objText a b)=b:=ext_data h2
 have hb:rdB (objText a b)=true:=by rw [rdB,e1,e2]; exact h
 exact ⟨hb,by rw [(rd_yes hb).1,e1],by rw [(rd_yes hb).2,e2]⟩
def tailT (s:ByteArray):List UInt8:=if s.toList.isEmpty then [] else 35::s.data.toList
theorem tupText_list {a b r c d s:ByteArray} (h:tupB a b r c d s=true) :
  (tupText a b r c d s).data.toList=(objText a b).data.toList ++ 35::(r.data.toList ++ 64::((objText c d).data.toList ++ tailT s)):=by
 by_cases hs:s.toList.isEmpty=true
 ·rw [tupText_one h hs,tailT,if_pos hs]; simp
 ·have hs':s.toList.isEmpty=false:=by simpa using hs
  rw [tupText_two h hs',tailT,if_neg hs]; simp
theorem empty_of {s:ByteArray} (h:s.toList.isEmpty=true):s=⟨#[]⟩:=by
 refine ext_data ?_
 rw [Go.ByteArray.toList_eq] at h
 simpa using h
theorem cut_tail {o s x:ByteArray} (ho:∀ y ∈ o.data.toList,y ≠ 35) (hx:x.data.toList=o.data.toList ++ tailT s) :
  cutA 35 x=o∧cutZ 35 x=s∧cutF 35 x=!s.toList.isEmpty:=by
 by_cases hs:s.toList.isEmpty=true
 ·have e:x=o:=ext_data (by rw [hx,tailT,if_pos hs]; simp)
  subst e
  obtain ⟨h1,h2,h3⟩:=cut_not (c:=35) (s:=x) ho
  exact ⟨h1,by rw [h2,empty_of hs],by rw [h3,hs]; rfl⟩
 ·rw [tailT,if_neg hs] at hx
  obtain ⟨h1,h2,h3⟩:=cut_mid hx ho
  have hs':s.toList.isEmpty=false:=by simpa using hs
  exact ⟨ext_data h1,ext_data h2,by rw [h3,hs']; rfl⟩
def sR (s:ByteArray):=cutZ 64 s
def i1 (s:ByteArray):=cutZ 35 s
def i2 (s:ByteArray):=cutZ 64 (i1 s)
theorem impl_reads {a b r c d t s:ByteArray} (h:tupB a b r c d t=true) (hs:tupText a b r c d t=s) :
  cutA 35 s=objText a b∧cutA 64 (i1 s)=r∧cutA 35 (i2 s)=objText c d∧cutZ 35 (i2 s)=t:=by
 obtain ⟨h1,h2,h3,h4⟩:=tupB_parts h
 have hl:=tupText_list h
 rw [hs] at hl
 obtain ⟨c1,c2,-⟩:=cut_mid hl (fun x hx=>(objText_plain h1 x hx).1)
 obtain ⟨d1,d2,-⟩:=cut_mid (s:=i1 s) c2 (fun x hx=>(nameB_plain h2 x hx).2.2)
 obtain ⟨e1,e2,-⟩:=cut_tail (o:=objText c d) (s:=t) (x:=i2 s) (fun x hx=>(objText_plain h3 x hx).1) d2
 exact ⟨ext_data c1,ext_data d1,e1,e2⟩
def ReadAs (s a b r c d t:ByteArray) (f:Bool):Prop :=
 (f=true∧tupB a b r c d t=true∧tupText a b r c d t=s) ∨
 (f=false∧(a=⟨#[]⟩∧b=⟨#[]⟩∧r=⟨#[]⟩∧c=⟨#[]⟩∧d=⟨#[]⟩∧t=⟨#[]⟩)∧∀ a b r c d t,tupB a b r c d t=true→tupText a b r c d t ≠ s)
theorem tupText_inj {a b r c d t a' b' r' c' d' t':ByteArray} (h:tupB a b r c d t=true) (h':tupB a' b' r' c' d' t'=true) (e:tupText a b r c d t=tupText a' b' r' c' d' t') :
  a=a'∧b=b'∧r=r'∧c=c'∧d=d'∧t=t':=by
 obtain ⟨x1,x2,x3,x4⟩:=impl_reads h e
 obtain ⟨y1,y2,y3,y4⟩:=impl_reads h' rfl
 obtain ⟨p1,p2,p3,p4⟩:=tupB_parts h
 obtain ⟨q1,q2,q3,q4⟩:=tupB_parts h'
 have o1:objText a b=objText a' b':=x1.symm.trans y1
 have o2:objText c d=objText c' d':=x3.symm.trans y3
 obtain ⟨-,u1,u2⟩:=rd_objText p1
 obtain ⟨-,v1,v2⟩:=rd_objText q1
 obtain ⟨-,u3,u4⟩:=rd_objText p3
 obtain ⟨-,v3,v4⟩:=rd_objText q3
 rw [o1] at u1 u2
 rw [o2] at u3 u4
 exact ⟨u1.symm.trans v1,u2.symm.trans v2,x2.symm.trans y2,u3.symm.trans v3,u4.symm.trans v4,x4.symm.trans y4⟩
theorem ReadAs.one {s a b r c d t a' b' r' c' d' t':ByteArray} {f f':Bool} (h:ReadAs s a b r c d t f) (h':ReadAs s a' b' r' c' d' t' f') :
  (a=a'∧b=b'∧r=r'∧c=c'∧d=d'∧t=t')∧f=f':=by
 rcases h with ⟨rfl,h1,h2⟩ | ⟨rfl,h1,h2⟩
 ·rcases h' with ⟨rfl,k1,k2⟩ | ⟨rfl,k1,k2⟩
  ·exact ⟨tupText_inj h1 k1 (h2.trans k2.symm),rfl⟩
  ·exact absurd h2 (k2 _ _ _ _ _ _ h1)
 ·rcases h' with ⟨rfl,k1,k2⟩ | ⟨rfl,k1,k2⟩
  ·exact absurd k2 (h2 _ _ _ _ _ _ k1)
  ·obtain ⟨rfl,rfl,rfl,rfl,rfl,rfl⟩:=h1
   obtain ⟨rfl,rfl,rfl,rfl,rfl,rfl⟩:=k1
   exact ⟨⟨rfl,rfl,rfl,rfl,rfl,rfl⟩,rfl⟩
end Go.Proofs.YtpnjoniolfmbnaaGreatDoor.Pl
namespace Go.Proofs.YtpnjoniolfmbnaaGreatDoor
open Pl
theorem less_irrefl:∀ x:List UInt8,Op.bytesLess x x=false
 | []=>rfl
 | a::x=>by simp [Op.bytesLess,less_irrefl x]
theorem less_trans:∀ x y z:List UInt8,Op.bytesLess x y=true→Op.bytesLess y z=true→Op.bytesLess x z=true
 | [],_,[],h,k=>by cases ‹List UInt8› <;> simp [Op.bytesLess] at h k
 | [],_,_::_,_,_=>rfl
 | _::_,[],_,h,_=>by simp [Op.bytesLess] at h
 | _::_,_::_,[],_,k=>by simp [Op.bytesLess] at k
 | a::x,b::y,c::z,h,k=>by
  simp only [Op.bytesLess,Bool.or_eq_true,Bool.and_eq_true,decide_eq_true_eq,beq_iff_eq] at h k ⊢
  rcases h with h | ⟨h,h'⟩
  ·rcases k with k | ⟨k,k'⟩
   ·exact .inl (UInt8.lt_trans h k)
   ·exact .inl (k ▸ h)
  ·rcases k with k | ⟨k,k'⟩
   ·exact .inl (h ▸ k)
   ·exact .inr ⟨h.trans k,less_trans x y z h' k'⟩
theorem less_total:∀ x y:List UInt8,x ≠ y→Op.bytesLess x y=true ∨ Op.bytesLess y x=true
 | [],[],h=>absurd rfl h
 | [],_::_,_=>.inl rfl
 | _::_,[],_=>.inr rfl
 | a::x,b::y,h=>by
  simp only [Op.bytesLess,Bool.or_eq_true,Bool.and_eq_true,decide_eq_true_eq,beq_iff_eq]
  by_cases e:a=b
  ·subst e
   rcases less_total x y (fun e=>h (by rw [e])) with k | k
   ·exact .inl (.inr ⟨rfl,k⟩)
   ·exact .inr (.inr ⟨rfl,k⟩)
  ·rcases Nat.lt_or_gt_of_ne (fun k=>e (UInt8.toNat_inj.1 k)) with k | k
   ·exact .inl (.inl k)
   ·exact .inr (.inl k)
end Go.Proofs.YtpnjoniolfmbnaaGreatDoor
namespace Go.Proofs.YtpnjoniolfmbnaaGreatDoor
open Go.ChangeShapes Go.WideShapes Go.ChangeAt Go.RowKit
theorem mO {w:World} {g i j:Nat} {v:Value} (h:i ≠ j):(w.setCell ⟨g,i,none⟩ v).cell? ⟨g,j,none⟩=w.cell? ⟨g,j,none⟩:=by
 apply World.cell?_setCell_other
 intro e
 exact h (congrArg Addr.off e)
theorem mS {w:World} {a:Addr} {v u:Value} (h:w.cell? a=some u):(w.setCell a v).cell? a=some v:=by
 apply World.cell?_setCell_same; exact h
theorem mK {W w1:World} {n o:Nat} {v:Value} (hb:Below W.heap.size W w1) (hn:n < W.heap.size) (h:W.cell? ⟨n,o,none⟩=some v):w1.cell? ⟨n,o,none⟩=some v:=by
 rw [hb.cell (p:=⟨n,o,none⟩) hn]; exact h
theorem mF {W w1:World} {n o:Nat} (hb:Below W.heap.size W w1) (hn:n < W.heap.size) (h:W.frozen? ⟨n,o,none⟩=false):w1.frozen? ⟨n,o,none⟩=false:=by
 rw [hb.frozen (p:=⟨n,o,none⟩) hn]; exact h
def Free (w:World) (g:Nat):Prop:=∀ j,w.frozen? ⟨g,j,none⟩=false
structure Chg (S:Nat→Prop) (w w':World):Prop where
 base:Below 0 w w'
 block:∀ k,k < w.heap.size→¬ S k→w'.heap[k]?=w.heap[k]?
 free:∀ g,g < w.heap.size→Free w g→Free w' g
theorem Chg.refl (S:Nat→Prop) (w:World):Chg S w w:=⟨Below.refl _ _,fun _ _ _=>rfl,fun _ _ h=>h⟩
theorem Chg.size {S:Nat→Prop} {w w':World} (h:Chg S w w'):w.heap.size≤w'.heap.size:=h.base.size
theorem Chg.trans {S:Nat→Prop} {a b c:World} (h:Chg S a b) (k:Chg S b c):Chg S a c :=
 ⟨h.base.trans k.base,fun i hi hs=>(k.block i (Nat.lt_of_lt_of_le hi h.size) hs).trans (h.block i hi hs),fun g hg hf=>k.free g (Nat.lt_of_lt_of_le hg h.size) (h.free g hg hf)⟩
theorem Chg.mono {S T:Nat→Prop} {a b:World} (h:Chg S a b) (hs:∀ g,S g→T g):Chg T a b :=
 ⟨h.base,fun i hi hn=>h.block i hi fun e=>hn (hs i e),h.free⟩
theorem Chg.of {S:Nat→Prop} {w w':World} (h:Below w.heap.size w w'):Chg S w w' :=
 ⟨h.mono (Nat.zero_le _),fun k hk _=>h.block k hk,fun g hg hf j=>by rw [h.frozen (p:=⟨g,j,none⟩) hg]; exact hf j⟩
theorem Chg.set {S:Nat→Prop} {w:World} {g j:Nat} (v:Value) (hs:S g):Chg S w (w.setCell ⟨g,j,none⟩ v) :=
 ⟨(Below.refl 0 w).setCell (Nat.zero_le _) v,fun k _ hk=>Below.heap_setCell _ _ _ _ (fun e=>hk (by rw [e]; exact hs)),fun g' _ hf j'=>by simpa using hf j'⟩
theorem Chg.below {S:Nat→Prop} {w w':World} {m:Nat} (h:Chg S w w') (hm:∀ g,S g→m≤g) (hw:m≤w.heap.size):Below m w w' :=
 ⟨h.base.os,h.base.tape,h.base.output,h.base.size,fun k hk=>h.block k (Nat.lt_of_lt_of_le hk hw) fun e=>by have:=hm k e; omega⟩
theorem Chg.cell {S:Nat→Prop} {w w':World} (h:Chg S w w') {g o:Nat} (hg:g < w.heap.size) (hs:¬ S g):w'.cell? ⟨g,o,none⟩=w.cell? ⟨g,o,none⟩:=by
 have:=h.block g hg hs
 unfold World.cell?
 simp only [this]
def dgs (k:Nat) (o:ByteArray):ByteArray:=if _h:k=0 then o else dgs (k / 10) (⟨#[UInt8.ofNat (48 + k % 10)]⟩ ++ o)
def mtx (k:Nat):ByteArray:=⟨#[109]⟩ ++ dgs k ⟨#[]⟩
theorem dgs_zero (o:ByteArray):dgs 0 o=o:=by rw [dgs,dif_pos rfl]
theorem dgs_step {k:Nat} (h:0 < k) (o:ByteArray):dgs k o=dgs (k / 10) (⟨#[UInt8.ofNat (48 + k % 10)]⟩ ++ o):=by
 rw [dgs,dif_neg (Nat.ne_of_gt h)]
set_option maxRecDepth 8000 in
set_option maxHeartbeats 1000000 in
theorem markText_any (k:Nat) (w:World) (h0:0 < k) (h1:k≤1000000000) :
  Calls Tryz.prog 48 #[.int .i64 (k:Int)] w fun e w'=>e=.returned (.string (mtx k))∧Below w.heap.size w w':=by
 have hk0:¬ (k:Int)≤0:=by omega
 go_enter Tryz.func48,Tryz.ntmps48
 go_wp2
 go_loopw [0,3] (fun kv ov wr=>∃ (x:Nat) (o:ByteArray),kv=.int .i64 (x:Int)∧ov=.string o∧Hid (dgs x o=dgs k ⟨#[]⟩)∧x * 10 ^ o.size≤k∧x≤k∧(x=0→o.size≤12)∧Hid (Below w.heap.size w wr)) (fun kv _ _=>(intOf kv).toNat)
 case atStart=>exact ⟨k,⟨#[]⟩,rfl,rfl,rfl,(Nat.le_of_eq (Nat.mul_one k):k * 10 ^ 0≤k),Nat.le_refl _,fun _=>Nat.zero_le _,Below.refl _ _⟩
 case round =>
  obtain ⟨x,o,rfl,rfl,HD,hx,hxk,hz,HB⟩:=hrel
  by_cases hpos:0 < x
  ·have hsz:o.size≤9:=by
    rcases Nat.lt_or_ge 9 o.size with h | h
    ·have:10 ^ 10≤10 ^ o.size:=Nat.pow_le_pow_right (by omega) h
     have h2:1 * 10 ^ o.size≤x * 10 ^ o.size:=Nat.mul_le_mul_right _ hpos
     omega
    ·exact h
   have hx0:(0:Int) < (x:Int):=by omega
   obtain ⟨dd,hdd⟩:∃ dd:UInt8,dd=UInt8.ofNat (48 + x % 10):=⟨_,rfl⟩
   have hbt:(48 + (x:Int) % 10)=((dd).toNat:Int):=by
    rw [hdd,UInt8.toNat_ofNat']; omega
   have HCV:(convert 22 9 (.slice (some ⟨wr.heap.size,0,none⟩) 1 1)).run Tryz.prog (wr.alloc (.cells #[.int .u8 (48 + (x:Int) % 10)] 5))=.ok (.string ⟨#[dd]⟩) (wr.alloc (.cells #[.int .u8 (48 + (x:Int) % 10)] 5)) :=
    run_convert_bytes_back _ 22 9 5 ⟨wr.heap.size,0,none⟩ 1 [dd] Tryz.underlying22 Tryz.underlying5 Tryz.underlying9 (fun j hj=>by
     have:j=0:=by simpa using hj
     subst this
     rw [hbt]
     exact World.cell?_alloc_mark wr #[.int .u8 ((dd).toNat:Int)] 5 (0,0) 0)
   have HBT:Hid ((48 + (x:Int) % 10)=((dd).toNat:Int)):=hbt
   have hone:(⟨#[dd]⟩:ByteArray).size=1:=rfl
   have HD2:Hid (dgs (x / 10) (⟨#[dd]⟩ ++ o)=dgs k ⟨#[]⟩):=by show _=_; rw [← HD.out]; rw [hdd]; exact (dgs_step hpos o).symm
   have HX2:Hid (x / 10 * 10 ^ ((⟨#[dd]⟩ ++ o:ByteArray)).size≤k):=by
    show _≤_
    rw [ByteArray.size_append,hone,Nat.add_comm,Nat.pow_succ]
    have:x / 10 * (10 ^ o.size * 10)=(x / 10 * 10) * 10 ^ o.size:=by rw [Nat.mul_comm (10 ^ o.size),Nat.mul_assoc]
    rw [this]
    exact Nat.le_trans (Nat.mul_le_mul_right _ (by omega)) hx
   have HZ2:Hid ((⟨#[dd]⟩ ++ o:ByteArray).size≤12):=by show _≤_; rw [ByteArray.size_append,hone]; omega
   have HB2:Hid (Below w.heap.size w (wr.alloc (.cells #[.int .u8 (48 + (x:Int) % 10)] 5))):=HB.out.alloc HB.out.size _
   have HQ:Hid ((x:Int) / 10=((x / 10:Nat):Int)):=by show _=_; omega
   clear hbt hone hdd
   go_wp2
   go_roundw
   case rel=>exact ⟨x / 10,_,congrArg (Value.int .i64) HQ.out,rfl,HD2,HX2.out,by omega,fun _=>HZ2.out,HB2⟩
   case measure=>simp [intOf]; omega
  ·obtain rfl:x=0:=by omega
   have hz2:=hz rfl
   have HN:Hid (mtx k=⟨#[109]⟩ ++ o):=by show _=_; unfold mtx; rw [← HD.out,dgs_zero]
   have hx0:¬ (0:Int) < ((0:Nat):Int):=by omega
   go_wp2
   go_ret
   exact ⟨by rw [HN.out]; rfl,HB.out⟩
theorem markText_at (x:Int) (k:Nat) (w:World) (hx:x=(k:Int)) (h0:0 < k) (h1:k≤1000000000) :
  Calls Tryz.prog 48 #[.int .i64 x] w fun e w'=>e=.returned (.string (mtx k))∧Below w.heap.size w w':=by
 rw [hx]; exact markText_any k w h0 h1
end Go.Proofs.YtpnjoniolfmbnaaGreatDoor
