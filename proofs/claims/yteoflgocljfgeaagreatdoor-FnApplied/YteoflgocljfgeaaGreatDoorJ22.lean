/- Plain facts on texts: a right tuple is read out of its text, by either way of cutting; what is read out of a text has that text. Nothing of the program is read here. -/
import Derived.Test.YteoflgocljfgeaaGreatDoorJ21
import Derived.Sort.Statements
open Go.Proofs.Tryz
namespace Go.Proofs.YteoflgocljfgeaaGreatDoor.Pl
theorem Jm {c:UInt8} {l m:List UInt8} (h:∀ x ∈ l,x ≠ c):gD c (l ++ c::m)=(l,m,true):=by
 induction l with
 | nil=>simp [gD]
 | cons b l ih =>
  have hb:b ≠ c:=h b (by simp);have:=ih (fun x hx=>h x (by simp [hx]));simp [gD,hb,this]
theorem zu (c:UInt8) (s:ByteArray):(jq c s).data.toList=(gD c s.data.toList).1:=by simp [jq]
theorem zw (c:UInt8) (s:ByteArray):(fV c s).data.toList=(gD c s.data.toList).2.1:=by simp [fV]
theorem Cg (a b:ByteArray):(a ++ b).data.toList=a.data.toList ++ b.data.toList:=by simp [ByteArray.data_append]
theorem vw {c:UInt8} {s:ByteArray} {l m:List UInt8} (hs:s.data.toList=l ++ c::m) (h:∀ x ∈ l,x ≠ c):(jq c s).data.toList=l∧(fV c s).data.toList=m∧mD c s=true:=by
 rw [zu,zw,mD,hs,Jm h]; exact ⟨rfl,rfl,rfl⟩
theorem KX {c:UInt8} {s:ByteArray} (h:∀ x ∈ s.data.toList,x ≠ c):jq c s=s∧fV c s=⟨#[]⟩∧mD c s=false:=by
 refine ⟨eX ?_,eX ?_,?_⟩
 ·rw [zu,oV h]
 ·rw [zw,oV h]
 ·rw [mD,oV h]
def Jn (l:List UInt8):Prop:=∀ x ∈ l,x ≠ 35∧x ≠ 58∧x ≠ 64
theorem zx {x:UInt8} (h:uW x=true):x ≠ 35∧x ≠ 58∧x ≠ 64:=by
 refine ⟨?_,?_,?_⟩ <;> (rintro rfl; revert h; decide)
theorem D9 {x:UInt8} (h:dK x=true):x ≠ 35∧x ≠ 58∧x ≠ 64:=zx (by simp [uW,h])
theorem ol {s:ByteArray} (h:aU s=true):Jn s.data.toList:=by
 simp only [aU,dh,pJ,Bool.and_eq_true,List.all_eq_true] at h;exact fun x hx=>D9 (h.1.2 x hx)
theorem Ch {s:ByteArray} (h:mW s=true):Jn s.data.toList:=by
 simp only [mW,dh,pJ,Bool.and_eq_true,List.all_eq_true] at h;exact fun x hx=>zx (h.2 x hx)
theorem qF {a b:ByteArray} (h:fF a b=true):aU a=true∧mW b=true:=by simpa [fF] using h
theorem rM {a b:ByteArray} (h:fF a b=true):(aG a b).data.toList=a.data.toList ++ 58::b.data.toList:=by
 rw [nX h,Cg,Cg]; simp
theorem qg {a b:ByteArray} (h:fF a b=true):∀ x ∈ (aG a b).data.toList,x ≠ 35∧x ≠ 64:=by
 intro x hx;rw [rM h] at hx;have h1:=ol (qF h).1;have h2:=Ch (qF h).2;simp only [List.mem_append,List.mem_cons] at hx;rcases hx with hx | hx | hx
 ·exact ⟨(h1 x hx).1,(h1 x hx).2.2⟩
 ·subst hx; decide
 ·exact ⟨(h2 x hx).1,(h2 x hx).2.2⟩
theorem mG {a b:ByteArray} (h:fF a b=true):M0 (aG a b)=true∧NC (aG a b)=a∧ND (aG a b)=b:=by
 obtain ⟨h1,h2,-⟩:=vw (c:=58) (rM h) (fun x hx=>(ol (qF h).1 x hx).2.1);have e1:jq 58 (aG a b)=a:=eX h1;have e2:fV 58 (aG a b)=b:=eX h2;have hb:M0 (aG a b)=true:=by rw [M0,e1,e2]; exact h
 exact ⟨hb,by rw [(I7 hb).1,e1],by rw [(I7 hb).2,e2]⟩
def zy (s:ByteArray):List UInt8:=if s.toList.isEmpty then [] else 35::s.data.toList
theorem AJ {a b r c d s:ByteArray} (h:bB a b r c d s=true) :
  (bn a b r c d s).data.toList=(aG a b).data.toList ++ 35::(r.data.toList ++ 64::((aG c d).data.toList ++ zy s)):=by
 by_cases hs:s.toList.isEmpty=true
 ·rw [nY h hs,zy,if_pos hs]; simp
 ·have hs':s.toList.isEmpty=false:=by simpa using hs
  rw [nZ h hs',zy,if_neg hs]; simp
theorem Jo {s:ByteArray} (h:s.toList.isEmpty=true):s=⟨#[]⟩:=by
 refine eX ?_;rw [Go.ByteArray.toList_eq] at h;simpa using h
theorem Jp {o s x:ByteArray} (ho:∀ y ∈ o.data.toList,y ≠ 35) (hx:x.data.toList=o.data.toList ++ zy s) :
  jq 35 x=o∧fV 35 x=s∧mD 35 x=!s.toList.isEmpty:=by
 by_cases hs:s.toList.isEmpty=true
 ·have e:x=o:=eX (by rw [hx,zy,if_pos hs]; simp);subst e;obtain ⟨h1,h2,h3⟩:=KX (c:=35) (s:=x) ho;exact ⟨h1,by rw [h2,Jo hs],by rw [h3,hs]; rfl⟩
 ·rw [zy,if_neg hs] at hx;obtain ⟨h1,h2,h3⟩:=vw hx ho;have hs':s.toList.isEmpty=false:=by simpa using hs
  exact ⟨eX h1,eX h2,by rw [h3,hs']; rfl⟩
def i1 (s:ByteArray):=fV 35 s
def i2 (s:ByteArray):=fV 64 (i1 s)
theorem xB {a b r c d t s:ByteArray} (h:bB a b r c d t=true) (hs:bn a b r c d t=s) :
  jq 35 s=aG a b∧jq 64 (i1 s)=r∧jq 35 (i2 s)=aG c d∧fV 35 (i2 s)=t:=by
 obtain ⟨h1,h2,h3,h4⟩:=j5 h;have hl:=AJ h;rw [hs] at hl;obtain ⟨c1,c2,-⟩:=vw hl (fun x hx=>(qg h1 x hx).1);obtain ⟨d1,d2,-⟩:=vw (s:=i1 s) c2 (fun x hx=>(ol h2 x hx).2.2);obtain ⟨e1,e2,-⟩:=Jp (o:=aG c d) (s:=t) (x:=i2 s) (fun x hx=>(qg h3 x hx).1) d2;exact ⟨eX c1,eX d1,e1,e2⟩
def Ea (s a b r c d t:ByteArray) (f:Bool):Prop :=
 (f=true∧bB a b r c d t=true∧bn a b r c d t=s) ∨
 (f=false∧(a=⟨#[]⟩∧b=⟨#[]⟩∧r=⟨#[]⟩∧c=⟨#[]⟩∧d=⟨#[]⟩∧t=⟨#[]⟩)∧∀ a b r c d t,bB a b r c d t=true→bn a b r c d t ≠ s)
theorem uD {a b r c d t a' b' r' c' d' t':ByteArray} (h:bB a b r c d t=true) (h':bB a' b' r' c' d' t'=true) (e:bn a b r c d t=bn a' b' r' c' d' t') :
  a=a'∧b=b'∧r=r'∧c=c'∧d=d'∧t=t':=by
 obtain ⟨x1,x2,x3,x4⟩:=xB h e;obtain ⟨y1,y2,y3,y4⟩:=xB h' rfl;obtain ⟨p1,p2,p3,p4⟩:=j5 h;obtain ⟨q1,q2,q3,q4⟩:=j5 h';have o1:aG a b=aG a' b':=x1.symm.trans y1;have o2:aG c d=aG c' d':=x3.symm.trans y3;obtain ⟨-,u1,u2⟩:=mG p1;obtain ⟨-,v1,v2⟩:=mG q1;obtain ⟨-,u3,u4⟩:=mG p3;obtain ⟨-,v3,v4⟩:=mG q3;rw [o1] at u1 u2;rw [o2] at u3 u4;exact ⟨u1.symm.trans v1,u2.symm.trans v2,x2.symm.trans y2,u3.symm.trans v3,u4.symm.trans v4,x4.symm.trans y4⟩
theorem Ea.one {s a b r c d t a' b' r' c' d' t':ByteArray} {f f':Bool} (h:Ea s a b r c d t f) (h':Ea s a' b' r' c' d' t' f') :
  (a=a'∧b=b'∧r=r'∧c=c'∧d=d'∧t=t')∧f=f':=by
 rcases h with ⟨rfl,h1,h2⟩ | ⟨rfl,h1,h2⟩
 ·rcases h' with ⟨rfl,k1,k2⟩ | ⟨rfl,k1,k2⟩
  ·exact ⟨uD h1 k1 (h2.trans k2.symm),rfl⟩
  ·exact absurd h2 (k2 _ _ _ _ _ _ h1)
 ·rcases h' with ⟨rfl,k1,k2⟩ | ⟨rfl,k1,k2⟩
  ·exact absurd k2 (h2 _ _ _ _ _ _ k1)
  ·obtain ⟨rfl,rfl,rfl,rfl,rfl,rfl⟩:=h1;obtain ⟨rfl,rfl,rfl,rfl,rfl,rfl⟩:=k1;exact ⟨⟨rfl,rfl,rfl,rfl,rfl,rfl⟩,rfl⟩
end Go.Proofs.YteoflgocljfgeaaGreatDoor.Pl
namespace Go.Proofs.YteoflgocljfgeaaGreatDoor
open Pl
theorem uE:∀ x:List UInt8,Op.bytesLess x x=false
 | []=>rfl
 | a::x=>by simp [Op.bytesLess,uE x]
theorem xC:∀ x y z:List UInt8,Op.bytesLess x y=true→Op.bytesLess y z=true→Op.bytesLess x z=true
 | [],_,[],h,k=>by cases ‹List UInt8› <;> simp [Op.bytesLess] at h k
 | [],_,_::_,_,_=>rfl
 | _::_,[],_,h,_=>by simp [Op.bytesLess] at h
 | _::_,_::_,[],_,k=>by simp [Op.bytesLess] at k
 | a::x,b::y,c::z,h,k=>by
  simp only [Op.bytesLess,Bool.or_eq_true,Bool.and_eq_true,decide_eq_true_eq,beq_iff_eq] at h k ⊢;rcases h with h | ⟨h,h'⟩
  ·rcases k with k | ⟨k,k'⟩
   ·exact .inl (UInt8.lt_trans h k)
   ·exact .inl (k ▸ h)
  ·rcases k with k | ⟨k,k'⟩
   ·exact .inl (h ▸ k)
   ·exact .inr ⟨h.trans k,xC x y z h' k'⟩
theorem xD:∀ x y:List UInt8,x ≠ y→Op.bytesLess x y=true ∨ Op.bytesLess y x=true
 | [],[],h=>absurd rfl h
 | [],_::_,_=>.inl rfl
 | _::_,[],_=>.inr rfl
 | a::x,b::y,h=>by
  simp only [Op.bytesLess,Bool.or_eq_true,Bool.and_eq_true,decide_eq_true_eq,beq_iff_eq];by_cases e:a=b
  ·subst e;rcases xD x y (fun e=>h (by rw [e])) with k | k
   ·exact .inl (.inr ⟨rfl,k⟩)
   ·exact .inr (.inr ⟨rfl,k⟩)
  ·rcases Nat.lt_or_gt_of_ne (fun k=>e (UInt8.toNat_inj.1 k)) with k | k
   ·exact .inl (.inl k)
   ·exact .inr (.inl k)
open Go.ChangeAt Go.ChangeShapes Go.Maps Go.RowKit Go.WideShapes
def kV (x y:Tp):Bool:=x.a.toList == y.a.toList && x.b.toList == y.b.toList && x.r.toList == y.r.toList && x.c.toList == y.c.toList && x.d.toList == y.d.toList && x.s.toList == y.s.toList
theorem iy {x y:ByteArray} (k:x.toList=y.toList):x=y:=by
 rw [Go.ByteArray.toList_eq,Go.ByteArray.toList_eq] at k;obtain ⟨x⟩:=x;obtain ⟨y⟩:=y;exact congrArg ByteArray.mk (Array.toList_inj.1 k)
theorem jr {x y:Tp}:kV x y=true ↔ x=y:=by
 unfold kV;simp only [Bool.and_eq_true,beq_iff_eq];constructor
 ·rintro ⟨⟨⟨⟨⟨h0,h1⟩,h2⟩,h3⟩,h4⟩,h5⟩;obtain ⟨xa,xb,xr,xc,xd,xs⟩:=x;obtain ⟨ya,yb,yr,yc,yd,ys⟩:=y;simp only at h0 h1 h2 h3 h4 h5;rw [iy h0,iy h1,iy h2,iy h3,iy h4,iy h5]
 ·rintro rfl; simp
theorem AL (x y:Tp) {v:Bool} (h:kV x y=v) (w:World) :
  (binOp .eql 41 (.agg #[.string x.a,.string x.b,.string x.r,.string x.c,.string x.d,.string x.s]) (.agg #[.string y.a,.string y.b,.string y.r,.string y.c,.string y.d,.string y.s])).run prog w=.ok (.bool v) w:=by
 subst h;go_simp;unfold kV
 (repeat' split) <;> simp_all
theorem Eb (x y:Tp) {v:Bool} (h:(!kV x y)=v) (w:World) :
  (binOp .neq 41 (.agg #[.string x.a,.string x.b,.string x.r,.string x.c,.string x.d,.string x.s]) (.agg #[.string y.a,.string y.b,.string y.r,.string y.c,.string y.d,.string y.s])).run prog w=.ok (.bool v) w:=by
 subst h;go_simp;unfold kV
 (repeat' split) <;> simp_all
def fC (ts:List Tp) (t:Tp):Bool:=ts.any fun x=>kV x t
theorem Gs {ts:List Tp} {t:Tp} {k:Nat} (h:k < ts.length):fC (ts.drop k) t=(kV ts[k] t || fC (ts.drop (k + 1)) t):=by
 rw [List.drop_eq_getElem_cons h]; rfl
def Tp.row (t:Tp):List Value:=[.string t.a,.string t.b,.string t.r,.string t.c,.string t.d,.string t.s]
def aB (ts:List Tp):List Value:=ts.flatMap Tp.row
theorem dR:∀ ts:List Tp,(aB ts).length=ts.length * 6
 | []=>rfl
 | r::rs=>by have:=dR rs; simp only [aB,Tp.row,List.flatMap_cons,List.length_append,List.length_cons,List.length_nil] at this ⊢; omega
theorem om:∀ (rs:List Tp) (i:Nat) (h:i < rs.length) (j:Nat),j < 6→(aB rs)[i * 6 + j]?=(rs[i]).row[j]?
 | [],i,h,_,_=>by simp at h
 | r::rs,0,_,j,hj=>by
  simp only [aB,List.flatMap_cons,Nat.zero_mul,Nat.zero_add,List.getElem_cons_zero];rw [List.getElem?_append_left (by simpa [Tp.row] using hj)]
 | r::rs,i + 1,h,j,hj=>by
  have:=om rs i (by simpa using h) j hj;simp only [aB,List.flatMap_cons,List.getElem_cons_succ] at this ⊢;rw [List.getElem?_append_right (by simp [Tp.row]; omega),← this];congr 1;simp [Tp.row]; omega
theorem mH (ts:List Tp) (t:Tp):aB (ts ++ [t])=aB ts ++ t.row:=by simp [aB]
theorem oo (t:Tp):∀ u ∈ t.row,u.oneCell'=true:=by
 intro u hu;simp [Tp.row] at hu;rcases hu with rfl | rfl | rfl | rfl | rfl | rfl <;> rfl
theorem pg (w:World) (t:Tp):∀ j u,t.row[j]?=some u→(w.alloc (.cells #[.string t.a,.string t.b,.string t.r,.string t.c,.string t.d,.string t.s] 41)).cell? ((⟨w.heap.size,0,none⟩:Addr).add j)=some u:=by
 intro j u hu;rw [show (⟨w.heap.size,0,none⟩:Addr).add j=⟨w.heap.size,0 + j,none⟩ by simp [Addr.add]; omega,Nat.zero_add];have:=World.cell?_alloc_mark w #[.string t.a,.string t.b,.string t.r,.string t.c,.string t.d,.string t.s] 41 (0,0) j;rw [this];simpa [Tp.row] using hu
theorem Ff {w:World} {base n:Nat} {v:Value} {ts:List Tp} (h:w.ownsRow base 41 6 v n (aB ts)) (hn:n=ts.length):∃ ad cap,v=.slice ad ts.length cap∧Sl w ad ts∧∀ g,ad=some ⟨g,0,none⟩→base≤g∧g < w.heap.size∧iG w g:=by
 subst hn;have h2:=h;rcases h.2 with ⟨rfl,h0⟩ | ⟨g,cap,cur,rfl,hbg,hg,hnc,-⟩
 ·exact ⟨none,0,by rw [h0],.inl (List.length_eq_zero_iff.1 h0),fun g e=>by cases e⟩
 ·have hlt:=h2.lt g rfl;refine ⟨some ⟨g,0,none⟩,cap,rfl,.inr ⟨g,0,rfl,hlt.2,fun i hi=>?_⟩,fun g' e=>?_⟩
  ·have hl:=dR ts;have key:∀ j,j < 6→w.cell? ⟨g,0 + i * 6 + j,none⟩=(ts[i]).row[j]?:=fun j hj=>by
    rw [h2.cellAt (0 + i * 6 + j) (by omega),← om ts i hi j hj,Nat.zero_add]
   exact ⟨key 0 (by omega),key 1 (by omega),key 2 (by omega),key 3 (by omega),key 4 (by omega),key 5 (by omega)⟩
  ·injection e with e; injection e with e1 e2;subst e1;exact ⟨hlt.1,hlt.2,fun y=>h2.frozenAt y⟩
def bQ (ts:List Tp) (t:Tp):List Tp:=ts.filter fun x=>!kV x t
theorem Ec {ts:List Tp} {t:Tp} {k:Nat} (h:k < ts.length):bQ (ts.take (k + 1)) t=bQ (ts.take k) t ++ (if kV ts[k] t then [] else [ts[k]]):=by
 rw [List.take_succ_eq_append_getElem h];unfold bQ;rw [List.filter_append];cases e:kV ts[k] t <;> simp [e]
theorem Gt (ts:List Tp) (t:Tp) (k:Nat):(bQ (ts.take k) t).length≤k:=by
 unfold bQ;exact Nat.le_trans (List.length_filter_le _ _) (by simp; omega)
def Tp.text (t:Tp):List UInt8:=(bn t.a t.b t.r t.c t.d t.s).toList
theorem Jq {x y:Tp} (hx:x.ok=true) (hy:y.ok=true) (e:x.text=y.text):x=y:=by
 obtain ⟨h1,h2,h3,h4,h5,h6⟩:=uD hx hy (iy e);obtain ⟨xa,xb,xr,xc,xd,xs⟩:=x;obtain ⟨ya,yb,yr,yc,yd,ys⟩:=y;simp only at h1 h2 h3 h4 h5 h6;rw [h1,h2,h3,h4,h5,h6]
theorem iV {x y:Tp} (hx:x.ok=true) (hy:y.ok=true):x.ahead y=Op.bytesLess x.text y.text:=qE hx hy
theorem xE {x y:Tp} (h:x.ahead y=true):x.ok=true∧y.ok=true:=by
 unfold Tp.ahead dX at h;simp only [Bool.and_eq_true] at h;exact ⟨h.1.1,h.1.2⟩
theorem jv {x y z:Tp} (h:x.ahead y=true) (k:y.ahead z=true):x.ahead z=true:=by
 obtain ⟨hx,hy⟩:=xE h;obtain ⟨-,hz⟩:=xE k;rw [iV hx hy] at h;rw [iV hy hz] at k;rw [iV hx hz];exact xC _ _ _ h k
theorem iB (x:Tp):x.ahead x=false:=by
 cases h:x.ahead x with
 | false=>rfl
 | true=>obtain ⟨hx,-⟩:=xE h; rw [iV hx hx,uE] at h; cases h
theorem Ci {x y:Tp} (hx:x.ok=true) (hy:y.ok=true) (hne:x ≠ y):x.ahead y=true ∨ y.ahead x=true:=by
 rw [iV hx hy,iV hy hx];exact xD _ _ fun e=>hne (Jq hx hy e)
def Up (l:List Tp):Prop:=l.Pairwise fun x y=>x.ahead y=true
theorem xG {ts:List Tp} (h:dH ts=true):Up ts∧(∀ t ∈ ts,t.ok=true)∧ts.length≤40:=by
 unfold dH at h;simp only [Bool.and_eq_true,decide_eq_true_eq] at h;obtain ⟨hl,hu⟩:=h;have hat:∀ i,i < ts.length→uP ts i=true:=fun i hi=>by
  unfold rH at hu;exact List.all_eq_true.1 hu i (List.mem_range.2 hi)
 have hok:∀ i (hi:i < ts.length),ts[i].ok=true:=fun i hi=>by
  have:=hat i hi;cases i with
  | zero=>rw [oZ hi] at this; exact this
  | succ j=>rw [lD hi] at this; simp only [Bool.and_eq_true] at this; exact this.1
 have hnx:∀ i (hi:i + 1 < ts.length),ts[i].ahead ts[i + 1]=true:=fun i hi=>by
  have:=hat (i + 1) hi;rw [lD hi] at this; simp only [Bool.and_eq_true] at this; exact this.2
 refine ⟨List.pairwise_iff_getElem.2 fun i j hi hj hij=>?_,fun t ht=>?_,hl⟩
 ·obtain ⟨d,rfl⟩:∃ d,j=i + 1 + d:=⟨j - (i + 1),by omega⟩
  induction d with
  | zero=>exact hnx i hj
  | succ d ih=>exact jv (ih (by omega) (by omega)) (hnx (i + 1 + d) (by omega))
 ·obtain ⟨i,hi,rfl⟩:=List.mem_iff_getElem.1 ht;exact hok i hi
theorem Gu {ts:List Tp} (h:dH ts=true):ts.length≤40:=(xG h).2.2
theorem Ed {xs ys:List Tp} (hx:Up xs) (hy:Up ys) (h:∀ t,t ∈ xs ↔ t ∈ ys):xs=ys:=by
 have nd:∀ {l:List Tp},Up l→l.Nodup:=fun hl=>hl.imp fun {a b} hab e=>by subst e; rw [iB] at hab; cases hab
 exact List.Perm.eq_of_pairwise (le:=fun (a b:Tp)=>a.ahead b=true) (fun a b _ _ h1 h2=>by have:=jv h1 h2; rw [iB] at this; cases this) hx hy ((List.perm_ext_iff_of_nodup (nd hx) (nd hy)).2 h)
def eF:List Tp→Tp→List Tp
 | [],t=>[t]
 | x::xs,t=>if x.ahead t then x::eF xs t else t::x::xs
theorem jw (ts:List Tp) (t y:Tp):y ∈ eF ts t ↔ y=t ∨ y ∈ ts:=by
 induction ts with
 | nil=>simp [eF]
 | cons x xs ih =>
  unfold eF;split
  ·simp only [List.mem_cons,ih];constructor
   ·rintro (h | h | h)
    ·exact .inr (.inl h)
    ·exact .inl h
    ·exact .inr (.inr h)
   ·rintro (h | h | h)
    ·exact .inr (.inl h)
    ·exact .inl h
    ·exact .inr (.inr h)
  ·simp
theorem Fg {ts:List Tp} {t:Tp} (hu:Up ts) (hok:∀ x ∈ ts,x.ok=true) (ht:t.ok=true) (hn:t ∉ ts):Up (eF ts t):=by
 induction ts with
 | nil=>exact List.pairwise_singleton _ _
 | cons x xs ih =>
  obtain ⟨h1,h2⟩:=List.pairwise_cons.1 hu;unfold eF;split
  ·rename_i hx;refine List.pairwise_cons.2 ⟨fun y hy=>?_,ih h2 (fun y hy=>hok y (List.mem_cons_of_mem _ hy)) (fun hm=>hn (List.mem_cons_of_mem _ hm))⟩;rcases (jw xs t y).1 hy with rfl | hy
   ·exact hx
   ·exact h1 y hy
  ·rename_i hx;have hne:x ≠ t:=fun e=>hn (by rw [e]; exact List.mem_cons_self);have htx:t.ahead x=true:=by
    rcases Ci (hok x List.mem_cons_self) ht hne with h | h
    ·exact absurd h hx
    ·exact h
   refine List.pairwise_cons.2 ⟨fun y hy=>?_,hu⟩;rcases List.mem_cons.1 hy with rfl | hy
   ·exact htx
   ·exact jv htx (h1 y hy)
theorem AO (ts:List Tp) (t:Tp) (k:Nat) (hk:k≤ts.length) (h1:∀ i (h:i < ts.length),i < k→ts[i].ahead t=true) (h2:∀ h:k < ts.length,ts[k].ahead t=false):eF ts t=ts.take k ++ t::ts.drop k:=by
 induction ts generalizing k with
 | nil=>simp [eF]
 | cons x xs ih =>
  cases k with
  | zero =>
   have:=h2 (by simp);simp only [List.getElem_cons_zero] at this;simp [eF,this]
  | succ k =>
   have hx:=h1 0 (by simp) (by omega);simp only [List.getElem_cons_zero] at hx;have:=ih k (by simpa using hk) (fun i hi hik=>by have:=h1 (i + 1) (by simpa using hi) (by omega); simpa using this) (fun h=>by have:=h2 (by simpa using h); simpa using this);simp [eF,hx,this]
theorem iW (ts:List Tp) (t y:Tp):y ∈ bQ ts t ↔ y ∈ ts∧y ≠ t:=by
 unfold bQ;rw [List.mem_filter];have:((!kV y t)=true) ↔ y ≠ t:=by
  cases e:kV y t
  ·simp only [Bool.not_false,true_iff]; intro h; rw [jr.2 h] at e; cases e
  ·simp only [Bool.not_true,Bool.false_eq_true,false_iff,ne_eq]; intro h; exact h (jr.1 e)
 rw [this]
theorem xH {ts:List Tp} (t:Tp) (hu:Up ts):Up (bQ ts t):=List.Pairwise.filter _ hu
theorem rO {ts:List Tp} {t:Tp}:fC ts t=true ↔ t ∈ ts:=by
 unfold fC;rw [List.any_eq_true];constructor
 ·rintro ⟨x,hx,e⟩; rw [← jr.1 e]; exact hx
 ·intro h; exact ⟨t,h,jr.2 rfl⟩
theorem iX {w:World} {b off:Nat} {ts:List Tp} (h:dL w b off ts):∀ j u,(aB ts)[j]?=some u→w.cell? ((⟨b,off,none⟩:Addr).add j)=some u:=by
 intro j u hu;have hl:=dR ts;have hj:j < ts.length * 6:=by
  rcases Nat.lt_or_ge j (aB ts).length with h | h
  ·omega
  ·rw [List.getElem?_eq_none h] at hu; cases hu
 have hi:j / 6 < ts.length:=by omega
 have hr:j % 6 < 6:=Nat.mod_lt _ (by omega);have e:j=j / 6 * 6 + j % 6:=by omega
 rw [e,om ts _ hi _ hr] at hu;rw [show ((⟨b,off,none⟩:Addr).add j)=⟨b,off + j / 6 * 6 + j % 6,none⟩ by rw [show (⟨b,off,none⟩:Addr).add j=⟨b,off + j,none⟩ by simp [Addr.add]]; congr 1; omega];obtain ⟨c0,c1,c2,c3,c4,c5⟩:=h (j / 6) hi;have h6:j % 6=0 ∨ j % 6=1 ∨ j % 6=2 ∨ j % 6=3 ∨ j % 6=4 ∨ j % 6=5:=by omega
 rcases h6 with e6 | e6 | e6 | e6 | e6 | e6 <;> rw [e6] at hu ⊢ <;> simp only [Tp.row,List.getElem?_cons_zero,List.getElem?_cons_succ] at hu <;> rw [← hu] <;> assumption
theorem zz {w:World} {b off:Nat} {ts:List Tp} (h:dL w b off ts) (k:Nat):dL w b off (ts.take k):=fun i hi=>by
 have:=h i (by simp at hi; omega);simpa using this
theorem Gv {w:World} {b off:Nat} {ts:List Tp} (h:dL w b off ts) (k:Nat):dL w b (off + k * 6) (ts.drop k):=fun i hi=>by
 have:=h (k + i) (by simp at hi; omega);simp only [List.getElem_drop];rw [show off + k * 6 + i * 6=off + (k + i) * 6 by omega];exact this
theorem iY (ts:List Tp):∀ u ∈ aB ts,u.oneCell'=true:=by
 intro u hu;unfold aB at hu;obtain ⟨t,-,h⟩:=List.mem_flatMap.1 hu;exact oo t u h
theorem mI (xs ys:List Tp):aB (xs ++ ys)=aB xs ++ aB ys:=by simp [aB]
def mZ (w:World) (g:Nat) (t:Tp):Prop:=w.cell? ⟨g,0,none⟩=some (.string t.a)∧w.cell? ⟨g,1,none⟩=some (.string t.b)∧w.cell? ⟨g,2,none⟩=some (.string t.r)∧w.cell? ⟨g,3,none⟩=some (.string t.c)∧w.cell? ⟨g,4,none⟩=some (.string t.d)∧w.cell? ⟨g,5,none⟩=some (.string t.s)∧g < w.heap.size
theorem mZ.below {w w':World} {g:Nat} {t:Tp} (h:mZ w g t) (hb:Below w.heap.size w w'):mZ w' g t :=
 ⟨mK hb h.2.2.2.2.2.2 h.1,mK hb h.2.2.2.2.2.2 h.2.1,mK hb h.2.2.2.2.2.2 h.2.2.1,mK hb h.2.2.2.2.2.2 h.2.2.2.1,mK hb h.2.2.2.2.2.2 h.2.2.2.2.1,mK hb h.2.2.2.2.2.2 h.2.2.2.2.2.1,Nat.lt_of_lt_of_le h.2.2.2.2.2.2 hb.size⟩
theorem rP (w:World) (t:Tp) (T:TypeId):mZ (w.alloc (.cells #[.string t.a,.string t.b,.string t.r,.string t.c,.string t.d,.string t.s] T)) w.heap.size t:=by
 refine ⟨?_,?_,?_,?_,?_,?_,?_⟩ <;> simp
theorem mZ.grown {w w':World} {g:Nat} {t:Tp} {row:Option Nat} (h:mZ w g t) (hg:w.grownBy w' row) (hne:some g ≠ row):mZ w' g t :=
 ⟨hg.cell h.1 hne,hg.cell h.2.1 hne,hg.cell h.2.2.1 hne,hg.cell h.2.2.2.1 hne,hg.cell h.2.2.2.2.1 hne,hg.cell h.2.2.2.2.2.1 hne,Nat.lt_of_lt_of_le h.2.2.2.2.2.2 hg.size⟩
theorem mJ {w w':World} {b off:Nat} {ts:List Tp} {row:Option Nat} (h:dL w b off ts) (hg:w.grownBy w' row) (_hb:b < w.heap.size) (hne:some b ≠ row):dL w' b off ts:=fun i hi=>by
 obtain ⟨c0,c1,c2,c3,c4,c5⟩:=h i hi;exact ⟨hg.cell c0 hne,hg.cell c1 hne,hg.cell c2 hne,hg.cell c3 hne,hg.cell c4 hne,hg.cell c5 hne⟩
theorem Gw {ts:List Tp} {k:Nat} (h:ts.length≤k) (w:World) (ad:Addr):∀ j u,(aB (ts.drop k))[j]?=some u→w.cell? (ad.add j)=some u:=fun j u hu=>by
 rw [List.drop_of_length_le h] at hu;simp [aB] at hu
theorem fQ {W:World} {base base':Nat} {e:TypeId} {size:Nat} {v:Value} {k:Nat} {xs:List Value} (h:W.ownsRow base e size v k xs) (hb:base'≤base):W.ownsRow base' e size v k xs:=by
 refine ⟨h.1,?_⟩;rcases h.2 with hn | ⟨g,cap,cur,hv,hbg,rest⟩
 ·exact .inl hn
 ·exact .inr ⟨g,cap,cur,hv,Nat.le_trans hb hbg,rest⟩
theorem bG {p:Prop} (h:p):Hid p:=h
theorem Jr {w:World} {g:Nat} {t:Tp} (h0:w.cell? ⟨g,0,none⟩=some (.string t.a)) (h1:w.cell? ⟨g,1,none⟩=some (.string t.b)) (h2:w.cell? ⟨g,2,none⟩=some (.string t.r)) (h3:w.cell? ⟨g,3,none⟩=some (.string t.c)) (h4:w.cell? ⟨g,4,none⟩=some (.string t.d)) (h5:w.cell? ⟨g,5,none⟩=some (.string t.s)) (hl:g < w.heap.size):mZ w g t:=⟨h0,h1,h2,h3,h4,h5,hl⟩
theorem Fh {w W w':World} {b n o:Nat} {x0 x1 x2 x3 x4 x5 y0 y1 y2 y3 y4 y5:Value} (h:W.cell? ⟨b,o,none⟩=some x0∧W.cell? ⟨b,o + 1,none⟩=some x1∧W.cell? ⟨b,o + 2,none⟩=some x2∧W.cell? ⟨b,o + 3,none⟩=some x3∧W.cell? ⟨b,o + 4,none⟩=some x4∧W.cell? ⟨b,o + 5,none⟩=some x5∧W.cell? ⟨n,0,none⟩=some y0∧W.cell? ⟨n,1,none⟩=some y1∧W.cell? ⟨n,2,none⟩=some y2∧W.cell? ⟨n,3,none⟩=some y3∧W.cell? ⟨n,4,none⟩=some y4∧W.cell? ⟨n,5,none⟩=some y5∧b < W.heap.size∧n < W.heap.size∧Below n w W) (hb:Below W.heap.size W w') :
  w'.cell? ⟨b,o,none⟩=some x0∧w'.cell? ⟨b,o + 1,none⟩=some x1∧w'.cell? ⟨b,o + 2,none⟩=some x2∧w'.cell? ⟨b,o + 3,none⟩=some x3∧w'.cell? ⟨b,o + 4,none⟩=some x4∧w'.cell? ⟨b,o + 5,none⟩=some x5∧w'.cell? ⟨n,0,none⟩=some y0∧w'.cell? ⟨n,1,none⟩=some y1∧w'.cell? ⟨n,2,none⟩=some y2∧w'.cell? ⟨n,3,none⟩=some y3∧w'.cell? ⟨n,4,none⟩=some y4∧w'.cell? ⟨n,5,none⟩=some y5∧b < w'.heap.size∧n < w'.heap.size∧Below n w w':=by
 obtain ⟨h0,h1,h2,h3,h4,h5,g0,g1,g2,g3,g4,g5,hB,hN,hw⟩:=h;exact ⟨mK hb hB h0,mK hb hB h1,mK hb hB h2,mK hb hB h3,mK hb hB h4,mK hb hB h5,mK hb hN g0,mK hb hN g1,mK hb hN g2,mK hb hN g3,mK hb hN g4,mK hb hN g5,Nat.lt_of_lt_of_le hB hb.size,Nat.lt_of_lt_of_le hN hb.size,hw.trans (hb.mono (Nat.le_of_lt hN))⟩
end Go.Proofs.YteoflgocljfgeaaGreatDoor
