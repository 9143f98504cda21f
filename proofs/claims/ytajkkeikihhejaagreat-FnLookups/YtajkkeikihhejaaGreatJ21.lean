/- Plain facts on texts: a right tuple is read out of its text, by either way of cutting; what is read out of a text has that text. Nothing of the program is read here. -/
import Derived.Test.YtajkkeikihhejaaGreatSq
import Derived.Test.YtajkkeikihhejaaGreatJ20
import Derived.Sort.Statements
open Go.Proofs.Tryz
namespace Go.Proofs.YtajkkeikihhejaaGreat.Pl
theorem NI {c:UInt8} {l m:List UInt8} (h:∀ x ∈ l,x ≠ c):iU c (l ++ c::m)=(l,m,true):=by
 induction l with
 | nil=>simp [iU]
 | cons b l ih =>
  have hb:b ≠ c:=h b (by simp);have:=ih (fun x hx=>h x (by simp [hx]));simp [iU,hb,this]
theorem Cm (c:UInt8) (s:aD):(kG c s).data.toList=(iU c s.data.toList).1:=by simp [kG]
theorem Cn (c:UInt8) (s:aD):(iL c s).data.toList=(iU c s.data.toList).2.1:=by simp [iL]
theorem Fw (a b:aD):(a ++ b).data.toList=a.data.toList ++ b.data.toList:=by simp [ByteArray.data_append]
theorem yx {c:UInt8} {s:ByteArray} {l m:List UInt8} (hs:s.data.toList=l ++ c::m) (h:∀ x ∈ l,x ≠ c):(kG c s).data.toList=l∧(iL c s).data.toList=m∧oU c s=true:=by
 rw [Cm,Cn,oU,hs,NI h]; exact ⟨rfl,rfl,rfl⟩
theorem PG {c:UInt8} {s:ByteArray} (h:∀ x ∈ s.data.toList,x ≠ c):kG c s=s∧iL c s=⟨#[]⟩∧oU c s=false:=by
 refine ⟨gI ?_,gI ?_,?_⟩
 ·rw [Cm,qY h]
 ·rw [Cn,qY h]
 rw [oU,qY h]
def NJ (l:List UInt8):Prop:=∀ x ∈ l,x ≠ 35∧x ≠ 58∧x ≠ 64
theorem Co {x:UInt8} (h:yj x=true):x ≠ 35∧x ≠ 58∧x ≠ 64:=by
 refine ⟨?_,?_,?_⟩ <;> (rintro rfl; revert h; decide)
theorem Ia {x:UInt8} (h:eF x=true):x ≠ 35∧x ≠ 58∧x ≠ 64:=Co (by simp [yj,h])
theorem qz {s:ByteArray} (h:aQ s=true):NJ s.data.toList:=by
 simp only [aQ,dK,rM,SB,SQ] at h;exact fun x hx=>Ia (h.1.2 x hx)
theorem Fx {s:ByteArray} (h:pu s=true):NJ s.data.toList:=by
 simp only [pu,dK,rM,SB,SQ] at h;exact fun x hx=>Co (h.2 x hx)
theorem sZ {a b:ByteArray} (h:eG a b=true):aQ a=true∧pu b=true:=by simpa [eG] using h
theorem uN {a b:ByteArray} (h:eG a b=true):(aA a b).data.toList=a.data.toList ++ 58::b.data.toList:=by
 rw [mJ h,Fw,Fw]; simp
theorem rY {a b:ByteArray} (h:eG a b=true):∀ x ∈ (aA a b).data.toList,x ≠ 35∧x ≠ 64:=by
 intro x hx;rw [uN h] at hx;have h1:=qz (sZ h).1;have h2:=Fx (sZ h).2;simp only [SI,List.mem_cons] at hx;rcases hx with hx | hx | hx
 ·exact ⟨(h1 x hx).1,(h1 x hx).2.2⟩
 ·subst hx; decide
 exact ⟨(h2 x hx).1,(h2 x hx).2.2⟩
theorem oW {a b:ByteArray} (h:eG a b=true):Ry (aA a b)=true∧Sm (aA a b)=a∧Sn (aA a b)=b:=by
 obtain ⟨h1,h2,-⟩:=yx (c:=58) (uN h) (fun x hx=>(qz (sZ h).1 x hx).2.1);have e1:kG 58 (aA a b)=a:=gI h1;have e2:iL 58 (aA a b)=b:=gI h2;have hb:Ry (aA a b)=true:=by rw [Ry,e1,e2]; exact h
 exact ⟨hb,by rw [(Nq hb).1,e1],by rw [(Nq hb).2,e2]⟩
def Cq (s:ByteArray):List UInt8:=if s.toList.isEmpty then [] else 35::s.data.toList
theorem DV {a b r c d s:ByteArray} (h:bF a b r c d s=true) :
  (aY a b r c d s).data.toList=(aA a b).data.toList ++ 35::(r.data.toList ++ 64::((aA c d).data.toList ++ Cq s)):=by
 by_cases hs:s.toList.isEmpty=true
 ·rw [mM h hs,Cq,if_pos hs]; simp
 have hs':s.toList.isEmpty=false:=by simpa using hs
 rw [mP h hs',Cq,if_neg hs]; simp
theorem NK {s:ByteArray} (h:s.toList.isEmpty=true):s=⟨#[]⟩:=by
 refine gI ?_;rw [Go.ByteArray.toList_eq] at h;simpa using h
theorem NL {o s x:ByteArray} (ho:∀ y ∈ o.data.toList,y ≠ 35) (hx:x.data.toList=o.data.toList ++ Cq s) :
  kG 35 x=o∧iL 35 x=s∧oU 35 x=!s.toList.isEmpty:=by
 by_cases hs:s.toList.isEmpty=true
 ·have e:x=o:=gI (by rw [hx,Cq,if_pos hs]; simp);subst e;obtain ⟨h1,h2,h3⟩:=PG (c:=35) (s:=x) ho;exact ⟨h1,by rw [h2,NK hs],by rw [h3,hs]; rfl⟩
 rw [Cq,if_neg hs] at hx;obtain ⟨h1,h2,h3⟩:=yx hx ho;have hs':s.toList.isEmpty=false:=by simpa using hs
 exact ⟨gI h1,gI h2,by rw [h3,hs']; rfl⟩
def i1 (s:ByteArray):=iL 35 s
def i2 (s:ByteArray):=iL 64 (i1 s)
theorem Aa {a b r c d t s:ByteArray} (h:bF a b r c d t=true) (hs:aY a b r c d t=s) :
  kG 35 s=aA a b∧kG 64 (i1 s)=r∧kG 35 (i2 s)=aA c d∧iL 35 (i2 s)=t:=by
 obtain ⟨h1,h2,h3,h4⟩:=jU h;have hl:=DV h;rw [hs] at hl;obtain ⟨c1,c2,-⟩:=yx hl (fun x hx=>(rY h1 x hx).1);obtain ⟨d1,d2,-⟩:=yx (s:=i1 s) c2 (fun x hx=>(qz h2 x hx).2.2);obtain ⟨e1,e2,-⟩:=NL (o:=aA c d) (s:=t) (x:=i2 s) (fun x hx=>(rY h3 x hx).1) d2;exact ⟨gI c1,gI d1,e1,e2⟩
def Ib (s a b r c d t:ByteArray) (f:Bool):Prop :=
 (f=true∧bF a b r c d t=true∧aY a b r c d t=s) ∨
 (f=false∧(a=⟨#[]⟩∧b=⟨#[]⟩∧r=⟨#[]⟩∧c=⟨#[]⟩∧d=⟨#[]⟩∧t=⟨#[]⟩)∧∀ a b r c d t,bF a b r c d t=true→aY a b r c d t ≠ s)
theorem xG {a b r c d t a' b' r' c' d' t':ByteArray} (h:bF a b r c d t=true) (h':bF a' b' r' c' d' t'=true) (e:aY a b r c d t=aY a' b' r' c' d' t') :
  a=a'∧b=b'∧r=r'∧c=c'∧d=d'∧t=t':=by
 obtain ⟨x1,x2,x3,x4⟩:=Aa h e;obtain ⟨y1,y2,y3,y4⟩:=Aa h' rfl;obtain ⟨p1,p2,p3,p4⟩:=jU h;obtain ⟨q1,q2,q3,q4⟩:=jU h';have o1:aA a b=aA a' b':=x1.symm.trans y1;have o2:aA c d=aA c' d':=x3.symm.trans y3;obtain ⟨-,u1,u2⟩:=oW p1;obtain ⟨-,v1,v2⟩:=oW q1;obtain ⟨-,u3,u4⟩:=oW p3;obtain ⟨-,v3,v4⟩:=oW q3;rw [o1] at u1 u2;rw [o2] at u3 u4;exact ⟨u1.symm.trans v1,u2.symm.trans v2,x2.symm.trans y2,u3.symm.trans v3,u4.symm.trans v4,x4.symm.trans y4⟩
theorem Ib.one {s a b r c d t a' b' r' c' d' t':ByteArray} {f f':Bool} (h:Ib s a b r c d t f) (h':Ib s a' b' r' c' d' t' f') :
  (a=a'∧b=b'∧r=r'∧c=c'∧d=d'∧t=t')∧f=f':=by
 rcases h with ⟨rfl,h1,h2⟩ | ⟨rfl,h1,h2⟩
 ·rcases h' with ⟨rfl,k1,k2⟩ | ⟨rfl,k1,k2⟩
  ·exact ⟨xG h1 k1 (h2.trans k2.symm),rfl⟩
  exact absurd h2 (k2 _ _ _ _ _ _ h1)
 rcases h' with ⟨rfl,k1,k2⟩ | ⟨rfl,k1,k2⟩
 ·exact absurd k2 (h2 _ _ _ _ _ _ k1)
 obtain ⟨rfl,rfl,rfl,rfl,rfl,rfl⟩:=h1;obtain ⟨rfl,rfl,rfl,rfl,rfl,rfl⟩:=k1;exact ⟨⟨rfl,rfl,rfl,rfl,rfl,rfl⟩,rfl⟩
end Go.Proofs.YtajkkeikihhejaaGreat.Pl
namespace Go.Proofs.YtajkkeikihhejaaGreat
open Pl
theorem Ab:∀ x y z:List UInt8,Op.bytesLess x y=true→Op.bytesLess y z=true→Op.bytesLess x z=true
 | [],_,[],h,k=>by cases ‹List UInt8› <;> simp [Op.bytesLess] at h k
 | [],_,_::_,_,_=>rfl
 | _::_,[],_,h,_=>by simp [Op.bytesLess] at h
 | _::_,_::_,[],_,k=>by simp [Op.bytesLess] at k
 | a::x,b::y,c::z,h,k=>by
  simp only [Op.bytesLess,Bool.or_eq_true,SB,SN,beq_iff_eq] at h k ⊢;rcases h with h | ⟨h,h'⟩
  ·rcases k with k | ⟨k,k'⟩
   ·exact .inl (UInt8.lt_trans h k)
   exact .inl (k ▸ h)
  rcases k with k | ⟨k,k'⟩
  ·exact .inl (h ▸ k)
  exact .inr ⟨h.trans k,Ab x y z h' k'⟩
open Go.ChangeAt Go.ChangeShapes Go.Maps Go.RowKit Go.WideShapes
def KM (x y:Tp):Bool:=x.a.toList == y.a.toList && x.b.toList == y.b.toList && x.r.toList == y.r.toList && x.c.toList == y.c.toList && x.d.toList == y.d.toList && x.s.toList == y.s.toList
theorem Fy {x y:ByteArray} (k:x.toList=y.toList):x=y:=by
 rw [Go.ByteArray.toList_eq,Go.ByteArray.toList_eq] at k;obtain ⟨x⟩:=x;obtain ⟨y⟩:=y;exact congrArg ByteArray.mk (Array.toList_inj.1 k)
theorem NM (x y:Tp) {v:Bool} (h:KM x y=v) (w:ae) :
  (binOp .eql 46 (.agg #[.string x.a,.string x.b,.string x.r,.string x.c,.string x.d,.string x.s]) (.agg #[.string y.a,.string y.b,.string y.r,.string y.c,.string y.d,.string y.s])).run prog w=.ok (.bool v) w:=by
 subst h;go_simp;unfold KM
 (repeat' split) <;> simp_all
def vZ (ts:List Tp) (t:Tp):Bool:=ts.any fun x=>KM x t
theorem KN {ts:List Tp} {t:Tp} {k:Nat} (h:k < ts.length):vZ (ts.drop k) t=(KM ts[k] t || vZ (ts.drop (k + 1)) t):=by
 rw [Te h]; rfl
def Tp.row (t:Tp):List Value:=[.string t.a,.string t.b,.string t.r,.string t.c,.string t.d,.string t.s]
def bB (ts:List Tp):List Value:=ts.flatMap Tp.row
theorem je:∀ ts:List Tp,(bB ts).length=ts.length * 6
 | []=>rfl
 | r::rs=>by have:=je rs; simp only [bB,Tp.row,List.flatMap_cons,SE,List.length_cons,List.length_nil] at this ⊢; omega
theorem uO:∀ (rs:List Tp) (i:Nat) (h:i < rs.length) (j:Nat),j < 6→(bB rs)[i * 6 + j]?=(rs[i]).row[j]?
 | [],i,h,_,_=>by simp at h
 | r::rs,0,_,j,hj=>by
  simp only [bB,List.flatMap_cons,Nat.zero_mul,Td,List.getElem_cons_zero];rw [List.getElem?_append_left (by simpa [Tp.row] using hj)]
 | r::rs,i + 1,h,j,hj=>by
  have:=uO rs i (by simpa using h) j hj;simp only [bB,List.flatMap_cons,List.getElem_cons_succ] at this ⊢;rw [List.getElem?_append_right (by simp [Tp.row]; omega),← this];congr 1;simp [Tp.row]; omega
theorem Ac (ts:List Tp) (t:Tp):bB (ts ++ [t])=bB ts ++ t.row:=by simp [bB]
theorem Ad (t:Tp):∀ u ∈ t.row,u.oneCell'=true:=by
 intro u hu;simp [Tp.row] at hu;rcases hu with rfl | rfl | rfl | rfl | rfl | rfl <;> rfl
theorem Cr (w:ae) (t:Tp):∀ j u,t.row[j]?=some u→(w.alloc (.cells #[.string t.a,.string t.b,.string t.r,.string t.c,.string t.d,.string t.s] 46)).cell? ((⟨w.heap.size,0,none⟩:Addr).add j)=some u:=by
 intro j u hu;rw [show (⟨w.heap.size,0,none⟩:Addr).add j=⟨w.heap.size,0 + j,none⟩ by simp [Addr.add]; omega,Td];have:=World.cell?_alloc_mark w #[.string t.a,.string t.b,.string t.r,.string t.c,.string t.d,.string t.s] 46 (0,0) j;rw [this];simpa [Tp.row] using hu
theorem NN {w:ae} {base n:Nat} {v:Value} {ts:List Tp} (h:w.ownsRow base 46 6 v n (bB ts)) (hn:n=ts.length):∃ ad cap,v=.slice ad ts.length cap∧Sl w ad ts∧∀ g,ad=some ⟨g,0,none⟩→base≤g∧g < w.heap.size∧jN w g:=by
 subst hn;have h2:=h;rcases h.2 with ⟨rfl,h0⟩ | ⟨g,cap,cur,rfl,hbg,hg,hnc,-⟩
 ·exact ⟨none,0,by rw [h0],.inl (SX.1 h0),fun g e=>by cases e⟩
 have hlt:=h2.lt g rfl;refine ⟨some ⟨g,0,none⟩,cap,rfl,.inr ⟨g,0,rfl,hlt.2,fun i hi=>?_⟩,fun g' e=>?_⟩
 ·have hl:=je ts;have key:∀ j,j < 6→w.cell? ⟨g,0 + i * 6 + j,none⟩=(ts[i]).row[j]?:=fun j hj=>by
   rw [h2.cellAt (0 + i * 6 + j) (by omega),← uO ts i hi j hj,Td]
  exact ⟨key 0 (by omega),key 1 (by omega),key 2 (by omega),key 3 (by omega),key 4 (by omega),key 5 (by omega)⟩
 injection e with e; injection e with e1 e2;subst e1;exact ⟨hlt.1,hlt.2,fun y=>h2.frozenAt y⟩
def Tp.text (t:Tp):List UInt8:=(aY t.a t.b t.r t.c t.d t.s).toList
theorem tq {x y:Tp} (hx:x.ok=true) (hy:y.ok=true):x.ahead y=Op.bytesLess x.text y.text:=sW hx hy
theorem Fz {x y:Tp} (h:x.ahead y=true):x.ok=true∧y.ok=true:=by
 unfold Tp.ahead fM at h;simp only [SB] at h;exact ⟨h.1.1,h.1.2⟩
theorem FB {x y z:Tp} (h:x.ahead y=true) (k:y.ahead z=true):x.ahead z=true:=by
 obtain ⟨hx,hy⟩:=Fz h;obtain ⟨-,hz⟩:=Fz k;rw [tq hx hy] at h;rw [tq hy hz] at k;rw [tq hx hz];exact Ab _ _ _ h k
def Up (l:List Tp):Prop:=l.Pairwise fun x y=>x.ahead y=true
theorem QC {ts:List Tp} (h:ed ts=true):Up ts∧(∀ t ∈ ts,t.ok=true)∧ts.length≤40:=by
 unfold ed at h;simp only [SB,SN] at h;obtain ⟨hl,hu⟩:=h;have hat:∀ i,i < ts.length→vW ts i=true:=fun i hi=>by
  unfold uL at hu;exact SQ.1 hu i (List.mem_range.2 hi)
 have hok:∀ i (hi:i < ts.length),ts[i].ok=true:=fun i hi=>by
  have:=hat i hi;cases i with
  | zero=>rw [vX hi] at this; exact this
  | succ j=>rw [q8 hi] at this; simp only [SB] at this; exact this.1
 have hnx:∀ i (hi:i + 1 < ts.length),ts[i].ahead ts[i + 1]=true:=fun i hi=>by
  have:=hat (i + 1) hi;rw [q8 hi] at this; simp only [SB] at this; exact this.2
 refine ⟨List.pairwise_iff_getElem.2 fun i j hi hj hij=>?_,fun t ht=>?_,hl⟩
 ·obtain ⟨d,rfl⟩:∃ d,j=i + 1 + d:=⟨j - (i + 1),by omega⟩
  induction d with
  | zero=>exact hnx i hj
  | succ d ih=>exact FB (ih (by omega) (by omega)) (hnx (i + 1 + d) (by omega))
 obtain ⟨i,hi,rfl⟩:=List.mem_iff_getElem.1 ht;exact hok i hi
theorem KO {ts:List Tp} (h:ed ts=true):ts.length≤40:=(QC h).2.2
def jF:List Tp→Tp→List Tp
 | [],t=>[t]
 | x::xs,t=>if x.ahead t then x::jF xs t else t::x::xs
theorem NP (ts:List Tp) (t y:Tp):y ∈ jF ts t ↔ y=t ∨ y ∈ ts:=by
 induction ts with
 | nil=>simp [jF]
 | cons x xs ih =>
  unfold jF;split
  ·simp only [List.mem_cons,ih];constructor
   ·rintro (h | h | h)
    ·exact .inr (.inl h)
    ·exact .inl h
    exact .inr (.inr h)
   rintro (h | h | h)
   ·exact .inr (.inl h)
   ·exact .inl h
   exact .inr (.inr h)
  simp
theorem Jv (ts:List Tp) (t:Tp) (k:Nat) (hk:k≤ts.length) (h1:∀ i (h:i < ts.length),i < k→ts[i].ahead t=true) (h2:∀ h:k < ts.length,ts[k].ahead t=false):jF ts t=ts.take k ++ t::ts.drop k:=by
 induction ts generalizing k with
 | nil=>simp [jF]
 | cons x xs ih =>
  cases k with
  | zero =>
   have:=h2 (by simp);simp only [List.getElem_cons_zero] at this;simp [jF,this]
  | succ k =>
   have hx:=h1 0 (by simp) (by omega);simp only [List.getElem_cons_zero] at hx;have:=ih k (by simpa using hk) (fun i hi hik=>by have:=h1 (i + 1) (by simpa using hi) (by omega); simpa using this) (fun h=>by have:=h2 (by simpa using h); simpa using this);simp [jF,hx,this]
theorem tC {w:ae} {b off:Nat} {ts:List Tp} (h:kU w b off ts):∀ j u,(bB ts)[j]?=some u→w.cell? ((⟨b,off,none⟩:Addr).add j)=some u:=by
 intro j u hu;have hl:=je ts;have hj:j < ts.length * 6:=by
  rcases Nat.lt_or_ge j (bB ts).length with h | h
  ·omega
  rw [List.getElem?_eq_none h] at hu; cases hu
 have hi:j / 6 < ts.length:=by omega
 have hr:j % 6 < 6:=Nat.mod_lt _ (by omega);have e:j=j / 6 * 6 + j % 6:=by omega
 rw [e,uO ts _ hi _ hr] at hu;rw [show ((⟨b,off,none⟩:Addr).add j)=⟨b,off + j / 6 * 6 + j % 6,none⟩ by rw [show (⟨b,off,none⟩:Addr).add j=⟨b,off + j,none⟩ by simp [Addr.add]]; congr 1; omega];obtain ⟨c0,c1,c2,c3,c4,c5⟩:=h (j / 6) hi;have h6:j % 6=0 ∨ j % 6=1 ∨ j % 6=2 ∨ j % 6=3 ∨ j % 6=4 ∨ j % 6=5:=by omega
 rcases h6 with e6 | e6 | e6 | e6 | e6 | e6 <;> rw [e6] at hu ⊢ <;> simp only [Tp.row,List.getElem?_cons_zero,List.getElem?_cons_succ] at hu <;> rw [← hu] <;> assumption
theorem Cs {w:ae} {b off:Nat} {ts:List Tp} (h:kU w b off ts) (k:Nat):kU w b off (ts.take k):=fun i hi=>by
 have:=h i (by simp at hi; omega);simpa using this
theorem KP {w:ae} {b off:Nat} {ts:List Tp} (h:kU w b off ts) (k:Nat):kU w b (off + k * 6) (ts.drop k):=fun i hi=>by
 have:=h (k + i) (by simp at hi; omega);simp only [List.getElem_drop];rw [show off + k * 6 + i * 6=off + (k + i) * 6 by omega];exact this
theorem q9 (ts:List Tp):∀ u ∈ bB ts,u.oneCell'=true:=by
 intro u hu;unfold bB at hu;obtain ⟨t,-,h⟩:=SY.1 hu;exact Ad t u h
theorem uP (xs ys:List Tp):bB (xs ++ ys)=bB xs ++ bB ys:=by simp [bB]
def tQ (w:World) (g:Nat) (t:Tp):Prop:=w.cell? ⟨g,0,none⟩=some (.string t.a)∧w.cell? ⟨g,1,none⟩=some (.string t.b)∧w.cell? ⟨g,2,none⟩=some (.string t.r)∧w.cell? ⟨g,3,none⟩=some (.string t.c)∧w.cell? ⟨g,4,none⟩=some (.string t.d)∧w.cell? ⟨g,5,none⟩=some (.string t.s)∧g < w.heap.size
theorem tQ.below {w w':ae} {g:Nat} {t:Tp} (h:tQ w g t) (hb:af w w'):tQ w' g t :=
 ⟨mK hb h.2.2.2.2.2.2 h.1,mK hb h.2.2.2.2.2.2 h.2.1,mK hb h.2.2.2.2.2.2 h.2.2.1,mK hb h.2.2.2.2.2.2 h.2.2.2.1,mK hb h.2.2.2.2.2.2 h.2.2.2.2.1,mK hb h.2.2.2.2.2.2 h.2.2.2.2.2.1,Sv h.2.2.2.2.2.2 hb.size⟩
theorem DW (w:ae) (t:Tp) (T:TypeId):tQ (w.alloc (.cells #[.string t.a,.string t.b,.string t.r,.string t.c,.string t.d,.string t.s] T)) w.heap.size t:=by
 refine ⟨?_,?_,?_,?_,?_,?_,?_⟩ <;> simp
theorem tQ.grown {w w':ae} {g:Nat} {t:Tp} {row:Option Nat} (h:tQ w g t) (hg:w.grownBy w' row) (hne:some g ≠ row):tQ w' g t :=
 ⟨hg.cell h.1 hne,hg.cell h.2.1 hne,hg.cell h.2.2.1 hne,hg.cell h.2.2.2.1 hne,hg.cell h.2.2.2.2.1 hne,hg.cell h.2.2.2.2.2.1 hne,Sv h.2.2.2.2.2.2 hg.size⟩
theorem oZ {w w':ae} {b off:Nat} {ts:List Tp} {row:Option Nat} (h:kU w b off ts) (hg:w.grownBy w' row) (_hb:b < w.heap.size) (hne:some b ≠ row):kU w' b off ts:=fun i hi=>by
 obtain ⟨c0,c1,c2,c3,c4,c5⟩:=h i hi;exact ⟨hg.cell c0 hne,hg.cell c1 hne,hg.cell c2 hne,hg.cell c3 hne,hg.cell c4 hne,hg.cell c5 hne⟩
theorem KQ {ts:List Tp} {k:Nat} (h:ts.length≤k) (w:ae) (ad:Addr):∀ j u,(bB (ts.drop k))[j]?=some u→w.cell? (ad.add j)=some u:=fun j u hu=>by
 rw [List.drop_of_length_le h] at hu;simp [bB] at hu
theorem dC {W:ae} {base base':Nat} {e:TypeId} {size:Nat} {v:Value} {k:Nat} {xs:List Value} (h:W.ownsRow base e size v k xs) (hb:base'≤base):W.ownsRow base' e size v k xs:=by
 refine ⟨h.1,?_⟩;rcases h.2 with hn | ⟨g,cap,cur,hv,hbg,rest⟩
 ·exact .inl hn
 exact .inr ⟨g,cap,cur,hv,SF hb hbg,rest⟩
theorem cO {p:Prop} (h:p):Hid p:=h
theorem NQ {w:ae} {g:Nat} {t:Tp} (h0:w.cell? ⟨g,0,none⟩=some (.string t.a)) (h1:w.cell? ⟨g,1,none⟩=some (.string t.b)) (h2:w.cell? ⟨g,2,none⟩=some (.string t.r)) (h3:w.cell? ⟨g,3,none⟩=some (.string t.c)) (h4:w.cell? ⟨g,4,none⟩=some (.string t.d)) (h5:w.cell? ⟨g,5,none⟩=some (.string t.s)) (hl:g < w.heap.size):tQ w g t:=⟨h0,h1,h2,h3,h4,h5,hl⟩
theorem Jw {w W w':ae} {b n o:Nat} {x0 x1 x2 x3 x4 x5 y0 y1 y2 y3 y4 y5:Value} (h:W.cell? ⟨b,o,none⟩=some x0∧W.cell? ⟨b,o + 1,none⟩=some x1∧W.cell? ⟨b,o + 2,none⟩=some x2∧W.cell? ⟨b,o + 3,none⟩=some x3∧W.cell? ⟨b,o + 4,none⟩=some x4∧W.cell? ⟨b,o + 5,none⟩=some x5∧W.cell? ⟨n,0,none⟩=some y0∧W.cell? ⟨n,1,none⟩=some y1∧W.cell? ⟨n,2,none⟩=some y2∧W.cell? ⟨n,3,none⟩=some y3∧W.cell? ⟨n,4,none⟩=some y4∧W.cell? ⟨n,5,none⟩=some y5∧b < W.heap.size∧n < W.heap.size∧Below n w W) (hb:af W w') :
  w'.cell? ⟨b,o,none⟩=some x0∧w'.cell? ⟨b,o + 1,none⟩=some x1∧w'.cell? ⟨b,o + 2,none⟩=some x2∧w'.cell? ⟨b,o + 3,none⟩=some x3∧w'.cell? ⟨b,o + 4,none⟩=some x4∧w'.cell? ⟨b,o + 5,none⟩=some x5∧w'.cell? ⟨n,0,none⟩=some y0∧w'.cell? ⟨n,1,none⟩=some y1∧w'.cell? ⟨n,2,none⟩=some y2∧w'.cell? ⟨n,3,none⟩=some y3∧w'.cell? ⟨n,4,none⟩=some y4∧w'.cell? ⟨n,5,none⟩=some y5∧b < w'.heap.size∧n < w'.heap.size∧Below n w w':=by
 obtain ⟨h0,h1,h2,h3,h4,h5,g0,g1,g2,g3,g4,g5,hB,hN,hw⟩:=h;exact ⟨mK hb hB h0,mK hb hB h1,mK hb hB h2,mK hb hB h3,mK hb hB h4,mK hb hB h5,mK hb hN g0,mK hb hN g1,mK hb hN g2,mK hb hN g3,mK hb hN g4,mK hb hN g5,Sv hB hb.size,Sv hN hb.size,hw.trans (hb.mono (Nat.le_of_lt hN))⟩
end Go.Proofs.YtajkkeikihhejaaGreat
