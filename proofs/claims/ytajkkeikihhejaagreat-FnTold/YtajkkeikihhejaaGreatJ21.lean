/- Plain facts on texts: a right tuple is read out of its text, by either way of cutting; what is read out of a text has that text. Nothing of the program is read here. -/
import Derived.Test.YtajkkeikihhejaaGreatSq
import Derived.Test.YtajkkeikihhejaaGreatJ20
import Derived.Sort.Statements
open Go.Proofs.Tryz
namespace Go.Proofs.YtajkkeikihhejaaGreat.Pl
theorem OC {c:UInt8} {l m:List UInt8} (h:∀ x ∈ l,x ≠ c):iV c (l ++ c::m)=(l,m,true):=by
 induction l with
 | nil=>simp [iV]
 | cons b l ih =>
  have hb:b ≠ c:=h b (by simp);have:=ih (fun x hx=>h x (by simp [hx]));simp [iV,hb,this]
theorem CV (c:UInt8) (s:bH):(kz c s).data.toList=(iV c s.data.toList).1:=by simp [kz]
theorem CW (c:UInt8) (s:bH):(iL c s).data.toList=(iV c s.data.toList).2.1:=by simp [iL]
theorem Gb (a b:bH):(a ++ b).data.toList=a.data.toList ++ b.data.toList:=by simp [ByteArray.data_append]
theorem yK {c:UInt8} {s:ByteArray} {l m:List UInt8} (hs:s.data.toList=l ++ c::m) (h:∀ x ∈ l,x ≠ c):(kz c s).data.toList=l∧(iL c s).data.toList=m∧o9 c s=true:=by
 rw [CV,CW,o9,hs,OC h]; exact ⟨rfl,rfl,rfl⟩
theorem QB {c:UInt8} {s:ByteArray} (h:∀ x ∈ s.data.toList,x ≠ c):kz c s=s∧iL c s=⟨#[]⟩∧o9 c s=false:=by
 refine ⟨gI ?_,gI ?_,?_⟩
 ·rw [CV,rD h]
 ·rw [CW,rD h]
 rw [o9,rD h]
def OD (l:List UInt8):Prop:=∀ x ∈ l,x ≠ 35∧x ≠ 58∧x ≠ 64
theorem CX {x:UInt8} (h:yD x=true):x ≠ 35∧x ≠ 58∧x ≠ 64:=by
 refine ⟨?_,?_,?_⟩ <;> (rintro rfl; revert h; decide)
theorem I6 {x:UInt8} (h:eH x=true):x ≠ 35∧x ≠ 58∧x ≠ 64:=CX (by simp [yD,h])
theorem qG {s:ByteArray} (h:aP s=true):OD s.data.toList:=by
 simp only [aP,dL,rT,TU,Ub] at h;exact fun x hx=>I6 (h.1.2 x hx)
theorem Gc {s:ByteArray} (h:pM s=true):OD s.data.toList:=by
 simp only [pM,dL,rT,TU,Ub] at h;exact fun x hx=>CX (h.2 x hx)
theorem tJ {a b:ByteArray} (h:eT a b=true):aP a=true∧pM b=true:=by simpa [eT] using h
theorem uT {a b:ByteArray} (h:eT a b=true):(aB a b).data.toList=a.data.toList ++ 58::b.data.toList:=by
 rw [mP h,Gb,Gb]; simp
theorem su {a b:ByteArray} (h:eT a b=true):∀ x ∈ (aB a b).data.toList,x ≠ 35∧x ≠ 64:=by
 intro x hx;rw [uT h] at hx;have h1:=qG (tJ h).1;have h2:=Gc (tJ h).2;simp only [Uc,List.mem_cons] at hx;rcases hx with hx | hx | hx
 ·exact ⟨(h1 x hx).1,(h1 x hx).2.2⟩
 ·subst hx; decide
 exact ⟨(h2 x hx).1,(h2 x hx).2.2⟩
theorem pq {a b:ByteArray} (h:eT a b=true):S9 (aB a b)=true∧TJ (aB a b)=a∧TK (aB a b)=b:=by
 obtain ⟨h1,h2,-⟩:=yK (c:=58) (uT h) (fun x hx=>(qG (tJ h).1 x hx).2.1);have e1:kz 58 (aB a b)=a:=gI h1;have e2:iL 58 (aB a b)=b:=gI h2;have hb:S9 (aB a b)=true:=by rw [S9,e1,e2]; exact h
 exact ⟨hb,by rw [(Oh hb).1,e1],by rw [(Oh hb).2,e2]⟩
def CY (s:ByteArray):List UInt8:=if s.toList.isEmpty then [] else 35::s.data.toList
theorem Ew {a b r c d s:ByteArray} (h:bI a b r c d s=true) :
  (aX a b r c d s).data.toList=(aB a b).data.toList ++ 35::(r.data.toList ++ 64::((aB c d).data.toList ++ CY s)):=by
 by_cases hs:s.toList.isEmpty=true
 ·rw [mQ h hs,CY,if_pos hs]; simp
 have hs':s.toList.isEmpty=false:=by simpa using hs
 rw [mR h hs',CY,if_neg hs]; simp
theorem OE {s:ByteArray} (h:s.toList.isEmpty=true):s=⟨#[]⟩:=by
 refine gI ?_;rw [Go.ByteArray.toList_eq] at h;simpa using h
theorem OG {o s x:ByteArray} (ho:∀ y ∈ o.data.toList,y ≠ 35) (hx:x.data.toList=o.data.toList ++ CY s) :
  kz 35 x=o∧iL 35 x=s∧o9 35 x=!s.toList.isEmpty:=by
 by_cases hs:s.toList.isEmpty=true
 ·have e:x=o:=gI (by rw [hx,CY,if_pos hs]; simp);subst e;obtain ⟨h1,h2,h3⟩:=QB (c:=35) (s:=x) ho;exact ⟨h1,by rw [h2,OE hs],by rw [h3,hs]; rfl⟩
 rw [CY,if_neg hs] at hx;obtain ⟨h1,h2,h3⟩:=yK hx ho;have hs':s.toList.isEmpty=false:=by simpa using hs
 exact ⟨gI h1,gI h2,by rw [h3,hs']; rfl⟩
def i1 (s:ByteArray):=iL 35 s
def i2 (s:ByteArray):=iL 64 (i1 s)
theorem Am {a b r c d t s:ByteArray} (h:bI a b r c d t=true) (hs:aX a b r c d t=s) :
  kz 35 s=aB a b∧kz 64 (i1 s)=r∧kz 35 (i2 s)=aB c d∧iL 35 (i2 s)=t:=by
 obtain ⟨h1,h2,h3,h4⟩:=jU h;have hl:=Ew h;rw [hs] at hl;obtain ⟨c1,c2,-⟩:=yK hl (fun x hx=>(su h1 x hx).1);obtain ⟨d1,d2,-⟩:=yK (s:=i1 s) c2 (fun x hx=>(qG h2 x hx).2.2);obtain ⟨e1,e2,-⟩:=OG (o:=aB c d) (s:=t) (x:=i2 s) (fun x hx=>(su h3 x hx).1) d2;exact ⟨gI c1,gI d1,e1,e2⟩
def I7 (s a b r c d t:ByteArray) (f:Bool):Prop :=
 (f=true∧bI a b r c d t=true∧aX a b r c d t=s) ∨
 (f=false∧(a=⟨#[]⟩∧b=⟨#[]⟩∧r=⟨#[]⟩∧c=⟨#[]⟩∧d=⟨#[]⟩∧t=⟨#[]⟩)∧∀ a b r c d t,bI a b r c d t=true→aX a b r c d t ≠ s)
theorem xU {a b r c d t a' b' r' c' d' t':ByteArray} (h:bI a b r c d t=true) (h':bI a' b' r' c' d' t'=true) (e:aX a b r c d t=aX a' b' r' c' d' t') :
  a=a'∧b=b'∧r=r'∧c=c'∧d=d'∧t=t':=by
 obtain ⟨x1,x2,x3,x4⟩:=Am h e;obtain ⟨y1,y2,y3,y4⟩:=Am h' rfl;obtain ⟨p1,p2,p3,p4⟩:=jU h;obtain ⟨q1,q2,q3,q4⟩:=jU h';have o1:aB a b=aB a' b':=x1.symm.trans y1;have o2:aB c d=aB c' d':=x3.symm.trans y3;obtain ⟨-,u1,u2⟩:=pq p1;obtain ⟨-,v1,v2⟩:=pq q1;obtain ⟨-,u3,u4⟩:=pq p3;obtain ⟨-,v3,v4⟩:=pq q3;rw [o1] at u1 u2;rw [o2] at u3 u4;exact ⟨u1.symm.trans v1,u2.symm.trans v2,x2.symm.trans y2,u3.symm.trans v3,u4.symm.trans v4,x4.symm.trans y4⟩
theorem I7.one {s a b r c d t a' b' r' c' d' t':ByteArray} {f f':Bool} (h:I7 s a b r c d t f) (h':I7 s a' b' r' c' d' t' f') :
  (a=a'∧b=b'∧r=r'∧c=c'∧d=d'∧t=t')∧f=f':=by
 rcases h with ⟨rfl,h1,h2⟩ | ⟨rfl,h1,h2⟩
 ·rcases h' with ⟨rfl,k1,k2⟩ | ⟨rfl,k1,k2⟩
  ·exact ⟨xU h1 k1 (h2.trans k2.symm),rfl⟩
  exact absurd h2 (k2 _ _ _ _ _ _ h1)
 rcases h' with ⟨rfl,k1,k2⟩ | ⟨rfl,k1,k2⟩
 ·exact absurd k2 (h2 _ _ _ _ _ _ k1)
 obtain ⟨rfl,rfl,rfl,rfl,rfl,rfl⟩:=h1;obtain ⟨rfl,rfl,rfl,rfl,rfl,rfl⟩:=k1;exact ⟨⟨rfl,rfl,rfl,rfl,rfl,rfl⟩,rfl⟩
end Go.Proofs.YtajkkeikihhejaaGreat.Pl
namespace Go.Proofs.YtajkkeikihhejaaGreat
open Pl
theorem Ao:∀ x y z:List UInt8,Op.bytesLess x y=true→Op.bytesLess y z=true→Op.bytesLess x z=true
 | [],_,[],h,k=>by cases ‹List UInt8› <;> simp [Op.bytesLess] at h k
 | [],_,_::_,_,_=>rfl
 | _::_,[],_,h,_=>by simp [Op.bytesLess] at h
 | _::_,_::_,[],_,k=>by simp [Op.bytesLess] at k
 | a::x,b::y,c::z,h,k=>by
  simp only [Op.bytesLess,Bool.or_eq_true,TU,Ud,beq_iff_eq] at h k ⊢;rcases h with h | ⟨h,h'⟩
  ·rcases k with k | ⟨k,k'⟩
   ·exact .inl (UInt8.lt_trans h k)
   exact .inl (k ▸ h)
  rcases k with k | ⟨k,k'⟩
  ·exact .inl (h ▸ k)
  exact .inr ⟨h.trans k,Ao x y z h' k'⟩
open Go.ChangeAt Go.ChangeShapes Go.Maps Go.RowKit Go.WideShapes
def Ey (x y:Tp):Bool:=x.a.toList == y.a.toList && x.b.toList == y.b.toList && x.r.toList == y.r.toList && x.c.toList == y.c.toList && x.d.toList == y.d.toList && x.s.toList == y.s.toList
theorem Gd {x y:ByteArray} (k:x.toList=y.toList):x=y:=by
 rw [Go.ByteArray.toList_eq,Go.ByteArray.toList_eq] at k;obtain ⟨x⟩:=x;obtain ⟨y⟩:=y;exact congrArg ByteArray.mk (Array.toList_inj.1 k)
theorem I8 (x y:Tp) {v:Bool} (h:Ey x y=v) (w:af) :
  (binOp .eql 46 (.agg #[.string x.a,.string x.b,.string x.r,.string x.c,.string x.d,.string x.s]) (.agg #[.string y.a,.string y.b,.string y.r,.string y.c,.string y.d,.string y.s])).run prog w=.ok (.bool v) w:=by
 subst h;go_simp;unfold Ey
 (repeat' split) <;> simp_all
def mq (ts:List Tp) (t:Tp):Bool:=ts.any fun x=>Ey x t
theorem CZ {ts:List Tp} {t:Tp} {k:Nat} (h:k < ts.length):mq (ts.drop k) t=(Ey ts[k] t || mq (ts.drop (k + 1)) t):=by
 rw [Un h]; rfl
def Tp.row (t:Tp):List Value:=[.string t.a,.string t.b,.string t.r,.string t.c,.string t.d,.string t.s]
def bF (ts:List Tp):List Value:=ts.flatMap Tp.row
theorem jf:∀ ts:List Tp,(bF ts).length=ts.length * 6
 | []=>rfl
 | r::rs=>by have:=jf rs; simp only [bF,Tp.row,List.flatMap_cons,T9,List.length_cons,List.length_nil] at this ⊢; omega
theorem uU:∀ (rs:List Tp) (i:Nat) (h:i < rs.length) (j:Nat),j < 6→(bF rs)[i * 6 + j]?=(rs[i]).row[j]?
 | [],i,h,_,_=>by simp at h
 | r::rs,0,_,j,hj=>by
  simp only [bF,List.flatMap_cons,Nat.zero_mul,Um,List.getElem_cons_zero];rw [List.getElem?_append_left (by simpa [Tp.row] using hj)]
 | r::rs,i + 1,h,j,hj=>by
  have:=uU rs i (by simpa using h) j hj;simp only [bF,List.flatMap_cons,List.getElem_cons_succ] at this ⊢;rw [List.getElem?_append_right (by simp [Tp.row]; omega),← this];congr 1;simp [Tp.row]; omega
theorem Ap (ts:List Tp) (t:Tp):bF (ts ++ [t])=bF ts ++ t.row:=by simp [bF]
theorem Aq (t:Tp):∀ u ∈ t.row,u.oneCell'=true:=by
 intro u hu;simp [Tp.row] at hu;rcases hu with rfl | rfl | rfl | rfl | rfl | rfl <;> rfl
theorem C8 (w:af) (t:Tp):∀ j u,t.row[j]?=some u→(w.alloc (.cells #[.string t.a,.string t.b,.string t.r,.string t.c,.string t.d,.string t.s] 46)).cell? ((⟨w.heap.size,0,none⟩:Addr).add j)=some u:=by
 intro j u hu;rw [show (⟨w.heap.size,0,none⟩:Addr).add j=⟨w.heap.size,0 + j,none⟩ by simp [Addr.add]; omega,Um];have:=World.cell?_alloc_mark w #[.string t.a,.string t.b,.string t.r,.string t.c,.string t.d,.string t.s] 46 (0,0) j;rw [this];simpa [Tp.row] using hu
theorem OH {w:af} {base n:Nat} {v:Value} {ts:List Tp} (h:w.ownsRow base 46 6 v n (bF ts)) (hn:n=ts.length):∃ ad cap,v=.slice ad ts.length cap∧Sl w ad ts∧∀ g,ad=some ⟨g,0,none⟩→base≤g∧g < w.heap.size∧gY w g:=by
 subst hn;have h2:=h;rcases h.2 with ⟨rfl,h0⟩ | ⟨g,cap,cur,rfl,hbg,hg,hnc,-⟩
 ·exact ⟨none,0,by rw [h0],.inl (Ui.1 h0),fun g e=>by cases e⟩
 have hlt:=h2.lt g rfl;refine ⟨some ⟨g,0,none⟩,cap,rfl,.inr ⟨g,0,rfl,hlt.2,fun i hi=>?_⟩,fun g' e=>?_⟩
 ·have hl:=jf ts;have key:∀ j,j < 6→w.cell? ⟨g,0 + i * 6 + j,none⟩=(ts[i]).row[j]?:=fun j hj=>by
   rw [h2.cellAt (0 + i * 6 + j) (by omega),← uU ts i hi j hj,Um]
  exact ⟨key 0 (by omega),key 1 (by omega),key 2 (by omega),key 3 (by omega),key 4 (by omega),key 5 (by omega)⟩
 injection e with e; injection e with e1 e2;subst e1;exact ⟨hlt.1,hlt.2,fun y=>h2.frozenAt y⟩
def Tp.text (t:Tp):List UInt8:=(aX t.a t.b t.r t.c t.d t.s).toList
theorem tK {x y:Tp} (hx:x.ok=true) (hy:y.ok=true):x.ahead y=Op.bytesLess x.text y.text:=tF hx hy
theorem Gf {x y:Tp} (h:x.ahead y=true):x.ok=true∧y.ok=true:=by
 unfold Tp.ahead fU at h;simp only [TU] at h;exact ⟨h.1.1,h.1.2⟩
theorem Gg {x y z:Tp} (h:x.ahead y=true) (k:y.ahead z=true):x.ahead z=true:=by
 obtain ⟨hx,hy⟩:=Gf h;obtain ⟨-,hz⟩:=Gf k;rw [tK hx hy] at h;rw [tK hy hz] at k;rw [tK hx hz];exact Ao _ _ _ h k
def Up (l:List Tp):Prop:=l.Pairwise fun x y=>x.ahead y=true
theorem RF {ts:List Tp} (h:dJ ts=true):Up ts∧(∀ t ∈ ts,t.ok=true)∧ts.length≤40:=by
 unfold dJ at h;simp only [TU,Ud] at h;obtain ⟨hl,hu⟩:=h;have hat:∀ i,i < ts.length→uR ts i=true:=fun i hi=>by
  unfold tH at hu;exact Ub.1 hu i (List.mem_range.2 hi)
 have hok:∀ i (hi:i < ts.length),ts[i].ok=true:=fun i hi=>by
  have:=hat i hi;cases i with
  | zero=>rw [wB hi] at this; exact this
  | succ j=>rw [rF hi] at this; simp only [TU] at this; exact this.1
 have hnx:∀ i (hi:i + 1 < ts.length),ts[i].ahead ts[i + 1]=true:=fun i hi=>by
  have:=hat (i + 1) hi;rw [rF hi] at this; simp only [TU] at this; exact this.2
 refine ⟨List.pairwise_iff_getElem.2 fun i j hi hj hij=>?_,fun t ht=>?_,hl⟩
 ·obtain ⟨d,rfl⟩:∃ d,j=i + 1 + d:=⟨j - (i + 1),by omega⟩
  induction d with
  | zero=>exact hnx i hj
  | succ d ih=>exact Gg (ih (by omega) (by omega)) (hnx (i + 1 + d) (by omega))
 obtain ⟨i,hi,rfl⟩:=List.mem_iff_getElem.1 ht;exact hok i hi
theorem LW {ts:List Tp} (h:dJ ts=true):ts.length≤40:=(RF h).2.2
def jL:List Tp→Tp→List Tp
 | [],t=>[t]
 | x::xs,t=>if x.ahead t then x::jL xs t else t::x::xs
theorem OI (ts:List Tp) (t y:Tp):y ∈ jL ts t ↔ y=t ∨ y ∈ ts:=by
 induction ts with
 | nil=>simp [jL]
 | cons x xs ih =>
  unfold jL;split
  ·simp only [List.mem_cons,ih];constructor
   ·rintro (h | h | h)
    ·exact .inr (.inl h)
    ·exact .inl h
    exact .inr (.inr h)
   rintro (h | h | h)
   ·exact .inr (.inl h)
   ·exact .inl h
   exact .inr (.inr h)
  simp
theorem Kl (ts:List Tp) (t:Tp) (k:Nat) (hk:k≤ts.length) (h1:∀ i (h:i < ts.length),i < k→ts[i].ahead t=true) (h2:∀ h:k < ts.length,ts[k].ahead t=false):jL ts t=ts.take k ++ t::ts.drop k:=by
 induction ts generalizing k with
 | nil=>simp [jL]
 | cons x xs ih =>
  cases k with
  | zero =>
   have:=h2 (by simp);simp only [List.getElem_cons_zero] at this;simp [jL,this]
  | succ k =>
   have hx:=h1 0 (by simp) (by omega);simp only [List.getElem_cons_zero] at hx;have:=ih k (by simpa using hk) (fun i hi hik=>by have:=h1 (i + 1) (by simpa using hi) (by omega); simpa using this) (fun h=>by have:=h2 (by simpa using h); simpa using this);simp [jL,hx,this]
theorem tL {w:af} {b off:Nat} {ts:List Tp} (h:kL w b off ts):∀ j u,(bF ts)[j]?=some u→w.cell? ((⟨b,off,none⟩:Addr).add j)=some u:=by
 intro j u hu;have hl:=jf ts;have hj:j < ts.length * 6:=by
  rcases Nat.lt_or_ge j (bF ts).length with h | h
  ·omega
  rw [List.getElem?_eq_none h] at hu; cases hu
 have hi:j / 6 < ts.length:=by omega
 have hr:j % 6 < 6:=Nat.mod_lt _ (by omega);have e:j=j / 6 * 6 + j % 6:=by omega
 rw [e,uU ts _ hi _ hr] at hu;rw [show ((⟨b,off,none⟩:Addr).add j)=⟨b,off + j / 6 * 6 + j % 6,none⟩ by rw [show (⟨b,off,none⟩:Addr).add j=⟨b,off + j,none⟩ by simp [Addr.add]]; congr 1; omega];obtain ⟨c0,c1,c2,c3,c4,c5⟩:=h (j / 6) hi;have h6:j % 6=0 ∨ j % 6=1 ∨ j % 6=2 ∨ j % 6=3 ∨ j % 6=4 ∨ j % 6=5:=by omega
 rcases h6 with e6 | e6 | e6 | e6 | e6 | e6 <;> rw [e6] at hu ⊢ <;> simp only [Tp.row,List.getElem?_cons_zero,List.getElem?_cons_succ] at hu <;> rw [← hu] <;> assumption
theorem C9 {w:af} {b off:Nat} {ts:List Tp} (h:kL w b off ts) (k:Nat):kL w b off (ts.take k):=fun i hi=>by
 have:=h i (by simp at hi; omega);simpa using this
theorem LX {w:af} {b off:Nat} {ts:List Tp} (h:kL w b off ts) (k:Nat):kL w b (off + k * 6) (ts.drop k):=fun i hi=>by
 have:=h (k + i) (by simp at hi; omega);simp only [List.getElem_drop];rw [show off + k * 6 + i * 6=off + (k + i) * 6 by omega];exact this
theorem rG (ts:List Tp):∀ u ∈ bF ts,u.oneCell'=true:=by
 intro u hu;unfold bF at hu;obtain ⟨t,-,h⟩:=Uf.1 hu;exact Aq t u h
theorem uV (xs ys:List Tp):bF (xs ++ ys)=bF xs ++ bF ys:=by simp [bF]
def ug (w:World) (g:Nat) (t:Tp):Prop:=w.cell? ⟨g,0,none⟩=some (.string t.a)∧w.cell? ⟨g,1,none⟩=some (.string t.b)∧w.cell? ⟨g,2,none⟩=some (.string t.r)∧w.cell? ⟨g,3,none⟩=some (.string t.c)∧w.cell? ⟨g,4,none⟩=some (.string t.d)∧w.cell? ⟨g,5,none⟩=some (.string t.s)∧g < w.heap.size
theorem ug.below {w w':af} {g:Nat} {t:Tp} (h:ug w g t) (hb:ag w w'):ug w' g t :=
 ⟨mK hb h.2.2.2.2.2.2 h.1,mK hb h.2.2.2.2.2.2 h.2.1,mK hb h.2.2.2.2.2.2 h.2.2.1,mK hb h.2.2.2.2.2.2 h.2.2.2.1,mK hb h.2.2.2.2.2.2 h.2.2.2.2.1,mK hb h.2.2.2.2.2.2 h.2.2.2.2.2.1,TP h.2.2.2.2.2.2 hb.size⟩
theorem Ez (w:af) (t:Tp) (T:TypeId):ug (w.alloc (.cells #[.string t.a,.string t.b,.string t.r,.string t.c,.string t.d,.string t.s] T)) w.heap.size t:=by
 refine ⟨?_,?_,?_,?_,?_,?_,?_⟩ <;> simp
theorem ug.grown {w w':af} {g:Nat} {t:Tp} {row:Option Nat} (h:ug w g t) (hg:w.grownBy w' row) (hne:some g ≠ row):ug w' g t :=
 ⟨hg.cell h.1 hne,hg.cell h.2.1 hne,hg.cell h.2.2.1 hne,hg.cell h.2.2.2.1 hne,hg.cell h.2.2.2.2.1 hne,hg.cell h.2.2.2.2.2.1 hne,TP h.2.2.2.2.2.2 hg.size⟩
theorem pu {w w':af} {b off:Nat} {ts:List Tp} {row:Option Nat} (h:kL w b off ts) (hg:w.grownBy w' row) (_hb:b < w.heap.size) (hne:some b ≠ row):kL w' b off ts:=fun i hi=>by
 obtain ⟨c0,c1,c2,c3,c4,c5⟩:=h i hi;exact ⟨hg.cell c0 hne,hg.cell c1 hne,hg.cell c2 hne,hg.cell c3 hne,hg.cell c4 hne,hg.cell c5 hne⟩
theorem LY {ts:List Tp} {k:Nat} (h:ts.length≤k) (w:af) (ad:Addr):∀ j u,(bF (ts.drop k))[j]?=some u→w.cell? (ad.add j)=some u:=fun j u hu=>by
 rw [List.drop_of_length_le h] at hu;simp [bF] at hu
theorem fB {W:af} {base base':Nat} {e:TypeId} {size:Nat} {v:Value} {k:Nat} {xs:List Value} (h:W.ownsRow base e size v k xs) (hb:base'≤base):W.ownsRow base' e size v k xs:=by
 refine ⟨h.1,?_⟩;rcases h.2 with hn | ⟨g,cap,cur,hv,hbg,rest⟩
 ·exact .inl hn
 exact .inr ⟨g,cap,cur,hv,TZ hb hbg,rest⟩
theorem fE {p:Prop} (h:p):Hid p:=h
theorem OJ {w:af} {g:Nat} {t:Tp} (h0:w.cell? ⟨g,0,none⟩=some (.string t.a)) (h1:w.cell? ⟨g,1,none⟩=some (.string t.b)) (h2:w.cell? ⟨g,2,none⟩=some (.string t.r)) (h3:w.cell? ⟨g,3,none⟩=some (.string t.c)) (h4:w.cell? ⟨g,4,none⟩=some (.string t.d)) (h5:w.cell? ⟨g,5,none⟩=some (.string t.s)) (hl:g < w.heap.size):ug w g t:=⟨h0,h1,h2,h3,h4,h5,hl⟩
theorem Km {w W w':af} {b n o:Nat} {x0 x1 x2 x3 x4 x5 y0 y1 y2 y3 y4 y5:Value} (h:W.cell? ⟨b,o,none⟩=some x0∧W.cell? ⟨b,o + 1,none⟩=some x1∧W.cell? ⟨b,o + 2,none⟩=some x2∧W.cell? ⟨b,o + 3,none⟩=some x3∧W.cell? ⟨b,o + 4,none⟩=some x4∧W.cell? ⟨b,o + 5,none⟩=some x5∧W.cell? ⟨n,0,none⟩=some y0∧W.cell? ⟨n,1,none⟩=some y1∧W.cell? ⟨n,2,none⟩=some y2∧W.cell? ⟨n,3,none⟩=some y3∧W.cell? ⟨n,4,none⟩=some y4∧W.cell? ⟨n,5,none⟩=some y5∧b < W.heap.size∧n < W.heap.size∧Below n w W) (hb:ag W w') :
  w'.cell? ⟨b,o,none⟩=some x0∧w'.cell? ⟨b,o + 1,none⟩=some x1∧w'.cell? ⟨b,o + 2,none⟩=some x2∧w'.cell? ⟨b,o + 3,none⟩=some x3∧w'.cell? ⟨b,o + 4,none⟩=some x4∧w'.cell? ⟨b,o + 5,none⟩=some x5∧w'.cell? ⟨n,0,none⟩=some y0∧w'.cell? ⟨n,1,none⟩=some y1∧w'.cell? ⟨n,2,none⟩=some y2∧w'.cell? ⟨n,3,none⟩=some y3∧w'.cell? ⟨n,4,none⟩=some y4∧w'.cell? ⟨n,5,none⟩=some y5∧b < w'.heap.size∧n < w'.heap.size∧Below n w w':=by
 obtain ⟨h0,h1,h2,h3,h4,h5,g0,g1,g2,g3,g4,g5,hB,hN,hw⟩:=h;exact ⟨mK hb hB h0,mK hb hB h1,mK hb hB h2,mK hb hB h3,mK hb hB h4,mK hb hB h5,mK hb hN g0,mK hb hN g1,mK hb hN g2,mK hb hN g3,mK hb hN g4,mK hb hN g5,TP hB hb.size,TP hN hb.size,hw.trans (hb.mono (Nat.le_of_lt hN))⟩
end Go.Proofs.YtajkkeikihhejaaGreat
