/- The order of texts, and of right tuples by their texts: of two unlike ones just one is ahead; what is ahead of one that is ahead is ahead. -/
import Derived.Test.YtdaoiceeidoehaaGreatJ13
import Derived.Test.YtdaoiceeidoehaaGreatJ10
import Derived.Sort.Statements
namespace Go.Proofs.YtdaoiceeidoehaaGreat
open Pl
theorem yn:∀ x y z:List UInt8,Op.bytesLess x y=true→Op.bytesLess y z=true→Op.bytesLess x z=true
 | [],_,[],h,k=>by cases ‹List UInt8› <;> simp [Op.bytesLess] at h k
 | [],_,_::_,_,_=>rfl
 | _::_,[],_,h,_=>by simp [Op.bytesLess] at h
 | _::_,_::_,[],_,k=>by simp [Op.bytesLess] at k
 | a::x,b::y,c::z,h,k=>by
  simp only [Op.bytesLess,Bool.or_eq_true,R7,Sj,beq_iff_eq] at h k ⊢;rcases h with h | ⟨h,h'⟩
  ·rcases k with k | ⟨k,k'⟩
   ·exact .inl (UInt8.lt_trans h k)
   ·exact .inl (k ▸ h)
  ·rcases k with k | ⟨k,k'⟩
   ·exact .inl (h ▸ k)
   ·exact .inr ⟨h.trans k,yn x y z h' k'⟩
def Tp.text (t:Tp):List UInt8:=(bu t.a t.b t.r t.c t.d t.s).toList
theorem qJ {x y:Tp} (hx:x.ok=true) (hy:y.ok=true):x.ahead y=Op.bytesLess x.text y.text:=qH hx hy
theorem Ey {x y:Tp} (h:x.ahead y=true):x.ok=true∧y.ok=true:=by
 unfold Tp.ahead fZ at h;simp only [R7] at h;exact ⟨h.1.1,h.1.2⟩
theorem Ez {x y z:Tp} (h:x.ahead y=true) (k:y.ahead z=true):x.ahead z=true:=by
 obtain ⟨hx,hy⟩:=Ey h;obtain ⟨-,hz⟩:=Ey k;rw [qJ hx hy] at h;rw [qJ hy hz] at k;rw [qJ hx hz];exact yn _ _ _ h k
def Up (l:List Tp):Prop:=l.Pairwise fun x y=>x.ahead y=true
theorem MI {ts:List Tp} (h:eQ ts=true):Up ts∧(∀ t ∈ ts,t.ok=true)∧ts.length≤40:=by
 unfold eQ at h;simp only [R7,Sj] at h;obtain ⟨hl,hu⟩:=h;have hat:∀ i,i < ts.length→wh ts i=true:=fun i hi=>by
  unfold tF at hu;exact Sg.1 hu i (List.mem_range.2 hi)
 have hok:∀ i (hi:i < ts.length),ts[i].ok=true:=fun i hi=>by
  have:=hat i hi;cases i with
  | zero=>rw [tH hi] at this; exact this
  | succ j=>rw [pG hi] at this; simp only [R7] at this; exact this.1
 have hnx:∀ i (hi:i + 1 < ts.length),ts[i].ahead ts[i + 1]=true:=fun i hi=>by
  have:=hat (i + 1) hi;rw [pG hi] at this; simp only [R7] at this; exact this.2
 refine ⟨List.pairwise_iff_getElem.2 fun i j hi hj hij=>?_,fun t ht=>?_,hl⟩
 ·obtain ⟨d,rfl⟩:∃ d,j=i + 1 + d:=⟨j - (i + 1),by omega⟩
  induction d with
  | zero=>exact hnx i hj
  | succ d ih=>exact Ez (ih (by omega) (by omega)) (hnx (i + 1 + d) (by omega))
 ·obtain ⟨i,hi,rfl⟩:=List.mem_iff_getElem.1 ht;exact hok i hi
open Go.ChangeAt Go.ChangeShapes Go.Maps Go.RowKit Go.WideShapes
def AZ (w:World) (g:Nat) (t:Tp):Prop:=w.cell? ⟨g,0,none⟩=some (.string t.a)∧w.cell? ⟨g,1,none⟩=some (.string t.b)∧w.cell? ⟨g,2,none⟩=some (.string t.r)∧w.cell? ⟨g,3,none⟩=some (.string t.c)∧w.cell? ⟨g,4,none⟩=some (.string t.d)∧w.cell? ⟨g,5,none⟩=some (.string t.s)∧g < w.heap.size
theorem AZ.below {w w':World} {g:Nat} {t:Tp} (h:AZ w g t) (hb:Below w.heap.size w w'):AZ w' g t :=
 ⟨mK hb h.2.2.2.2.2.2 h.1,mK hb h.2.2.2.2.2.2 h.2.1,mK hb h.2.2.2.2.2.2 h.2.2.1,mK hb h.2.2.2.2.2.2 h.2.2.2.1,mK hb h.2.2.2.2.2.2 h.2.2.2.2.1,mK hb h.2.2.2.2.2.2 h.2.2.2.2.2.1,RZ h.2.2.2.2.2.2 hb.size⟩
theorem OU (w:World) (t:Tp) (T:TypeId):AZ (w.alloc (.cells #[.string t.a,.string t.b,.string t.r,.string t.c,.string t.d,.string t.s] T)) w.heap.size t:=by
 refine ⟨?_,?_,?_,?_,?_,?_,?_⟩ <;> simp
theorem AZ.grown {w w':World} {g:Nat} {t:Tp} {row:Option Nat} (h:AZ w g t) (hg:w.grownBy w' row) (hne:some g ≠ row):AZ w' g t :=
 ⟨hg.cell h.1 hne,hg.cell h.2.1 hne,hg.cell h.2.2.1 hne,hg.cell h.2.2.2.1 hne,hg.cell h.2.2.2.2.1 hne,hg.cell h.2.2.2.2.2.1 hne,RZ h.2.2.2.2.2.2 hg.size⟩
theorem iZ {W:World} {base base':Nat} {e:TypeId} {size:Nat} {v:Value} {k:Nat} {xs:List Value} (h:W.ownsRow base e size v k xs) (hb:base'≤base):W.ownsRow base' e size v k xs:=by
 refine ⟨h.1,?_⟩;rcases h.2 with hn | ⟨g,cap,cur,hv,hbg,rest⟩
 ·exact .inl hn
 ·exact .inr ⟨g,cap,cur,hv,Sb hb hbg,rest⟩
theorem pX {p:Prop} (h:p):Hid p:=h
end Go.Proofs.YtdaoiceeidoehaaGreat
