/- The document's reader of expressions: items and rows, whatever they hold. -/
import Derived.Test.YtajkkeikihhejaaGreatSq
import Derived.Test.YtajkkeikihhejaaGreatRdxRow
import Derived.Maps.OwnSet
import Derived.DeepKeys4
open Go.Proofs.Tryz
set_option maxHeartbeats 80000000
namespace Go.Proofs.YtajkkeikihhejaaGreat
set_option maxRecDepth 100000
open Go.ChangeShapes Go.WideShapes Go.ChangeAt Go.RowKit
open Pl
theorem Cu {s:ByteArray} {st:RS} (h:st.p≤s.size):st.p≤(bz s st).p∧(bz s st).p≤s.size:=⟨Nat.le_add_right _ _,kr s st.p h⟩
theorem Ed {s:ByteArray} {st:RS} (h:st.p≤s.size):st.p≤(aV s st).p∧(aV s st).p≤s.size∧(aV s st).out=st.out:=by
 unfold aV;cases e:kZ s uy st;case false=>exact ⟨TS _,h,rfl⟩
 have h1:st.p + 1≤s.size:=kJ e;have:=kr s (st.p + 1) h1;exact ⟨by show st.p≤st.p + 1 + aj s (st.p + 1); omega,this,rfl⟩
theorem Cv {s:ByteArray}:∀ (n:Nat) (xs:List Al) (st:RS),st.p≤s.size→st.p≤(dD s n xs st).2.p∧(dD s n xs st).2.p≤s.size∧(dD s n xs st).2.out=st.out:=by
 intro n
 induction n with
 | zero=>intro xs st h; exact ⟨TS _,h,rfl⟩
 | succ n ih =>
  intro xs st h;have h1:=Cu h;have h2:=Ed h1.2;have h3:(aV s (bz s st)).out=st.out:=h2.2.2;unfold dD;by_cases hb:st.bad=true
  ·rw [if_pos hb]; exact ⟨TS _,h,rfl⟩
  rw [if_neg hb];by_cases hc:kZ s dU (aV s (bz s st))=true
  ·rw [if_pos hc];have h4:(aV s (bz s st)).p + 1≤s.size:=kJ hc;exact ⟨by show st.p≤(aV s (bz s st)).p + 1; omega,h4,h3⟩
  rw [if_neg hc];by_cases hm:kZ s jR (aV s (bz s st))=true
  ·rw [if_pos hm];have h4:(aV s (bz s st)).p + 1≤s.size:=kJ hm;obtain ⟨a,b,c⟩:=ih (xs ++ [⟨av s st.p,yj s (bz s st)⟩]) (ko jR (aV s (bz s st))) h4;have a':(aV s (bz s st)).p + 1≤_:=a;exact ⟨by omega,b,c.trans h3⟩
  rw [if_neg hm];obtain ⟨a,b,c⟩:=ih (xs ++ [⟨av s st.p,yj s (bz s st)⟩]) (uz (aV s (bz s st))) h2.2.1;have a':(aV s (bz s st)).p≤_:=a;exact ⟨by omega,b,c.trans h3⟩
def zq (s:ByteArray) (k:Nat) (st st':RS):Prop:=st.p≤st'.p∧st'.p≤s.size∧st'.out.length + st.p≤st.out.length + k + st'.p
theorem Lc {s:ByteArray} {st:RS} (h:kZ s fT st=true):zq s 1 st (qh s st).2:=by
 have h1:(ko fT st).p≤s.size:=kJ h;obtain ⟨a,b,c⟩:=Cv (s:=s) (s.size + 1) [] (ko fT st) h1;have a':st.p + 5≤_:=a;have c':_=st.out:=c;unfold qh zq;cases e:dD s (s.size + 1) [] (ko fT st) with
 | mk o st' =>
  rw [e] at a' b c';replace a':st.p + 5≤st'.p:=a';replace b:st'.p≤s.size:=b;replace c':st'.out=st.out:=c';cases o with
  | none=>exact ⟨by show st.p≤st'.p; omega,b,by show st'.out.length + _≤_ + _ + st'.p; rw [c']; omega⟩
  | some xs=>exact ⟨by show st.p≤st'.p; omega,b,by show (st'.out ++ _).length + _≤_ + _ + st'.p; rw [c',T9,List.length_singleton]; omega⟩
theorem NJ {s:ByteArray} {st:RS} (h:st.p≤s.size):zq s 1 st (rV (eZ s st) (judged (eZ s st) (aI s st))):=by
 have h1:=Cu h;have key:st.p≤(aI s st).p∧(aI s st).p≤s.size∧(aI s st).out=st.out:=by
  unfold aI;cases e:kZ s oO (bz s st);case false=>exact ⟨h1.1,h1.2,rfl⟩
  have h2:st.p + aj s st.p + 2≤s.size:=kJ e;have:=kr s _ h2;exact ⟨by show st.p≤st.p + aj s st.p + 2 + aj s (st.p + aj s st.p + 2); omega,this,rfl⟩
 have key2:(judged (eZ s st) (aI s st)).p=(aI s st).p∧(judged (eZ s st) (aI s st)).out=st.out:=by
  unfold judged;split
  ·exact ⟨rfl,key.2.2⟩
  exact ⟨rfl,key.2.2⟩
 refine ⟨?_,?_,?_⟩
 ·show st.p≤(judged (eZ s st) (aI s st)).p;rw [key2.1]; exact key.1
 ·show (judged (eZ s st) (aI s st)).p≤_;rw [key2.1]; exact key.2.1
 show ((judged (eZ s st) (aI s st)).out ++ _).length + _≤_ + 1 + (judged (eZ s st) (aI s st)).p;rw [key2.1,key2.2,T9,List.length_singleton];have:=key.1;omega
theorem Ld {s:ByteArray} {st:RS} {x:Int × RS} (h:zq s 1 (ko jA st) x.2):zq s 1 st (sQ s x).2:=by
 obtain ⟨a,b,c⟩:=h;replace a:st.p + 1≤x.2.p:=a;replace c:x.2.out.length + (st.p + 1)≤st.out.length + 1 + x.2.p:=c;unfold sQ;cases e:kZ s dU x.2;case false=>exact ⟨by show st.p≤x.2.p; omega,b,by show x.2.out.length + st.p≤_ + 1 + x.2.p; omega⟩
 have h2:x.2.p + 1≤s.size:=kJ e;exact ⟨by show st.p≤x.2.p + 1; omega,h2,by show x.2.out.length + st.p≤_ + 1 + (x.2.p + 1); omega⟩
theorem Le {s:ByteArray} {it:RS→Int × RS} {k:Int} (hit:∀ st,st.p≤s.size→zq s 1 st (it st).2):∀ (n:Nat) (zs:List Int) (st:RS),st.p≤s.size→zq s 0 st (ib s it k n zs st).2∧(0 < n→kZ s (aW k) st=true→(ib s it k n zs st).2.out.length + st.p + 2≤st.out.length + (ib s it k n zs st).2.p):=by
 intro n
 induction n with
 | zero=>intro zs st h; exact ⟨⟨TS _,h,TS _⟩,fun h=>absurd h (by omega)⟩
 | succ n ih =>
  intro zs st h;unfold ib;cases e:kZ s (aW k) st;case false=>exact ⟨⟨TS _,h,TS _⟩,fun _ h=>by cases h⟩
  have h1:st.p + 3≤s.size:=by have:=kJ e; rw [l8] at this; exact this
  have eP:(ko (aW k) st).p=st.p + 3:=by unfold ko; rw [l8]
  have eO:(ko (aW k) st).out=st.out:=rfl;obtain ⟨a,b,c⟩:=hit (ko (aW k) st) (by rw [eP]; exact h1);rw [eP] at a c;rw [eO] at c;obtain ⟨⟨a2,b2,c2⟩,-⟩:=ih (zs ++ [(it (ko (aW k) st)).1]) (it (ko (aW k) st)).2 b;simp only [if_true];exact ⟨⟨by omega,b2,by omega⟩,fun _ _=>by omega⟩
theorem Iq {s:ByteArray} {p:Nat} (h:dE s p ≠ 0):dX s (aW (dE s p)) p=true:=by
 unfold dE at h ⊢;cases h1:dX s (aW 4) p;case true=>simpa using h1
 cases h2:dX s (aW 5) p;case true=>simpa [h1] using h2
 cases h3:dX s (aW 6) p;case true=>simpa [h1,h2] using h3
 simp [h1,h2,h3] at h
theorem Qj {s:ByteArray} {it:RS→Int × RS} (hit:∀ st,st.p≤s.size→zq s 1 st (it st).2) {st:RS} {x:Int × RS} (h:zq s 1 st x.2):zq s 1 st (rowP s it x).2:=by
 unfold rowP;by_cases hc:dE s x.2.p=0 ∨ x.2.bad=true
 ·rw [if_pos hc]; exact h
 rw [if_neg hc];have hsg:dE s x.2.p ≠ 0:=fun e=>hc (.inl e)
 have hbd:x.2.bad=false:=by cases e:x.2.bad with
  | false=>rfl
  | true=>exact absurd (.inr e) hc
 have hyes:kZ s (aW (dE s x.2.p)) x.2=true:=by unfold kZ; rw [hbd,Iq hsg]; rfl
 obtain ⟨⟨a,b,c⟩,d⟩:=Le hit (k:=dE s x.2.p) (s.size + 1) [x.1] x.2 h.2.1;have d:=d (by omega) hyes;obtain ⟨a1,b1,c1⟩:=h;refine ⟨?_,b,?_⟩
 ·show st.p≤(ib s it (dE s x.2.p) (s.size + 1) [x.1] x.2).2.p;omega
 show ((ib s it (dE s x.2.p) (s.size + 1) [x.1] x.2).2.out ++ _).length + _≤_ + 1 + (ib s it (dE s x.2.p) (s.size + 1) [x.1] x.2).2.p;rw [T9,List.length_singleton];omega
theorem zt {s:ByteArray} {n:Nat} {st:RS} (h:kZ s fT st=true):za s (n + 1) false st=qh s st:=by
 unfold za qh;rw [if_pos h];cases dD s (s.size + 1) [] (ko fT st) with
 | mk o st'=>cases o <;> rfl
theorem zu {s:ByteArray} {n:Nat} {st:RS} (h:kZ s fT st=false) (h2:kZ s jA st=true):za s (n + 1) false st=sQ s (za s n true (ko jA st)):=by
 conv=>lhs; unfold za
 rw [if_neg (by rw [h]; decide),if_pos h2];rfl
theorem zw {s:ByteArray} {n:Nat} {st:RS} (h:kZ s fT st=false) (h2:kZ s jA st=false):za s (n + 1) false st=((st.out.length:Int),rV (eZ s st) (judged (eZ s st) (aI s st))):=by
 unfold za;rw [if_neg (by rw [h]; decide),if_neg (by rw [h2]; decide)]
theorem Ee {s:ByteArray} {n:Nat} {st:RS}:za s (n + 1) true st=rowP s (za s n false) (za s n false st):=by
 conv=>lhs; unfold za
 rfl
theorem rz {s:ByteArray}:∀ (n:Nat) (b:Bool) (st:RS),st.p≤s.size→zq s 1 st (za s n b st).2:=by
 intro n
 induction n with
 | zero=>intro b st h; cases b <;> exact ⟨TS _,h,by show st.out.length + st.p≤st.out.length + 1 + st.p; omega⟩
 | succ n ih =>
  intro b st h;cases b;case true=>rw [Ee]; exact Qj (fun st' h'=>ih false st' h') (ih false st h)
  cases h1:kZ s fT st;case true=>rw [zt h1]; exact Lc h1
  cases h2:kZ s jA st;case true=>rw [zu h1 h2]; exact Ld (ih true (ko jA st) (kJ h2))
  rw [zw h1 h2]; exact NJ h
theorem NK (R:Nat) (s:bH) (base:Nat) (hR:R < base) (hs:s.size≤1000):∀ n:Nat,
  (∀ (st:RS) (v:Value) (qs:List ER) (w:World),RdF w R s st base v qs→base≤w.heap.size→st.p≤s.size→st.out.length + (s.size - st.p)≤5000→2 * (s.size - st.p) < n →
   Calls prog 234 #[.pointer (some ⟨R,0,none⟩)] w (uC R s base v qs w (za s n false st))) ∧
  (∀ (st:RS) (v:Value) (qs:List ER) (w:World),RdF w R s st base v qs→base≤w.heap.size→st.p≤s.size→st.out.length + (s.size - st.p)≤5000→2 * (s.size - st.p) + 1 < n →
   Calls prog 219 #[.pointer (some ⟨R,0,none⟩)] w (uC R s base v qs w (za s n true st))):=by
 intro n
 induction n with
 | zero=>exact ⟨fun _ _ _ _ _ _ _ _ h=>absurd h (by omega),fun _ _ _ _ _ _ _ _ h=>absurd h (by omega)⟩
 | succ n ih =>
  refine ⟨fun st v qs w h hB hp hb hn=>?_,fun st v qs w h hB hp hb hn=>?_⟩
  ·have hlen:qs.length=st.out.length:=by rw [← h.out]; simp [ak]
   cases h1:kZ s fT st;case true=>rw [zt h1]; exact K8 R s st base v qs w h hR hB hs hp (by omega) h1
   cases h2:kZ s jA st;case true=>
    rw [zu h1 h2];have h3:st.p + 1≤s.size:=kJ h2;have h4:(ko jA st).p=st.p + 1:=rfl;exact Ny R s st base v qs w h hR hs hp h1 h2 _ (rz n true (ko jA st) h3).2.1 fun w1 hw1 hsz=>ih.2 (ko jA st) v qs w1 hw1 (TZ hB hsz) h3 (by rw [h4]; show st.out.length + _≤_; omega) (by rw [h4]; omega)
   rw [zw h1 h2]; exact KY R s st base v qs w h hR hB hs hp (by omega) h1 h2
  rw [Ee];obtain ⟨a,b,c⟩:=rz (s:=s) n false st hp;refine Qi R s st base v qs w h hR hB hs _ b (ih.1 st v qs w h hB hp hb (by omega)) _ (by omega) (fun st' v' qs' w' h' hB' h1 h2 h3=>ih.1 st' v' qs' w' h' hB' h2 h3 (by omega)) (fun st' h1 h2=>?_);obtain ⟨a2,b2,c2⟩:=rz (s:=s) n false st' h2;exact ⟨a2,b2,c2⟩
def Ti (s:ByteArray) (a:Al):Prop:=a.t.size≤s.size∧a.s.size≤s.size
def Ht (s:ByteArray) (e:Ex):Prop:=e.allow.length≤s.size + 1∧(∀ a ∈ e.allow,Ti s a)∧e.over.size≤s.size∧e.name.size≤s.size∧e.kids.length≤s.size + 2
theorem qj (s:bH) (p:Nat):(av s p).size≤s.size:=by
 unfold av;rw [ByteArray.size_extract];omega
theorem Qk (s:bH) (st:RS):(yj s st).size≤s.size:=by
 unfold yj;split
 ·exact qj s _
 exact TW _
theorem Lf {s:ByteArray}:∀ (n:Nat) (xs:List Al) (st:RS) (ys:List Al),(∀ a ∈ xs,Ti s a)→(dD s n xs st).1=some ys→ys.length≤xs.length + n∧∀ a ∈ ys,Ti s a:=by
 intro n
 induction n with
 | zero=>intro xs st ys _ h; cases h
 | succ n ih =>
  intro xs st ys hx h;have hx2:∀ a ∈ xs ++ [(⟨av s st.p,yj s (bz s st)⟩:Al)],Ti s a:=by
   intro a ha;rcases Uc.1 ha with h1 | h1
   ·exact hx a h1
   rw [Ua] at h1; subst h1; exact ⟨qj s _,Qk s _⟩
  unfold dD at h;by_cases hb:st.bad=true
  ·rw [if_pos hb] at h; cases h
  rw [if_neg hb] at h;by_cases hc:kZ s dU (aV s (bz s st))=true
  ·rw [if_pos hc] at h;injection h with h;subst h;exact ⟨by rw [T9,List.length_singleton]; omega,hx2⟩
  rw [if_neg hc] at h;have fin:∀ st',(dD s n (xs ++ [⟨av s st.p,yj s (bz s st)⟩]) st').1=some ys→ys.length≤xs.length + (n + 1)∧∀ a ∈ ys,Ti s a:=fun st' h'=>by
   obtain ⟨a,b⟩:=ih _ st' ys hx2 h';rw [T9,List.length_singleton] at a;exact ⟨by omega,b⟩
  by_cases hm:kZ s jR (aV s (bz s st))=true
  ·rw [if_pos hm] at h; exact fin _ h
  rw [if_neg hm] at h; exact fin _ h
theorem Ef {s:ByteArray} {x:Ex} {st:RS} (h:∀ e ∈ st.out,Ht s e) (hx:Ht s x):∀ e ∈ (rV x st).out,Ht s e:=by
 intro e he;rcases Uc.1 he with h1 | h1
 ·exact h e h1
 rw [Ua] at h1; subst h1; exact hx
theorem NL {s:ByteArray} {st:RS} (hp:st.p + 5≤s.size) (h:∀ e ∈ st.out,Ht s e):∀ e ∈ (qh s st).2.out,Ht s e:=by
 have hc:=(Cv (s:=s) (s.size + 1) [] (ko fT st) hp).2.2;have hs:=Lf (s:=s) (s.size + 1) [] (ko fT st);unfold qh;cases e:dD s (s.size + 1) [] (ko fT st) with
 | mk o st' =>
  rw [e] at hc hs;have hc':st'.out=st.out:=hc;cases o with
  | none=>show ∀ e ∈ st'.out,Ht s e; rw [hc']; exact h
  | some xs =>
   obtain ⟨a,b⟩:=hs xs (fun a ha=>by cases ha) rfl;exact Ef (by rw [hc']; exact h) ⟨by simpa using a,b,TW _,TW _,TW _⟩
theorem Ql {s:ByteArray} {st:RS} (h:∀ e ∈ st.out,Ht s e):∀ e ∈ (rV (eZ s st) (judged (eZ s st) (aI s st))).out,Ht s e:=by
 have h1:(judged (eZ s st) (aI s st)).out=st.out:=by
  have h2:(aI s st).out=st.out:=by unfold aI; split <;> rfl
  unfold judged; split <;> exact h2
 refine Ef (by rw [h1]; exact h) ?_;unfold eZ;split
 ·exact ⟨TW _,fun a ha=>(by cases ha),qj s _,qj s _,TW _⟩
 exact ⟨TW _,fun a ha=>(by cases ha),TW _,qj s _,TW _⟩
theorem NM {s:ByteArray} {it:RS→Int × RS} {k:Int} (hit:∀ st,(∀ e ∈ st.out,Ht s e)→st.p≤s.size→(∀ e ∈ (it st).2.out,Ht s e)∧(it st).2.p≤s.size):∀ (n:Nat) (zs:List Int) (st:RS),(∀ e ∈ st.out,Ht s e)→st.p≤s.size→(∀ e ∈ (ib s it k n zs st).2.out,Ht s e)∧(ib s it k n zs st).1.length≤zs.length + n:=by
 intro n
 induction n with
 | zero=>intro zs st h _; exact ⟨h,TS _⟩
 | succ n ih =>
  intro zs st h hp;unfold ib;cases e:kZ s (aW k) st;case false=>exact ⟨h,Nat.le_add_right _ _⟩
  have h1:(ko (aW k) st).p≤s.size:=kJ e;obtain ⟨a,b⟩:=hit (ko (aW k) st) h h1;obtain ⟨a2,b2⟩:=ih (zs ++ [(it (ko (aW k) st)).1]) _ a b;rw [T9,List.length_singleton] at b2;exact ⟨a2,by simp only [if_true]; omega⟩
theorem NN {s:ByteArray}:∀ (n:Nat) (b:Bool) (st:RS),st.p≤s.size→(∀ e ∈ st.out,Ht s e)→∀ e ∈ (za s n b st).2.out,Ht s e:=by
 intro n
 induction n with
 | zero=>intro b st _ h; cases b <;> exact h
 | succ n ih =>
  intro b st hp h;cases b;case true=>
   rw [Ee];unfold rowP;have hx:=ih false st hp h;have hxp:=(rz (s:=s) n false st hp).2.1;split
   ·exact hx
   obtain ⟨a,b⟩:=NM (s:=s) (it:=za s n false) (k:=dE s (za s n false st).2.p) (fun st' h1 h2=>⟨ih false st' h2 h1,(rz (s:=s) n false st' h2).2.1⟩) (s.size + 1) [(za s n false st).1] (za s n false st).2 hx hxp;exact Ef a ⟨TW _,fun a ha=>(by cases ha),TW _,TW _,TZ b (by simp only [List.length_singleton]; omega)⟩
  cases h1:kZ s fT st;case true=>rw [zt h1]; exact NL (kJ h1) h
  cases h2:kZ s jA st;case true=>
   rw [zu h1 h2];have hx:=ih true (ko jA st) (kJ h2) h;unfold sQ;split
   ·exact hx
   exact hx
  rw [zw h1 h2]; exact Ql h
theorem Ht.light {s:ByteArray} {e:Ex} (h:Ht s e) (hs:s.size≤1000):e.light∧e.fits:=by
 obtain ⟨h1,h2,h3,h4,h5⟩:=h;refine ⟨⟨by omega,by omega⟩,⟨fun a ha=>⟨?_,?_⟩,?_,?_,?_,?_⟩⟩ <;> unfold maxLen
 ·have:=(h2 a ha).1; omega
 ·have:=(h2 a ha).2; omega
 all_goals omega
def ku (s:ByteArray):RS:=(za s (2 * s.size + 2) true ⟨0,false,[]⟩).2
def ma (s:ByteArray):Bool:=decide (s.size≤1000) && !(ku s).bad && !decide ((ku s).p < s.size) && aK (ku s).out && ((gP (ku s).out).toList == s.toList)
def Tj (s:ByteArray) (w:World) (e:Ending) (w':World):Prop :=
 ag w w'∧((ma s=false∧e=.returned (.tuple #[.slice none 0 0,.bool false])) ∨ (ma s=true∧∃ (v:Value) (R:Nat) (qs:List ER),e=.returned (.tuple #[v,.bool true])∧RdF w' R s (ku s) (w.heap.size + 1) v qs))
theorem NP (w:af) (s:bH):RdF (w.alloc (.cells #[.string s,.int .i64 0,.bool false,.slice none 0 0] 303)) w.heap.size s ⟨0,false,[]⟩ (w.heap.size + 1) (.slice none 0 0) []:=by
 refine ⟨⟨by simp,by simp,by simp,by simp,by simp,fun j=>by simp⟩,World.ownsRow_nil _ _ _ _,rfl,?_,?_,?_,?_,?_,?_,?_,?_⟩
 ·intro q hq; cases hq
 ·intro q hq; cases hq
 ·intro q hq; cases hq
 ·intro q hq; cases hq
 ·intro q hq; cases hq
 ·intro x y hx; exact absurd hx (by simp)
 ·intro q hq; cases hq
 intro q hq; cases hq
theorem RdF.slE {w:af} {R:Nat} {s:ByteArray} {st:RS} {base:Nat} {v:Value} {qs:List ER} (h:RdF w R s st base v qs):∃ ad cap,v=.slice ad qs.length cap∧iH w ad qs:=Rp h.own rfl h.ok
theorem RdF.later {w w':af} {R:Nat} {s:ByteArray} {st:RS} {base:Nat} {v:Value} {qs:List ER} (h:RdF w R s st base v qs) (hb:ag w w'):RdF w' R s st base v qs :=
 h.heap hb.size (hb.block R h.rd.lt) (fun g hg=>hb.block g (h.own.lt g hg).2) (fun q hq g hi=>hb.block g (h.lie q hq g hi).2.1)
theorem wm (s:bH) (w:af):Calls prog 178 #[.string s] w (Tj s w):=by
 by_cases hs:s.size≤1000
 ·have hd0:decide ((1000:Int) < (s.size:Int))=false:=by simp; omega
  have Zc:=ai (NP w s);have VH:=ai ((NK w.heap.size s (w.heap.size + 1) (by omega) hs (2 * s.size + 2)).2 ⟨0,false,[]⟩ (.slice none 0 0) [] _ Zc.out (by simp) (TW _) (by simp; omega) (by simp));have ZT:Hid (∀ e ∈ (ku s).out,e.light∧e.fits):=fun e he=>(NN (s:=s) _ true ⟨0,false,[]⟩ (TW _) (fun e he=>by cases he) e he).light hs;have HFEW:=ai (rz (s:=s) (2 * s.size + 2) true ⟨0,false,[]⟩ (TW _));go_enter func178,ntmps178;go_wp2_with fail;refine VH.out.mono ?_;rintro e w1 ⟨v1,qs,rfl,hF1,hW1,-⟩;replace hF1:RdF w1 w.heap.size s (ku s) (w.heap.size + 1) v1 qs:=hF1;have Vz:=ai hF1;have HB1:Hid (ag w w1):=⟨hW1.onl.os,hW1.onl.tape,hW1.onl.output,by have:=hW1.onl.size; simp at this; omega,fun k hk=>(hW1.onl.block k (by simp; omega) (by omega) (by simp [Value.ownBlock])).trans ((World.grownBy_alloc w _ none).block k hk (by simp))⟩;obtain ⟨ad,cap,rfl,hsl⟩:=hF1.slE;have WQ:=ai hsl;have Yb:=ai hF1.out;have Ya:qs.length≤1048576:=by
   have h2:=congrArg List.length hF1.out;simp only [ak,Uy] at h2;have h3:(ku s).out.length + 0≤0 + 1 + (ku s).p:=HFEW.out.2.2;have h4:(ku s).p≤s.size:=HFEW.out.2.1;omega
  have HL:Hid (∀ r ∈ qs,r.e.light):=fun r hr=>(ZT.out r.e (by rw [← Yb.out]; exact Ue.2 ⟨r,hr,rfl⟩)).1;have HF:Hid (∀ r ∈ qs,r.e.fits):=fun r hr=>(ZT.out r.e (by rw [← Yb.out]; exact Ue.2 ⟨r,hr,rfl⟩)).2;have Xz:Hid (ma s=(!(ku s).bad && !decide ((ku s).p < s.size) && aK (ku s).out && ((gP (ku s).out).toList == s.toList))):=by show _=_; unfold ma; simp [hs]
  have c1:=hF1.rd.c1;have c2:=hF1.rd.c2;have c3:=hF1.rd.c3;clear hF1 hW1 hsl VH Zc ZT HFEW;cases hb:(ku s).bad;case true=>
   rw [hb] at c2;have EQ:Hid (ma s=false):=by show _=_; rw [Xz.out,hb]; rfl
   go_wp2;exact bodyPost_ret (v:=.tuple #[.slice none 0 0,.bool false]) (by simp [results,Tryz.results178,go_sem]) rfl ⟨HB1.out,.inl ⟨EQ.out,rfl⟩⟩
  rw [hb] at c2;by_cases hlt:(ku s).p < s.size
  ·have hd1:decide (((ku s).p:Int) < (s.size:Int))=true:=by simp; omega
   have EQ:Hid (ma s=false):=by show _=_; rw [Xz.out,hb,decide_eq_true hlt]; rfl
   go_wp2;exact bodyPost_ret (v:=.tuple #[.slice none 0 0,.bool false]) (by simp [results,Tryz.results178,go_sem]) rfl ⟨HB1.out,.inl ⟨EQ.out,rfl⟩⟩
  have hd1:decide (((ku s).p:Int) < (s.size:Int))=false:=by simp; omega
  go_wp2_with fail;refine (l6 ad cap qs w1 Ya HL.out HF.out WQ.out).mono ?_;rintro e w2 ⟨rfl,hB2⟩;have VK:=ai (Vz.out.later hB2);have HB2:=ai (HB1.out.trans (hB2.mono HB1.out.size));have HSL2:=ai (WQ.out.below hB2);have k3:=VK.out.rd.c3;rw [Yb.out];clear hB2;cases he:aK (ku s).out;case false=>
   have EQ:Hid (ma s=false):=by show _=_; rw [Xz.out,hb,decide_eq_false hlt,he]; rfl
   go_wp2;exact bodyPost_ret (v:=.tuple #[.slice none 0 0,.bool false]) (by simp [results,Tryz.results178,go_sem]) rfl ⟨HB2.out,.inl ⟨EQ.out,rfl⟩⟩
  go_wp2_with fail;refine (nJ ad cap qs w2 Ya HL.out HF.out HSL2.out).mono ?_;rintro e w3 ⟨rfl,hB3⟩;have Ze:=ai (VK.out.later hB3);have HB3:=ai (HB2.out.trans (hB3.mono HB2.out.size));have q3:=Ze.out.rd.c3;rw [Yb.out];clear hB3;cases ht:(gP (ku s).out).toList == s.toList;case false=>
   have ht2:(!(gP (ku s).out).toList == s.toList)=true:=by rw [ht]; rfl
   have EQ:Hid (ma s=false):=by show _=_; rw [Xz.out,ht,Bool.and_false]
   go_wp2;exact bodyPost_ret (v:=.tuple #[.slice none 0 0,.bool false]) (by simp [results,Tryz.results178,go_sem]) rfl ⟨HB3.out,.inl ⟨EQ.out,rfl⟩⟩
  have ht2:(!(gP (ku s).out).toList == s.toList)=false:=by rw [ht]; rfl
  have EQ:Hid (ma s=true):=by show _=_; rw [Xz.out,hb,decide_eq_false hlt,he,ht]; rfl
  go_wp2;exact bodyPost_ret (v:=.tuple #[.slice ad qs.length cap,.bool true]) (by simp [results,Tryz.results178,go_sem]) rfl ⟨HB3.out,.inr ⟨EQ.out,_,_,qs,rfl,Ze.out⟩⟩
 have hd0:decide ((1000:Int) < (s.size:Int))=true:=by simp; omega
 have EQ:Hid (ma s=false):=by show _=_; unfold ma; rw [decide_eq_false hs]; rfl
 go_enter func178,ntmps178;go_wp2;exact bodyPost_ret (v:=.tuple #[.slice none 0 0,.bool false]) (by simp [results,Tryz.results178,go_sem]) rfl ⟨TT _ _,.inl ⟨EQ.out,rfl⟩⟩
theorem RdF.nod {w:af} {R:Nat} {s:ByteArray} {st:RS} {base:Nat} {v:Value} {qs:List ER} (h:RdF w R s st base v qs):NodM w base v qs:=⟨h.own,h.zA,h.zK,h.ok,h.lie,h.one,h.two,h.cA⟩
open Go.Maps
def Qm (v:Value):Option (DataW Value × List MemPlace):=some (.held v,[])
section
variable {K:Type} (enc:K→Value) (P:Program) (k:TypeId)
def R5 (D:DataW Value) (kl:Lit):Option Value→Prop
 | none=>Maps.has D kl=false∧∀ z,D.atKey kl z=z
 | some v=>Maps.has D kl=true∧∀ z,D.atKey kl z=.held v
def aM (w:World) (b n:Nat) (M:K→Option Value):Prop :=
 ∃ D:DataW Value,w.ownsMap P k Qm b n D∧∀ x kl,keyOf P k (enc x)=some kl→R5 D kl (M x)
def lc [DecidableEq K] (M:K→Option Value) (x:K) (v:Option Value):K→Option Value:=fun y=>if y=x then v else M y
end
section
variable {K:Type} {enc:K→Value} {P:Program} {k:TypeId} {w:World} {b n:Nat} {M:K→Option Value}
theorem d9 [DecidableEq K] (M:K→Option Value) (x:K) (v:Option Value):lc M x v x=v:=by simp [lc]
theorem cz [DecidableEq K] {M:K→Option Value} {x y:K} {v:Option Value} (h:y ≠ x):lc M x v y=M y:=by simp [lc,h]
theorem nM (enc:K→Value) (P:Program) (k:TypeId) (w:af):aM enc P k (w.alloc (.map #[] 0)) w.heap.size 0 (fun _=>none) :=
 ⟨.map [],World.ownsMap_made w P k Qm,fun _ kl _=>⟨rfl,fun z=>by simp [DataW.atKey]⟩⟩
theorem aM.lt (h:aM enc P k w b n M):b < w.heap.size:=by obtain ⟨D,h1,-⟩:=h; exact h1.lt
theorem aM.mono (h:aM enc P k w b n M) {n':Nat} (hn:n≤n'):aM enc P k w b n' M:=by obtain ⟨D,h1,h2⟩:=h; exact ⟨D,h1.mono hn,h2⟩
theorem aM.kept {w':af} {row:Option Nat} (h:aM enc P k w b n M) (hg:w.grownBy w' row) (hne:some b ≠ row):aM enc P k w' b n M:=by
 obtain ⟨D,h1,h2⟩:=h; exact ⟨D,h1.kept hg hne,h2⟩
theorem aM.below {w':af} (h:aM enc P k w b n M) (hB:ag w w'):aM enc P k w' b n M :=
 h.kept (row:=none) ⟨hB.os,hB.tape,hB.output,hB.size,fun k hk _=>hB.block k hk⟩ (by simp)
theorem aM.setCell (h:aM enc P k w b n M) {a:Addr} (ha:b ≠ a.block) (u:Value):aM enc P k (w.setCell a u) b n M:=by
 obtain ⟨D,h1,h2⟩:=h; exact ⟨D,h1.setCell ha u,h2⟩
theorem aM.look {t e:TypeId} (h:aM enc P k w b n M) (L:Keyed P k) (ht:P.underlying t=some (.map k e)) {z:Value} (hz:(zeroValue e).run P w=.ok z w) {x:K} {kl:Lit} (hkey:keyOf P k (enc x)=some kl) :
  (Instr.lookup t (.map (some b)) (enc x) false).run P w=.ok ((M x).getD z) w:=by
 obtain ⟨D,h1,h2⟩:=h;obtain ⟨v,ps,hrun,hv⟩:=h1.lookup L ht hz (zd:=.held z) (zp:=[]) rfl hkey;have h3:=h2 x kl hkey;rw [hrun];have:v=(M x).getD z:=by
  simp only [Qm,Option.some.injEq,Prod.mk.injEq] at hv;cases e:M x with
  | none=>rw [e] at h3; rw [h3.2] at hv; injection hv.1 with h4
  | some u=>rw [e] at h3; rw [h3.2] at hv; injection hv.1 with h4
 rw [this]
theorem aM.look_ok {t e:TypeId} (h:aM enc P k w b n M) (L:Keyed P k) (ht:P.underlying t=some (.map k e)) {z:Value} (hz:(zeroValue e).run P w=.ok z w) {x:K} {kl:Lit} (hkey:keyOf P k (enc x)=some kl) :
  (Instr.lookup t (.map (some b)) (enc x) true).run P w=.ok (.tuple #[(M x).getD z,.bool (M x).isSome]) w:=by
 obtain ⟨D,h1,h2⟩:=h;obtain ⟨v,ps,hrun,hv⟩:=h1.look_ok L ht hz (zd:=.held z) (zp:=[]) rfl hkey;have h3:=h2 x kl hkey;rw [hrun];simp only [Qm,Option.some.injEq,Prod.mk.injEq] at hv;cases e:M x with
 | none=>rw [e] at h3; rw [h3.2] at hv; injection hv.1 with h4; rw [h4,h3.1]; rfl
 | some u=>rw [e] at h3; rw [h3.2] at hv; injection hv.1 with h4; rw [h4,h3.1]; rfl
theorem aM.store [DecidableEq K] {t e:TypeId} (h:aM enc P k w b n M) (L:Keyed P k) (hinj:∀ x y,enc x=enc y→x=y) (ht:P.underlying t=some (.map k e)) (hn:n < maxLen) {x:K} {kl:Lit} (hkey:keyOf P k (enc x)=some kl) (v:Value) :
  ∃ w',(Instr.mapUpdate t (.map (some b)) (enc x) v).run P w=.ok () w'∧aM enc P k w' b (n + 1) (lc M x (some v))∧w.grownBy w' (some b):=by
 obtain ⟨D,h1,h2⟩:=h;obtain ⟨w',hrun,h3,h4⟩:=h1.update L ht hn hkey (val:=v) (d:=.held v) (ps:=[]) rfl;refine ⟨w',hrun,⟨D.put kl (.held v),h3,fun y ky hy=>?_⟩,h4⟩;by_cases e:y=x
 ·subst e;obtain rfl:ky=kl:=by rw [hkey] at hy; injection hy with hy; exact hy.symm
  rw [d9];exact ⟨has_put_same h1.isMap (L.key hkey) _,fun z=>atKey_put_same h1.isMap (L.key hkey) _ z⟩
 have hne:ky ≠ kl:=fun e2=>e (hinj _ _ (L.inj (by rw [e2] at hy; exact hy) hkey));rw [cz e];have h5:=h2 y ky hy;cases e3:M y with
 | none=>rw [e3] at h5; exact ⟨by rw [has_put_other hne]; exact h5.1,fun z=>by rw [atKey_put_other hne]; exact h5.2 z⟩
 | some u=>rw [e3] at h5; exact ⟨by rw [has_put_other hne]; exact h5.1,fun z=>by rw [atKey_put_other hne]; exact h5.2 z⟩
end
section
variable {K:Type} {enc:K→Value} {P:Program} (w:World) {ops:Array Oper} {rest:List Oper} {o:Oper} {a:Act} {Q:Exit→Act→World→Prop}
theorem jB (hg:o.guard=none) (m x:Operand) (t:TypeId) (hop:o.op=Op.lookup t m x false) (k e:TypeId) (L:Keyed P k) (ht:P.underlying t=some (.map k e)) {z:Value} (hz:(zeroValue e).run P w=.ok z w) (b n:Nat) (M:K→Option Value)
  (hm:a.eval m=.map (some b)) (hV:aM enc P k w b n M) (y:K) (kl:Lit) (hx:a.eval x=enc y) (hkey:keyOf P k (enc y)=some kl)
  (hK:wpList P ops Q rest (a.put o.dst ((M y).getD z)) w):wpList P ops Q (o::rest) a w:=by
 refine wpList_plain hg fun K' hK'=>?_;have hrun:=hV.look L ht hz hkey;unfold Oper.wp;simp [execOp,hop,hm,hx,hrun,Result.andThen];exact hK' _ _ hK
theorem bZ (hg:o.guard=none) (m x:Operand) (t:TypeId) (hop:o.op=Op.lookup t m x true) (k e:TypeId) (L:Keyed P k) (ht:P.underlying t=some (.map k e)) {z:Value} (hz:(zeroValue e).run P w=.ok z w) (b n:Nat) (M:K→Option Value)
  (hm:a.eval m=.map (some b)) (hV:aM enc P k w b n M) (y:K) (kl:Lit) (hx:a.eval x=enc y) (hkey:keyOf P k (enc y)=some kl)
  (hK:wpList P ops Q rest (a.put o.dst (.tuple #[(M y).getD z,.bool (M y).isSome])) w):wpList P ops Q (o::rest) a w:=by
 refine wpList_plain hg fun K' hK'=>?_;have hrun:=hV.look_ok L ht hz hkey;unfold Oper.wp;simp [execOp,hop,hm,hx,hrun,Result.andThen];exact hK' _ _ hK
theorem nC [DecidableEq K] (hg:o.guard=none) (m x v:Operand) (t:TypeId) (hop:o.op=Op.mapUpdate t m x v) (k e:TypeId) (L:Keyed P k) (hinj:∀ x y,enc x=enc y→x=y) (ht:P.underlying t=some (.map k e)) (b n:Nat) (M:K→Option Value)
  (hm:a.eval m=.map (some b)) (hV:aM enc P k w b n M) (hn:n < maxLen) (y:K) (kl:Lit) (hx:a.eval x=enc y) (hkey:keyOf P k (enc y)=some kl) (u:Value) (hv:a.eval v=u)
  (hK:∀ w',aM enc P k w' b (n + 1) (lc M y (some u))→w.grownBy w' (some b)→wpList P ops Q rest (a.put o.dst undef) w'):wpList P ops Q (o::rest) a w:=by
 refine wpList_plain hg fun K' hK'=>?_;obtain ⟨w',hrun,r1,r2⟩:=hV.store L hinj ht hn hkey u;unfold Oper.wp;simp [execOp,hop,hm,hx,hv,hrun,Result.andThen];exact hK' _ _ (hK w' r1 r2)
end
def dQ (k:ByteArray × ByteArray):Value:=.agg #[.string k.1,.string k.2]
theorem uF (x y:ByteArray × ByteArray) (h:dQ x=dQ y):x=y:=by
 unfold dQ at h;injection h with h;have h1:=congrArg Array.toList h;simp at h1;exact Prod.ext h1.1 h1.2
theorem zx:laidOutB prog=true:=by kernel_rfl
theorem NQ:(94:TypeId) < prog.types.size:=of_decide_eq_true (by kernel_rfl)
theorem Qn:(match prog.underlying 94 with | some (.array _ _) | some (.struct _)=>true | _=>false)=true:=by rw [underlying94]
set_option maxRecDepth 100000 in
theorem Kb:WideMaps.KeyLaw prog 94:=deep_law_laid zx (m:=2) (by omega) NQ (by kernel_rfl) Qn
theorem ic:Keyed prog 94:=Keyed.of_law Kb
theorem Qo:prog.keyType 94=true:=by kernel_rfl
theorem FJ:prog.cellsOf 94=2:=by kernel_rfl
theorem strCells:prog.cellsOf 9=1:=by kernel_rfl
theorem Lg:∃ n,prog.types.size=n + 1:=Nat.exists_eq_succ_of_ne_zero (Nat.ne_of_gt (Nat.lt_of_le_of_lt (TW _) NQ))
theorem jC (k:ByteArray × ByteArray) (h1:k.1.size≤maxLen) (h2:k.2.size≤maxLen):∃ kl,keyOf prog 94 (dQ k)=some kl:=by
 obtain ⟨n,hn⟩:=Lg;refine ⟨.string (keyBytes [.string k.1.data.toList,.string k.2.data.toList]),?_⟩;unfold keyOf;rw [underlying94];simp only [Qo,dQ,Value.formed,underlying94,FJ,hn,Value.cells];simp [Program.keyLits,underlying94,underlying9,FJ,strCells,h1,h2]
end Go.Proofs.YtajkkeikihhejaaGreat
