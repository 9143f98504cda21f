/- The document's reader of expressions: items and rows, whatever they hold. -/
import Derived.Test.YteoflgocljfgeaaGreatDoorRdxRow
import Derived.Maps.OwnSet
import Derived.DeepKeys4
open Go.Proofs.Tryz
set_option maxHeartbeats 80000000
namespace Go.Proofs.YteoflgocljfgeaaGreatDoor
set_option maxRecDepth 100000
open Go.ChangeShapes Go.WideShapes Go.ChangeAt Go.RowKit
open Pl
theorem yV {s:ByteArray} {st:RS} (h:st.p≤s.size):st.p≤(bf s st).p∧(bf s st).p≤s.size:=⟨Nat.le_add_right _ _,jl s st.p h⟩
theorem Ad {s:ByteArray} {st:RS} (h:st.p≤s.size):st.p≤(aQ s st).p∧(aQ s st).p≤s.size∧(aQ s st).out=st.out:=by
 unfold aQ;cases e:jM s qY st with
 | false=>exact ⟨Nat.le_refl _,h,rfl⟩
 | true =>
  have h1:st.p + 1≤s.size:=jB e;have:=jl s (st.p + 1) h1;exact ⟨by show st.p≤st.p + 1 + aj s (st.p + 1); omega,this,rfl⟩
theorem yX {s:ByteArray}:∀ (n:Nat) (xs:List Al) (st:RS),st.p≤s.size→st.p≤(bU s n xs st).2.p∧(bU s n xs st).2.p≤s.size∧(bU s n xs st).2.out=st.out:=by
 intro n
 induction n with
 | zero=>intro xs st h; exact ⟨Nat.le_refl _,h,rfl⟩
 | succ n ih =>
  intro xs st h;have h1:=yV h;have h2:=Ad h1.2;have h3:(aQ s (bf s st)).out=st.out:=h2.2.2;unfold bU;by_cases hb:st.bad=true
  ·rw [if_pos hb]; exact ⟨Nat.le_refl _,h,rfl⟩
  ·rw [if_neg hb];by_cases hc:jM s dC (aQ s (bf s st))=true
   ·rw [if_pos hc];have h4:(aQ s (bf s st)).p + 1≤s.size:=jB hc;exact ⟨by show st.p≤(aQ s (bf s st)).p + 1; omega,h4,h3⟩
   ·rw [if_neg hc];by_cases hm:jM s iM (aQ s (bf s st))=true
    ·rw [if_pos hm];have h4:(aQ s (bf s st)).p + 1≤s.size:=jB hm;obtain ⟨a,b,c⟩:=ih (xs ++ [⟨av s st.p,uJ s (bf s st)⟩]) (jk iM (aQ s (bf s st))) h4;have a':(aQ s (bf s st)).p + 1≤_:=a;exact ⟨by omega,b,c.trans h3⟩
    ·rw [if_neg hm];obtain ⟨a,b,c⟩:=ih (xs ++ [⟨av s st.p,uJ s (bf s st)⟩]) (qZ (aQ s (bf s st))) h2.2.1;have a':(aQ s (bf s st)).p≤_:=a;exact ⟨by omega,b,c.trans h3⟩
def Iw (s:ByteArray) (k:Nat) (st st':RS):Prop:=st.p≤st'.p∧st'.p≤s.size∧st'.out.length + st.p≤st.out.length + k + st'.p
theorem FQ {s:ByteArray} {st:RS} (h:jM s d9 st=true):Iw s 1 st (nE s st).2:=by
 have h1:(jk d9 st).p≤s.size:=jB h;obtain ⟨a,b,c⟩:=yX (s:=s) (s.size + 1) [] (jk d9 st) h1;have a':st.p + 5≤_:=a;have c':_=st.out:=c;unfold nE Iw;cases e:bU s (s.size + 1) [] (jk d9 st) with
 | mk o st' =>
  rw [e] at a' b c';replace a':st.p + 5≤st'.p:=a';replace b:st'.p≤s.size:=b;replace c':st'.out=st.out:=c';cases o with
  | none=>exact ⟨by show st.p≤st'.p; omega,b,by show st'.out.length + _≤_ + _ + st'.p; rw [c']; omega⟩
  | some xs=>exact ⟨by show st.p≤st'.p; omega,b,by show (st'.out ++ _).length + _≤_ + _ + st'.p; rw [c',List.length_append,List.length_singleton]; omega⟩
theorem Iy {s:ByteArray} {st:RS} (h:st.p≤s.size):Iw s 1 st (pK (dM s st) (judged (dM s st) (aI s st))):=by
 have h1:=yV h;have key:st.p≤(aI s st).p∧(aI s st).p≤s.size∧(aI s st).out=st.out:=by
  unfold aI;cases e:jM s l8 (bf s st) with
  | false=>exact ⟨h1.1,h1.2,rfl⟩
  | true =>
   have h2:st.p + aj s st.p + 2≤s.size:=jB e;have:=jl s _ h2;exact ⟨by show st.p≤st.p + aj s st.p + 2 + aj s (st.p + aj s st.p + 2); omega,this,rfl⟩
 have key2:(judged (dM s st) (aI s st)).p=(aI s st).p∧(judged (dM s st) (aI s st)).out=st.out:=by
  unfold judged;split
  ·exact ⟨rfl,key.2.2⟩
  ·exact ⟨rfl,key.2.2⟩
 refine ⟨?_,?_,?_⟩
 ·show st.p≤(judged (dM s st) (aI s st)).p;rw [key2.1]; exact key.1
 ·show (judged (dM s st) (aI s st)).p≤_;rw [key2.1]; exact key.2.1
 ·show ((judged (dM s st) (aI s st)).out ++ _).length + _≤_ + 1 + (judged (dM s st) (aI s st)).p;rw [key2.1,key2.2,List.length_append,List.length_singleton];have:=key.1;omega
theorem FR {s:ByteArray} {st:RS} {x:Int × RS} (h:Iw s 1 (jk ig st) x.2):Iw s 1 st (qw s x).2:=by
 obtain ⟨a,b,c⟩:=h;replace a:st.p + 1≤x.2.p:=a;replace c:x.2.out.length + (st.p + 1)≤st.out.length + 1 + x.2.p:=c;unfold qw;cases e:jM s dC x.2 with
 | false=>exact ⟨by show st.p≤x.2.p; omega,b,by show x.2.out.length + st.p≤_ + 1 + x.2.p; omega⟩
 | true =>
  have h2:x.2.p + 1≤s.size:=jB e;exact ⟨by show st.p≤x.2.p + 1; omega,h2,by show x.2.out.length + st.p≤_ + 1 + (x.2.p + 1); omega⟩
theorem FT {s:ByteArray} {it:RS→Int × RS} {k:Int} (hit:∀ st,st.p≤s.size→Iw s 1 st (it st).2):∀ (n:Nat) (zs:List Int) (st:RS),st.p≤s.size→Iw s 0 st (fG s it k n zs st).2∧(0 < n→jM s (aR k) st=true→(fG s it k n zs st).2.out.length + st.p + 2≤st.out.length + (fG s it k n zs st).2.p):=by
 intro n
 induction n with
 | zero=>intro zs st h; exact ⟨⟨Nat.le_refl _,h,Nat.le_refl _⟩,fun h=>absurd h (by omega)⟩
 | succ n ih =>
  intro zs st h;unfold fG;cases e:jM s (aR k) st with
  | false=>exact ⟨⟨Nat.le_refl _,h,Nat.le_refl _⟩,fun _ h=>by cases h⟩
  | true =>
   have h1:st.p + 3≤s.size:=by have:=jB e; rw [jX] at this; exact this
   have eP:(jk (aR k) st).p=st.p + 3:=by unfold jk; rw [jX]
   have eO:(jk (aR k) st).out=st.out:=rfl;obtain ⟨a,b,c⟩:=hit (jk (aR k) st) (by rw [eP]; exact h1);rw [eP] at a c;rw [eO] at c;obtain ⟨⟨a2,b2,c2⟩,-⟩:=ih (zs ++ [(it (jk (aR k) st)).1]) (it (jk (aR k) st)).2 b;simp only [if_true];exact ⟨⟨by omega,b2,by omega⟩,fun _ _=>by omega⟩
theorem Dv {s:ByteArray} {p:Nat} (h:bV s p ≠ 0):dE s (aR (bV s p)) p=true:=by
 unfold bV at h ⊢;cases h1:dE s (aR 4) p with
 | true=>simpa using h1
 | false =>
  cases h2:dE s (aR 5) p with
  | true=>simpa [h1] using h2
  | false =>
   cases h3:dE s (aR 6) p with
   | true=>simpa [h1,h2] using h3
   | false=>simp [h1,h2,h3] at h
theorem KF {s:ByteArray} {it:RS→Int × RS} (hit:∀ st,st.p≤s.size→Iw s 1 st (it st).2) {st:RS} {x:Int × RS} (h:Iw s 1 st x.2):Iw s 1 st (rowP s it x).2:=by
 unfold rowP;by_cases hc:bV s x.2.p=0 ∨ x.2.bad=true
 ·rw [if_pos hc]; exact h
 ·rw [if_neg hc];have hsg:bV s x.2.p ≠ 0:=fun e=>hc (.inl e)
  have hbd:x.2.bad=false:=by cases e:x.2.bad with
   | false=>rfl
   | true=>exact absurd (.inr e) hc
  have hyes:jM s (aR (bV s x.2.p)) x.2=true:=by unfold jM; rw [hbd,Dv hsg]; rfl
  obtain ⟨⟨a,b,c⟩,d⟩:=FT hit (k:=bV s x.2.p) (s.size + 1) [x.1] x.2 h.2.1;have d:=d (by omega) hyes;obtain ⟨a1,b1,c1⟩:=h;refine ⟨?_,b,?_⟩
  ·show st.p≤(fG s it (bV s x.2.p) (s.size + 1) [x.1] x.2).2.p;omega
  ·show ((fG s it (bV s x.2.p) (s.size + 1) [x.1] x.2).2.out ++ _).length + _≤_ + 1 + (fG s it (bV s x.2.p) (s.size + 1) [x.1] x.2).2.p;rw [List.length_append,List.length_singleton];omega
theorem ww {s:ByteArray} {n:Nat} {st:RS} (h:jM s d9 st=true):vQ s (n + 1) false st=nE s st:=by
 unfold vQ nE;rw [if_pos h];cases bU s (s.size + 1) [] (jk d9 st) with
 | mk o st'=>cases o <;> rfl
theorem wy {s:ByteArray} {n:Nat} {st:RS} (h:jM s d9 st=false) (h2:jM s ig st=true):vQ s (n + 1) false st=qw s (vQ s n true (jk ig st)):=by
 conv=>lhs; unfold vQ
 rw [if_neg (by rw [h]; decide),if_pos h2];rfl
theorem wB {s:ByteArray} {n:Nat} {st:RS} (h:jM s d9 st=false) (h2:jM s ig st=false):vQ s (n + 1) false st=((st.out.length:Int),pK (dM s st) (judged (dM s st) (aI s st))):=by
 unfold vQ;rw [if_neg (by rw [h]; decide),if_neg (by rw [h2]; decide)]
theorem Ae {s:ByteArray} {n:Nat} {st:RS}:vQ s (n + 1) true st=rowP s (vQ s n false) (vQ s n false st):=by
 conv=>lhs; unfold vQ
 rfl
theorem oP {s:ByteArray}:∀ (n:Nat) (b:Bool) (st:RS),st.p≤s.size→Iw s 1 st (vQ s n b st).2:=by
 intro n
 induction n with
 | zero=>intro b st h; cases b <;> exact ⟨Nat.le_refl _,h,by show st.out.length + st.p≤st.out.length + 1 + st.p; omega⟩
 | succ n ih =>
  intro b st h;cases b with
  | true=>rw [Ae]; exact KF (fun st' h'=>ih false st' h') (ih false st h)
  | false =>
   cases h1:jM s d9 st with
   | true=>rw [ww h1]; exact FQ h1
   | false =>
    cases h2:jM s ig st with
    | true=>rw [wy h1 h2]; exact FR (ih true (jk ig st) (jB h2))
    | false=>rw [wB h1 h2]; exact Iy h
theorem Iz (R:Nat) (s:ByteArray) (base:Nat) (hR:R < base) (hs:s.size≤1000):∀ n:Nat,
  (∀ (st:RS) (v:Value) (qs:List ER) (w:World),RdF w R s st base v qs→base≤w.heap.size→st.p≤s.size→st.out.length + (s.size - st.p)≤5000→2 * (s.size - st.p) < n →
   Calls prog 167 #[.pointer (some ⟨R,0,none⟩)] w (rq R s base v qs w (vQ s n false st))) ∧
  (∀ (st:RS) (v:Value) (qs:List ER) (w:World),RdF w R s st base v qs→base≤w.heap.size→st.p≤s.size→st.out.length + (s.size - st.p)≤5000→2 * (s.size - st.p) + 1 < n →
   Calls prog 152 #[.pointer (some ⟨R,0,none⟩)] w (rq R s base v qs w (vQ s n true st))):=by
 intro n
 induction n with
 | zero=>exact ⟨fun _ _ _ _ _ _ _ _ h=>absurd h (by omega),fun _ _ _ _ _ _ _ _ h=>absurd h (by omega)⟩
 | succ n ih =>
  refine ⟨fun st v qs w h hB hp hb hn=>?_,fun st v qs w h hB hp hb hn=>?_⟩
  ·have hlen:qs.length=st.out.length:=by rw [← h.out]; simp [au]
   cases h1:jM s d9 st with
   | true=>rw [ww h1]; exact FM R s st base v qs w h hR hB hs hp (by omega) h1
   | false =>
    cases h2:jM s ig st with
    | true =>
     rw [wy h1 h2];have h3:st.p + 1≤s.size:=jB h2;have h4:(jk ig st).p=st.p + 1:=rfl;exact Ij R s st base v qs w h hR hs hp h1 h2 _ (oP n true (jk ig st) h3).2.1 fun w1 hw1 hsz=>ih.2 (jk ig st) v qs w1 hw1 (Nat.le_trans hB hsz) h3 (by rw [h4]; show st.out.length + _≤_; omega) (by rw [h4]; omega)
    | false=>rw [wB h1 h2]; exact FJ R s st base v qs w h hR hB hs hp (by omega) h1 h2
  ·rw [Ae];obtain ⟨a,b,c⟩:=oP (s:=s) n false st hp;refine KE R s st base v qs w h hR hB hs _ b (ih.1 st v qs w h hB hp hb (by omega)) _ (by omega) (fun st' v' qs' w' h' hB' h1 h2 h3=>ih.1 st' v' qs' w' h' hB' h2 h3 (by omega)) (fun st' h1 h2=>?_);obtain ⟨a2,b2,c2⟩:=oP (s:=s) n false st' h2;exact ⟨a2,b2,c2⟩
def Nf (s:ByteArray) (a:Al):Prop:=a.t.size≤s.size∧a.s.size≤s.size
def C8 (s:ByteArray) (e:Ex):Prop:=e.allow.length≤s.size + 1∧(∀ a ∈ e.allow,Nf s a)∧e.over.size≤s.size∧e.name.size≤s.size∧e.kids.length≤s.size + 2
theorem nH (s:ByteArray) (p:Nat):(av s p).size≤s.size:=by
 unfold av;rw [ByteArray.size_extract];omega
theorem KG (s:ByteArray) (st:RS):(uJ s st).size≤s.size:=by
 unfold uJ;split
 ·exact nH s _
 ·exact Nat.zero_le _
theorem FU {s:ByteArray}:∀ (n:Nat) (xs:List Al) (st:RS) (ys:List Al),(∀ a ∈ xs,Nf s a)→(bU s n xs st).1=some ys→ys.length≤xs.length + n∧∀ a ∈ ys,Nf s a:=by
 intro n
 induction n with
 | zero=>intro xs st ys _ h; cases h
 | succ n ih =>
  intro xs st ys hx h;have hx2:∀ a ∈ xs ++ [(⟨av s st.p,uJ s (bf s st)⟩:Al)],Nf s a:=by
   intro a ha;rcases List.mem_append.1 ha with h1 | h1
   ·exact hx a h1
   ·rw [List.mem_singleton] at h1; subst h1; exact ⟨nH s _,KG s _⟩
  unfold bU at h;by_cases hb:st.bad=true
  ·rw [if_pos hb] at h; cases h
  ·rw [if_neg hb] at h;by_cases hc:jM s dC (aQ s (bf s st))=true
   ·rw [if_pos hc] at h;injection h with h;subst h;exact ⟨by rw [List.length_append,List.length_singleton]; omega,hx2⟩
   ·rw [if_neg hc] at h;have fin:∀ st',(bU s n (xs ++ [⟨av s st.p,uJ s (bf s st)⟩]) st').1=some ys→ys.length≤xs.length + (n + 1)∧∀ a ∈ ys,Nf s a:=fun st' h'=>by
     obtain ⟨a,b⟩:=ih _ st' ys hx2 h';rw [List.length_append,List.length_singleton] at a;exact ⟨by omega,b⟩
    by_cases hm:jM s iM (aQ s (bf s st))=true
    ·rw [if_pos hm] at h; exact fin _ h
    ·rw [if_neg hm] at h; exact fin _ h
theorem Af {s:ByteArray} {x:Ex} {st:RS} (h:∀ e ∈ st.out,C8 s e) (hx:C8 s x):∀ e ∈ (pK x st).out,C8 s e:=by
 intro e he;rcases List.mem_append.1 he with h1 | h1
 ·exact h e h1
 ·rw [List.mem_singleton] at h1; subst h1; exact hx
theorem IA {s:ByteArray} {st:RS} (hp:st.p + 5≤s.size) (h:∀ e ∈ st.out,C8 s e):∀ e ∈ (nE s st).2.out,C8 s e:=by
 have hc:=(yX (s:=s) (s.size + 1) [] (jk d9 st) hp).2.2;have hs:=FU (s:=s) (s.size + 1) [] (jk d9 st);unfold nE;cases e:bU s (s.size + 1) [] (jk d9 st) with
 | mk o st' =>
  rw [e] at hc hs;have hc':st'.out=st.out:=hc;cases o with
  | none=>show ∀ e ∈ st'.out,C8 s e; rw [hc']; exact h
  | some xs =>
   obtain ⟨a,b⟩:=hs xs (fun a ha=>by cases ha) rfl;exact Af (by rw [hc']; exact h) ⟨by simpa using a,b,Nat.zero_le _,Nat.zero_le _,Nat.zero_le _⟩
theorem KH {s:ByteArray} {st:RS} (h:∀ e ∈ st.out,C8 s e):∀ e ∈ (pK (dM s st) (judged (dM s st) (aI s st))).out,C8 s e:=by
 have h1:(judged (dM s st) (aI s st)).out=st.out:=by
  have h2:(aI s st).out=st.out:=by unfold aI; split <;> rfl
  unfold judged; split <;> exact h2
 refine Af (by rw [h1]; exact h) ?_;unfold dM;split
 ·exact ⟨Nat.zero_le _,fun a ha=>(by cases ha),nH s _,nH s _,Nat.zero_le _⟩
 ·exact ⟨Nat.zero_le _,fun a ha=>(by cases ha),Nat.zero_le _,nH s _,Nat.zero_le _⟩
theorem IB {s:ByteArray} {it:RS→Int × RS} {k:Int} (hit:∀ st,(∀ e ∈ st.out,C8 s e)→st.p≤s.size→(∀ e ∈ (it st).2.out,C8 s e)∧(it st).2.p≤s.size):∀ (n:Nat) (zs:List Int) (st:RS),(∀ e ∈ st.out,C8 s e)→st.p≤s.size→(∀ e ∈ (fG s it k n zs st).2.out,C8 s e)∧(fG s it k n zs st).1.length≤zs.length + n:=by
 intro n
 induction n with
 | zero=>intro zs st h _; exact ⟨h,Nat.le_refl _⟩
 | succ n ih =>
  intro zs st h hp;unfold fG;cases e:jM s (aR k) st with
  | false=>exact ⟨h,Nat.le_add_right _ _⟩
  | true =>
   have h1:(jk (aR k) st).p≤s.size:=jB e;obtain ⟨a,b⟩:=hit (jk (aR k) st) h h1;obtain ⟨a2,b2⟩:=ih (zs ++ [(it (jk (aR k) st)).1]) _ a b;rw [List.length_append,List.length_singleton] at b2;exact ⟨a2,by simp only [if_true]; omega⟩
theorem IC {s:ByteArray}:∀ (n:Nat) (b:Bool) (st:RS),st.p≤s.size→(∀ e ∈ st.out,C8 s e)→∀ e ∈ (vQ s n b st).2.out,C8 s e:=by
 intro n
 induction n with
 | zero=>intro b st _ h; cases b <;> exact h
 | succ n ih =>
  intro b st hp h;cases b with
  | true =>
   rw [Ae];unfold rowP;have hx:=ih false st hp h;have hxp:=(oP (s:=s) n false st hp).2.1;split
   ·exact hx
   ·obtain ⟨a,b⟩:=IB (s:=s) (it:=vQ s n false) (k:=bV s (vQ s n false st).2.p) (fun st' h1 h2=>⟨ih false st' h2 h1,(oP (s:=s) n false st' h2).2.1⟩) (s.size + 1) [(vQ s n false st).1] (vQ s n false st).2 hx hxp;exact Af a ⟨Nat.zero_le _,fun a ha=>(by cases ha),Nat.zero_le _,Nat.zero_le _,Nat.le_trans b (by simp only [List.length_singleton]; omega)⟩
  | false =>
   cases h1:jM s d9 st with
   | true=>rw [ww h1]; exact IA (jB h1) h
   | false =>
    cases h2:jM s ig st with
    | true =>
     rw [wy h1 h2];have hx:=ih true (jk ig st) (jB h2) h;unfold qw;split
     ·exact hx
     ·exact hx
    | false=>rw [wB h1 h2]; exact KH h
theorem C8.light {s:ByteArray} {e:Ex} (h:C8 s e) (hs:s.size≤1000):e.light∧e.fits:=by
 obtain ⟨h1,h2,h3,h4,h5⟩:=h;refine ⟨⟨by omega,by omega⟩,⟨fun a ha=>⟨?_,?_⟩,?_,?_,?_,?_⟩⟩ <;> unfold maxLen
 ·have:=(h2 a ha).1; omega
 ·have:=(h2 a ha).2; omega
 all_goals omega
def jm (s:ByteArray):RS:=(vQ s (2 * s.size + 2) true ⟨0,false,[]⟩).2
def jY (s:ByteArray):Bool:=decide (s.size≤1000) && !(jm s).bad && !decide ((jm s).p < s.size) && aS (jm s).out && ((fu (jm s).out).toList == s.toList)
def Ng (s:ByteArray) (w:World) (e:Ending) (w':World):Prop :=
 Below w.heap.size w w'∧((jY s=false∧e=.returned (.tuple #[.slice none 0 0,.bool false])) ∨ (jY s=true∧∃ (v:Value) (R:Nat) (qs:List ER),e=.returned (.tuple #[v,.bool true])∧RdF w' R s (jm s) (w.heap.size + 1) v qs))
theorem IE (w:World) (s:ByteArray):RdF (w.alloc (.cells #[.string s,.int .i64 0,.bool false,.slice none 0 0] 257)) w.heap.size s ⟨0,false,[]⟩ (w.heap.size + 1) (.slice none 0 0) []:=by
 refine ⟨⟨by simp,by simp,by simp,by simp,by simp,fun j=>by simp⟩,World.ownsRow_nil _ _ _ _,rfl,?_,?_,?_,?_,?_,?_,?_,?_⟩
 ·intro q hq; cases hq
 ·intro q hq; cases hq
 ·intro q hq; cases hq
 ·intro q hq; cases hq
 ·intro q hq; cases hq
 ·intro x y hx; exact absurd hx (by simp)
 ·intro q hq; cases hq
 ·intro q hq; cases hq
theorem RdF.slE {w:World} {R:Nat} {s:ByteArray} {st:RS} {base:Nat} {v:Value} {qs:List ER} (h:RdF w R s st base v qs):∃ ad cap,v=.slice ad qs.length cap∧kX w ad qs:=Lx h.own rfl h.ok
theorem RdF.later {w w':World} {R:Nat} {s:ByteArray} {st:RS} {base:Nat} {v:Value} {qs:List ER} (h:RdF w R s st base v qs) (hb:Below w.heap.size w w'):RdF w' R s st base v qs :=
 h.heap hb.size (hb.block R h.rd.lt) (fun g hg=>hb.block g (h.own.lt g hg).2) (fun q hq g hi=>hb.block g (h.lie q hq g hi).2.1)
theorem sI (s:ByteArray) (w:World):Calls prog 130 #[.string s] w (Ng s w):=by
 by_cases hs:s.size≤1000
 ·have hd0:decide ((1000:Int) < (s.size:Int))=false:=by simp; omega
  have HRD:=ai (IE w s);have HCALL:=ai ((Iz w.heap.size s (w.heap.size + 1) (by omega) hs (2 * s.size + 2)).2 ⟨0,false,[]⟩ (.slice none 0 0) [] _ HRD.out (by simp) (Nat.zero_le _) (by simp; omega) (by simp));have HSM:Hid (∀ e ∈ (jm s).out,e.light∧e.fits):=fun e he=>(IC (s:=s) _ true ⟨0,false,[]⟩ (Nat.zero_le _) (fun e he=>by cases he) e he).light hs;have HFEW:=ai (oP (s:=s) (2 * s.size + 2) true ⟨0,false,[]⟩ (Nat.zero_le _));go_enter func130,ntmps130;go_wp2_with fail;refine HCALL.out.mono ?_;rintro e w1 ⟨v1,qs,rfl,hF1,hW1,-⟩;replace hF1:RdF w1 w.heap.size s (jm s) (w.heap.size + 1) v1 qs:=hF1;have HF1:=ai hF1;have HB1:Hid (Below w.heap.size w w1):=⟨hW1.onl.os,hW1.onl.tape,hW1.onl.output,by have:=hW1.onl.size; simp at this; omega,fun k hk=>(hW1.onl.block k (by simp; omega) (by omega) (by simp [Value.ownBlock])).trans ((World.grownBy_alloc w _ none).block k hk (by simp))⟩;obtain ⟨ad,cap,rfl,hsl⟩:=hF1.slE;have HSL:=ai hsl;have HOUT:=ai hF1.out;have hql:qs.length≤1048576:=by
   have h2:=congrArg List.length hF1.out;simp only [au,List.length_map] at h2;have h3:(jm s).out.length + 0≤0 + 1 + (jm s).p:=HFEW.out.2.2;have h4:(jm s).p≤s.size:=HFEW.out.2.1;omega
  have HL:Hid (∀ r ∈ qs,r.e.light):=fun r hr=>(HSM.out r.e (by rw [← HOUT.out]; exact List.mem_map.2 ⟨r,hr,rfl⟩)).1;have HF:Hid (∀ r ∈ qs,r.e.fits):=fun r hr=>(HSM.out r.e (by rw [← HOUT.out]; exact List.mem_map.2 ⟨r,hr,rfl⟩)).2;have HRB:Hid (jY s=(!(jm s).bad && !decide ((jm s).p < s.size) && aS (jm s).out && ((fu (jm s).out).toList == s.toList))):=by show _=_; unfold jY; simp [hs]
  have c1:=hF1.rd.c1;have c2:=hF1.rd.c2;have c3:=hF1.rd.c3;clear hF1 hW1 hsl HCALL HRD HSM HFEW;cases hb:(jm s).bad with
  | true =>
   rw [hb] at c2;have EQ:Hid (jY s=false):=by show _=_; rw [HRB.out,hb]; rfl
   go_wp2;exact bodyPost_ret (v:=.tuple #[.slice none 0 0,.bool false]) (by simp [results,Tryz.results130,go_sem]) rfl ⟨HB1.out,.inl ⟨EQ.out,rfl⟩⟩
  | false =>
   rw [hb] at c2;by_cases hlt:(jm s).p < s.size
   ·have hd1:decide (((jm s).p:Int) < (s.size:Int))=true:=by simp; omega
    have EQ:Hid (jY s=false):=by show _=_; rw [HRB.out,hb,decide_eq_true hlt]; rfl
    go_wp2;exact bodyPost_ret (v:=.tuple #[.slice none 0 0,.bool false]) (by simp [results,Tryz.results130,go_sem]) rfl ⟨HB1.out,.inl ⟨EQ.out,rfl⟩⟩
   ·have hd1:decide (((jm s).p:Int) < (s.size:Int))=false:=by simp; omega
    go_wp2_with fail;refine (ik ad cap qs w1 hql HL.out HF.out HSL.out).mono ?_;rintro e w2 ⟨rfl,hB2⟩;have HF2:=ai (HF1.out.later hB2);have HB2:=ai (HB1.out.trans (hB2.mono HB1.out.size));have HSL2:=ai (HSL.out.below hB2);have k3:=HF2.out.rd.c3;rw [HOUT.out];clear hB2;cases he:aS (jm s).out with
    | false =>
     have EQ:Hid (jY s=false):=by show _=_; rw [HRB.out,hb,decide_eq_false hlt,he]; rfl
     go_wp2;exact bodyPost_ret (v:=.tuple #[.slice none 0 0,.bool false]) (by simp [results,Tryz.results130,go_sem]) rfl ⟨HB2.out,.inl ⟨EQ.out,rfl⟩⟩
    | true =>
     go_wp2_with fail;refine (lh ad cap qs w2 hql HL.out HF.out HSL2.out).mono ?_;rintro e w3 ⟨rfl,hB3⟩;have HF3:=ai (HF2.out.later hB3);have HB3:=ai (HB2.out.trans (hB3.mono HB2.out.size));have q3:=HF3.out.rd.c3;rw [HOUT.out];clear hB3;cases ht:(fu (jm s).out).toList == s.toList with
     | false =>
      have ht2:(!(fu (jm s).out).toList == s.toList)=true:=by rw [ht]; rfl
      have EQ:Hid (jY s=false):=by show _=_; rw [HRB.out,ht,Bool.and_false]
      go_wp2;exact bodyPost_ret (v:=.tuple #[.slice none 0 0,.bool false]) (by simp [results,Tryz.results130,go_sem]) rfl ⟨HB3.out,.inl ⟨EQ.out,rfl⟩⟩
     | true =>
      have ht2:(!(fu (jm s).out).toList == s.toList)=false:=by rw [ht]; rfl
      have EQ:Hid (jY s=true):=by show _=_; rw [HRB.out,hb,decide_eq_false hlt,he,ht]; rfl
      go_wp2;exact bodyPost_ret (v:=.tuple #[.slice ad qs.length cap,.bool true]) (by simp [results,Tryz.results130,go_sem]) rfl ⟨HB3.out,.inr ⟨EQ.out,_,_,qs,rfl,HF3.out⟩⟩
 ·have hd0:decide ((1000:Int) < (s.size:Int))=true:=by simp; omega
  have EQ:Hid (jY s=false):=by show _=_; unfold jY; rw [decide_eq_false hs]; rfl
  go_enter func130,ntmps130;go_wp2;exact bodyPost_ret (v:=.tuple #[.slice none 0 0,.bool false]) (by simp [results,Tryz.results130,go_sem]) rfl ⟨Below.refl _ _,.inl ⟨EQ.out,rfl⟩⟩
theorem RdF.nod {w:World} {R:Nat} {s:ByteArray} {st:RS} {base:Nat} {v:Value} {qs:List ER} (h:RdF w R s st base v qs):NodM w base v qs:=⟨h.own,h.zA,h.zK,h.ok,h.lie,h.one,h.two,h.cA⟩
open Go.Maps
def KI (v:Value):Option (DataW Value × List MemPlace):=some (.held v,[])
section
variable {K:Type} (enc:K→Value) (P:Program) (k:TypeId)
def Mf (D:DataW Value) (kl:Lit):Option Value→Prop
 | none=>Maps.has D kl=false∧∀ z,D.atKey kl z=z
 | some v=>Maps.has D kl=true∧∀ z,D.atKey kl z=.held v
def aJ (w:World) (b n:Nat) (M:K→Option Value):Prop :=
 ∃ D:DataW Value,w.ownsMap P k KI b n D∧∀ x kl,keyOf P k (enc x)=some kl→Mf D kl (M x)
def kD [DecidableEq K] (M:K→Option Value) (x:K) (v:Option Value):K→Option Value:=fun y=>if y=x then v else M y
end
section
variable {K:Type} {enc:K→Value} {P:Program} {k:TypeId} {w:World} {b n:Nat} {M:K→Option Value}
theorem dP [DecidableEq K] (M:K→Option Value) (x:K) (v:Option Value):kD M x v x=v:=by simp [kD]
theorem bJ [DecidableEq K] {M:K→Option Value} {x y:K} {v:Option Value} (h:y ≠ x):kD M x v y=M y:=by simp [kD,h]
theorem oQ (enc:K→Value) (P:Program) (k:TypeId) (w:World):aJ enc P k (w.alloc (.map #[] 0)) w.heap.size 0 (fun _=>none) :=
 ⟨.map [],World.ownsMap_made w P k KI,fun _ kl _=>⟨rfl,fun z=>by simp [DataW.atKey]⟩⟩
theorem aJ.lt (h:aJ enc P k w b n M):b < w.heap.size:=by obtain ⟨D,h1,-⟩:=h; exact h1.lt
theorem aJ.mono (h:aJ enc P k w b n M) {n':Nat} (hn:n≤n'):aJ enc P k w b n' M:=by obtain ⟨D,h1,h2⟩:=h; exact ⟨D,h1.mono hn,h2⟩
theorem aJ.kept {w':World} {row:Option Nat} (h:aJ enc P k w b n M) (hg:w.grownBy w' row) (hne:some b ≠ row):aJ enc P k w' b n M:=by
 obtain ⟨D,h1,h2⟩:=h; exact ⟨D,h1.kept hg hne,h2⟩
theorem aJ.below {w':World} (h:aJ enc P k w b n M) (hB:Below w.heap.size w w'):aJ enc P k w' b n M :=
 h.kept (row:=none) ⟨hB.os,hB.tape,hB.output,hB.size,fun k hk _=>hB.block k hk⟩ (by simp)
theorem aJ.setCell (h:aJ enc P k w b n M) {a:Addr} (ha:b ≠ a.block) (u:Value):aJ enc P k (w.setCell a u) b n M:=by
 obtain ⟨D,h1,h2⟩:=h; exact ⟨D,h1.setCell ha u,h2⟩
theorem aJ.look {t e:TypeId} (h:aJ enc P k w b n M) (L:Keyed P k) (ht:P.underlying t=some (.map k e)) {z:Value} (hz:(zeroValue e).run P w=.ok z w) {x:K} {kl:Lit} (hkey:keyOf P k (enc x)=some kl) :
  (Instr.lookup t (.map (some b)) (enc x) false).run P w=.ok ((M x).getD z) w:=by
 obtain ⟨D,h1,h2⟩:=h;obtain ⟨v,ps,hrun,hv⟩:=h1.lookup L ht hz (zd:=.held z) (zp:=[]) rfl hkey;have h3:=h2 x kl hkey;rw [hrun];have:v=(M x).getD z:=by
  simp only [KI,Option.some.injEq,Prod.mk.injEq] at hv;cases e:M x with
  | none=>rw [e] at h3; rw [h3.2] at hv; injection hv.1 with h4
  | some u=>rw [e] at h3; rw [h3.2] at hv; injection hv.1 with h4
 rw [this]
theorem aJ.look_ok {t e:TypeId} (h:aJ enc P k w b n M) (L:Keyed P k) (ht:P.underlying t=some (.map k e)) {z:Value} (hz:(zeroValue e).run P w=.ok z w) {x:K} {kl:Lit} (hkey:keyOf P k (enc x)=some kl) :
  (Instr.lookup t (.map (some b)) (enc x) true).run P w=.ok (.tuple #[(M x).getD z,.bool (M x).isSome]) w:=by
 obtain ⟨D,h1,h2⟩:=h;obtain ⟨v,ps,hrun,hv⟩:=h1.look_ok L ht hz (zd:=.held z) (zp:=[]) rfl hkey;have h3:=h2 x kl hkey;rw [hrun];simp only [KI,Option.some.injEq,Prod.mk.injEq] at hv;cases e:M x with
 | none=>rw [e] at h3; rw [h3.2] at hv; injection hv.1 with h4; rw [h4,h3.1]; rfl
 | some u=>rw [e] at h3; rw [h3.2] at hv; injection hv.1 with h4; rw [h4,h3.1]; rfl
theorem aJ.store [DecidableEq K] {t e:TypeId} (h:aJ enc P k w b n M) (L:Keyed P k) (hinj:∀ x y,enc x=enc y→x=y) (ht:P.underlying t=some (.map k e)) (hn:n < maxLen) {x:K} {kl:Lit} (hkey:keyOf P k (enc x)=some kl) (v:Value) :
  ∃ w',(Instr.mapUpdate t (.map (some b)) (enc x) v).run P w=.ok () w'∧aJ enc P k w' b (n + 1) (kD M x (some v))∧w.grownBy w' (some b):=by
 obtain ⟨D,h1,h2⟩:=h;obtain ⟨w',hrun,h3,h4⟩:=h1.update L ht hn hkey (val:=v) (d:=.held v) (ps:=[]) rfl;refine ⟨w',hrun,⟨D.put kl (.held v),h3,fun y ky hy=>?_⟩,h4⟩;by_cases e:y=x
 ·subst e;obtain rfl:ky=kl:=by rw [hkey] at hy; injection hy with hy; exact hy.symm
  rw [dP];exact ⟨has_put_same h1.isMap (L.key hkey) _,fun z=>atKey_put_same h1.isMap (L.key hkey) _ z⟩
 ·have hne:ky ≠ kl:=fun e2=>e (hinj _ _ (L.inj (by rw [e2] at hy; exact hy) hkey));rw [bJ e];have h5:=h2 y ky hy;cases e3:M y with
  | none=>rw [e3] at h5; exact ⟨by rw [has_put_other hne]; exact h5.1,fun z=>by rw [atKey_put_other hne]; exact h5.2 z⟩
  | some u=>rw [e3] at h5; exact ⟨by rw [has_put_other hne]; exact h5.1,fun z=>by rw [atKey_put_other hne]; exact h5.2 z⟩
end
section
variable {K:Type} {enc:K→Value} {P:Program} (w:World) {ops:Array Oper} {rest:List Oper} {o:Oper} {a:Act} {Q:Exit→Act→World→Prop}
theorem il (hg:o.guard=none) (m x:Operand) (t:TypeId) (hop:o.op=Op.lookup t m x false) (k e:TypeId) (L:Keyed P k) (ht:P.underlying t=some (.map k e)) {z:Value} (hz:(zeroValue e).run P w=.ok z w) (b n:Nat) (M:K→Option Value)
  (hm:a.eval m=.map (some b)) (hV:aJ enc P k w b n M) (y:K) (kl:Lit) (hx:a.eval x=enc y) (hkey:keyOf P k (enc y)=some kl)
  (hK:wpList P ops Q rest (a.put o.dst ((M y).getD z)) w):wpList P ops Q (o::rest) a w:=by
 refine wpList_plain hg fun K' hK'=>?_;have hrun:=hV.look L ht hz hkey;unfold Oper.wp;simp [execOp,hop,hm,hx,hrun,Result.andThen];exact hK' _ _ hK
theorem dQ (hg:o.guard=none) (m x:Operand) (t:TypeId) (hop:o.op=Op.lookup t m x true) (k e:TypeId) (L:Keyed P k) (ht:P.underlying t=some (.map k e)) {z:Value} (hz:(zeroValue e).run P w=.ok z w) (b n:Nat) (M:K→Option Value)
  (hm:a.eval m=.map (some b)) (hV:aJ enc P k w b n M) (y:K) (kl:Lit) (hx:a.eval x=enc y) (hkey:keyOf P k (enc y)=some kl)
  (hK:wpList P ops Q rest (a.put o.dst (.tuple #[(M y).getD z,.bool (M y).isSome])) w):wpList P ops Q (o::rest) a w:=by
 refine wpList_plain hg fun K' hK'=>?_;have hrun:=hV.look_ok L ht hz hkey;unfold Oper.wp;simp [execOp,hop,hm,hx,hrun,Result.andThen];exact hK' _ _ hK
theorem kQ [DecidableEq K] (hg:o.guard=none) (m x v:Operand) (t:TypeId) (hop:o.op=Op.mapUpdate t m x v) (k e:TypeId) (L:Keyed P k) (hinj:∀ x y,enc x=enc y→x=y) (ht:P.underlying t=some (.map k e)) (b n:Nat) (M:K→Option Value)
  (hm:a.eval m=.map (some b)) (hV:aJ enc P k w b n M) (hn:n < maxLen) (y:K) (kl:Lit) (hx:a.eval x=enc y) (hkey:keyOf P k (enc y)=some kl) (u:Value) (hv:a.eval v=u)
  (hK:∀ w',aJ enc P k w' b (n + 1) (kD M y (some u))→w.grownBy w' (some b)→wpList P ops Q rest (a.put o.dst undef) w'):wpList P ops Q (o::rest) a w:=by
 refine wpList_plain hg fun K' hK'=>?_;obtain ⟨w',hrun,r1,r2⟩:=hV.store L hinj ht hn hkey u;unfold Oper.wp;simp [execOp,hop,hm,hx,hv,hrun,Result.andThen];exact hK' _ _ (hK w' r1 r2)
end
def bI (k:ByteArray × ByteArray):Value:=.agg #[.string k.1,.string k.2]
theorem nI (x y:ByteArray × ByteArray) (h:bI x=bI y):x=y:=by
 unfold bI at h;injection h with h;have h1:=congrArg Array.toList h;simp at h1;exact Prod.ext h1.1 h1.2
theorem wC:laidOutB prog=true:=by kernel_rfl
theorem IG:(147:TypeId) < prog.types.size:=of_decide_eq_true (by kernel_rfl)
theorem KJ:(match prog.underlying 147 with | some (.array _ _) | some (.struct _)=>true | _=>false)=true:=by rw [underlying147]
set_option maxRecDepth 100000 in
theorem Ag:WideMaps.KeyLaw prog 147:=deep_law_laid wC (m:=2) (by omega) IG (by kernel_rfl) KJ
theorem iq:Keyed prog 147:=Keyed.of_law Ag
theorem KM:prog.keyType 147=true:=by kernel_rfl
theorem BA:prog.cellsOf 147=2:=by kernel_rfl
theorem strCells:prog.cellsOf 9=1:=by kernel_rfl
theorem FV:∃ n,prog.types.size=n + 1:=Nat.exists_eq_succ_of_ne_zero (Nat.ne_of_gt (Nat.lt_of_le_of_lt (Nat.zero_le _) IG))
theorem jo (k:ByteArray × ByteArray) (h1:k.1.size≤maxLen) (h2:k.2.size≤maxLen):∃ kl,keyOf prog 147 (bI k)=some kl:=by
 obtain ⟨n,hn⟩:=FV;refine ⟨.string (keyBytes [.string k.1.data.toList,.string k.2.data.toList]),?_⟩;unfold keyOf;rw [underlying147];simp only [KM,bI,Value.formed,underlying147,BA,hn,Value.cells];simp [Program.keyLits,underlying147,underlying9,BA,strCells,h1,h2]
end Go.Proofs.YteoflgocljfgeaaGreatDoor
