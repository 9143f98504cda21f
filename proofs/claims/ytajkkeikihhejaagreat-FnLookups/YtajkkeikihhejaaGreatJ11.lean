/- The document's reader of expressions: items and rows, whatever they hold. -/
import Derived.Test.YtajkkeikihhejaaGreatSq
import Derived.Test.YtajkkeikihhejaaGreatRdxRow
import Derived.Maps.OwnSet
import Derived.DeepKeys4
open Go.Proofs.Tryz
set_option maxHeartbeats 80000000
namespace Go.Proofs.YtajkkeikihhejaaGreat
set_option maxRecDepth 100000
open Go.ChangeShapes Go.WideShapes Go.ChangeAt Go.RowKit
open Pl
theorem BO {s:ByteArray} {st:RS} (h:st.p≤s.size):st.p≤(bu s st).p∧(bu s st).p≤s.size:=⟨Nat.le_add_right _ _,kC s st.p h⟩
theorem Dv {s:ByteArray} {st:RS} (h:st.p≤s.size):st.p≤(aU s st).p∧(aU s st).p≤s.size∧(aU s st).out=st.out:=by
 unfold aU;cases e:ll s uk st;case false=>exact ⟨Sy _,h,rfl⟩
 have h1:st.p + 1≤s.size:=kN e;have:=kC s (st.p + 1) h1;exact ⟨by show st.p≤st.p + 1 + aj s (st.p + 1); omega,this,rfl⟩
theorem BP {s:ByteArray}:∀ (n:Nat) (xs:List Al) (st:RS),st.p≤s.size→st.p≤(dz s n xs st).2.p∧(dz s n xs st).2.p≤s.size∧(dz s n xs st).2.out=st.out:=by
 intro n
 induction n with
 | zero=>intro xs st h; exact ⟨Sy _,h,rfl⟩
 | succ n ih =>
  intro xs st h;have h1:=BO h;have h2:=Dv h1.2;have h3:(aU s (bu s st)).out=st.out:=h2.2.2;unfold dz;by_cases hb:st.bad=true
  ·rw [if_pos hb]; exact ⟨Sy _,h,rfl⟩
  rw [if_neg hb];by_cases hc:ll s dS (aU s (bu s st))=true
  ·rw [if_pos hc];have h4:(aU s (bu s st)).p + 1≤s.size:=kN hc;exact ⟨by show st.p≤(aU s (bu s st)).p + 1; omega,h4,h3⟩
  rw [if_neg hc];by_cases hm:ll s jP (aU s (bu s st))=true
  ·rw [if_pos hm];have h4:(aU s (bu s st)).p + 1≤s.size:=kN hm;obtain ⟨a,b,c⟩:=ih (xs ++ [⟨av s st.p,xR s (bu s st)⟩]) (kz jP (aU s (bu s st))) h4;have a':(aU s (bu s st)).p + 1≤_:=a;exact ⟨by omega,b,c.trans h3⟩
  rw [if_neg hm];obtain ⟨a,b,c⟩:=ih (xs ++ [⟨av s st.p,xR s (bu s st)⟩]) (ul (aU s (bu s st))) h2.2.1;have a':(aU s (bu s st)).p≤_:=a;exact ⟨by omega,b,c.trans h3⟩
def yZ (s:aD) (k:Nat) (st st':RS):Prop:=st.p≤st'.p∧st'.p≤s.size∧st'.out.length + st.p≤st.out.length + k + st'.p
theorem Ka {s:ByteArray} {st:RS} (h:ll s fJ st=true):yZ s 1 st (pW s st).2:=by
 have h1:(kz fJ st).p≤s.size:=kN h;obtain ⟨a,b,c⟩:=BP (s:=s) (s.size + 1) [] (kz fJ st) h1;have a':st.p + 5≤_:=a;have c':_=st.out:=c;unfold pW yZ;cases e:dz s (s.size + 1) [] (kz fJ st) with
 | mk o st' =>
  rw [e] at a' b c';replace a':st.p + 5≤st'.p:=a';replace b:st'.p≤s.size:=b;replace c':st'.out=st.out:=c';cases o with
  | none=>exact ⟨by show st.p≤st'.p; omega,b,by show st'.out.length + _≤_ + _ + st'.p; rw [c']; omega⟩
  | some xs=>exact ⟨by show st.p≤st'.p; omega,b,by show (st'.out ++ _).length + _≤_ + _ + st'.p; rw [c',SE,List.length_singleton]; omega⟩
theorem MR {s:ByteArray} {st:RS} (h:st.p≤s.size):yZ s 1 st (rP (eT s st) (judged (eT s st) (aJ s st))):=by
 have h1:=BO h;have key:st.p≤(aJ s st).p∧(aJ s st).p≤s.size∧(aJ s st).out=st.out:=by
  unfold aJ;cases e:ll s oH (bu s st);case false=>exact ⟨h1.1,h1.2,rfl⟩
  have h2:st.p + aj s st.p + 2≤s.size:=kN e;have:=kC s _ h2;exact ⟨by show st.p≤st.p + aj s st.p + 2 + aj s (st.p + aj s st.p + 2); omega,this,rfl⟩
 have Zx:(judged (eT s st) (aJ s st)).p=(aJ s st).p∧(judged (eT s st) (aJ s st)).out=st.out:=by
  unfold judged;split
  ·exact ⟨rfl,key.2.2⟩
  exact ⟨rfl,key.2.2⟩
 refine ⟨?_,?_,?_⟩
 ·show st.p≤(judged (eT s st) (aJ s st)).p;rw [Zx.1]; exact key.1
 ·show (judged (eT s st) (aJ s st)).p≤_;rw [Zx.1]; exact key.2.1
 show ((judged (eT s st) (aJ s st)).out ++ _).length + _≤_ + 1 + (judged (eT s st) (aJ s st)).p;rw [Zx.1,Zx.2,SE,List.length_singleton];have:=key.1;omega
theorem Kb {s:ByteArray} {st:RS} {x:Int × RS} (h:yZ s 1 (kz jw st) x.2):yZ s 1 st (sK s x).2:=by
 obtain ⟨a,b,c⟩:=h;replace a:st.p + 1≤x.2.p:=a;replace c:x.2.out.length + (st.p + 1)≤st.out.length + 1 + x.2.p:=c;unfold sK;cases e:ll s dS x.2;case false=>exact ⟨by show st.p≤x.2.p; omega,b,by show x.2.out.length + st.p≤_ + 1 + x.2.p; omega⟩
 have h2:x.2.p + 1≤s.size:=kN e;exact ⟨by show st.p≤x.2.p + 1; omega,h2,by show x.2.out.length + st.p≤_ + 1 + (x.2.p + 1); omega⟩
theorem Kc {s:ByteArray} {it:RS→Int × RS} {k:Int} (hit:∀ st,st.p≤s.size→yZ s 1 st (it st).2):∀ (n:Nat) (zs:List Int) (st:RS),st.p≤s.size→yZ s 0 st (ik s it k n zs st).2∧(0 < n→ll s (aV k) st=true→(ik s it k n zs st).2.out.length + st.p + 2≤st.out.length + (ik s it k n zs st).2.p):=by
 intro n
 induction n with
 | zero=>intro zs st h; exact ⟨⟨Sy _,h,Sy _⟩,fun h=>absurd h (by omega)⟩
 | succ n ih =>
  intro zs st h;unfold ik;cases e:ll s (aV k) st;case false=>exact ⟨⟨Sy _,h,Sy _⟩,fun _ h=>by cases h⟩
  have h1:st.p + 3≤s.size:=by have:=kN e; rw [lY] at this; exact this
  have eP:(kz (aV k) st).p=st.p + 3:=by unfold kz; rw [lY]
  have eO:(kz (aV k) st).out=st.out:=rfl;obtain ⟨a,b,c⟩:=hit (kz (aV k) st) (by rw [eP]; exact h1);rw [eP] at a c;rw [eO] at c;obtain ⟨⟨a2,b2,c2⟩,-⟩:=ih (zs ++ [(it (kz (aV k) st)).1]) (it (kz (aV k) st)).2 b;simp only [if_true];exact ⟨⟨by omega,b2,by omega⟩,fun _ _=>by omega⟩
theorem GY {s:ByteArray} {p:Nat} (h:dA s p ≠ 0):dV s (aV (dA s p)) p=true:=by
 unfold dA at h ⊢;cases h1:dV s (aV 4) p;case true=>simpa using h1
 cases h2:dV s (aV 5) p;case true=>simpa [h1] using h2
 cases h3:dV s (aV 6) p;case true=>simpa [h1,h2] using h3
 simp [h1,h2,h3] at h
theorem Pi {s:ByteArray} {it:RS→Int × RS} (hit:∀ st,st.p≤s.size→yZ s 1 st (it st).2) {st:RS} {x:Int × RS} (h:yZ s 1 st x.2):yZ s 1 st (rowP s it x).2:=by
 unfold rowP;by_cases hc:dA s x.2.p=0 ∨ x.2.bad=true
 ·rw [if_pos hc]; exact h
 rw [if_neg hc];have hsg:dA s x.2.p ≠ 0:=fun e=>hc (.inl e)
 have hbd:x.2.bad=false:=by cases e:x.2.bad with
  | false=>rfl
  | true=>exact absurd (.inr e) hc
 have Zy:ll s (aV (dA s x.2.p)) x.2=true:=by unfold ll; rw [hbd,GY hsg]; rfl
 obtain ⟨⟨a,b,c⟩,d⟩:=Kc hit (k:=dA s x.2.p) (s.size + 1) [x.1] x.2 h.2.1;have d:=d (by omega) Zy;obtain ⟨a1,b1,c1⟩:=h;refine ⟨?_,b,?_⟩
 ·show st.p≤(ik s it (dA s x.2.p) (s.size + 1) [x.1] x.2).2.p;omega
 show ((ik s it (dA s x.2.p) (s.size + 1) [x.1] x.2).2.out ++ _).length + _≤_ + 1 + (ik s it (dA s x.2.p) (s.size + 1) [x.1] x.2).2.p;rw [SE,List.length_singleton];omega
theorem za {s:ByteArray} {n:Nat} {st:RS} (h:ll s fJ st=true):yM s (n + 1) false st=pW s st:=by
 unfold yM pW;rw [if_pos h];cases dz s (s.size + 1) [] (kz fJ st) with
 | mk o st'=>cases o <;> rfl
theorem zb {s:ByteArray} {n:Nat} {st:RS} (h:ll s fJ st=false) (h2:ll s jw st=true):yM s (n + 1) false st=sK s (yM s n true (kz jw st)):=by
 conv=>lhs; unfold yM
 rw [if_neg (by rw [h]; decide),if_pos h2];rfl
theorem ze {s:ByteArray} {n:Nat} {st:RS} (h:ll s fJ st=false) (h2:ll s jw st=false):yM s (n + 1) false st=((st.out.length:Int),rP (eT s st) (judged (eT s st) (aJ s st))):=by
 unfold yM;rw [if_neg (by rw [h]; decide),if_neg (by rw [h2]; decide)]
theorem Dw {s:ByteArray} {n:Nat} {st:RS}:yM s (n + 1) true st=rowP s (yM s n false) (yM s n false st):=by
 conv=>lhs; unfold yM
 rfl
theorem qW {s:ByteArray}:∀ (n:Nat) (b:Bool) (st:RS),st.p≤s.size→yZ s 1 st (yM s n b st).2:=by
 intro n
 induction n with
 | zero=>intro b st h; cases b <;> exact ⟨Sy _,h,by show st.out.length + st.p≤st.out.length + 1 + st.p; omega⟩
 | succ n ih =>
  intro b st h;cases b;case true=>rw [Dw]; exact Pi (fun st' h'=>ih false st' h') (ih false st h)
  cases h1:ll s fJ st;case true=>rw [za h1]; exact Ka h1
  cases h2:ll s jw st;case true=>rw [zb h1 h2]; exact Kb (ih true (kz jw st) (kN h2))
  rw [ze h1 h2]; exact MR h
theorem MS (R:Nat) (s:aD) (base:Nat) (hR:R < base) (hs:s.size≤1000):∀ n:Nat,
  (∀ (st:RS) (v:Value) (qs:List ER) (w:ae),RdF w R s st base v qs→base≤w.heap.size→st.p≤s.size→st.out.length + (s.size - st.p)≤5000→2 * (s.size - st.p) < n →
   Calls prog 234 #[.pointer (some ⟨R,0,none⟩)] w (ut R s base v qs w (yM s n false st))) ∧
  (∀ (st:RS) (v:Value) (qs:List ER) (w:ae),RdF w R s st base v qs→base≤w.heap.size→st.p≤s.size→st.out.length + (s.size - st.p)≤5000→2 * (s.size - st.p) + 1 < n →
   Calls prog 219 #[.pointer (some ⟨R,0,none⟩)] w (ut R s base v qs w (yM s n true st))):=by
 intro n
 induction n with
 | zero=>exact ⟨fun _ _ _ _ _ _ _ _ h=>absurd h (by omega),fun _ _ _ _ _ _ _ _ h=>absurd h (by omega)⟩
 | succ n ih =>
  refine ⟨fun st v qs w h hB hp hb hn=>?_,fun st v qs w h hB hp hb hn=>?_⟩
  ·have hlen:qs.length=st.out.length:=by rw [← h.out]; simp [ak]
   cases h1:ll s fJ st;case true=>rw [za h1]; exact J6 R s st base v qs w h hR hB hs hp (by omega) h1
   cases h2:ll s jw st;case true=>
    rw [zb h1 h2];have h3:st.p + 1≤s.size:=kN h2;have h4:(kz jw st).p=st.p + 1:=rfl;exact MG R s st base v qs w h hR hs hp h1 h2 _ (qW n true (kz jw st) h3).2.1 fun w1 hw1 hsz=>ih.2 (kz jw st) v qs w1 hw1 (SF hB hsz) h3 (by rw [h4]; show st.out.length + _≤_; omega) (by rw [h4]; omega)
   rw [ze h1 h2]; exact J3 R s st base v qs w h hR hB hs hp (by omega) h1 h2
  rw [Dw];obtain ⟨a,b,c⟩:=qW (s:=s) n false st hp;refine Ph R s st base v qs w h hR hB hs _ b (ih.1 st v qs w h hB hp hb (by omega)) _ (by omega) (fun st' v' qs' w' h' hB' h1 h2 h3=>ih.1 st' v' qs' w' h' hB' h2 h3 (by omega)) (fun st' h1 h2=>?_);obtain ⟨a2,b2,c2⟩:=qW (s:=s) n false st' h2;exact ⟨a2,b2,c2⟩
def RP (s:aD) (a:Al):Prop:=a.t.size≤s.size∧a.s.size≤s.size
def Gt (s:aD) (e:Ex):Prop:=e.allow.length≤s.size + 1∧(∀ a ∈ e.allow,RP s a)∧e.over.size≤s.size∧e.name.size≤s.size∧e.kids.length≤s.size + 2
theorem pY (s:aD) (p:Nat):(av s p).size≤s.size:=by
 unfold av;rw [ByteArray.size_extract];omega
theorem Pj (s:aD) (st:RS):(xR s st).size≤s.size:=by
 unfold xR;split
 ·exact pY s _
 exact SC _
theorem Ke {s:ByteArray}:∀ (n:Nat) (xs:List Al) (st:RS) (ys:List Al),(∀ a ∈ xs,RP s a)→(dz s n xs st).1=some ys→ys.length≤xs.length + n∧∀ a ∈ ys,RP s a:=by
 intro n
 induction n with
 | zero=>intro xs st ys _ h; cases h
 | succ n ih =>
  intro xs st ys hx h;have hx2:∀ a ∈ xs ++ [(⟨av s st.p,xR s (bu s st)⟩:Al)],RP s a:=by
   intro a ha;rcases SI.1 ha with h1 | h1
   ·exact hx a h1
   rw [SG] at h1; subst h1; exact ⟨pY s _,Pj s _⟩
  unfold dz at h;by_cases hb:st.bad=true
  ·rw [if_pos hb] at h; cases h
  rw [if_neg hb] at h;by_cases hc:ll s dS (aU s (bu s st))=true
  ·rw [if_pos hc] at h;injection h with h;subst h;exact ⟨by rw [SE,List.length_singleton]; omega,hx2⟩
  rw [if_neg hc] at h;have fin:∀ st',(dz s n (xs ++ [⟨av s st.p,xR s (bu s st)⟩]) st').1=some ys→ys.length≤xs.length + (n + 1)∧∀ a ∈ ys,RP s a:=fun st' h'=>by
   obtain ⟨a,b⟩:=ih _ st' ys hx2 h';rw [SE,List.length_singleton] at a;exact ⟨by omega,b⟩
  by_cases hm:ll s jP (aU s (bu s st))=true
  ·rw [if_pos hm] at h; exact fin _ h
  rw [if_neg hm] at h; exact fin _ h
theorem Dx {s:ByteArray} {x:Ex} {st:RS} (h:∀ e ∈ st.out,Gt s e) (hx:Gt s x):∀ e ∈ (rP x st).out,Gt s e:=by
 intro e he;rcases SI.1 he with h1 | h1
 ·exact h e h1
 rw [SG] at h1; subst h1; exact hx
theorem MU {s:ByteArray} {st:RS} (hp:st.p + 5≤s.size) (h:∀ e ∈ st.out,Gt s e):∀ e ∈ (pW s st).2.out,Gt s e:=by
 have hc:=(BP (s:=s) (s.size + 1) [] (kz fJ st) hp).2.2;have hs:=Ke (s:=s) (s.size + 1) [] (kz fJ st);unfold pW;cases e:dz s (s.size + 1) [] (kz fJ st) with
 | mk o st' =>
  rw [e] at hc hs;have hc':st'.out=st.out:=hc;cases o with
  | none=>show ∀ e ∈ st'.out,Gt s e; rw [hc']; exact h
  | some xs =>
   obtain ⟨a,b⟩:=hs xs (fun a ha=>by cases ha) rfl;exact Dx (by rw [hc']; exact h) ⟨by simpa using a,b,SC _,SC _,SC _⟩
theorem Pk {s:ByteArray} {st:RS} (h:∀ e ∈ st.out,Gt s e):∀ e ∈ (rP (eT s st) (judged (eT s st) (aJ s st))).out,Gt s e:=by
 have h1:(judged (eT s st) (aJ s st)).out=st.out:=by
  have h2:(aJ s st).out=st.out:=by unfold aJ; split <;> rfl
  unfold judged; split <;> exact h2
 refine Dx (by rw [h1]; exact h) ?_;unfold eT;split
 ·exact ⟨SC _,fun a ha=>(by cases ha),pY s _,pY s _,SC _⟩
 exact ⟨SC _,fun a ha=>(by cases ha),SC _,pY s _,SC _⟩
theorem MV {s:ByteArray} {it:RS→Int × RS} {k:Int} (hit:∀ st,(∀ e ∈ st.out,Gt s e)→st.p≤s.size→(∀ e ∈ (it st).2.out,Gt s e)∧(it st).2.p≤s.size):∀ (n:Nat) (zs:List Int) (st:RS),(∀ e ∈ st.out,Gt s e)→st.p≤s.size→(∀ e ∈ (ik s it k n zs st).2.out,Gt s e)∧(ik s it k n zs st).1.length≤zs.length + n:=by
 intro n
 induction n with
 | zero=>intro zs st h _; exact ⟨h,Sy _⟩
 | succ n ih =>
  intro zs st h hp;unfold ik;cases e:ll s (aV k) st;case false=>exact ⟨h,Nat.le_add_right _ _⟩
  have h1:(kz (aV k) st).p≤s.size:=kN e;obtain ⟨a,b⟩:=hit (kz (aV k) st) h h1;obtain ⟨a2,b2⟩:=ih (zs ++ [(it (kz (aV k) st)).1]) _ a b;rw [SE,List.length_singleton] at b2;exact ⟨a2,by simp only [if_true]; omega⟩
theorem MW {s:ByteArray}:∀ (n:Nat) (b:Bool) (st:RS),st.p≤s.size→(∀ e ∈ st.out,Gt s e)→∀ e ∈ (yM s n b st).2.out,Gt s e:=by
 intro n
 induction n with
 | zero=>intro b st _ h; cases b <;> exact h
 | succ n ih =>
  intro b st hp h;cases b;case true=>
   rw [Dw];unfold rowP;have hx:=ih false st hp h;have hxp:=(qW (s:=s) n false st hp).2.1;split
   ·exact hx
   obtain ⟨a,b⟩:=MV (s:=s) (it:=yM s n false) (k:=dA s (yM s n false st).2.p) (fun st' h1 h2=>⟨ih false st' h2 h1,(qW (s:=s) n false st' h2).2.1⟩) (s.size + 1) [(yM s n false st).1] (yM s n false st).2 hx hxp;exact Dx a ⟨SC _,fun a ha=>(by cases ha),SC _,SC _,SF b (by simp only [List.length_singleton]; omega)⟩
  cases h1:ll s fJ st;case true=>rw [za h1]; exact MU (kN h1) h
  cases h2:ll s jw st;case true=>
   rw [zb h1 h2];have hx:=ih true (kz jw st) (kN h2) h;unfold sK;split
   ·exact hx
   exact hx
  rw [ze h1 h2]; exact Pk h
theorem Gt.light {s:ByteArray} {e:Ex} (h:Gt s e) (hs:s.size≤1000):e.light∧e.fits:=by
 obtain ⟨h1,h2,h3,h4,h5⟩:=h;refine ⟨⟨by omega,by omega⟩,⟨fun a ha=>⟨?_,?_⟩,?_,?_,?_,?_⟩⟩ <;> unfold maxLen
 ·have:=(h2 a ha).1; omega
 ·have:=(h2 a ha).2; omega
 all_goals omega
def kD (s:aD):RS:=(yM s (2 * s.size + 2) true ⟨0,false,[]⟩).2
def lZ (s:aD):Bool:=decide (s.size≤1000) && !(kD s).bad && !decide ((kD s).p < s.size) && aN (kD s).out && ((gW (kD s).out).toList == s.toList)
def RQ (s:aD) (w:ae) (e:Ending) (w':ae):Prop :=
 af w w'∧((lZ s=false∧e=.returned (.tuple #[.slice none 0 0,.bool false])) ∨ (lZ s=true∧∃ (v:Value) (R:Nat) (qs:List ER),e=.returned (.tuple #[v,.bool true])∧RdF w' R s (kD s) (w.heap.size + 1) v qs))
theorem MX (w:ae) (s:aD):RdF (w.alloc (.cells #[.string s,.int .i64 0,.bool false,.slice none 0 0] 303)) w.heap.size s ⟨0,false,[]⟩ (w.heap.size + 1) (.slice none 0 0) []:=by
 refine ⟨⟨by simp,by simp,by simp,by simp,by simp,fun j=>by simp⟩,World.ownsRow_nil _ _ _ _,rfl,?_,?_,?_,?_,?_,?_,?_,?_⟩
 ·intro q hq; cases hq
 ·intro q hq; cases hq
 ·intro q hq; cases hq
 ·intro q hq; cases hq
 ·intro q hq; cases hq
 ·intro x y hx; exact absurd hx (by simp)
 ·intro q hq; cases hq
 intro q hq; cases hq
theorem RdF.slE {w:ae} {R:Nat} {s:ByteArray} {st:RS} {base:Nat} {v:Value} {qs:List ER} (h:RdF w R s st base v qs):∃ ad cap,v=.slice ad qs.length cap∧jk w ad qs:=Qr h.own rfl h.ok
theorem RdF.later {w w':ae} {R:Nat} {s:ByteArray} {st:RS} {base:Nat} {v:Value} {qs:List ER} (h:RdF w R s st base v qs) (hb:af w w'):RdF w' R s st base v qs :=
 h.heap hb.size (hb.block R h.rd.lt) (fun g hg=>hb.block g (h.own.lt g hg).2) (fun q hq g hi=>hb.block g (h.lie q hq g hi).2.1)
theorem vP (s:aD) (w:ae):Calls prog 178 #[.string s] w (RQ s w):=by
 by_cases hs:s.size≤1000
 ·have hd0:decide ((1000:Int) < (s.size:Int))=false:=by simp; omega
  have Yo:=ai (MX w s);have UU:=ai ((MS w.heap.size s (w.heap.size + 1) (by omega) hs (2 * s.size + 2)).2 ⟨0,false,[]⟩ (.slice none 0 0) [] _ Yo.out (by simp) (SC _) (by simp; omega) (by simp));have Zc:Hid (∀ e ∈ (kD s).out,e.light∧e.fits):=fun e he=>(MW (s:=s) _ true ⟨0,false,[]⟩ (SC _) (fun e he=>by cases he) e he).light hs;have HFEW:=ai (qW (s:=s) (2 * s.size + 2) true ⟨0,false,[]⟩ (SC _));go_enter func178,ntmps178;go_wp2_with fail;refine UU.out.mono ?_;rintro e w1 ⟨v1,qs,rfl,hF1,hW1,-⟩;replace hF1:RdF w1 w.heap.size s (kD s) (w.heap.size + 1) v1 qs:=hF1;have UL:=ai hF1;have HB1:Hid (af w w1):=⟨hW1.onl.os,hW1.onl.tape,hW1.onl.output,by have:=hW1.onl.size; simp at this; omega,fun k hk=>(hW1.onl.block k (by simp; omega) (by omega) (by simp [Value.ownBlock])).trans ((World.grownBy_alloc w _ none).block k hk (by simp))⟩;obtain ⟨ad,cap,rfl,hsl⟩:=hF1.slE;have VM:=ai hsl;have Xk:=ai hF1.out;have YA:qs.length≤1048576:=by
   have h2:=congrArg List.length hF1.out;simp only [ak,Tk] at h2;have h3:(kD s).out.length + 0≤0 + 1 + (kD s).p:=HFEW.out.2.2;have h4:(kD s).p≤s.size:=HFEW.out.2.1;omega
  have HL:Hid (∀ r ∈ qs,r.e.light):=fun r hr=>(Zc.out r.e (by rw [← Xk.out]; exact SK.2 ⟨r,hr,rfl⟩)).1;have HF:Hid (∀ r ∈ qs,r.e.fits):=fun r hr=>(Zc.out r.e (by rw [← Xk.out]; exact SK.2 ⟨r,hr,rfl⟩)).2;have WL:Hid (lZ s=(!(kD s).bad && !decide ((kD s).p < s.size) && aN (kD s).out && ((gW (kD s).out).toList == s.toList))):=by show _=_; unfold lZ; simp [hs]
  have c1:=hF1.rd.c1;have c2:=hF1.rd.c2;have c3:=hF1.rd.c3;clear hF1 hW1 hsl UU Yo Zc HFEW;cases hb:(kD s).bad;case true=>
   rw [hb] at c2;have EQ:Hid (lZ s=false):=by show _=_; rw [WL.out,hb]; rfl
   go_wp2;exact bodyPost_ret (v:=.tuple #[.slice none 0 0,.bool false]) (by simp [results,Tryz.results178,go_sem]) rfl ⟨HB1.out,.inl ⟨EQ.out,rfl⟩⟩
  rw [hb] at c2;by_cases hlt:(kD s).p < s.size
  ·have hd1:decide (((kD s).p:Int) < (s.size:Int))=true:=by simp; omega
   have EQ:Hid (lZ s=false):=by show _=_; rw [WL.out,hb,decide_eq_true hlt]; rfl
   go_wp2;exact bodyPost_ret (v:=.tuple #[.slice none 0 0,.bool false]) (by simp [results,Tryz.results178,go_sem]) rfl ⟨HB1.out,.inl ⟨EQ.out,rfl⟩⟩
  have hd1:decide (((kD s).p:Int) < (s.size:Int))=false:=by simp; omega
  go_wp2_with fail;refine (lX ad cap qs w1 YA HL.out HF.out VM.out).mono ?_;rintro e w2 ⟨rfl,hB2⟩;have U9:=ai (UL.out.later hB2);have HB2:=ai (HB1.out.trans (hB2.mono HB1.out.size));have HSL2:=ai (VM.out.below hB2);have k3:=U9.out.rd.c3;rw [Xk.out];clear hB2;cases he:aN (kD s).out;case false=>
   have EQ:Hid (lZ s=false):=by show _=_; rw [WL.out,hb,decide_eq_false hlt,he]; rfl
   go_wp2;exact bodyPost_ret (v:=.tuple #[.slice none 0 0,.bool false]) (by simp [results,Tryz.results178,go_sem]) rfl ⟨HB2.out,.inl ⟨EQ.out,rfl⟩⟩
  go_wp2_with fail;refine (nG ad cap qs w2 YA HL.out HF.out HSL2.out).mono ?_;rintro e w3 ⟨rfl,hB3⟩;have Yq:=ai (U9.out.later hB3);have HB3:=ai (HB2.out.trans (hB3.mono HB2.out.size));have q3:=Yq.out.rd.c3;rw [Xk.out];clear hB3;cases ht:(gW (kD s).out).toList == s.toList;case false=>
   have ht2:(!(gW (kD s).out).toList == s.toList)=true:=by rw [ht]; rfl
   have EQ:Hid (lZ s=false):=by show _=_; rw [WL.out,ht,Bool.and_false]
   go_wp2;exact bodyPost_ret (v:=.tuple #[.slice none 0 0,.bool false]) (by simp [results,Tryz.results178,go_sem]) rfl ⟨HB3.out,.inl ⟨EQ.out,rfl⟩⟩
  have ht2:(!(gW (kD s).out).toList == s.toList)=false:=by rw [ht]; rfl
  have EQ:Hid (lZ s=true):=by show _=_; rw [WL.out,hb,decide_eq_false hlt,he,ht]; rfl
  go_wp2;exact bodyPost_ret (v:=.tuple #[.slice ad qs.length cap,.bool true]) (by simp [results,Tryz.results178,go_sem]) rfl ⟨HB3.out,.inr ⟨EQ.out,_,_,qs,rfl,Yq.out⟩⟩
 have hd0:decide ((1000:Int) < (s.size:Int))=true:=by simp; omega
 have EQ:Hid (lZ s=false):=by show _=_; unfold lZ; rw [decide_eq_false hs]; rfl
 go_enter func178,ntmps178;go_wp2;exact bodyPost_ret (v:=.tuple #[.slice none 0 0,.bool false]) (by simp [results,Tryz.results178,go_sem]) rfl ⟨Sz _ _,.inl ⟨EQ.out,rfl⟩⟩
theorem RdF.nod {w:ae} {R:Nat} {s:ByteArray} {st:RS} {base:Nat} {v:Value} {qs:List ER} (h:RdF w R s st base v qs):NodM w base v qs:=⟨h.own,h.zA,h.zK,h.ok,h.lie,h.one,h.two,h.cA⟩
open Go.Maps
def Pm (v:Value):Option (DataW Value × List MemPlace):=some (.held v,[])
section
variable {K:Type} (enc:K→Value) (P:Program) (k:TypeId)
def QO (D:DataW Value) (kl:Lit):Option Value→Prop
 | none=>Maps.has D kl=false∧∀ z,D.atKey kl z=z
 | some v=>Maps.has D kl=true∧∀ z,D.atKey kl z=.held v
def aO (w:ae) (b n:Nat) (M:K→Option Value):Prop :=
 ∃ D:DataW Value,w.ownsMap P k Pm b n D∧∀ x kl,keyOf P k (enc x)=some kl→QO D kl (M x)
def lm [DecidableEq K] (M:K→Option Value) (x:K) (v:Option Value):K→Option Value:=fun y=>if y=x then v else M y
end
section
variable {K:Type} {enc:K→Value} {P:Program} {k:TypeId} {w:ae} {b n:Nat} {M:K→Option Value}
theorem dX [DecidableEq K] (M:K→Option Value) (x:K) (v:Option Value):lm M x v x=v:=by simp [lm]
theorem bZ [DecidableEq K] {M:K→Option Value} {x y:K} {v:Option Value} (h:y ≠ x):lm M x v y=M y:=by simp [lm,h]
theorem nH (enc:K→Value) (P:Program) (k:TypeId) (w:ae):aO enc P k (w.alloc (.map #[] 0)) w.heap.size 0 (fun _=>none) :=
 ⟨.map [],World.ownsMap_made w P k Pm,fun _ kl _=>⟨rfl,fun z=>by simp [DataW.atKey]⟩⟩
theorem aO.lt (h:aO enc P k w b n M):b < w.heap.size:=by obtain ⟨D,h1,-⟩:=h; exact h1.lt
theorem aO.mono (h:aO enc P k w b n M) {n':Nat} (hn:n≤n'):aO enc P k w b n' M:=by obtain ⟨D,h1,h2⟩:=h; exact ⟨D,h1.mono hn,h2⟩
theorem aO.kept {w':ae} {row:Option Nat} (h:aO enc P k w b n M) (hg:w.grownBy w' row) (hne:some b ≠ row):aO enc P k w' b n M:=by
 obtain ⟨D,h1,h2⟩:=h; exact ⟨D,h1.kept hg hne,h2⟩
theorem aO.below {w':ae} (h:aO enc P k w b n M) (hB:af w w'):aO enc P k w' b n M :=
 h.kept (row:=none) ⟨hB.os,hB.tape,hB.output,hB.size,fun k hk _=>hB.block k hk⟩ (by simp)
theorem aO.setCell (h:aO enc P k w b n M) {a:Addr} (ha:b ≠ a.block) (u:Value):aO enc P k (w.setCell a u) b n M:=by
 obtain ⟨D,h1,h2⟩:=h; exact ⟨D,h1.setCell ha u,h2⟩
theorem aO.look {t e:TypeId} (h:aO enc P k w b n M) (L:Keyed P k) (ht:P.underlying t=some (.map k e)) {z:Value} (hz:(zeroValue e).run P w=.ok z w) {x:K} {kl:Lit} (hkey:keyOf P k (enc x)=some kl) :
  (Instr.lookup t (.map (some b)) (enc x) false).run P w=.ok ((M x).getD z) w:=by
 obtain ⟨D,h1,h2⟩:=h;obtain ⟨v,ps,hrun,hv⟩:=h1.lookup L ht hz (zd:=.held z) (zp:=[]) rfl hkey;have h3:=h2 x kl hkey;rw [hrun];have:v=(M x).getD z:=by
  simp only [Pm,Option.some.injEq,Prod.mk.injEq] at hv;cases e:M x with
  | none=>rw [e] at h3; rw [h3.2] at hv; injection hv.1 with h4
  | some u=>rw [e] at h3; rw [h3.2] at hv; injection hv.1 with h4
 rw [this]
theorem aO.look_ok {t e:TypeId} (h:aO enc P k w b n M) (L:Keyed P k) (ht:P.underlying t=some (.map k e)) {z:Value} (hz:(zeroValue e).run P w=.ok z w) {x:K} {kl:Lit} (hkey:keyOf P k (enc x)=some kl) :
  (Instr.lookup t (.map (some b)) (enc x) true).run P w=.ok (.tuple #[(M x).getD z,.bool (M x).isSome]) w:=by
 obtain ⟨D,h1,h2⟩:=h;obtain ⟨v,ps,hrun,hv⟩:=h1.look_ok L ht hz (zd:=.held z) (zp:=[]) rfl hkey;have h3:=h2 x kl hkey;rw [hrun];simp only [Pm,Option.some.injEq,Prod.mk.injEq] at hv;cases e:M x with
 | none=>rw [e] at h3; rw [h3.2] at hv; injection hv.1 with h4; rw [h4,h3.1]; rfl
 | some u=>rw [e] at h3; rw [h3.2] at hv; injection hv.1 with h4; rw [h4,h3.1]; rfl
theorem aO.store [DecidableEq K] {t e:TypeId} (h:aO enc P k w b n M) (L:Keyed P k) (hinj:∀ x y,enc x=enc y→x=y) (ht:P.underlying t=some (.map k e)) (hn:n < maxLen) {x:K} {kl:Lit} (hkey:keyOf P k (enc x)=some kl) (v:Value) :
  ∃ w',(Instr.mapUpdate t (.map (some b)) (enc x) v).run P w=.ok () w'∧aO enc P k w' b (n + 1) (lm M x (some v))∧w.grownBy w' (some b):=by
 obtain ⟨D,h1,h2⟩:=h;obtain ⟨w',hrun,h3,h4⟩:=h1.update L ht hn hkey (val:=v) (d:=.held v) (ps:=[]) rfl;refine ⟨w',hrun,⟨D.put kl (.held v),h3,fun y ky hy=>?_⟩,h4⟩;by_cases e:y=x
 ·subst e;obtain rfl:ky=kl:=by rw [hkey] at hy; injection hy with hy; exact hy.symm
  rw [dX];exact ⟨has_put_same h1.isMap (L.key hkey) _,fun z=>atKey_put_same h1.isMap (L.key hkey) _ z⟩
 have hne:ky ≠ kl:=fun e2=>e (hinj _ _ (L.inj (by rw [e2] at hy; exact hy) hkey));rw [bZ e];have h5:=h2 y ky hy;cases e3:M y with
 | none=>rw [e3] at h5; exact ⟨by rw [has_put_other hne]; exact h5.1,fun z=>by rw [atKey_put_other hne]; exact h5.2 z⟩
 | some u=>rw [e3] at h5; exact ⟨by rw [has_put_other hne]; exact h5.1,fun z=>by rw [atKey_put_other hne]; exact h5.2 z⟩
end
section
variable {K:Type} {enc:K→Value} {P:Program} (w:ae) {ops:Array Oper} {rest:List Oper} {o:Oper} {a:Act} {Q:Exit→Act→World→Prop}
theorem jy (hg:o.guard=none) (m x:Operand) (t:TypeId) (hop:o.op=Op.lookup t m x false) (k e:TypeId) (L:Keyed P k) (ht:P.underlying t=some (.map k e)) {z:Value} (hz:(zeroValue e).run P w=.ok z w) (b n:Nat) (M:K→Option Value)
  (hm:a.eval m=.map (some b)) (hV:aO enc P k w b n M) (y:K) (kl:Lit) (hx:a.eval x=enc y) (hkey:keyOf P k (enc y)=some kl)
  (hK:wpList P ops Q rest (a.put o.dst ((M y).getD z)) w):wpList P ops Q (o::rest) a w:=by
 refine wpList_plain hg fun K' hK'=>?_;have hrun:=hV.look L ht hz hkey;unfold Oper.wp;simp [execOp,hop,hm,hx,hrun,Result.andThen];exact hK' _ _ hK
theorem dL (hg:o.guard=none) (m x:Operand) (t:TypeId) (hop:o.op=Op.lookup t m x true) (k e:TypeId) (L:Keyed P k) (ht:P.underlying t=some (.map k e)) {z:Value} (hz:(zeroValue e).run P w=.ok z w) (b n:Nat) (M:K→Option Value)
  (hm:a.eval m=.map (some b)) (hV:aO enc P k w b n M) (y:K) (kl:Lit) (hx:a.eval x=enc y) (hkey:keyOf P k (enc y)=some kl)
  (hK:wpList P ops Q rest (a.put o.dst (.tuple #[(M y).getD z,.bool (M y).isSome])) w):wpList P ops Q (o::rest) a w:=by
 refine wpList_plain hg fun K' hK'=>?_;have hrun:=hV.look_ok L ht hz hkey;unfold Oper.wp;simp [execOp,hop,hm,hx,hrun,Result.andThen];exact hK' _ _ hK
theorem nk [DecidableEq K] (hg:o.guard=none) (m x v:Operand) (t:TypeId) (hop:o.op=Op.mapUpdate t m x v) (k e:TypeId) (L:Keyed P k) (hinj:∀ x y,enc x=enc y→x=y) (ht:P.underlying t=some (.map k e)) (b n:Nat) (M:K→Option Value)
  (hm:a.eval m=.map (some b)) (hV:aO enc P k w b n M) (hn:n < maxLen) (y:K) (kl:Lit) (hx:a.eval x=enc y) (hkey:keyOf P k (enc y)=some kl) (u:Value) (hv:a.eval v=u)
  (hK:∀ w',aO enc P k w' b (n + 1) (lm M y (some u))→w.grownBy w' (some b)→wpList P ops Q rest (a.put o.dst undef) w'):wpList P ops Q (o::rest) a w:=by
 refine wpList_plain hg fun K' hK'=>?_;obtain ⟨w',hrun,r1,r2⟩:=hV.store L hinj ht hn hkey u;unfold Oper.wp;simp [execOp,hop,hm,hx,hv,hrun,Result.andThen];exact hK' _ _ (hK w' r1 r2)
end
def dU (k:ByteArray × ByteArray):Value:=.agg #[.string k.1,.string k.2]
theorem uy (x y:ByteArray × ByteArray) (h:dU x=dU y):x=y:=by
 unfold dU at h;injection h with h;have h1:=congrArg Array.toList h;simp at h1;exact Prod.ext h1.1 h1.2
theorem zf:laidOutB prog=true:=by kernel_rfl
theorem MZ:(94:TypeId) < prog.types.size:=of_decide_eq_true (by kernel_rfl)
theorem Pn:(match prog.underlying 94 with | some (.array _ _) | some (.struct _)=>true | _=>false)=true:=by rw [underlying94]
set_option maxRecDepth 100000 in
theorem Jn:WideMaps.KeyLaw prog 94:=deep_law_laid zf (m:=2) (by omega) MZ (by kernel_rfl) Pn
theorem ja:Keyed prog 94:=Keyed.of_law Jn
theorem Po:prog.keyType 94=true:=by kernel_rfl
theorem EN:prog.cellsOf 94=2:=by kernel_rfl
theorem strCells:prog.cellsOf 9=1:=by kernel_rfl
theorem Kg:∃ n,prog.types.size=n + 1:=Nat.exists_eq_succ_of_ne_zero (Nat.ne_of_gt (Nat.lt_of_le_of_lt (SC _) MZ))
theorem kE (k:ByteArray × ByteArray) (h1:k.1.size≤maxLen) (h2:k.2.size≤maxLen):∃ kl,keyOf prog 94 (dU k)=some kl:=by
 obtain ⟨n,hn⟩:=Kg;refine ⟨.string (keyBytes [.string k.1.data.toList,.string k.2.data.toList]),?_⟩;unfold keyOf;rw [underlying94];simp only [Po,dU,Value.formed,underlying94,EN,hn,Value.cells];simp [Program.keyLits,underlying94,underlying9,EN,strCells,h1,h2]
end Go.Proofs.YtajkkeikihhejaaGreat
