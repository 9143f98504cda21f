/- Drawn regions that only read, their callees laying blocks of their own: what one quiet walk wants of a contract. -/
import Derived.Test.YtdmniljjnaebbaaGreatDoorSq
import Derived.Lib.QuietBelow
import Derived.BigQuiet
import Derived.Test.YtdmniljjnaebbaaGreatDoorJ1
import Derived.Deep.RegionWith
import Derived.Maps.OwnSet
import Derived.DeepKeys4
import Derived.OwnWalk
import Derived.Maps.AppendAt
import Derived.RegionTactic
open Go.Proofs.Tryz
namespace Go.Proofs.YtdmniljjnaebbaaGreatDoor
open Go.RowKit Go.Sort
theorem oG {p:Prop} (h:p):Hid p:=h
theorem je {P:Program} {f:FuncId} {args:Array Value} {W:af} {v:Value} (h:∀ W',Calls P f args W' fun e w'=>e=.returned v∧w'=W'):∀ d os,Calls P f args (grow (redrawn W d) os) fun e w''=>e=.returned v∧∃ p:Regrown,w''=grow (redrawn W p.d) p.os:=fun d os=>(h _).mono fun _ _ ⟨he,hw⟩=>⟨he,⟨d,os⟩,hw⟩
theorem bP {P:Program} {f:FuncId} {args:Array Value} {W:af} {v:Value} (h:∀ W',aa W W'→Calls P f args W' fun e w'=>e=.returned v∧aa W' w'):∀ d os,Calls P f args (grow (redrawn W d) os) fun e w''=>e=.returned v∧∃ p:Regrown,w''=grow (redrawn W p.d) p.os:=fun d os=>Calls.regrown_of (h _ (below_regrown W d os))
open Pl
def jy (x y:Al):Bool:=x.t.toList == y.t.toList && x.s.toList == y.s.toList
def Lv (a:Al):Bool:=aR a.t && xm a.s
def dC (xs:List Al) (k:Nat) (a:Al):Bool:=(xs.take k).any fun x=>jy x a
theorem qK (xs:List Al) (k:Nat) (a:Al) (h:k < xs.length):dC xs (k + 1) a=(dC xs k a || jy xs[k] a):=by
 unfold dC; rw [Sk h,List.any_append]; simp
theorem qL (xs:List Al) (a:Al):dC xs 0 a=false:=by simp [dC]
def DJ (xs:List Al):Nat→Bool
 | 0=>true
 | k + 1=>DJ xs k && (xs[k]?.map fun a=>Lv a && !dC xs k a).getD true
theorem xx (xs:List Al) (k:Nat) (h:k < xs.length):DJ xs (k + 1)=(DJ xs k && (Lv xs[k] && !dC xs k xs[k])):=by
 simp [DJ,h]
theorem nk (xs:List Al) (k:Nat) (h:k < xs.length) (hb:(Lv xs[k] && !dC xs k xs[k])=false):∀ n,k < n→DJ xs n=false
 | 0,hn=>by omega
 | n + 1,hn=>by
  by_cases e:n=k
  ·subst e; rw [xx _ _ h,hb]; simp
  simp [DJ,nk xs k h hb n (by omega)]
def gG (xs:List Al):Bool:=decide (1≤xs.length) && decide (xs.length≤6) && DJ xs xs.length
def az (e:Ex):Bool :=
 if e.kind=1 then gG e.allow && e.over.toList.isEmpty && e.name.toList.isEmpty && decide (e.kids.length=0)
 else if e.kind=2 then aR e.name && decide (e.allow.length=0) && e.over.toList.isEmpty && decide (e.kids.length=0)
 else if e.kind=3 then aR e.over && aR e.name && decide (e.allow.length=0) && decide (e.kids.length=0)
 else if e.kind=4 ∨ e.kind=5 then decide (2≤e.kids.length) && decide (e.kids.length≤5) && decide (e.allow.length=0) && e.over.toList.isEmpty && e.name.toList.isEmpty
 else if e.kind=6 then decide (e.kids.length=2) && decide (e.allow.length=0) && e.over.toList.isEmpty && e.name.toList.isEmpty
 else false
def dX (f:Int→Int):List Int→Int→Int
 | [],at'=>at' + 1
 | k::ks,at'=>if at' < 0 ∨ k ≠ at' then -1 else if f at' < 0 then -1 else dX f ks (f at' - 1)
def oH (es:List Ex) (n:Nat):List Int:=(es[n]?.map Ex.kids).getD []
def aG (es:List Ex) (n:Nat):Int:=dX (fun x=>if _h:0≤x∧x.toNat < n then aG es x.toNat else -1) (oH es n).reverse ((n:Int) - 1)
def dZ (es:List Ex) (n:Nat) (x:Int):Int:=if 0≤x∧x.toNat < n then aG es x.toNat else -1
theorem lT (es:List Ex) (n:Nat):aG es n=dX (dZ es n) (oH es n).reverse ((n:Int) - 1):=by
 rw [aG];rfl
theorem Ay {f:Int→Int} (hf:∀ x,0≤x→f x≤x):∀ (ks:List Int) (a:Int),-1≤a→dX f ks a≤a + 1
 | [],a,_=>by simp [dX]
 | k::ks,a,ha=>by
  unfold dX;split
  ·omega
  rename_i h;split
  ·omega
  rename_i h2;have h0:0≤a:=by omega
  have:=Ay hf ks (f a - 1) (by omega);have:=hf a h0;omega
theorem pK (es:List Ex) (n:Nat):aG es n≤n:=by
 induction n using Nat.strongRecOn with
 | ind n ih =>
  rw [lT];have:=Ay (f:=dZ es n) (fun x hx=>by
   unfold dZ;split
   ·rename_i h; have:=ih x.toNat h.2; omega
   omega) (oH es n).reverse ((n:Int) - 1) (by omega)
  omega
theorem LF (es:List Ex) (n:Nat) (x:Int) (hx:0≤x):dZ es n x≤x:=by
 unfold dZ;split
 ·have:=pK es x.toNat; omega
 omega
theorem qw {es:List Ex} {n:Nat} (ih:∀ m,m < n→0≤aG es m→∀ j:Nat,aG es m≤j→j≤m→0≤aG es j) :
  ∀ (ks:List Int) (a:Int),a < n→0≤dX (dZ es n) ks a→∀ j:Nat,dX (dZ es n) ks a≤j→(j:Int)≤a→0≤aG es j
 | [],a,ha,h,j,h1,h2=>by simp [dX] at h1; omega
 | k::ks,a,ha,h,j,h1,h2=>by
  unfold dX at h h1;split at h
  ·omega
  rename_i c;rw [if_neg c] at h1;split at h
  ·omega
  rename_i c2;rw [if_neg c2] at h1;have h0:0≤a:=by omega
  have hF:dZ es n a=aG es a.toNat:=by unfold dZ; rw [if_pos ⟨h0,by omega⟩]
  rw [hF] at h h1 c2;by_cases hj:aG es a.toNat≤j
  ·exact ih a.toNat (by omega) (by omega) j hj (by omega)
  exact qw ih ks (aG es a.toNat - 1) (by have:=pK es a.toNat; omega) h j h1 (by omega)
theorem qx (es:List Ex) (n:Nat):0≤aG es n→∀ j:Nat,aG es n≤j→j≤n→0≤aG es j:=by
 induction n using Nat.strongRecOn with
 | ind n ih =>
  intro h j h1 h2;by_cases e:j=n
  ·subst e; exact h
  rw [lT] at h h1;exact qw ih _ _ (by omega) h j h1 (by omega)
def lw (es:List Ex) (i:Nat):Bool:=(oH es i).all fun k=>decide (0≤k) && decide (k≤(i:Int) - 1)
theorem uY {es:List Ex} {n:Nat}:∀ (ks:List Int) (a:Int),a < n→0≤dX (dZ es n) ks a→∀ k ∈ ks,0≤k∧k≤a
 | [],_,_,_,k,hk=>by cases hk
 | x::ks,a,ha,h,k,hk=>by
  unfold dX at h;split at h
  ·omega
  rename_i c;split at h
  ·omega
  rename_i c2;have h0:0≤a:=by omega
  rcases List.mem_cons.1 hk with rfl | hk
  ·omega
  have hl:=LF es n a h0;have:=uY ks (dZ es n a - 1) (by omega) h k hk;omega
theorem JI (es:List Ex) (i:Nat) (h:0≤aG es i):lw es i=true:=by
 unfold lw;rw [SC];intro k hk;rw [lT] at h;have:=uY _ _ (by omega) h k (by simpa using hk);simp; omega
def LG (es:List Ex) (n:Nat):Prop:=∀ j,j < n→0≤aG es j
def own (es:List Ex):Nat:=(es.filter fun e=>decide (e.kind=1)).length
def fE (es:List Ex) (k:Nat):Nat:=own (es.take k)
theorem xy (es:List Ex) (k:Nat) (h:k < es.length):fE es (k + 1)=fE es k + (if es[k].kind=1 then 1 else 0):=by
 unfold fE own;rw [Sk h,Te,Sr];by_cases e:es[k].kind=1 <;> simp [e]
theorem rE (es:List Ex) (k:Nat):fE es k≤k:=by
 unfold fE own;exact Sq (List.length_filter_le ..) (by simp; omega)
def iI (es:List Ex) (k:Nat):Bool:=(es.take k).all az
theorem rF (es:List Ex) (k:Nat) (h:k < es.length):iI es (k + 1)=(iI es k && az es[k]):=by
 unfold iI; rw [Sk h,List.all_append]; simp
theorem Az (es:List Ex) (k:Nat) (h:k < es.length) (hb:az es[k]=false):es.all az=false:=by
 rw [Bool.eq_false_iff]; intro h2; rw [SC] at h2; have:=h2 es[k] (Sd h); rw [hb] at this; cases this
def iJ (es:List Ex) (k:Nat):Bool:=(List.range k).all (lw es)
theorem DK (es:List Ex) (k:Nat):iJ es (k + 1)=(iJ es k && lw es k):=by simp [iJ,List.range_succ]
theorem LH (es:List Ex) (k:Nat) (h:k < es.length) (hb:lw es k=false):iJ es es.length=false:=by
 rw [Bool.eq_false_iff]; intro h2; unfold iJ at h2; rw [SC] at h2; have:=h2 k (by simpa using h); rw [hb] at this; cases this
def aY (es:List Ex):Bool:=decide (1≤es.length) && decide (es.length≤15) && es.all az && iJ es es.length && decide (own es≤1) && decide (aG es (es.length - 1)=0)
def jA (es:List Ex):Bool:=(List.range es.length).all fun j=>decide (0≤aG es j)
def kF (es:List Ex):Bool:=decide (1≤es.length) && decide (es.length≤15) && es.all az && decide (own es≤1) && (jA es && decide (aG es (es.length - 1)=0))
theorem AA (es:List Ex):aY es=kF es:=by
 by_cases h1:1≤es.length
 ·by_cases ht:aG es (es.length - 1)=0
  ·have ha:jA es=true:=by
    unfold jA;rw [SC];intro j hj;have hj':j < es.length:=by simpa using hj
    simpa using qx es (es.length - 1) (by omega) j (by omega) (by omega)
   have hk:iJ es es.length=true:=by
    unfold iJ;rw [SC];intro j hj;have hj':j < es.length:=by simpa using hj
    exact JI es j (qx es (es.length - 1) (by omega) j (by omega) (by omega))
   simp [aY,kF,ht,ha,hk,h1]
  simp [aY,kF,ht]
 simp [aY,kF,h1]
theorem LJ {α:Type} (p q:α→Bool) (l:List α) (h:∀ x ∈ l,q x=true→p x=true) (y:α) (hy:y ∈ l) (hp:p y=true) (hq:q y=false):l.countP q < l.countP p:=by
 induction l with
 | nil=>cases hy
 | cons a l ih =>
  rw [List.countP_cons,List.countP_cons];rcases List.mem_cons.1 hy with rfl | hy
  ·have:=List.countP_mono_left (p:=q) (q:=p) (l:=l) (fun x hx=>h x (SQ _ hx));simp [hp,hq]; omega
  have h1:=ih (fun x hx=>h x (SQ _ hx)) hy;have h2:=h a (S9 ..);cases hqa:q a;case true=>simp [h2 hqa]; omega
  simp; omega
section
variable {P:Program} {ops:Array Oper} {Q:Exit→Act→World→Prop} {md:Region.Mode}
theorem ae {i:Nat} {o:Oper} {K:Act→World→Prop} {a:Act} {w:af} (ho:ops[i]?=some o)
  (h:∀ K':Act→World→Prop,Hid (∀ a w,K a w→K' a w)→if Region.wanted o (yielded ops a.tmps)=true then Oper.wp P o a w K' Q else K' (a.put o.dst undef) w):wpOp P ops Q i K a w:=wpOp_step ho h
def left (ops:Array Oper) (listed:Array Bool):Nat:=(List.range ops.size).countP (fun i=>!(listed.getD i true))
theorem DL (listed:Array Bool) (i j:Nat):(listed.setIfInBounds i true).getD j true=if j=i then true else listed.getD j true:=by
 rw [SK,SK,Array.getElem?_setIfInBounds];by_cases e:i=j
 ·subst e;by_cases h:i < listed.size <;> simp [h]
 simp [e,Ne.symm e]
theorem DN {listed:Array Bool} {i:Nat} (hi:i < ops.size) (hl:listed.getD i true=false):left ops (listed.setIfInBounds i true) < left ops listed:=by
 refine LJ _ _ _ ?_ i (by simpa using hi) (by simp [hl]) (by rw [DL]; simp);intro x _ hx;simp only [DL,Bool.not_eq_true'] at hx ⊢;by_cases e:x=i
 ·simp [e] at hx
 simpa [e] using hx
theorem JJ (Inv:Array Bool→Act→World→Prop)
  (hstep:∀ listed a w,Inv listed a w→∀ i ∈ Region.ready md ops listed,wpOp P ops Q i (Inv (listed.setIfInBounds i true)) a w)
  (hend:∀ listed a w,Inv listed a w→Region.ready md ops listed=[]→Q .normal a w) :
  ∀ (fuel:Nat) (listed:Array Bool) (a:Act) (w:World),left ops listed≤fuel→Inv listed a w→wpAny P md ops Q fuel listed a w:=by
 intro fuel
 induction fuel with
 | zero =>
  intro listed a w hc hI;have hr:Region.ready md ops listed=[]:=by
   rw [List.eq_nil_iff_forall_not_mem];intro i hi;obtain ⟨h1,o,h2,-⟩:=mem_ready.1 hi;have:=DN (ops:=ops) (Array.getElem?_eq_some_iff.1 h2).1 h1;omega
  exact ⟨hr,hend _ _ _ hI hr⟩
 | succ n ih =>
  intro listed a w hc hI;refine ⟨fun hr=>hend _ _ _ hI hr,fun i hi=>wpOp_mono (fun a' w' h=>ih _ _ _ ?_ h) (hstep _ _ _ hI i hi)⟩;obtain ⟨h1,o,h2,-⟩:=mem_ready.1 hi;have:=DN (ops:=ops) (Array.getElem?_eq_some_iff.1 h2).1 h1;omega
theorem OE (ops:Array Oper) (listed:Array Bool):left ops listed≤ops.size:=by
 unfold left;exact Sq List.countP_le_length (by simp)
theorem jq {id:Nat} {a:Act} {w:af} (Inv:Array Bool→Act→World→Prop) (hm:P.follows .mixedOrders=true)
  (h0:Inv (Array.replicate ops.size false) a w.drew)
  (hstep:∀ listed a w,Inv listed a w→∀ i ∈ Region.ready .any ops listed,wpOp P ops Q i (Inv (listed.setIfInBounds i true)) a w)
  (hend:∀ listed a w,Inv listed a w→Region.ready .any ops listed=[]→Q .normal a w):(Code.region id ops true).wp P Q a w :=
 wp_region_any hm (JJ Inv hstep hend _ _ _ _ (OE _ _) h0)
theorem xz {listed:Array Bool} {n:Nat} (hr:Region.ready md ops listed=[]) (hs:ops.size=n) (UW:∀ (i:Nat) (o:Oper),ops[i]?=some o→∀ e ∈ o.after,e.on < i) (hsz:listed.size=n):∀ i,i < n→listed.getD i true=true:=by
 intro i
 induction i using Nat.strongRecOn with
 | ind i ih =>
  intro hi;cases hl:listed.getD i true;case true=>rfl
  exfalso;have hmem:i ∈ Region.ready md ops listed:=by
   refine mem_ready.2 ⟨hl,ops[i]'(by omega),SS (by omega),fun e he _=>?_⟩;have hlt:=UW i _ (SS (by omega)) e he;have:=ih e.on hlt (by omega);rw [SK,SS (by omega)] at this ⊢;simpa using this
  rw [hr] at hmem;cases hmem
end
def upd (f:Nat→Value) (i:Nat) (v:Value):Nat→Value:=fun k=>if k=i then v else f k
section
variable {P:Program} {ops:Array Oper} {Q:Exit→Act→World→Prop}
theorem eP (listed:Array Bool) (i j:Nat) (hi:i < listed.size):(listed.setIfInBounds i true).getD j false=if j=i then true else listed.getD j false:=by
 rw [SK,SK,Array.getElem?_setIfInBounds];by_cases e:i=j
 ·subst e; simp [hi]
 simp [e,Ne.symm e]
theorem oh {listed:Array Bool} {i:Nat} (hi:i < listed.size):listed.getD i true=listed.getD i false:=by
 rw [SK,SK,SS hi]; rfl
def IX (ops:Array Oper):Bool:=(List.range ops.size).all (fun i=>(ops[i]?.map (fun o=>o.after.all (fun e=>decide (e.on < i)))).getD true)
def Gh (ops:Array Oper) (L:Nat):Bool:=(List.range L).all (fun j=>(ops[L]?.map (fun o=>o.after.any (fun e=>e.on == j && Region.binds .any e))).getD false)
theorem xA {ops:Array Oper} (h:IX ops=true):∀ (i:Nat) (o:Oper),ops[i]?=some o→∀ e ∈ o.after,e.on < i:=by
 intro i o ho e he;rw [IX,SC] at h;have h1:=h i (by simpa using (Array.getElem?_eq_some_iff.1 ho).1);rw [ho] at h1;simp only [Option.map_some,Option.getD_some,Array.all_eq_true_iff_forall_mem] at h1;simpa using h1 e he
theorem JK {ops:Array Oper} {L:Nat} (h:Gh ops L=true):∀ (o:Oper),ops[L]?=some o→∀ j,j < L→∃ e ∈ o.after,e.on=j∧Region.binds .any e=true:=by
 intro o ho j hj;rw [Gh,SC] at h;have h1:=h j (by simpa using hj);rw [ho] at h1;simp only [Option.map_some,Option.getD_some] at h1;rw [Array.any_eq_true'] at h1;obtain ⟨e,he,h2⟩:=h1;simp only [Sn,beq_iff_eq] at h2;exact ⟨e,he,h2.1,h2.2⟩
theorem dH {id:Nat} {a:Act} {w:af} (N:Nat) (f0:Nat→Value) (F:(Nat→Value)→Act) (V:Nat→Value→World→Prop) (G:World→Prop)
  (hm:P.follows .mixedOrders=true) (hsz:ops.size=N) (UW:IX ops=true)
  (h0:a=F f0) (hG0:G w.drew)
  (hstep:∀ i,i < N→∀ o,ops[i]?=some o→∀ f w',G w'→(∀ e ∈ o.after,Region.binds .any e=true→V e.on (f e.on) w') →
   wpOp P ops Q i (fun a' w''=>∃ v,a'=F (upd f i v)∧G w''∧V i v w''∧∀ k u,V k u w'→V k u w'') (F f) w')
  (hend:∀ f w',G w'→(∀ k,k < N→V k (f k) w')→Q .normal (F f) w') :
  (Code.region id ops true).wp P Q a w:=by
 refine jq (fun listed a' w'=>listed.size=N∧∃ f,a'=F f∧G w'∧∀ k,k < N→listed.getD k false=true→V k (f k) w') hm ?_ ?_ ?_
 ·refine ⟨by simpa using hsz,_,h0,hG0,fun k _ h=>?_⟩;rw [SK,Array.getElem?_replicate] at h; split at h <;> cases h
 ·rintro listed a' w' ⟨hs,f,rfl,hG,hV⟩ i hi;obtain ⟨hl,o,ho,hpre⟩:=mem_ready.1 hi;have hiN:i < N:=by have:=(Array.getElem?_eq_some_iff.1 ho).1; omega
  refine wpOp_mono ?_ (hstep i hiN o ho f w' hG (fun e he hb=>hV e.on (by have:=xA UW i o ho e he; omega) (hpre e he hb)));rintro a'' w'' ⟨v,rfl,hG',hv,hmono⟩;refine ⟨by simpa using hs,_,rfl,hG',fun k hk hkl=>?_⟩;rw [eP _ _ _ (by omega)] at hkl;by_cases ek:k=i
  ·subst ek; simpa [upd] using hv
  rw [if_neg ek] at hkl;simp only [upd,if_neg ek];exact hmono _ _ (hV k hk hkl)
 rintro listed a' w' ⟨hs,f,rfl,hG,hV⟩ hr;refine hend f w' hG fun k hk=>hV k hk ?_;have:=xz hr hsz (xA UW) hs k hk;rwa [oh (by omega)] at this
end
open Go.ChangeAt Go.ChangeShapes Go.Maps Go.WideShapes
def OG (v:Value):Option (DataW Value × List MemPlace):=some (.held v,[])
section
variable {K:Type} (enc:K→Value) (P:Program) (k:TypeId)
def Qs (D:DataW Value) (kl:Lit):Option Value→Prop
 | none=>Maps.has D kl=false∧∀ z,D.atKey kl z=z
 | some v=>Maps.has D kl=true∧∀ z,D.atKey kl z=.held v
def aJ (w:World) (b n:Nat) (M:K→Option Value):Prop :=
 ∃ D:DataW Value,w.ownsMap P k OG b n D∧∀ x kl,keyOf P k (enc x)=some kl→Qs D kl (M x)
def jV [DecidableEq K] (M:K→Option Value) (x:K) (v:Option Value):K→Option Value:=fun y=>if y=x then v else M y
end
section
variable {K:Type} {enc:K→Value} {P:Program} {k:TypeId} {w:World} {b n:Nat} {M:K→Option Value}
theorem dJ [DecidableEq K] (M:K→Option Value) (x:K) (v:Option Value):jV M x v x=v:=by simp [jV]
theorem bQ [DecidableEq K] {M:K→Option Value} {x y:K} {v:Option Value} (h:y ≠ x):jV M x v y=M y:=by simp [jV,h]
theorem j6 (enc:K→Value) (P:Program) (k:TypeId) (w:af):aJ enc P k (w.alloc (.map #[] 0)) w.heap.size 0 (fun _=>none) :=
 ⟨.map [],World.ownsMap_made w P k OG,fun _ kl _=>⟨rfl,fun z=>by simp [DataW.atKey]⟩⟩
theorem aJ.lt (h:aJ enc P k w b n M):b < w.heap.size:=by obtain ⟨D,h1,-⟩:=h; exact h1.lt
theorem aJ.mono (h:aJ enc P k w b n M) {n':Nat} (hn:n≤n'):aJ enc P k w b n' M:=by obtain ⟨D,h1,h2⟩:=h; exact ⟨D,h1.mono hn,h2⟩
theorem aJ.kept {w':af} {row:Option Nat} (h:aJ enc P k w b n M) (hg:w.grownBy w' row) (hne:some b ≠ row):aJ enc P k w' b n M:=by
 obtain ⟨D,h1,h2⟩:=h; exact ⟨D,h1.kept hg hne,h2⟩
theorem aJ.below {w':af} (h:aJ enc P k w b n M) (hB:aa w w'):aJ enc P k w' b n M :=
 h.kept (row:=none) ⟨hB.os,hB.tape,hB.output,hB.size,fun k hk _=>hB.block k hk⟩ (by simp)
theorem aJ.setCell (h:aJ enc P k w b n M) {a:Addr} (ha:b ≠ a.block) (u:Value):aJ enc P k (w.setCell a u) b n M:=by
 obtain ⟨D,h1,h2⟩:=h; exact ⟨D,h1.setCell ha u,h2⟩
theorem aJ.look {t e:TypeId} (h:aJ enc P k w b n M) (L:Keyed P k) (ht:P.underlying t=some (.map k e)) {z:Value} (hz:(zeroValue e).run P w=.ok z w) {x:K} {kl:Lit} (hkey:keyOf P k (enc x)=some kl) :
  (Instr.lookup t (.map (some b)) (enc x) false).run P w=.ok ((M x).getD z) w:=by
 obtain ⟨D,h1,h2⟩:=h;obtain ⟨v,ps,hrun,hv⟩:=h1.lookup L ht hz (zd:=.held z) (zp:=[]) rfl hkey;have h3:=h2 x kl hkey;rw [hrun];have:v=(M x).getD z:=by
  simp only [OG,Option.some.injEq,Prod.mk.injEq] at hv;cases e:M x with
  | none=>rw [e] at h3; rw [h3.2] at hv; injection hv.1 with h4
  | some u=>rw [e] at h3; rw [h3.2] at hv; injection hv.1 with h4
 rw [this]
theorem aJ.look_ok {t e:TypeId} (h:aJ enc P k w b n M) (L:Keyed P k) (ht:P.underlying t=some (.map k e)) {z:Value} (hz:(zeroValue e).run P w=.ok z w) {x:K} {kl:Lit} (hkey:keyOf P k (enc x)=some kl) :
  (Instr.lookup t (.map (some b)) (enc x) true).run P w=.ok (.tuple #[(M x).getD z,.bool (M x).isSome]) w:=by
 obtain ⟨D,h1,h2⟩:=h;obtain ⟨v,ps,hrun,hv⟩:=h1.look_ok L ht hz (zd:=.held z) (zp:=[]) rfl hkey;have h3:=h2 x kl hkey;rw [hrun];simp only [OG,Option.some.injEq,Prod.mk.injEq] at hv;cases e:M x with
 | none=>rw [e] at h3; rw [h3.2] at hv; injection hv.1 with h4; rw [h4,h3.1]; rfl
 | some u=>rw [e] at h3; rw [h3.2] at hv; injection hv.1 with h4; rw [h4,h3.1]; rfl
theorem aJ.store [DecidableEq K] {t e:TypeId} (h:aJ enc P k w b n M) (L:Keyed P k) (hinj:∀ x y,enc x=enc y→x=y) (ht:P.underlying t=some (.map k e)) (hn:n < maxLen) {x:K} {kl:Lit} (hkey:keyOf P k (enc x)=some kl) (v:Value) :
  ∃ w',(Instr.mapUpdate t (.map (some b)) (enc x) v).run P w=.ok () w'∧aJ enc P k w' b (n + 1) (jV M x (some v))∧w.grownBy w' (some b):=by
 obtain ⟨D,h1,h2⟩:=h;obtain ⟨w',hrun,h3,h4⟩:=h1.update L ht hn hkey (val:=v) (d:=.held v) (ps:=[]) rfl;refine ⟨w',hrun,⟨D.put kl (.held v),h3,fun y ky hy=>?_⟩,h4⟩;by_cases e:y=x
 ·subst e;obtain rfl:ky=kl:=by rw [hkey] at hy; injection hy with hy; exact hy.symm
  rw [dJ];exact ⟨has_put_same h1.isMap (L.key hkey) _,fun z=>atKey_put_same h1.isMap (L.key hkey) _ z⟩
 have hne:ky ≠ kl:=fun e2=>e (hinj _ _ (L.inj (by rw [e2] at hy; exact hy) hkey));rw [bQ e];have h5:=h2 y ky hy;cases e3:M y with
 | none=>rw [e3] at h5; exact ⟨by rw [has_put_other hne]; exact h5.1,fun z=>by rw [atKey_put_other hne]; exact h5.2 z⟩
 | some u=>rw [e3] at h5; exact ⟨by rw [has_put_other hne]; exact h5.1,fun z=>by rw [atKey_put_other hne]; exact h5.2 z⟩
end
section
variable {K:Type} {enc:K→Value} {P:Program} (w:World) {ops:Array Oper} {rest:List Oper} {o:Oper} {a:Act} {Q:Exit→Act→World→Prop}
theorem iK (hg:o.guard=none) (m x:Operand) (t:TypeId) (hop:o.op=Op.lookup t m x false) (k e:TypeId) (L:Keyed P k) (ht:P.underlying t=some (.map k e)) {z:Value} (hz:(zeroValue e).run P w=.ok z w) (b n:Nat) (M:K→Option Value)
  (hm:a.eval m=.map (some b)) (hV:aJ enc P k w b n M) (y:K) (kl:Lit) (hx:a.eval x=enc y) (hkey:keyOf P k (enc y)=some kl)
  (hK:wpList P ops Q rest (a.put o.dst ((M y).getD z)) w):wpList P ops Q (o::rest) a w:=by
 refine wpList_plain hg fun K' hK'=>?_;have hrun:=hV.look L ht hz hkey;unfold Oper.wp;simp [execOp,hop,hm,hx,hrun,Result.andThen];exact hK' _ _ hK
theorem dz (hg:o.guard=none) (m x:Operand) (t:TypeId) (hop:o.op=Op.lookup t m x true) (k e:TypeId) (L:Keyed P k) (ht:P.underlying t=some (.map k e)) {z:Value} (hz:(zeroValue e).run P w=.ok z w) (b n:Nat) (M:K→Option Value)
  (hm:a.eval m=.map (some b)) (hV:aJ enc P k w b n M) (y:K) (kl:Lit) (hx:a.eval x=enc y) (hkey:keyOf P k (enc y)=some kl)
  (hK:wpList P ops Q rest (a.put o.dst (.tuple #[(M y).getD z,.bool (M y).isSome])) w):wpList P ops Q (o::rest) a w:=by
 refine wpList_plain hg fun K' hK'=>?_;have hrun:=hV.look_ok L ht hz hkey;unfold Oper.wp;simp [execOp,hop,hm,hx,hrun,Result.andThen];exact hK' _ _ hK
theorem jr [DecidableEq K] (hg:o.guard=none) (m x v:Operand) (t:TypeId) (hop:o.op=Op.mapUpdate t m x v) (k e:TypeId) (L:Keyed P k) (hinj:∀ x y,enc x=enc y→x=y) (ht:P.underlying t=some (.map k e)) (b n:Nat) (M:K→Option Value)
  (hm:a.eval m=.map (some b)) (hV:aJ enc P k w b n M) (hn:n < maxLen) (y:K) (kl:Lit) (hx:a.eval x=enc y) (hkey:keyOf P k (enc y)=some kl) (u:Value) (hv:a.eval v=u)
  (hK:∀ w',aJ enc P k w' b (n + 1) (jV M y (some u))→w.grownBy w' (some b)→wpList P ops Q rest (a.put o.dst undef) w'):wpList P ops Q (o::rest) a w:=by
 refine wpList_plain hg fun K' hK'=>?_;obtain ⟨w',hrun,r1,r2⟩:=hV.store L hinj ht hn hkey u;unfold Oper.wp;simp [execOp,hop,hm,hx,hv,hrun,Result.andThen];exact hK' _ _ (hK w' r1 r2)
end
def dE (k:ByteArray × ByteArray):Value:=.agg #[.string k.1,.string k.2]
theorem rG (x y:ByteArray × ByteArray) (h:dE x=dE y):x=y:=by
 unfold dE at h;injection h with h;have h1:=congrArg Array.toList h;simp at h1;exact Prod.ext h1.1 h1.2
theorem xB:laidOutB prog=true:=by kernel_rfl
theorem LM:(172:TypeId) < prog.types.size:=of_decide_eq_true (by kernel_rfl)
theorem OH:(match prog.underlying 172 with | some (.array _ _) | some (.struct _)=>true | _=>false)=true:=by rw [underlying172]
set_option maxRecDepth 100000 in
theorem IY:WideMaps.KeyLaw prog 172:=deep_law_laid xB (m:=2) (by omega) LM (by kernel_rfl) OH
theorem ig:Keyed prog 172:=Keyed.of_law IY
theorem OI:prog.keyType 172=true:=by kernel_rfl
theorem DR:prog.cellsOf 172=2:=by kernel_rfl
theorem strCells:prog.cellsOf 9=1:=by kernel_rfl
theorem JL:∃ n,prog.types.size=n + 1:=Nat.exists_eq_succ_of_ne_zero (Nat.ne_of_gt (Nat.lt_of_le_of_lt (Sm _) LM))
theorem jB (k:ByteArray × ByteArray) (h1:k.1.size≤maxLen) (h2:k.2.size≤maxLen):∃ kl,keyOf prog 172 (dE k)=some kl:=by
 obtain ⟨n,hn⟩:=JL;refine ⟨.string (keyBytes [.string k.1.data.toList,.string k.2.data.toList]),?_⟩;unfold keyOf;rw [underlying172];simp only [OI,dE,Value.formed,underlying172,DR,hn,Value.cells];simp [Program.keyLits,underlying172,underlying9,DR,strCells,h1,h2]
theorem ol {P:Program} {ops:Array Oper} {Q:Exit→Act→World→Prop} {k:Nat} {o:Oper} {K:Act→World→Prop} {a:Act} (w:af) (hop:ops[k]?=some o) (hgd:o.guard=none) (s x:Operand) (t:TypeId)
  (ho:o.op=.call { callee:=.builtin .append,args:=#[s,x],argTypes:=#[t,t] })
  (base:Nat) (e:TypeId) (i:TypeInfo) (z:Value) (size bytes:Nat) (ht:P.underlying t=some (.slice e)) (hi:P.info? e=some i) (hz:i.zero=some z)
  (hsize:i.size=size) (hby:i.bytes=bytes) (hzs:z.cells.size=size) (hsz:0 < size)
  (v:Value) (n:Nat) (xs:List Value) (hs:a.eval s=v) (hown:w.ownsRow base e size v n xs)
  (ad:Addr) (m c:Nat) (news:List Value) (hx:a.eval x=.slice (some ad) m c) (hl:news.length=m * size) (hnews:∀ j u,news[j]?=some u→w.cell? (ad.add j)=some u) (h1:∀ u ∈ news,u.oneCell'=true)
  (h63:n + m≤maxLen) (hbytes:(n + m) * bytes≤140737488355328) (hbase:base≤w.heap.size)
  (h:∀ v' w',w'.ownsRow base e size v' (n + m) (xs ++ news)→w.grownBy w' v.ownBlock→(v'.ownBlock=v.ownBlock ∨ v'.ownBlock=some w.heap.size)→K (a.put o.dst v') w') :
  wpOp P ops Q k K a w:=by
 refine wpOp_step hop (fun K' hK=>?_);have hw:Region.wanted o (yielded ops a.tmps)=true:=by simp [Region.wanted,hgd]
 rw [if_pos hw];obtain ⟨v',w',hr,h2,h3,h4,h5⟩:=run_append_own_at (P:=P) w base t o.type e i z size bytes ht hi hz hsize hby hzs hsz v n xs hown ad m c news hl hnews h1 h63 hbytes hbase;unfold Oper.wp execOp;simp only [ho,resolve,invoke,builtin,Sem.run_bind,Sem.run_pure,Result.andThen_ok,List.map_toArray,List.map_cons,List.map_nil,hs,hx,hr];exact hK _ _ (h v' w' h2 h3 h5)
structure Aside (w:World) (v:Value) (w':World) (v':Value):Prop where
 size:w.heap.size≤w'.heap.size
 block:∀ k,k < w.heap.size→v.ownBlock ≠ some k→w'.heap[k]?=w.heap[k]?
 own:v'.ownBlock=v.ownBlock ∨ ∃ g,v'.ownBlock=some g∧w.heap.size≤g
theorem Aside.refl (w:af) (v:Value):Aside w v w v:=⟨Sj _,fun _ _ _=>rfl,.inl rfl⟩
theorem Aside.apart {w w':af} {v v':Value} {k:Nat} (h:Aside w v w' v') (hk:k < w.heap.size) (hv:v.ownBlock ≠ some k):v'.ownBlock ≠ some k:=by
 rcases h.own with e | ⟨g,e,hg⟩
 ·rw [e]; exact hv
 rw [e]; intro h2; injection h2 with h2; omega
theorem Aside.trans {w w1 w2:af} {v v1 v2:Value} (h:Aside w v w1 v1) (h2:Aside w1 v1 w2 v2):Aside w v w2 v2 where
 size:=Sq h.size h2.size
 block k hk hv:=(h2.block k (Sg hk h.size) (h.apart hk hv)).trans (h.block k hk hv)
 own:=by
  rcases h2.own with e | ⟨g,e,hg⟩
  ·rw [e]; exact h.own
  exact .inr ⟨g,e,Sq h.size hg⟩
theorem Aside.below {w w':af} {v:Value} (h:aa w w'):Aside w v w' v:=⟨h.size,fun k hk _=>h.block k hk,.inl rfl⟩
theorem Aside.app {w w':af} {v v':Value} (hg:w.grownBy w' v.ownBlock) (h5:v'.ownBlock=v.ownBlock ∨ v'.ownBlock=some w.heap.size):Aside w v w' v' where
 size:=hg.size
 block k hk hv:=hg.block k hk (fun e=>hv e.symm)
 own:=by
  rcases h5 with e | e
  ·exact .inl e
  exact .inr ⟨_,e,Sj _⟩
theorem Aside.cell {w w':af} {v v':Value} (h:Aside w v w' v') {p:Addr} (hp:p.block < w.heap.size) (hv:v.ownBlock ≠ some p.block):w'.cell? p=w.cell? p:=SI (w:=w) (h.block p.block hp hv)
def jW (ops:Array Oper) (m k:Nat):Bool:=(ops[m]?.map fun o=>o.after.any fun e=>e.on == k && Region.binds .any e).getD false
def Rn (ops:Array Oper) (i:Nat):List Nat:=(List.range i).reverse.foldl (fun acc k=>if acc.any (fun m=>jW ops m k) then k::acc else acc) [i]
def IZ (ops:Array Oper) (L N:Nat):Bool:=(List.range N).all fun i=>decide (i < L) || (List.range i).all fun j=>(Rn ops i).contains j
def OJ (l:List Oper) (L:Nat):Bool:=l.all fun o=>match o.guard with | some (g,_)=>decide (g < L) | none=>true
def lV (P:Program) (ops:Array Oper) (Q:Exit→Act→World→Prop):Nat→Nat→Act→World→Prop
 | 0,_,a,w=>Q .normal a w
 | n + 1,i,a,w=>wpOp P ops Q i (lV P ops Q n (i + 1)) a w
theorem uZ {ops:Array Oper} {m k:Nat} (h:jW ops m k=true):∃ o,ops[m]?=some o∧∃ e ∈ o.after,e.on=k∧Region.binds .any e=true:=by
 unfold jW at h;cases ho:ops[m]? with
 | none=>rw [ho] at h; cases h
 | some o =>
  rw [ho] at h;simp only [Option.map_some,Option.getD_some] at h;rw [Array.any_eq_true'] at h;obtain ⟨e,he,h2⟩:=h;simp only [Sn,beq_iff_eq] at h2;exact ⟨o,rfl,e,he,h2.1,h2.2⟩
theorem DT {ops:Array Oper} {i:Nat} {lst:Nat→Prop} (hcl:∀ m k,m=i ∨ lst m→jW ops m k=true→lst k):∀ m ∈ Rn ops i,m=i ∨ lst m:=by
 have key:∀ (ks acc:List Nat),(∀ m ∈ acc,m=i ∨ lst m)→∀ m ∈ ks.foldl (fun acc k=>if acc.any (fun m=>jW ops m k) then k::acc else acc) acc,m=i ∨ lst m:=by
  intro ks
  induction ks with
  | nil=>intro acc h; exact h
  | cons k ks ih =>
   intro acc h;refine ih _ ?_;dsimp only;split
   ·rename_i ha;obtain ⟨m,hm,hb⟩:=SY.1 ha;intro x hx;rcases List.mem_cons.1 hx with rfl | hx
    ·exact .inr (hcl m _ (h m hm) hb)
    exact h x hx
   exact h
 exact key _ _ fun m hm=>.inl (by simpa using hm)
theorem AB {ops:Array Oper} {L N i:Nat} (h:IZ ops L N=true) (hi:i < N) (hL:L≤i) {lst:Nat→Prop} (hcl:∀ m k,m=i ∨ lst m→jW ops m k=true→lst k):∀ j,j < i→lst j:=fun j hj=>by
 have h1:=SC.1 h i (by simpa using hi);simp only [Bool.or_eq_true,SE] at h1;have h2:=SC.1 (h1.resolve_left (by omega)) j (by simpa using hj);exact (DT hcl j (by simpa using h2)).resolve_left (by omega)
theorem oC {P:Program} {id:Nat} {Q:Exit→Act→World→Prop} {a:Act} {w:af} {l:List Oper} (L n:Nat) (hm:P.follows .mixedOrders=true) (hlen:l.length=L + n)
  (hB:(Region.noSelect (l.take L).toArray && Region.lexFrom .any (l.take L).toArray L 0 (Array.replicate (L + n) false) && OJ (l.take L) L && IX l.toArray && IZ l.toArray L (L + n))=true)
  (h:wpQuiet P (l.take L).toArray (fun w'=>∃ p:Regrown,w'=grow (redrawn w p.d) p.os) (fun a'=>∀ w',(∃ p:Regrown,w'=grow (redrawn w p.d) p.os)→lV P l.toArray Q n L a' w') (l.take L) a):(Code.region id l.toArray true).wp P Q a w:=by
 obtain ⟨C,hC⟩:∃ C:World→Prop,C=fun w'=>∃ p:Regrown,w'=grow (redrawn w p.d) p.os:=⟨_,rfl⟩;have h':wpQuiet P (l.take L).toArray C (fun a'=>∀ w',C w'→lV P l.toArray Q n L a' w') (l.take L) a:=by simpa [hC] using h
 clear h;have hC0:C w.drew:=by rw [hC]; exact ⟨⟨w.drawn + 1,#[]⟩,by rw [grow_empty]; rfl⟩
 clear hC;simp only [Sn] at hB;obtain ⟨⟨⟨⟨hns,hlx⟩,hgd⟩,UW⟩,hch⟩:=hB;have htl:(l.take L).length=L:=by rw [SL]; omega
 have hat:∀ i,i < L→(l.take L).toArray[i]?=l.toArray[i]?:=fun i hi=>by simp [hi]
 have hsz:l.toArray.size=L + n:=by simpa using hlen
 have hwant:∀ (i:Nat) (o:Oper) (a':Act),i < L→l.toArray[i]?=some o→Region.wanted o (yielded (l.take L).toArray a'.tmps)=Region.wanted o (yielded l.toArray a'.tmps):=by
  intro i o a' hi ho;have hmem:o ∈ l.take L:=by
   rw [← hat i hi] at ho;exact List.mem_of_getElem? (by simpa using ho)
  have:=SC.1 hgd o hmem;unfold Region.wanted;cases hg:o.guard with
  | none=>rfl
  | some x =>
   obtain ⟨g,bw⟩:=x;rw [hg] at this;have hgl:g < L:=by simpa using this
   simp only [yielded,hat g hgl]
 have h1:=wpAnyQ_lex (C:=C) (md:=.any) hns (l.take L) 0 (Array.replicate (L + n) false) a (fun j=>by simp) (by rw [htl]; exact hlx) h';rw [htl] at h1;refine jq (fun listed a' w'=>listed.size=L + n∧(∀ m k,listed.getD m false=true→jW l.toArray m k=true→listed.getD k false=true)∧(((∀ j,L≤j→listed.getD j false=false)∧C w'∧∃ fuel,wpAnyQ P .any (l.take L).toArray C (fun a'=>∀ w',C w'→lV P l.toArray Q n L a' w') fuel listed a') ∨ ∃ d,d≤n∧(∀ j,j < L + d→listed.getD j false=true)∧(∀ j,L + d≤j→listed.getD j false=false)∧lV P l.toArray Q (n - d) (L + d) a' w')) hm ?_ ?_ ?_
 ·have hf:∀ j,(Array.replicate l.toArray.size false).getD j false=false:=fun j=>by
   rw [SK,Array.getElem?_replicate]; split <;> rfl
  exact ⟨by simpa using hsz,fun m k hm=>absurd hm (by rw [hf]; decide),Or.inl ⟨fun j _=>hf j,hC0,L,by rw [hsz]; exact h1⟩⟩
 ·rintro listed a' w' ⟨hs,hcl,hh⟩ i hi;obtain ⟨hl,o,ho,hpre⟩:=mem_ready.1 hi;have hiL:i < L + n:=by have:=(Array.getElem?_eq_some_iff.1 ho).1; omega
  have hcl2:∀ m k,(listed.setIfInBounds i true).getD m false=true→jW l.toArray m k=true→(listed.setIfInBounds i true).getD k false=true:=fun m k hm hb=>by
   rw [eP _ _ _ (by omega)] at hm ⊢;by_cases hk:k=i
   ·rw [if_pos hk]
   rw [if_neg hk];by_cases e:m=i
   ·subst e;obtain ⟨o',ho',e,he,rfl,hbe⟩:=uZ hb;rw [ho] at ho'; obtain rfl:=Option.some.inj ho';exact hpre e he hbe
   rw [if_neg e] at hm;exact hcl m k hm hb
  have hup:L≤i→∀ j,j < i→listed.getD j false=true:=fun hLi=>AB hch hiL hLi fun m k hm hb=>by
   rcases hm with rfl | hm
   ·obtain ⟨o',ho',e,he,rfl,hbe⟩:=uZ hb;rw [ho] at ho'; obtain rfl:=Option.some.inj ho';exact hpre e he hbe
   exact hcl m k hm hb
  have hsq:∀ d,L + d=i→lV P l.toArray Q (n - d) (L + d) a' w'→wpOp P l.toArray Q i (fun a'' w''=>(listed.setIfInBounds i true).size=L + n∧(∀ m k,(listed.setIfInBounds i true).getD m false=true→jW l.toArray m k=true→(listed.setIfInBounds i true).getD k false=true)∧(((∀ j,L≤j→(listed.setIfInBounds i true).getD j false=false)∧C w''∧∃ fuel,wpAnyQ P .any (l.take L).toArray C (fun a'=>∀ w',C w'→lV P l.toArray Q n L a' w') fuel (listed.setIfInBounds i true) a'') ∨ ∃ d,d≤n∧(∀ j,j < L + d→(listed.setIfInBounds i true).getD j false=true)∧(∀ j,L + d≤j→(listed.setIfInBounds i true).getD j false=false)∧lV P l.toArray Q (n - d) (L + d) a'' w'')) a' w':=fun d hd hw=>by
   obtain ⟨r,hr⟩:∃ r,n - d=r + 1:=⟨n - d - 1,by omega⟩;rw [hr,hd] at hw;have hfar:∀ j,i < j→listed.getD j false=false:=fun j hj=>by
    cases hlj:listed.getD j false;case false=>rfl
    have hjn:j < L + n:=by
     rcases Nat.lt_or_ge j (L + n) with h | h
     ·exact h
     rw [SK,Array.getElem?_eq_none (by omega)] at hlj; cases hlj
    have:=AB hch hjn (by omega) (lst:=fun k=>listed.getD k false=true) (fun m k hm hb=>by
     rcases hm with rfl | hm
     ·exact hcl _ k hlj hb
     exact hcl m k hm hb) i hj
    rw [oh (by omega)] at hl;rw [hl] at this; cases this
   refine wpOp_mono (fun a'' w'' hq=>⟨by simpa using hs,hcl2,.inr ⟨d + 1,by omega,fun j hj=>?_,fun j hj=>?_,?_⟩⟩) hw
   ·rw [eP _ _ _ (by omega)];by_cases e:j=i
    ·rw [if_pos e]
    rw [if_neg e]; exact hup (by omega) j (by omega)
   ·rw [eP _ _ _ (by omega),if_neg (by omega)];exact hfar j (by omega)
   have e1:n - (d + 1)=r:=by omega
   have e2:L + (d + 1)=i + 1:=by omega
   rw [e1,e2];exact hq
  rcases hh with ⟨hn,hCw,fuel,hq⟩ | ⟨d,hdn,hlow,hhigh,hw⟩
  ·by_cases e:i < L
   ·have hr:i ∈ Region.ready .any (l.take L).toArray listed:=mem_ready.2 ⟨hl,o,by rw [hat i e]; exact ho,hpre⟩;cases fuel with
    | zero=>have:=hq.1; rw [this] at hr; cases hr
    | succ nn =>
     have hk:=hq.2 i hr;have:=wpOp_of_qOp (K':=fun a'' w''=>C w''∧wpAnyQ P .any (l.take L).toArray C (fun a'=>∀ w',C w'→lV P l.toArray Q n L a' w') nn (listed.setIfInBounds i true) a'') (Q':=Q) hCw (fun _ _ h1 h2=>⟨h1,h2⟩) hk;have h3:wpOp P l.toArray Q i (fun a'' w''=>C w''∧wpAnyQ P .any (l.take L).toArray C (fun a'=>∀ w',C w'→lV P l.toArray Q n L a' w') nn (listed.setIfInBounds i true) a'') a' w':=by
      unfold wpOp at this ⊢;rw [hat i e,ho] at this;rw [ho];simp only [hwant i o a' e ho] at this;exact this
     refine wpOp_mono (fun a'' w'' hh=>⟨by simpa using hs,hcl2,Or.inl ⟨fun j hj=>?_,hh.1,nn,hh.2⟩⟩) h3;rw [eP _ _ _ (by omega),if_neg (by omega)]; exact hn j hj
   have hiE:i=L:=by
    rcases Nat.lt_or_ge L i with h | h
    ·have:=hup (by omega) L h;rw [hn L (Sj _)] at this; cases this
    omega
   have hnr:Region.ready .any (l.take L).toArray listed=[]:=by
    rw [List.eq_nil_iff_forall_not_mem];intro j hj;obtain ⟨g1,oj,g2,-⟩:=mem_ready.1 hj;have hji:j < L:=by have:=(Array.getElem?_eq_some_iff.1 g2).1; simp at this; omega
    rw [oh (by omega),hup (by omega) j (by omega)] at g1; cases g1
   have hQ:lV P l.toArray Q n L a' w':=by
    cases fuel with
    | zero=>exact hq.2 _ hCw
    | succ n=>exact hq.1 hnr _ hCw
   exact hsq 0 (by omega) (by simpa using hQ)
  have hid:L + d=i:=by
   rcases Nat.lt_or_ge i (L + d) with h | h
   ·have:=hlow i h;rw [oh (by omega)] at hl; rw [hl] at this; cases this
   rcases Nat.lt_or_ge (L + d) i with h2 | h2
   ·have:=hup (by omega) (L + d) h2;rw [hhigh _ (Sj _)] at this; cases this
   omega
  exact hsq d hid hw
 rintro listed a' w' ⟨hs,hcl,hh⟩ hr;have hall:=xz hr hsz (xA UW) hs;rcases hh with ⟨hn,hCw,fuel,hq⟩ | ⟨d,hdn,hlow,hhigh,hw⟩
 ·have hn0:n=0:=by
   rcases Nat.eq_zero_or_pos n with h | h
   ·exact h
   have:=hall L (by omega);rw [oh (by omega),hn L (Sj _)] at this; cases this
  subst hn0;have hnr:Region.ready .any (l.take L).toArray listed=[]:=by
   rw [List.eq_nil_iff_forall_not_mem];intro j hj;obtain ⟨g1,oj,g2,-⟩:=mem_ready.1 hj;have hji:j < L:=by have:=(Array.getElem?_eq_some_iff.1 g2).1; simp at this; omega
   rw [hall j (by omega)] at g1; cases g1
  have hQ:lV P l.toArray Q 0 L a' w':=by
   cases fuel with
   | zero=>exact hq.2 _ hCw
   | succ n=>exact hq.1 hnr _ hCw
  exact hQ
 have hd:d=n:=by
  rcases Nat.lt_or_ge d n with h | h
  ·have:=hall (L + d) (by omega);rw [oh (by omega),hhigh _ (Sj _)] at this; cases this
  omega
 subst hd;rw [Nat.sub_self] at hw;exact hw
end Go.Proofs.YtdmniljjnaebbaaGreatDoor
