/- A region that draws its order, by what holds whichever operations have come up: each operation is run once, from what those that it waits for have left. -/
import Derived.Test.YtajkkeikihhejaaGreatSq
import Derived.Deep.RegionWith
import Derived.Test.YtajkkeikihhejaaGreatJ1
import Derived.OwnWalk
import Derived.Maps.AppendAt
import Derived.RegionTactic
import Derived.Maps.OwnSet
import Derived.DeepKeys4
import Derived.Lib.QuietBelow
import Derived.BigQuiet
open Go.Proofs.Tryz
namespace Go.Proofs.YtajkkeikihhejaaGreat
open RowKit
theorem NQ{α:Type}(p q:α->Bool)(l:List α)(h:∀x∈l,q x=true->p x=true)(y:α)(hy:y∈l)(hp:p y=true)(hq:q y=false):l.countP q<l.countP p:=by
 induction l with
 | nil=>cases hy
 | cons a l ih =>
  rw[List.countP_cons,List.countP_cons];rcases U9.1 hy with rfl|hy
  ·have:=List.countP_mono_left (p:=q) (q:=p) (l:=l) (fun x hx=>h x (Vv _ hx));simp[hp,hq];omega
  have h1:=ih (fun x hx=>h x (Vv _ hx)) hy;have h2:=h a (VD ..);cases hqa:q a;case true=>simp[h2 hqa];omega
  simp;omega
section
variable  {P:Program}{ops:Array Oper}{Q:Exit->Act->World->Prop}{md:Region.Mode}
theorem aa{i:Nat}{o:Oper}{K:Act->World->Prop}{a:Act}{w:af}(ho:ops[i]?=some o)
  (h:∀K':Act->World->Prop,Hid (∀a w,K a w->K' a w)->if Region.wanted o (yielded ops a.tmps)=true then Oper.wp P o a w K' Q else K' (a.put o.dst undef) w):wpOp P ops Q i K a w:=wpOp_step ho h
def left(ops:Array Oper)(listed:Array Bool):Nat:=(List.range ops.size).countP (fun i=>!(listed.getD i true))
theorem FT(listed:Array Bool)(i j:Nat):(listed.setIfInBounds i true).getD j true=if j=i then true else listed.getD j true:=by
 rw[Vi,Vi,Array.getElem?_setIfInBounds];by_cases e:i=j
 ·subst e;by_cases h:i<listed.size<;>simp[h]
 simp[e,Ne.symm e]
theorem FU{listed:Array Bool}{i:Nat}(hi:i<ops.size)(hl:listed.getD i true=false):left ops (listed.setIfInBounds i true)<left ops listed:=by
 refine NQ _ _ _ ?_ i (by simpa using hi) (by simp[hl]) (by rw[FT];simp);intro x _ hx;simp only[FT,Bool.not_eq_true']at hx ⊢;by_cases e:x=i
 ·simp[e]at hx
 simpa[e] using hx
theorem Lx(Inv:Array Bool->Act->World->Prop)
  (hstep:∀listed a w,Inv listed a w->∀i∈Region.ready md ops listed,wpOp P ops Q i (Inv (listed.setIfInBounds i true)) a w)
  (hend:∀listed a w,Inv listed a w->Region.ready md ops listed=[]->Q .normal a w) :
  ∀(fuel:Nat) (listed:Array Bool) (a:Act) (w:World),left ops listed<=fuel->Inv listed a w->wpAny P md ops Q fuel listed a w:=by
 intro fuel
 induction fuel with
 | zero =>
  intro listed a w hc hI;have hr:Region.ready md ops listed=[]:=by
   rw[List.eq_nil_iff_forall_not_mem];intro i hi;obtain⟨h1,o,h2,-⟩:=mem_ready.1 hi;have:=FU (ops:=ops) (UZ.1 h2).1 h1;omega
  exact⟨hr,hend _ _ _ hI hr⟩
 | succ n ih =>
  intro listed a w hc hI;refine⟨fun hr=>hend _ _ _ hI hr,fun i hi=>wpOp_mono (fun a' w' h=>ih _ _ _ ?_ h) (hstep _ _ _ hI i hi)⟩;obtain⟨h1,o,h2,-⟩:=mem_ready.1 hi;have:=FU (ops:=ops) (UZ.1 h2).1 h1;omega
theorem QV(ops:Array Oper)(listed:Array Bool):left ops listed<=ops.size:=by
 unfold left;exact U0 List.countP_le_length (by simp)
theorem gY{id:Nat}{a:Act}{w:af}(Inv:Array Bool->Act->World->Prop)(hm:P.follows .mixedOrders=true)
  (h0:Inv (Array.replicate ops.size false) a w.drew)
  (hstep:∀listed a w,Inv listed a w->∀i∈Region.ready .any ops listed,wpOp P ops Q i (Inv (listed.setIfInBounds i true)) a w)
  (hend:∀listed a w,Inv listed a w->Region.ready .any ops listed=[]->Q .normal a w):(Code.region id ops true).wp P Q a w :=
 wp_region_any hm (Lx Inv hstep hend _ _ _ _ (QV _ _) h0)
theorem tJ{listed:Array Bool}{n:Nat}(hr:Region.ready md ops listed=[])(hs:ops.size=n)(WZ:∀(i:Nat) (o:Oper),ops[i]?=some o->∀e∈o.after,e.on<i)(hsz:listed.size=n):∀i,i<n->listed.getD i true=true:=by
 intro i
 induction i using Nat.strongRecOn with
 | ind i ih =>
  intro hi;cases hl:listed.getD i true;case true=>rfl
  exfalso;have hmem:i∈Region.ready md ops listed:=by
   refine mem_ready.2 ⟨hl,ops[i]'(by omega),VH (by omega),fun e he _=>?_⟩;have hlt:=WZ i _ (VH (by omega)) e he;have:=ih e.on hlt (by omega);rw[Vi,VH (by omega)]at this ⊢;simpa using this
  rw[hr]at hmem;cases hmem
end
def upd(f:Nat->Value)(i:Nat)(v:Value):Nat->Value:=fun k=>if k=i then v else f k
section
variable  {P:Program}{ops:Array Oper}{Q:Exit->Act->World->Prop}
theorem aU(listed:Array Bool)(i j:Nat)(hi:i<listed.size):(listed.setIfInBounds i true).getD j false=if j=i then true else listed.getD j false:=by
 rw[Vi,Vi,Array.getElem?_setIfInBounds];by_cases e:i=j
 ·subst e;simp[hi]
 simp[e,Ne.symm e]
theorem kC{listed:Array Bool}{i:Nat}(hi:i<listed.size):listed.getD i true=listed.getD i false:=by
 rw[Vi,Vi,VH hi];rfl
def CE(ops:Array Oper):Bool:=(List.range ops.size).all (fun i=>(ops[i]?.map (fun o=>o.after.all (fun e=>decide (e.on<i)))).getD true)
def zt(ops:Array Oper)(L:Nat):Bool:=(List.range L).all (fun j=>(ops[L]?.map (fun o=>o.after.any (fun e=>e.on==j&&Region.binds .any e))).getD false)
theorem qd{ops:Array Oper}(h:CE ops=true):∀(i:Nat) (o:Oper),ops[i]?=some o->∀e∈o.after,e.on<i:=by
 intro i o ho e he;rw[CE,U5]at h;have h1:=h i (by simpa using (UZ.1 ho).1);rw[ho]at h1;simp only[Option.map_some,Vw,Array.all_eq_true_iff_forall_mem]at h1;simpa using h1 e he
theorem CF{ops:Array Oper}{L:Nat}(h:zt ops L=true):∀(o:Oper),ops[L]?=some o->∀j,j<L->∃e∈o.after,e.on=j/\Region.binds .any e=true:=by
 intro o ho j hj;rw[zt,U5]at h;have h1:=h j (by simpa using hj);rw[ho]at h1;simp only[Option.map_some,Vw]at h1;rw[Array.any_eq_true']at h1;obtain⟨e,he,h2⟩:=h1;simp only[UW,beq_iff_eq]at h2;exact⟨e,he,h2.1,h2.2⟩
theorem qg{id:Nat}{a:Act}{w:af}(L:Nat)(f0:Nat->Value)(F:(Nat->Value)->Act)(V:Nat->Value->World->Prop)(G:World->Prop)
  (hm:P.follows .mixedOrders=true) (hsz:ops.size=L+1) (WZ:CE ops=true) (hlo:zt ops L=true)
  (h0:a=F f0) (hG0:G w.drew)
  (hstep:∀ i,i<L->∀ o,ops[i]?=some o->∀ f w',G w'->(∀ e∈o.after,Region.binds .any e=true->V e.on (f e.on) w') ->
   wpOp P ops Q i (fun a' w''=>∃v,a'=F (upd f i v)/\G w''/\V i v w''/\∀k u,V k u w'->V k u w'') (F f) w')
  (hfin:∀o,ops[L]?=some o->∀f w',G w'->(∀k,k<L->V k (f k) w')->wpOp P ops Q L (fun a' w''=>Q .normal a' w'') (F f) w') :
  (Code.region id ops true).wp P Q a w:=by
 refine gY (fun listed a' w'=>listed.size=L+1/\((listed.getD L false=false/\∃f,a'=F f/\G w'/\∀k,k<L->listed.getD k false=true->V k (f k) w')\/((∀j,j<=L->listed.getD j true=true)/\Q .normal a' w'))) hm ?_ ?_ ?_
 ·refine⟨by simpa using hsz,Or.inl ⟨?_,_,h0,hG0,fun k _ h=>?_⟩⟩
  ·rw[Vi,Vz];split<;>rfl
  rw[Vi,Vz]at h;split at h<;>cases h
 ·rintro listed a' w' ⟨hs,h⟩ i hi;obtain⟨hl,o,ho,hpre⟩:=mem_ready.1 hi;have hiL:i<L+1:=by have:=(UZ.1 ho).1;omega
  rcases h with⟨hn,f,rfl,hG,hV⟩|⟨hall,-⟩
  ·by_cases e:i=L
   ·subst e;have hall:∀k,k<i->listed.getD k false=true:=fun k hk=>by
     obtain⟨e,he,rfl,hb⟩:=CF hlo o ho k hk;exact hpre e he hb
    refine wpOp_mono (fun a'' w'' hq=>⟨by simpa using hs,Or.inr ⟨fun j hj=>?_,hq⟩⟩) (hfin o ho f w' hG (fun k hk=>hV k hk (hall k hk)));rw[kC (by simp;omega),aU _ _ _ (by omega)];by_cases e:j=i
    ·simp[e]
    rw[if_neg e];exact hall j (by omega)
   refine wpOp_mono ?_ (hstep i (by omega) o ho f w' hG (fun e he hb=>hV e.on (by have:=qd WZ i o ho e he;omega) (hpre e he hb)));rintro a'' w'' ⟨v,rfl,hG',hv,hmono⟩;refine⟨by simpa using hs,Or.inl ⟨?_,_,rfl,hG',fun k hk hkl=>?_⟩⟩
   ·rw[aU _ _ _ (by omega),if_neg (Ne.symm e)];exact hn
   rw[aU _ _ _ (by omega)]at hkl;by_cases ek:k=i
   ·subst ek;simpa[upd] using hv
   rw[if_neg ek]at hkl;simp only[upd,if_neg ek];exact hmono _ _ (hV k hk hkl)
  rw[hall i (by omega)]at hl;cases hl
 rintro listed a' w' ⟨hs,h⟩ hr;rcases h with⟨hn,-⟩|⟨-,hq⟩
 ·have:=tJ hr hsz (qd WZ) hs L (by omega);rw[kC (by omega)]at this;rw[this]at hn;cases hn
 exact hq
theorem fJ{id:Nat}{a:Act}{w:af}(L:Nat)(F:(Nat->Value)->Act)(V:Nat->Value->World->Prop)(G:World->Prop)
  (hm:P.follows .mixedOrders=true) (hsz:ops.size=L+1) (WZ:CE ops=true) (hlo:zt ops L=true)
  (h0:a=F (fun _=>undef)) (hG0:G w.drew)
  (hstep:∀ i,i<L->∀ o,ops[i]?=some o->∀ f w',G w'->(∀ e∈o.after,Region.binds .any e=true->V e.on (f e.on) w') ->
   wpOp P ops Q i (fun a' w''=>∃v,a'=F (upd f i v)/\G w''/\V i v w''/\∀k u,V k u w'->V k u w'') (F f) w')
  (hfin:∀o,ops[L]?=some o->∀f w',G w'->(∀k,k<L->V k (f k) w')->wpOp P ops Q L (fun a' w''=>Q .normal a' w'') (F f) w') :
  (Code.region id ops true).wp P Q a w :=
 qg L (fun _=>undef) F V G hm hsz WZ hlo h0 hG0 hstep hfin
theorem nC{id:Nat}{a:Act}{w:af}(N:Nat)(f0:Nat->Value)(F:(Nat->Value)->Act)(V:Nat->Value->World->Prop)(G:World->Prop)
  (hm:P.follows .mixedOrders=true) (hsz:ops.size=N) (WZ:CE ops=true)
  (h0:a=F f0) (hG0:G w.drew)
  (hstep:∀ i,i<N->∀ o,ops[i]?=some o->∀ f w',G w'->(∀ e∈o.after,Region.binds .any e=true->V e.on (f e.on) w') ->
   wpOp P ops Q i (fun a' w''=>∃v,a'=F (upd f i v)/\G w''/\V i v w''/\∀k u,V k u w'->V k u w'') (F f) w')
  (hend:∀f w',G w'->(∀k,k<N->V k (f k) w')->Q .normal (F f) w') :
  (Code.region id ops true).wp P Q a w:=by
 refine gY (fun listed a' w'=>listed.size=N/\∃f,a'=F f/\G w'/\∀k,k<N->listed.getD k false=true->V k (f k) w') hm ?_ ?_ ?_
 ·refine⟨by simpa using hsz,_,h0,hG0,fun k _ h=>?_⟩;rw[Vi,Vz]at h;split at h<;>cases h
 ·rintro listed a' w' ⟨hs,f,rfl,hG,hV⟩ i hi;obtain⟨hl,o,ho,hpre⟩:=mem_ready.1 hi;have hiN:i<N:=by have:=(UZ.1 ho).1;omega
  refine wpOp_mono ?_ (hstep i hiN o ho f w' hG (fun e he hb=>hV e.on (by have:=qd WZ i o ho e he;omega) (hpre e he hb)));rintro a'' w'' ⟨v,rfl,hG',hv,hmono⟩;refine⟨by simpa using hs,_,rfl,hG',fun k hk hkl=>?_⟩;rw[aU _ _ _ (by omega)]at hkl;by_cases ek:k=i
  ·subst ek;simpa[upd] using hv
  rw[if_neg ek]at hkl;simp only[upd,if_neg ek];exact hmono _ _ (hV k hk hkl)
 rintro listed a' w' ⟨hs,f,rfl,hG,hV⟩ hr;refine hend f w' hG fun k hk=>hV k hk ?_;have:=tJ hr hsz (qd WZ) hs k hk;rwa [kC (by omega)]at this
end
open Pl
def jV(x y:Al):Bool:=x.t.toList==y.t.toList&&x.s.toList==y.s.toList
def FV(a:Al):Bool:=aT a.t&&uI a.s
def dJ(xs:Q0a)(k:Nat)(a:Al):Bool:=(xs.take k).any fun x=>jV x a
theorem tK(xs:Q0a)(k:Nat)(a:Al)(h:k<xs.length):dJ xs (k+1) a=(dJ xs k a || jV xs[k] a):=by
 unfold dJ;rw[UX h,List.any_append];simp
theorem tL(xs:Q0a)(a:Al):dJ xs 0 a=false:=by simp[dJ]
def En(xs:Q0a):Nat->Bool
 | 0=>true
 | k+1=>En xs k&&(xs[k]?.map fun a=>FV a && !dJ xs k a).getD true
theorem zu(xs:Q0a)(k:Nat)(h:k<xs.length):En xs (k+1)=(En xs k&&(FV xs[k] && !dJ xs k xs[k])):=by
 simp[En,h]
theorem oF(xs:Q0a)(k:Nat)(h:k<xs.length)(hb:(FV xs[k] && !dJ xs k xs[k])=false):∀n,k<n->En xs n=false
 | 0,hn=>by omega
 | n+1,hn=>by
  by_cases e:n=k
  ·subst e;rw[zu _ _ h,hb];simp
  simp[En,oF xs k h hb n (by omega)]
def eD(xs:Q0a):Bool:=decide (1<=xs.length)&&decide (xs.length<=6)&&En xs xs.length
def ax(e:Ex):Bool :=
 if e.kind=1 then eD e.allow&&e.over.toList.isEmpty&&e.name.toList.isEmpty&&decide (e.kids.length=0)
 else if e.kind=2 then aT e.name&&decide (e.allow.length=0)&&e.over.toList.isEmpty&&decide (e.kids.length=0)
 else if e.kind=3 then aT e.over&&aT e.name&&decide (e.allow.length=0)&&decide (e.kids.length=0)
 else if e.kind=4\/e.kind=5 then decide (2<=e.kids.length)&&decide (e.kids.length<=5)&&decide (e.allow.length=0)&&e.over.toList.isEmpty&&e.name.toList.isEmpty
 else if e.kind=6 then decide (e.kids.length=2)&&decide (e.allow.length=0)&&e.over.toList.isEmpty&&e.name.toList.isEmpty
 else false
def dA(f:Int->Int):List Int->Int->Int
 | [],at'=>at'+1
 | k::ks,at'=>if at'<0\/k≠at' then -1 else if f at'<0 then -1 else dA f ks (f at'-1)
def dm(es:Q09)(n:Nat):List Int:=(es[n]?.map Ex.kids).getD []
def ay(es:Q09)(n:Nat):Int:=dA (fun x=>if _h:0<=x/\x.toNat<n then ay es x.toNat else -1) (dm es n).reverse ((n:Int)-1)
def dC(es:Q09)(n:Nat)(x:Int):Int:=if 0<=x/\x.toNat<n then ay es x.toNat else -1
theorem jk(es:Q09)(n:Nat):ay es n=dA (dC es n) (dm es n).reverse ((n:Int)-1):=by
 rw[ay];rfl
theorem CG{f:Int->Int}(hf:∀x,0<=x->f x<=x):∀(ks:List Int) (a:Int),-1<=a->dA f ks a<=a+1
 | [],a,_=>by simp[dA]
 | k::ks,a,ha=>by
  unfold dA;split
  ·omega
  rename_i h;split
  ·omega
  rename_i h2;have h0:0<=a:=by omega
  have:=CG hf ks (f a-1) (by omega);have:=hf a h0;omega
theorem fV(es:Q09)(n:Nat):ay es n<=n:=by
 induction n using Nat.strongRecOn with
 | ind n ih =>
  rw [jk];have:=CG (f:=dC es n) (fun x hx=>by
   unfold dC;split
   ·rename_i h;have:=ih x.toNat h.2;omega
   omega) (dm es n).reverse ((n:Int)-1) (by omega)
  omega
theorem NR(es:Q09)(n:Nat)(x:Int)(hx:0<=x):dC es n x<=x:=by
 unfold dC;split
 ·have:=fV es x.toNat;omega
 omega
theorem sM{es:Q09}{n:Nat}(ih:∀m,m<n->0<=ay es m->∀j:Nat,ay es m<=j->j<=m->0<=ay es j):
  ∀(ks:List Int) (a:Int),a<n->0<=dA (dC es n) ks a->∀j:Nat,dA (dC es n) ks a<=j->(j:Int)<=a->0<=ay es j
 | [],a,ha,h,j,h1,h2=>by simp[dA]at h1;omega
 | k::ks,a,ha,h,j,h1,h2=>by
  unfold dA at h h1;split at h
  ·omega
  rename_i c;rw[if_neg c]at h1;split at h
  ·omega
  rename_i c2;rw[if_neg c2]at h1;have h0:0<=a:=by omega
  have hF:dC es n a=ay es a.toNat:=by unfold dC;rw[if_pos ⟨h0,by omega⟩]
  rw[hF]at h h1 c2;by_cases hj:ay es a.toNat<=j
  ·exact ih a.toNat (by omega) (by omega) j hj (by omega)
  exact sM ih ks (ay es a.toNat-1) (by have:=fV es a.toNat;omega) h j h1 (by omega)
theorem nD(es:Q09)(n:Nat):0<=ay es n->∀j:Nat,ay es n<=j->j<=n->0<=ay es j:=by
 induction n using Nat.strongRecOn with
 | ind n ih =>
  intro h j h1 h2;by_cases e:j=n
  ·subst e;exact h
  rw[jk]at h h1;exact sM ih _ _ (by omega) h j h1 (by omega)
def kP(es:Q09)(i:Nat):Bool:=(dm es i).all fun k=>decide (0<=k)&&decide (k<=(i:Int)-1)
theorem xV{es:Q09}{n:Nat}:∀(ks:List Int) (a:Int),a<n->0<=dA (dC es n) ks a->∀k∈ks,0<=k/\k<=a
 | [],_,_,_,k,hk=>by cases hk
 | x::ks,a,ha,h,k,hk=>by
  unfold dA at h;split at h
  ·omega
  rename_i c;split at h
  ·omega
  rename_i c2;have h0:0<=a:=by omega
  rcases U9.1 hk with rfl|hk
  ·omega
  have hl:=NR es n a h0;have:=xV ks (dC es n a-1) (by omega) h k hk;omega
theorem LA(es:Q09)(i:Nat)(h:0<=ay es i):kP es i=true:=by
 unfold kP;rw[U5];intro k hk;rw[jk]at h;have:=xV _ _ (by omega) h k (by simpa using hk);simp;omega
def NS(es:Q09)(n:Nat):Prop:=∀j,j<n->0<=ay es j
def own(es:Q09):Nat:=(es.filter fun e=>decide (e.kind=1)).length
def gP(es:Q09)(k:Nat):Nat:=own (es.take k)
theorem zw(es:Q09)(k:Nat)(h:k<es.length):gP es (k+1)=gP es k+(if es[k].kind=1 then 1 else 0):=by
 unfold gP own;rw[UX h,VZ,U2];by_cases e:es[k].kind=1<;>simp[e]
theorem uJ(es:Q09)(k:Nat):gP es k<=k:=by
 unfold gP own;exact U0 (List.length_filter_le ..) (by simp;omega)
def jC(es:Q09)(k:Nat):Bool:=(es.take k).all ax
theorem uK(es:Q09)(k:Nat)(h:k<es.length):jC es (k+1)=(jC es k&&ax es[k]):=by
 unfold jC;rw[UX h,VV];simp
theorem CJ(es:Q09)(k:Nat)(h:k<es.length)(hb:ax es[k]=false):es.all ax=false:=by
 rw[Bool.eq_false_iff];intro h2;rw[U5]at h2;have:=h2 es[k] (UR h);rw[hb]at this;cases this
def jf(es:Q09)(k:Nat):Bool:=(List.range k).all (kP es)
theorem FW(es:Q09)(k:Nat):jf es (k+1)=(jf es k&&kP es k):=by simp[jf,List.range_succ]
theorem NT(es:Q09)(k:Nat)(h:k<es.length)(hb:kP es k=false):jf es es.length=false:=by
 rw[Bool.eq_false_iff];intro h2;unfold jf at h2;rw[U5]at h2;have:=h2 k (by simpa using h);rw[hb]at this;cases this
def aL(es:Q09):Bool:=decide (1<=es.length)&&decide (es.length<=15)&&es.all ax&&jf es es.length&&decide (own es<=1)&&decide (ay es (es.length-1)=0)
def iZ(es:Q09):Bool:=(List.range es.length).all fun j=>decide (0<=ay es j)
def kD(es:Q09):Bool:=decide (1<=es.length)&&decide (es.length<=15)&&es.all ax&&decide (own es<=1)&&(iZ es&&decide (ay es (es.length-1)=0))
theorem rC(es:Q09):aL es=kD es:=by
 by_cases h1:1<=es.length
 ·by_cases ht:ay es (es.length-1)=0
  ·have ha:iZ es=true:=by
    unfold iZ;rw[U5];intro j hj;have hj':j<es.length:=by simpa using hj
    simpa using nD es (es.length-1) (by omega) j (by omega) (by omega)
   have hk:jf es es.length=true:=by
    unfold jf;rw[U5];intro j hj;have hj':j<es.length:=by simpa using hj
    exact LA es j (nD es (es.length-1) (by omega) j (by omega) (by omega))
   simp[aL,kD,ht,ha,hk,h1]
  simp[aL,kD,ht]
 simp[aL,kD,h1]
theorem kS{P:Program}{ops:Array Oper}{Q:Exit->Act->World->Prop}{k:Nat}{o:Oper}{K:Act->World->Prop}{a:Act}(w:af)(hop:ops[k]?=some o)(hgd:o.guard=none)(s x:Operand)(t:TypeId)
  (ho:o.op=.call { callee:=.builtin .append,args:=#[s,x],argTypes:=#[t,t] })
  (base:Nat) (e:TypeId) (i:TypeInfo) (z:Value) (size bytes:Nat) (ht:P.underlying t=some (.slice e)) (hi:P.info? e=some i) (hz:i.zero=some z)
  (hsize:i.size=size) (hby:i.bytes=bytes) (hzs:z.cells.size=size) (hsz:0<size)
  (v:Value) (n:Nat) (xs:Q03) (hs:a.eval s=v) (hown:w.ownsRow base e size v n xs)
  (ad:Addr) (m c:Nat) (news:Q03) (hx:a.eval x=.slice (some ad) m c) (hl:news.length=m*size) (hnews:∀j u,news[j]?=some u->w.cell? (ad.add j)=some u) (h1:∀u∈news,u.oneCell'=true)
  (h63:n+m<=maxLen) (hbytes:(n+m)*bytes<=140737488355328) (hbase:base<=w.heap.size)
  (h:∀v' w',w'.ownsRow base e size v' (n+m) (xs++news)->w.grownBy w' v.ownBlock->(v'.ownBlock=v.ownBlock\/v'.ownBlock=some w.heap.size)->K (a.put o.dst v') w') :
  wpOp P ops Q k K a w:=by
 refine wpOp_step hop (fun K' hK=>?_);have hw:Region.wanted o (yielded ops a.tmps)=true:=by simp[Region.wanted,hgd]
 rw[if_pos hw];obtain⟨v',w',hr,h2,h3,h4,h5⟩:=run_append_own_at (P:=P) w base t o.type e i z size bytes ht hi hz hsize hby hzs hsz v n xs hown ad m c news hl hnews h1 h63 hbytes hbase;unfold Oper.wp execOp;simp only[ho,resolve,invoke,builtin,Sem.run_bind,Sem.run_pure,Result.andThen_ok,List.map_toArray,VX,List.map_nil,hs,hx,hr];exact hK _ _ (h v' w' h2 h3 h5)
structure Aside(w:World)(v:Value)(w':World)(v':Value):Prop where
 size:w.heap.size<=w'.heap.size
 block:∀k,k<w.heap.size->v.ownBlock≠some k->w'.heap[k]?=w.heap[k]?
 own:v'.ownBlock=v.ownBlock \/ ∃g,v'.ownBlock=some g/\w.heap.size<=g
theorem Aside.refl(w:af)(v:Value):Aside w v w v:=⟨UU _,fun _ _ _=>rfl,.inl rfl⟩
theorem Aside.apart{w w':af}{v v':Value}{k:Nat}(h:Aside w v w' v')(hk:k<w.heap.size)(hv:v.ownBlock≠some k):v'.ownBlock≠some k:=by
 rcases h.own with e|⟨g,e,hg⟩
 ·rw[e];exact hv
 rw[e];intro h2;injection h2 with h2;omega
theorem Aside.trans{w w1 w2:af}{v v1 v2:Value}(h:Aside w v w1 v1)(h2:Aside w1 v1 w2 v2):Aside w v w2 v2 where
 size:=U0 h.size h2.size
 block k hk hv:=(h2.block k (UT hk h.size) (h.apart hk hv)).trans (h.block k hk hv)
 own:=by
  rcases h2.own with e|⟨g,e,hg⟩
  ·rw[e];exact h.own
  exact .inr ⟨g,e,U0 h.size hg⟩
theorem Aside.below{w w':af}{v:Value}(h:ae w w'):Aside w v w' v:=⟨h.size,fun k hk _=>h.block k hk,.inl rfl⟩
theorem Aside.app{w w':af}{v v':Value}(hg:w.grownBy w' v.ownBlock)(h5:v'.ownBlock=v.ownBlock\/v'.ownBlock=some w.heap.size):Aside w v w' v' where
 size:=hg.size
 block k hk hv:=hg.block k hk (fun e=>hv e.symm)
 own:=by
  rcases h5 with e|e
  ·exact .inl e
  exact .inr ⟨_,e,UU _⟩
theorem Aside.cell{w w':af}{v v':Value}(h:Aside w v w' v'){p:Addr}(hp:p.block<w.heap.size)(hv:v.ownBlock≠some p.block):w'.cell? p=w.cell? p:=Vh (w:=w) (h.block p.block hp hv)
open ChangeAt ChangeShapes Maps WideShapes
def QW(v:Value):Option (DataW Value×List MemPlace):=some (.held v,[])
section
variable  {K:Type}(enc:K->Value)(P:Program)(k:TypeId)
def S9(D:DataW Value)(kl:Lit):Option Value->Prop
 | none=>Maps.has D kl=false/\∀z,D.atKey kl z=z
 | some v=>Maps.has D kl=true/\∀z,D.atKey kl z=.held v
def aK(w:World)(b n:Nat)(M:K->Option Value):Prop :=
 ∃D:DataW Value,w.ownsMap P k QW b n D/\∀x kl,keyOf P k (enc x)=some kl->S9 D kl (M x)
def lu[DecidableEq K](M:K->Option Value)(x:K)(v:Option Value):K->Option Value:=fun y=>if y=x then v else M y
end
section
variable  {K:Type}{enc:K->Value}{P:Program}{k:TypeId}{w:World}{b n:Nat}{M:K->Option Value}
theorem ed[DecidableEq K](M:K->Option Value)(x:K)(v:Option Value):lu M x v x=v:=by simp[lu]
theorem dw[DecidableEq K]{M:K->Option Value}{x y:K}{v:Option Value}(h:y≠x):lu M x v y=M y:=by simp[lu,h]
theorem lK(enc:K->Value)(P:Program)(k:TypeId)(w:af):aK enc P k (w.alloc (.map #[] 0)) w.heap.size 0 (fun _=>none) :=
 ⟨.map [],World.ownsMap_made w P k QW,fun _ kl _=>⟨rfl,fun z=>by simp[DataW.atKey]⟩⟩
theorem aK.lt(h:aK enc P k w b n M):b<w.heap.size:=by obtain⟨D,h1,-⟩:=h;exact h1.lt
theorem aK.mono(h:aK enc P k w b n M){n':Nat}(hn:n<=n'):aK enc P k w b n' M:=by obtain⟨D,h1,h2⟩:=h;exact⟨D,h1.mono hn,h2⟩
theorem aK.kept{w':af}{row:Option Nat}(h:aK enc P k w b n M)(hg:w.grownBy w' row)(hne:some b≠row):aK enc P k w' b n M:=by
 obtain⟨D,h1,h2⟩:=h;exact⟨D,h1.kept hg hne,h2⟩
theorem aK.below{w':af}(h:aK enc P k w b n M)(hB:ae w w'):aK enc P k w' b n M :=
 h.kept (row:=none) ⟨hB.os,hB.tape,hB.output,hB.size,fun k hk _=>hB.block k hk⟩ (by simp)
theorem aK.setCell(h:aK enc P k w b n M){a:Addr}(ha:b≠a.block)(u:Value):aK enc P k (w.setCell a u) b n M:=by
 obtain⟨D,h1,h2⟩:=h;exact⟨D,h1.setCell ha u,h2⟩
theorem aK.look{t e:TypeId}(h:aK enc P k w b n M)(L:Keyed P k)(ht:P.underlying t=some (.map k e)){z:Value}(hz:(zeroValue e).run P w=.ok z w){x:K}{kl:Lit}(hkey:keyOf P k (enc x)=some kl):
  (Instr.lookup t (.map (some b)) (enc x) false).run P w=.ok ((M x).getD z) w:=by
 obtain⟨D,h1,h2⟩:=h;obtain⟨v,ps,hrun,hv⟩:=h1.lookup L ht hz (zd:=.held z) (zp:=[]) rfl hkey;have h3:=h2 x kl hkey;rw[hrun];have:v=(M x).getD z:=by
  simp only[QW,Option.some.injEq,Prod.mk.injEq]at hv;cases e:M x with
  | none=>rw[e]at h3;rw[h3.2]at hv;injection hv.1 with h4
  | some u=>rw[e]at h3;rw[h3.2]at hv;injection hv.1 with h4
 rw[this]
theorem aK.look_ok{t e:TypeId}(h:aK enc P k w b n M)(L:Keyed P k)(ht:P.underlying t=some (.map k e)){z:Value}(hz:(zeroValue e).run P w=.ok z w){x:K}{kl:Lit}(hkey:keyOf P k (enc x)=some kl):
  (Instr.lookup t (.map (some b)) (enc x) true).run P w=.ok (.tuple #[(M x).getD z,.bool (M x).isSome]) w:=by
 obtain⟨D,h1,h2⟩:=h;obtain⟨v,ps,hrun,hv⟩:=h1.look_ok L ht hz (zd:=.held z) (zp:=[]) rfl hkey;have h3:=h2 x kl hkey;rw[hrun];simp only[QW,Option.some.injEq,Prod.mk.injEq]at hv;cases e:M x with
 | none=>rw[e]at h3;rw[h3.2]at hv;injection hv.1 with h4;rw[h4,h3.1];rfl
 | some u=>rw[e]at h3;rw[h3.2]at hv;injection hv.1 with h4;rw[h4,h3.1];rfl
theorem aK.store[DecidableEq K]{t e:TypeId}(h:aK enc P k w b n M)(L:Keyed P k)(hinj:∀x y,enc x=enc y->x=y)(ht:P.underlying t=some (.map k e))(hn:n<maxLen){x:K}{kl:Lit}(hkey:keyOf P k (enc x)=some kl)(v:Value):
  ∃w',(Instr.mapUpdate t (.map (some b)) (enc x) v).run P w=.ok () w'/\aK enc P k w' b (n+1) (lu M x (some v))/\w.grownBy w' (some b):=by
 obtain⟨D,h1,h2⟩:=h;obtain⟨w',hrun,h3,h4⟩:=h1.update L ht hn hkey (val:=v) (d:=.held v) (ps:=[]) rfl;refine⟨w',hrun,⟨D.put kl (.held v),h3,fun y ky hy=>?_⟩,h4⟩;by_cases e:y=x
 ·subst e;obtain rfl:ky=kl:=by rw[hkey]at hy;injection hy with hy;exact hy.symm
  rw[ed];exact⟨has_put_same h1.isMap (L.key hkey) _,fun z=>atKey_put_same h1.isMap (L.key hkey) _ z⟩
 have hne:ky≠kl:=fun e2=>e (hinj _ _ (L.inj (by rw[e2]at hy;exact hy) hkey));rw[dw e];have h5:=h2 y ky hy;cases e3:M y with
 | none=>rw[e3]at h5;exact⟨by rw[has_put_other hne];exact h5.1,fun z=>by rw[atKey_put_other hne];exact h5.2 z⟩
 | some u=>rw[e3]at h5;exact⟨by rw[has_put_other hne];exact h5.1,fun z=>by rw[atKey_put_other hne];exact h5.2 z⟩
end
section
variable  {K:Type}{enc:K->Value}{P:Program}(w:World){ops:Array Oper}{rest:List Oper}{o:Oper}{a:Act}{Q:Exit->Act->World->Prop}
theorem jD(hg:o.guard=none)(m x:Operand)(t:TypeId)(hop:o.op=Op.lookup t m x false)(k e:TypeId)(L:Keyed P k)(ht:P.underlying t=some (.map k e)){z:Value}(hz:(zeroValue e).run P w=.ok z w)(b n:Nat)(M:K->Option Value)
  (hm:a.eval m=.map (some b)) (hV:aK enc P k w b n M) (y:K) (kl:Lit) (hx:a.eval x=enc y) (hkey:keyOf P k (enc y)=some kl)
  (hK:wpList P ops Q rest (a.put o.dst ((M y).getD z)) w):wpList P ops Q (o::rest) a w:=by
 refine wpList_plain hg fun K' hK'=>?_;have hrun:=hV.look L ht hz hkey;unfold Oper.wp;simp[execOp,hop,hm,hx,hrun,Result.andThen];exact hK' _ _ hK
theorem dQ(hg:o.guard=none)(m x:Operand)(t:TypeId)(hop:o.op=Op.lookup t m x true)(k e:TypeId)(L:Keyed P k)(ht:P.underlying t=some (.map k e)){z:Value}(hz:(zeroValue e).run P w=.ok z w)(b n:Nat)(M:K->Option Value)
  (hm:a.eval m=.map (some b)) (hV:aK enc P k w b n M) (y:K) (kl:Lit) (hx:a.eval x=enc y) (hkey:keyOf P k (enc y)=some kl)
  (hK:wpList P ops Q rest (a.put o.dst (.tuple #[(M y).getD z,.bool (M y).isSome])) w):wpList P ops Q (o::rest) a w:=by
 refine wpList_plain hg fun K' hK'=>?_;have hrun:=hV.look_ok L ht hz hkey;unfold Oper.wp;simp[execOp,hop,hm,hx,hrun,Result.andThen];exact hK' _ _ hK
theorem ku[DecidableEq K](hg:o.guard=none)(m x v:Operand)(t:TypeId)(hop:o.op=Op.mapUpdate t m x v)(k e:TypeId)(L:Keyed P k)(hinj:∀x y,enc x=enc y->x=y)(ht:P.underlying t=some (.map k e))(b n:Nat)(M:K->Option Value)
  (hm:a.eval m=.map (some b)) (hV:aK enc P k w b n M) (hn:n<maxLen) (y:K) (kl:Lit) (hx:a.eval x=enc y) (hkey:keyOf P k (enc y)=some kl) (u:Value) (hv:a.eval v=u)
  (hK:∀w',aK enc P k w' b (n+1) (lu M y (some u))->w.grownBy w' (some b)->wpList P ops Q rest (a.put o.dst undef) w'):wpList P ops Q (o::rest) a w:=by
 refine wpList_plain hg fun K' hK'=>?_;obtain⟨w',hrun,r1,r2⟩:=hV.store L hinj ht hn hkey u;unfold Oper.wp;simp[execOp,hop,hm,hx,hv,hrun,Result.andThen];exact hK' _ _ (hK w' r1 r2)
end
def dV(k:Q01):Value:=.agg #[.string k.1,.string k.2]
theorem uL(x y:Q01)(h:dV x=dV y):x=y:=by
 unfold dV at h;injection h with h;have h1:=congrArg Array.toList h;simp at h1;exact Prod.ext h1.1 h1.2
theorem zx:laidOutB prog=true:=by kernel_rfl
theorem NU:(94:TypeId)<prog.types.size:=of_decide_eq_true (by kernel_rfl)
theorem QX:(match prog.underlying 94 with|some (.array _ _)|some (.struct _)=>true|_=>false)=true:=by rw[underlying94]
set_option maxRecDepth 100000 in
theorem KJ:WideMaps.KeyLaw prog 94:=deep_law_laid zx (m:=2) (by omega) NU (by kernel_rfl) QX
theorem iU:Keyed prog 94:=Keyed.of_law KJ
theorem QY:prog.keyType 94=true:=by kernel_rfl
theorem FX:prog.cellsOf 94=2:=by kernel_rfl
theorem strCells:prog.cellsOf 9=1:=by kernel_rfl
theorem LB:∃n,prog.types.size=n+1:=Nat.exists_eq_succ_of_ne_zero (Nat.ne_of_gt (Nat.lt_of_le_of_lt (UY _) NU))
theorem jE(k:Q01)(h1:k.1.size<=maxLen)(h2:k.2.size<=maxLen):∃kl,keyOf prog 94 (dV k)=some kl:=by
 obtain⟨n,hn⟩:=LB;refine⟨.string (keyBytes [.string k.1.data.toList,.string k.2.data.toList]),?_⟩;unfold keyOf;rw[underlying94];simp only[QY,dV,Value.formed,underlying94,FX,hn,Value.cells];simp[Program.keyLits,underlying94,underlying9,FX,strCells,h1,h2]
open Go.Sort
theorem qh{p:Prop}(h:p):Hid p:=h
theorem jW{P:Program}{f:FuncId}{args:Array Value}{W:af}{v:Value}(h:∀W',Calls P f args W' fun e w'=>e=.returned v/\w'=W'):∀d os,Calls P f args (grow (redrawn W d) os) fun e w''=>e=.returned v/\∃p:Regrown,w''=grow (redrawn W p.d) p.os:=fun d os=>(h _).mono fun _ _ ⟨he,hw⟩=>⟨he,⟨d,os⟩,hw⟩
theorem bY{P:Program}{f:FuncId}{args:Array Value}{W:af}{v:Value}(h:∀W',ae W W'->Calls P f args W' fun e w'=>e=.returned v/\ae W' w'):∀d os,Calls P f args (grow (redrawn W d) os) fun e w''=>e=.returned v/\∃p:Regrown,w''=grow (redrawn W p.d) p.os:=fun d os=>Calls.regrown_of (h _ (below_regrown W d os))
def lw(ops:Array Oper)(m k:Nat):Bool:=(ops[m]?.map fun o=>o.after.any fun e=>e.on==k&&Region.binds .any e).getD false
def Uk(ops:Array Oper)(i:Nat):List Nat:=(List.range i).reverse.foldl (fun acc k=>if acc.any (fun m=>lw ops m k) then k::acc else acc) [i]
def KM(ops:Array Oper)(L N:Nat):Bool:=(List.range N).all fun i=>decide (i<L) || (List.range i).all fun j=>(Uk ops i).contains j
def QZ(l:List Oper)(L:Nat):Bool:=l.all fun o=>match o.guard with|some (g,_)=>decide (g<L)|none=>true
def nJ(P:Program)(ops:Array Oper)(Q:Exit->Act->World->Prop):Nat->Nat->Act->World->Prop
 | 0,_,a,w=>Q .normal a w
 | n+1,i,a,w=>wpOp P ops Q i (nJ P ops Q n (i+1)) a w
theorem xW{ops:Array Oper}{m k:Nat}(h:lw ops m k=true):∃o,ops[m]?=some o/\∃e∈o.after,e.on=k/\Region.binds .any e=true:=by
 unfold lw at h;cases ho:ops[m]? with
 | none=>rw[ho]at h;cases h
 | some o =>
  rw[ho]at h;simp only[Option.map_some,Vw]at h;rw[Array.any_eq_true']at h;obtain⟨e,he,h2⟩:=h;simp only[UW,beq_iff_eq]at h2;exact⟨o,rfl,e,he,h2.1,h2.2⟩
theorem FY{ops:Array Oper}{i:Nat}{lst:Nat->Prop}(hcl:∀m k,m=i\/lst m->lw ops m k=true->lst k):∀m∈Uk ops i,m=i\/lst m:=by
 have key:∀(ks acc:List Nat),(∀m∈acc,m=i\/lst m)->∀m∈ks.foldl (fun acc k=>if acc.any (fun m=>lw ops m k) then k::acc else acc) acc,m=i\/lst m:=by
  intro ks
  induction ks with
  | nil=>intro acc h;exact h
  | cons k ks ih =>
   intro acc h;refine ih _ ?_;dsimp only;split
   ·rename_i ha;obtain⟨m,hm,hb⟩:=Vk.1 ha;intro x hx;rcases U9.1 hx with rfl|hx
    ·exact .inr (hcl m _ (h m hm) hb)
    exact h x hx
   exact h
 exact key _ _ fun m hm=>.inl (by simpa using hm)
theorem CK{ops:Array Oper}{L N i:Nat}(h:KM ops L N=true)(hi:i<N)(hL:L<=i){lst:Nat->Prop}(hcl:∀m k,m=i\/lst m->lw ops m k=true->lst k):∀j,j<i->lst j:=fun j hj=>by
 have h1:=U5.1 h i (by simpa using hi);simp only[Bool.or_eq_true,U3]at h1;have h2:=U5.1 (h1.resolve_left (by omega)) j (by simpa using hj);exact(FY hcl j (by simpa using h2)).resolve_left (by omega)
theorem p8{P:Program}{id:Nat}{Q:Exit->Act->World->Prop}{a:Act}{w:af}{l:List Oper}(L n:Nat)(hm:P.follows .mixedOrders=true)(hlen:l.length=L+n)
  (hB:(Region.noSelect (l.take L).toArray&&Region.lexFrom .any (l.take L).toArray L 0 (Array.replicate (L+n) false)&&QZ (l.take L) L&&CE l.toArray&&KM l.toArray L (L+n))=true)
  (h:wpQuiet P (l.take L).toArray (fun w'=>∃p:Regrown,w'=grow (redrawn w p.d) p.os) (fun a'=>∀w',(∃p:Regrown,w'=grow (redrawn w p.d) p.os)->nJ P l.toArray Q n L a' w') (l.take L) a):(Code.region id l.toArray true).wp P Q a w:=by
 obtain⟨C,hC⟩:∃C:World->Prop,C=fun w'=>∃p:Regrown,w'=grow (redrawn w p.d) p.os:=⟨_,rfl⟩;have h':wpQuiet P (l.take L).toArray C (fun a'=>∀w',C w'->nJ P l.toArray Q n L a' w') (l.take L) a:=by simpa[hC] using h
 clear h;have hC0:C w.drew:=by rw[hC];exact⟨⟨w.drawn+1,#[]⟩,by rw[grow_empty];rfl⟩
 clear hC;simp only[UW]at hB;obtain⟨⟨⟨⟨hns,hlx⟩,hgd⟩,WZ⟩,hch⟩:=hB;have htl:(l.take L).length=L:=by rw[Vy];omega
 have hat:∀i,i<L->(l.take L).toArray[i]?=l.toArray[i]?:=fun i hi=>by simp[hi]
 have hsz:l.toArray.size=L+n:=by simpa using hlen
 have hwant:∀(i:Nat) (o:Oper) (a':Act),i<L->l.toArray[i]?=some o->Region.wanted o (yielded (l.take L).toArray a'.tmps)=Region.wanted o (yielded l.toArray a'.tmps):=by
  intro i o a' hi ho;have hmem:o∈l.take L:=by
   rw[<-hat i hi]at ho;exact VQ (by simpa using ho)
  have:=U5.1 hgd o hmem;unfold Region.wanted;cases hg:o.guard with
  | none=>rfl
  | some x =>
   obtain⟨g,bw⟩:=x;rw[hg]at this;have hgl:g<L:=by simpa using this
   simp only[yielded,hat g hgl]
 have h1:=wpAnyQ_lex (C:=C) (md:=.any) hns (l.take L) 0 (Array.replicate (L+n) false) a (fun j=>by simp) (by rw[htl];exact hlx) h';rw[htl]at h1;refine gY (fun listed a' w'=>listed.size=L+n/\(∀m k,listed.getD m false=true->lw l.toArray m k=true->listed.getD k false=true)/\(((∀j,L<=j->listed.getD j false=false)/\C w'/\∃fuel,wpAnyQ P .any (l.take L).toArray C (fun a'=>∀w',C w'->nJ P l.toArray Q n L a' w') fuel listed a') \/ ∃d,d<=n/\(∀j,j<L+d->listed.getD j false=true)/\(∀j,L+d<=j->listed.getD j false=false)/\nJ P l.toArray Q (n-d) (L+d) a' w')) hm ?_ ?_ ?_
 ·have hf:∀j,(Array.replicate l.toArray.size false).getD j false=false:=fun j=>by
   rw[Vi,Vz];split<;>rfl
  exact⟨by simpa using hsz,fun m k hm=>absurd hm (by rw[hf];decide),Or.inl ⟨fun j _=>hf j,hC0,L,by rw[hsz];exact h1⟩⟩
 ·rintro listed a' w' ⟨hs,hcl,hh⟩ i hi;obtain⟨hl,o,ho,hpre⟩:=mem_ready.1 hi;have hiL:i<L+n:=by have:=(UZ.1 ho).1;omega
  have hcl2:∀m k,(listed.setIfInBounds i true).getD m false=true->lw l.toArray m k=true->(listed.setIfInBounds i true).getD k false=true:=fun m k hm hb=>by
   rw[aU _ _ _ (by omega)]at hm ⊢;by_cases hk:k=i
   ·rw[if_pos hk]
   rw[if_neg hk];by_cases e:m=i
   ·subst e;obtain⟨o',ho',e,he,rfl,hbe⟩:=xW hb;rw[ho]at ho';obtain rfl:=Option.some.inj ho';exact hpre e he hbe
   rw[if_neg e]at hm;exact hcl m k hm hb
  have hup:L<=i->∀j,j<i->listed.getD j false=true:=fun hLi=>CK hch hiL hLi fun m k hm hb=>by
   rcases hm with rfl|hm
   ·obtain⟨o',ho',e,he,rfl,hbe⟩:=xW hb;rw[ho]at ho';obtain rfl:=Option.some.inj ho';exact hpre e he hbe
   exact hcl m k hm hb
  have hsq:∀d,L+d=i->nJ P l.toArray Q (n-d) (L+d) a' w'->wpOp P l.toArray Q i (fun a'' w''=>(listed.setIfInBounds i true).size=L+n/\(∀m k,(listed.setIfInBounds i true).getD m false=true->lw l.toArray m k=true->(listed.setIfInBounds i true).getD k false=true)/\(((∀j,L<=j->(listed.setIfInBounds i true).getD j false=false)/\C w''/\∃fuel,wpAnyQ P .any (l.take L).toArray C (fun a'=>∀w',C w'->nJ P l.toArray Q n L a' w') fuel (listed.setIfInBounds i true) a'') \/ ∃d,d<=n/\(∀j,j<L+d->(listed.setIfInBounds i true).getD j false=true)/\(∀j,L+d<=j->(listed.setIfInBounds i true).getD j false=false)/\nJ P l.toArray Q (n-d) (L+d) a'' w'')) a' w':=fun d hd hw=>by
   obtain⟨r,hr⟩:∃r,n-d=r+1:=⟨n-d-1,by omega⟩;rw[hr,hd]at hw;have Y5:∀j,i<j->listed.getD j false=false:=fun j hj=>by
    cases hlj:listed.getD j false;case false=>rfl
    have hjn:j<L+n:=by
     rcases Nat.lt_or_ge j (L+n) with h|h
     ·exact h
     rw[Vi,Array.getElem?_eq_none (by omega)]at hlj;cases hlj
    have:=CK hch hjn (by omega) (lst:=fun k=>listed.getD k false=true) (fun m k hm hb=>by
     rcases hm with rfl|hm
     ·exact hcl _ k hlj hb
     exact hcl m k hm hb) i hj
    rw[kC (by omega)]at hl;rw[hl]at this;cases this
   refine wpOp_mono (fun a'' w'' hq=>⟨by simpa using hs,hcl2,.inr ⟨d+1,by omega,fun j hj=>?_,fun j hj=>?_,?_⟩⟩) hw
   ·rw[aU _ _ _ (by omega)];by_cases e:j=i
    ·rw[if_pos e]
    rw[if_neg e];exact hup (by omega) j (by omega)
   ·rw[aU _ _ _ (by omega),if_neg (by omega)];exact Y5 j (by omega)
   have e1:n-(d+1)=r:=by omega
   have e2:L+(d+1)=i+1:=by omega
   rw[e1,e2];exact hq
  rcases hh with⟨hn,hCw,fuel,hq⟩|⟨d,hdn,hlow,hhigh,hw⟩
  ·by_cases e:i<L
   ·have hr:i∈Region.ready .any (l.take L).toArray listed:=mem_ready.2 ⟨hl,o,by rw[hat i e];exact ho,hpre⟩;cases fuel with
    | zero=>have:=hq.1;rw[this]at hr;cases hr
    | succ nn =>
     have hk:=hq.2 i hr;have:=wpOp_of_qOp (K':=fun a'' w''=>C w''/\wpAnyQ P .any (l.take L).toArray C (fun a'=>∀w',C w'->nJ P l.toArray Q n L a' w') nn (listed.setIfInBounds i true) a'') (Q':=Q) hCw (fun _ _ h1 h2=>⟨h1,h2⟩) hk;have h3:wpOp P l.toArray Q i (fun a'' w''=>C w''/\wpAnyQ P .any (l.take L).toArray C (fun a'=>∀w',C w'->nJ P l.toArray Q n L a' w') nn (listed.setIfInBounds i true) a'') a' w':=by
      unfold wpOp at this⊢;rw[hat i e,ho]at this;rw[ho];simp only[hwant i o a' e ho]at this;exact this
     refine wpOp_mono (fun a'' w'' hh=>⟨by simpa using hs,hcl2,Or.inl ⟨fun j hj=>?_,hh.1,nn,hh.2⟩⟩) h3;rw[aU _ _ _ (by omega),if_neg (by omega)];exact hn j hj
   have hiE:i=L:=by
    rcases Nat.lt_or_ge L i with h|h
    ·have:=hup (by omega) L h;rw[hn L (UU _)]at this;cases this
    omega
   have hnr:Region.ready .any (l.take L).toArray listed=[]:=by
    rw[List.eq_nil_iff_forall_not_mem];intro j hj;obtain⟨g1,oj,g2,-⟩:=mem_ready.1 hj;have hji:j<L:=by have:=(UZ.1 g2).1;simp at this;omega
    rw[kC (by omega),hup (by omega) j (by omega)]at g1;cases g1
   have hQ:nJ P l.toArray Q n L a' w':=by
    cases fuel with
    | zero=>exact hq.2 _ hCw
    | succ n=>exact hq.1 hnr _ hCw
   exact hsq 0 (by omega) (by simpa using hQ)
  have hid:L+d=i:=by
   rcases Nat.lt_or_ge i (L+d) with h|h
   ·have:=hlow i h;rw[kC (by omega)]at hl;rw[hl]at this;cases this
   rcases Nat.lt_or_ge (L+d) i with h2|h2
   ·have:=hup (by omega) (L+d) h2;rw[hhigh _ (UU _)]at this;cases this
   omega
  exact hsq d hid hw
 rintro listed a' w' ⟨hs,hcl,hh⟩ hr;have hall:=tJ hr hsz (qd WZ) hs;rcases hh with⟨hn,hCw,fuel,hq⟩|⟨d,hdn,hlow,hhigh,hw⟩
 ·have hn0:n=0:=by
   rcases Nat.eq_zero_or_pos n with h|h
   ·exact h
   have:=hall L (by omega);rw[kC (by omega),hn L (UU _)]at this;cases this
  subst hn0;have hnr:Region.ready .any (l.take L).toArray listed=[]:=by
   rw[List.eq_nil_iff_forall_not_mem];intro j hj;obtain⟨g1,oj,g2,-⟩:=mem_ready.1 hj;have hji:j<L:=by have:=(UZ.1 g2).1;simp at this;omega
   rw[hall j (by omega)]at g1;cases g1
  have hQ:nJ P l.toArray Q 0 L a' w':=by
   cases fuel with
   | zero=>exact hq.2 _ hCw
   | succ n=>exact hq.1 hnr _ hCw
  exact hQ
 have hd:d=n:=by
  rcases Nat.lt_or_ge d n with h|h
  ·have:=hall (L+d) (by omega);rw[kC (by omega),hhigh _ (UU _)]at this;cases this
  omega
 subst hd;rw[Nat.sub_self]at hw;exact hw
end Go.Proofs.YtajkkeikihhejaaGreat
