/- A region that draws its order, by what holds whichever operations have come up: each operation is run once, from what those that it waits for have left. -/
import Derived.Test.YtojjoblnpldniaaGreatSq
import Derived.Deep.RegionWith
import Derived.Test.YtojjoblnpldniaaGreatJ1
import Derived.RegionTactic
import Derived.Maps.OwnSet
import Derived.DeepKeys4
import Derived.Lib.QuietBelow
import Derived.Lib.IndexMore
import Derived.Lib.IndexBytes
import Derived.Lib.Strings
import Derived.WideKeyEntry
import Derived.WalkArith
open Go.Proofs.Tryz
set_option maxHeartbeats 80000000
set_option linter.defProp false
namespace Go.Proofs.YtojjoblnpldniaaGreat
open RowKit
def Qf{α:Type}(p q:α->Bool)(l:List α)(h:∀x∈l,q x=true->p x=true)(y:α)(hy:y∈l)(hp:p y=true)(hq:q y=false):l.countP q<l.countP p:=by
 induction l with
 | nil=>cases hy
 | cons a l ih =>
  rw[List.countP_cons,List.countP_cons];rcases X7.1 hy with rfl|hy
  ·have:=List.countP_mono_left (p:=q) (q:=p) (l:=l) fun x hx=>h x<|Yt _ hx;simp[hp,hq];omega
  have h1:=ih (fun x hx=>h x<|Yt _ hx) hy;have h2:=h a<|Yx ..;cases hqa:q a;case true=>simp[h2 hqa];omega
  simp;omega
section
variable  {P:Program}{ops:Array Oper}{Q:Exit->Act->World->Prop}{md:Region.Mode}
def af{i:Nat}{o:Oper}{K:Act->World->Prop}{a:Act}{w:ag}(ho:ops[i]?=some o)
  (h:∀K':Act->World->Prop,O (∀a w,K a w->K' a w)->if Region.wanted o (yielded ops a.tmps)=true then Oper.wp P o a w K' Q else K' (a.put o.dst undef) w):wpOp P ops Q i K a w:=wpOp_step ho h
def left(ops:Array Oper)(listed:Array Bool):Nat:=(List.range ops.size).countP fun i=>!(listed.getD i true)
def Ia(listed:Array Bool)(i j:Nat):(listed.setIfInBounds i true).getD j true=if j=i then true else listed.getD j true:=by
 rw[Yd,Yd,Array.getElem?_setIfInBounds];by_cases e:i=j
 ·subst e;by_cases h:i<listed.size<;>simp[h]
 simp[e,Ne.symm e]
def Ib{listed:Array Bool}{i:Nat}(hi:i<ops.size)(hl:listed.getD i true=false):left ops (listed.setIfInBounds i true)<left ops listed:=by
 refine Qf _ _ _ ?_ i (by simpa using hi) (by simp[hl]) (by rw[Ia];simp);intro x _ hx;simp only[Ia,Bool.not_eq_true']at hx ⊢;by_cases e:x=i
 ·simp[e]at hx
 simpa[e] using hx
def Ep(Inv:Array Bool->Act->World->Prop)
  (hstep:∀listed a w,Inv listed a w->∀i∈Region.ready md ops listed,wpOp P ops Q i (Inv<|listed.setIfInBounds i true) a w)
  (hend:∀listed a w,Inv listed a w->Region.ready md ops listed=[]->Q .normal a w) :
  ∀(fuel:Nat) (listed:Array Bool) (a:Act) (w:World),left ops listed<=fuel->Inv listed a w->wpAny P md ops Q fuel listed a w:=by
 intro fuel
 induction fuel with
 | zero =>
  intro listed a w hc hI;have hr:Region.ready md ops listed=[]:=by
   rw[List.eq_nil_iff_forall_not_mem];intro i hi;obtain⟨h1,o,h2,-⟩:=mem_ready.1 hi;have:=Ib (ops:=ops) (XO.1 h2).1 h1;omega
  exact⟨hr,hend _ _ _ hI hr⟩
 | succ n ih =>
  intro listed a w hc hI;refine⟨fun hr=>hend _ _ _ hI hr,fun i hi=>wpOp_mono (fun a' w' h=>ih _ _ _ ?_ h) (hstep _ _ _ hI i hi)⟩;obtain⟨h1,o,h2,-⟩:=mem_ready.1 hi;have:=Ib (ops:=ops) (XO.1 h2).1 h1;omega
def MV(ops:Array Oper)(listed:Array Bool):left ops listed<=ops.size:=by
 unfold left;exact XR List.countP_le_length ct
def iD{id:Nat}{a:Act}{w:ag}(Inv:Array Bool->Act->World->Prop)(hm:P.follows .mixedOrders=true)
  (h0:Inv (Array.replicate ops.size false) a w.drew)
  (hstep:∀listed a w,Inv listed a w->∀i∈Region.ready .any ops listed,wpOp P ops Q i (Inv<|listed.setIfInBounds i true) a w)
  (hend:∀listed a w,Inv listed a w->Region.ready .any ops listed=[]->Q .normal a w):(Code.region id ops true).wp P Q a w :=
 wp_region_any hm (Ep Inv hstep hend _ _ _ _ (MV _ _) h0)
def qc{listed:Array Bool}{n:Nat}(hr:Region.ready md ops listed=[])(hs:ops.size=n)(ZN:∀(i:Nat) (o:Oper),ops[i]?=some o->∀e∈o.after,e.on<i)(hsz:listed.size=n):∀i,i<n->listed.getD i true=true:=by
 intro i
 induction i using Nat.strongRecOn with
 | ind i ih =>
  intro hi;cases hl:listed.getD i true;case true=>rfl
  exfalso;have hmem:i∈Region.ready md ops listed:=by
   refine mem_ready.2 ⟨hl,ops[i]'cq,Yy cq,fun e he _=>?_⟩;have hlt:=ZN i _ (Yy cq) e he;have:=ih e.on hlt cq;rw[Yd,Yy cq]at this ⊢;simpa using this
  rw[hr]at hmem;cases hmem
end
def upd(f:Nat->Value)(i:Nat)(v:Value):Nat->Value:=fun k=>if k=i then v else f k
section
variable  {P:Program}{ops:Array Oper}{Q:Exit->Act->World->Prop}
def aV(listed:Array Bool)(i j:Nat)(hi:i<listed.size):(listed.setIfInBounds i true).getD j false=if j=i then true else listed.getD j false:=by
 rw[Yd,Yd,Array.getElem?_setIfInBounds];by_cases e:i=j
 ·subst e;simp[hi]
 simp[e,Ne.symm e]
def kK{listed:Array Bool}{i:Nat}(hi:i<listed.size):listed.getD i true=listed.getD i false:=by
 rw[Yd,Yd,Yy hi];rfl
def Bc(ops:Array Oper):Bool:=(List.range ops.size).all fun i=>(ops[i]?.map fun o=>o.after.all fun e=>decide (e.on<i)).getD true
def Bd(ops:Array Oper)(L:Nat):Bool:=(List.range L).all fun j=>(ops[L]?.map fun o=>o.after.any fun e=>e.on==j&&Region.binds .any e).getD false
def mW{ops:Array Oper}(h:Bc ops=true):∀(i:Nat) (o:Oper),ops[i]?=some o->∀e∈o.after,e.on<i:=by
 intro i o ho e he;rw[Bc,XY]at h;have h1:=h i (by simpa using (XO.1 ho).1);rw[ho]at h1;simp only[Option.map_some,Yv,Array.all_eq_true_iff_forall_mem]at h1;simpa using h1 e he
def Es{ops:Array Oper}{L:Nat}(h:Bd ops L=true):∀(o:Oper),ops[L]?=some o->∀j,j<L->∃e∈o.after,e.on=j/\Region.binds .any e=true:=by
 intro o ho j hj;rw[Bd,XY]at h;have h1:=h j (by simpa using hj);rw[ho]at h1;simp only[Option.map_some,Yv]at h1;rw[Array.any_eq_true']at h1;obtain⟨e,he,h2⟩:=h1;simp only[XN,beq_iff_eq]at h2;exact⟨e,he,h2.1,h2.2⟩
def dG{id:Nat}{a:Act}{w:ag}(L:Nat)(f0:Nat->Value)(F:(Nat->Value)->Act)(V:Nat->Value->World->Prop)(G:World->Prop)
  (hm:P.follows .mixedOrders=true) (hsz:ops.size=L+1) (ZN:Bc ops=true) (hlo:Bd ops L=true)
  (h0:a=F f0) (hG0:G w.drew)
  (hstep:∀ i,i<L->∀ o,ops[i]?=some o->∀ f w',G w'->(∀ e∈o.after,Region.binds .any e=true->V e.on (f e.on) w') ->
   wpOp P ops Q i (fun a' w''=>∃v,a'=F (upd f i v)/\G w''/\V i v w''/\∀k u,V k u w'->V k u w'') (F f) w')
  (hfin:∀o,ops[L]?=some o->∀f w',G w'->(∀k,k<L->V k (f k) w')->wpOp P ops Q L (fun a' w''=>Q .normal a' w'') (F f) w') :
  (Code.region id ops true).wp P Q a w:=by
 refine iD (fun listed a' w'=>listed.size=L+1/\((listed.getD L false=false/\∃f,a'=F f/\G w'/\∀k,k<L->listed.getD k false=true->V k (f k) w')\/((∀j,j<=L->listed.getD j true=true)/\Q .normal a' w'))) hm ?_ ?_ ?_
 ·refine⟨by simpa using hsz,Or.inl ⟨?_,_,h0,hG0,fun k _ h=>?_⟩⟩
  ·rw[Yd,Yw];split<;>rfl
  rw[Yd,Yw]at h;split at h<;>cases h
 ·rintro listed a' w' ⟨hs,h⟩ i hi;obtain⟨hl,o,ho,hpre⟩:=mem_ready.1 hi;have hiL:i<L+1:=by have:=(XO.1 ho).1;omega
  rcases h with⟨hn,f,rfl,hG,hV⟩|⟨hall,-⟩
  ·by_cases e:i=L
   ·subst e;have hall:∀k,k<i->listed.getD k false=true:=fun k hk=>by
     obtain⟨e,he,rfl,hb⟩:=Es hlo o ho k hk;exact hpre e he hb
    refine wpOp_mono (fun a'' w'' hq=>⟨by simpa using hs,Or.inr ⟨fun j hj=>?_,hq⟩⟩) (hfin o ho f w' hG fun k hk=>hV k hk<|hall k hk);rw[kK (by simp;omega),aV _ _ _ cq];by_cases e:j=i
    ·simp[e]
    rw[if_neg e];exact hall j cq
   refine wpOp_mono ?_ (hstep i cq o ho f w' hG fun e he hb=>hV e.on (by have:=mW ZN i o ho e he;omega) (hpre e he hb));rintro a'' w'' ⟨v,rfl,hG',hv,hmono⟩;refine⟨by simpa using hs,Or.inl ⟨?_,_,rfl,hG',fun k hk hkl=>?_⟩⟩
   ·rw[aV _ _ _ cq,if_neg<|Ne.symm e];exact hn
   rw[aV _ _ _ cq]at hkl;by_cases ek:k=i
   ·subst ek;simpa[upd] using hv
   rw[if_neg ek]at hkl;simp only[upd,if_neg ek];exact hmono _ _<|hV k hk hkl
  rw[hall i cq]at hl;cases hl
 rintro listed a' w' ⟨hs,h⟩ hr;rcases h with⟨hn,-⟩|⟨-,hq⟩
 ·have:=qc hr hsz (mW ZN) hs L cq;rw[kK cq]at this;rw[this]at hn;cases hn
 exact hq
def DN{id:Nat}{a:Act}{w:ag}(L:Nat)(F:(Nat->Value)->Act)(V:Nat->Value->World->Prop)(G:World->Prop)
  (hm:P.follows .mixedOrders=true) (hsz:ops.size=L+1) (ZN:Bc ops=true) (hlo:Bd ops L=true)
  (h0:a=F (fun _=>undef)) (hG0:G w.drew)
  (hstep:∀ i,i<L->∀ o,ops[i]?=some o->∀ f w',G w'->(∀ e∈o.after,Region.binds .any e=true->V e.on (f e.on) w') ->
   wpOp P ops Q i (fun a' w''=>∃v,a'=F (upd f i v)/\G w''/\V i v w''/\∀k u,V k u w'->V k u w'') (F f) w')
  (hfin:∀o,ops[L]?=some o->∀f w',G w'->(∀k,k<L->V k (f k) w')->wpOp P ops Q L (fun a' w''=>Q .normal a' w'') (F f) w') :
  (Code.region id ops true).wp P Q a w :=
 dG L (fun _=>undef) F V G hm hsz ZN hlo h0 hG0 hstep hfin
def ll{id:Nat}{a:Act}{w:ag}(N:Nat)(f0:Nat->Value)(F:(Nat->Value)->Act)(V:Nat->Value->World->Prop)(G:World->Prop)
  (hm:P.follows .mixedOrders=true) (hsz:ops.size=N) (ZN:Bc ops=true)
  (h0:a=F f0) (hG0:G w.drew)
  (hstep:∀ i,i<N->∀ o,ops[i]?=some o->∀ f w',G w'->(∀ e∈o.after,Region.binds .any e=true->V e.on (f e.on) w') ->
   wpOp P ops Q i (fun a' w''=>∃v,a'=F (upd f i v)/\G w''/\V i v w''/\∀k u,V k u w'->V k u w'') (F f) w')
  (hend:∀f w',G w'->(∀k,k<N->V k (f k) w')->Q .normal (F f) w') :
  (Code.region id ops true).wp P Q a w:=by
 refine iD (fun listed a' w'=>listed.size=N/\∃f,a'=F f/\G w'/\∀k,k<N->listed.getD k false=true->V k (f k) w') hm ?_ ?_ ?_
 ·refine⟨by simpa using hsz,_,h0,hG0,fun k _ h=>?_⟩;rw[Yd,Yw]at h;split at h<;>cases h
 ·rintro listed a' w' ⟨hs,f,rfl,hG,hV⟩ i hi;obtain⟨hl,o,ho,hpre⟩:=mem_ready.1 hi;have hiN:i<N:=by have:=(XO.1 ho).1;omega
  refine wpOp_mono ?_ (hstep i hiN o ho f w' hG fun e he hb=>hV e.on (by have:=mW ZN i o ho e he;omega) (hpre e he hb));rintro a'' w'' ⟨v,rfl,hG',hv,hmono⟩;refine⟨by simpa using hs,_,rfl,hG',fun k hk hkl=>?_⟩;rw[aV _ _ _ cq]at hkl;by_cases ek:k=i
  ·subst ek;simpa[upd] using hv
  rw[if_neg ek]at hkl;simp only[upd,if_neg ek];exact hmono _ _<|hV k hk hkl
 rintro listed a' w' ⟨hs,f,rfl,hG,hV⟩ hr;refine hend f w' hG fun k hk=>hV k hk ?_;have:=qc hr hsz (mW ZN) hs k hk;rwa [kK cq]at this
end
def Et(a:Act)(L:(Nat->Value)->List Value)(f:Nat->Value):Act:={ a with tmps:=(L f).toArray }
def TJ(f:Nat->Value):List Value->Nat->List Nat->List Value
 | _::l,0,k::ks=>f k::TJ f l 0 ks
 | v::l,n+1,ks=>v::TJ f l n ks
 | l,_,_=>l
def VD(i:Nat):List Value->Nat->List Nat->Value
 | v::l,0,k::ks=>if i=k then v else VD i l 0 ks
 | _::l,n+1,ks=>VD i l n ks
 | _,_,_=>undef
def puts(f:Nat->Value):List (Nat×List Nat)->List Value->List Value
 | [],l=>l
 | (n,ks)::r,l=>puts f r<|TJ f l n ks
def olds(i:Nat):List (Nat×List Nat)->List Value->Value
 | [],_=>undef
 | (n,ks)::r,l=>if i∈ks then VD i l n ks else olds i r l
def H7{a:Act}{L:(Nat->Value)->List Value}(s:List<|Nat×List Nat)(_hL:∀f,puts f s a.tmps.toList=L f:=by intro f;simp only[puts,TJ,List.toList_toArray];rfl)(hs:(L fun i=>olds i s a.tmps.toList).toArray=a.tmps:=by kernel_rfl):a=Et a L (fun i=>olds i s a.tmps.toList):=by
 unfold Et;rw[hs]
open Pl
def kN(x y:Al):Bool:=x.t.toList==y.t.toList&&x.s.toList==y.s.toList
def Ic(a:Al):Bool:=aW a.t&&wy a.s
def dR(xs:Q0a)(k:Nat)(a:Al):Bool:=(xs.take k).any fun x=>kN x a
def uX(xs:Q0a)(k:Nat)(a:Al)(h:k<xs.length):dR xs (k+1) a=(dR xs k a || kN xs[k] a):=by
 unfold dR;rw[XM h,List.any_append];simp
def uY(xs:Q0a)(a:Al):dR xs 0 a=false:=by simp[dR]
def Gb(xs:Q0a):Nat->Bool
 | 0=>true
 | k+1=>Gb xs k&&(xs[k]?.map fun a=>Ic a && !dR xs k a).getD true
def Be(xs:Q0a)(k:Nat)(h:k<xs.length):Gb xs (k+1)=(Gb xs k&&(Ic xs[k] && !dR xs k xs[k])):=by
 simp[Gb,h]
def qd(xs:Q0a)(k:Nat)(h:k<xs.length)(hb:(Ic xs[k] && !dR xs k xs[k])=false):∀n,k<n->Gb xs n=false
 | 0,hn=>cq
 | n+1,hn=>by
  by_cases e:n=k
  ·subst e;rw[Be _ _ h,hb];simp
  simp[Gb,qd xs k h hb n cq]
def fo(xs:Q0a):Bool:=decide (1<=xs.length)&&decide (xs.length<=6)&&Gb xs xs.length
def aD(e:Ex):Bool :=
 if e.kind=1 then fo e.allow&&e.over.toList.isEmpty&&e.name.toList.isEmpty&&decide (e.kids.length=0)
 else if e.kind=2 then aW e.name&&decide (e.allow.length=0)&&e.over.toList.isEmpty&&decide (e.kids.length=0)
 else if e.kind=3 then aW e.over&&aW e.name&&decide (e.allow.length=0)&&decide (e.kids.length=0)
 else if e.kind=4\/e.kind=5 then decide (2<=e.kids.length)&&decide (e.kids.length<=5)&&decide (e.allow.length=0)&&e.over.toList.isEmpty&&e.name.toList.isEmpty
 else if e.kind=6 then decide (e.kids.length=2)&&decide (e.allow.length=0)&&e.over.toList.isEmpty&&e.name.toList.isEmpty
 else false
def dF(f:Int->Int):List Int->Int->Int
 | [],at'=>at'+1
 | k::ks,at'=>if at'<0\/k≠at' then -1 else if f at'<0 then -1 else dF f ks (f at'-1)
def dx(es:Q09)(n:Nat):List Int:=(es[n]?.map Ex.kids).getD []
def aC(es:Q09)(n:Nat):Int:=dF (fun x=>if _h:0<=x/\x.toNat<n then aC es x.toNat else -1) (dx es n).reverse ((n:Int)-1)
def dJ(es:Q09)(n:Nat)(x:Int):Int:=if 0<=x/\x.toNat<n then aC es x.toNat else -1
def jK(es:Q09)(n:Nat):aC es n=dF (dJ es n) (dx es n).reverse ((n:Int)-1):=by
 rw[aC];rfl
def Eu{f:Int->Int}(hf:∀x,0<=x->f x<=x):∀(ks:List Int) (a:Int),-1<=a->dF f ks a<=a+1
 | [],a,_=>by simp[dF]
 | k::ks,a,ha=>by
  unfold dF;split
  ·omega
  rename_i h;split
  ·omega
  rename_i h2;have h0:0<=a:=cq;have:=Eu hf ks (f a-1) cq;have:=hf a h0;omega
def gJ(es:Q09)(n:Nat):aC es n<=n:=by
 induction n using Nat.strongRecOn with
 | ind n ih =>
  rw [jK];have:=Eu (f:=dJ es n) (fun x hx=>by
   unfold dJ;split
   ·rename_i h;have:=ih x.toNat h.2;omega
   omega) (dx es n).reverse ((n:Int)-1) cq
  omega
def Qg(es:Q09)(n:Nat)(x:Int)(hx:0<=x):dJ es n x<=x:=by
 unfold dJ;split
 ·have:=gJ es x.toNat;omega
 omega
def uF{es:Q09}{n:Nat}(ih:∀m,m<n->0<=aC es m->∀j:Nat,aC es m<=j->j<=m->0<=aC es j):
  ∀(ks:List Int) (a:Int),a<n->0<=dF (dJ es n) ks a->∀j:Nat,dF (dJ es n) ks a<=j->(j:Int)<=a->0<=aC es j
 | [],a,ha,h,j,h1,h2=>by simp[dF]at h1;omega
 | k::ks,a,ha,h,j,h1,h2=>by
  unfold dF at h h1;split at h
  ·omega
  rename_i c;rw[if_neg c]at h1;split at h
  ·omega
  rename_i c2;rw[if_neg c2]at h1;have h0:0<=a:=cq;have hF:dJ es n a=aC es a.toNat:=by unfold dJ;rw[if_pos ⟨h0,cq⟩]
  rw[hF]at h h1 c2;by_cases hj:aC es a.toNat<=j
  ·exact ih a.toNat cq cq j hj cq
  exact uF ih ks (aC es a.toNat-1) (by have:=gJ es a.toNat;omega) h j h1 cq
def oJ(es:Q09)(n:Nat):0<=aC es n->∀j:Nat,aC es n<=j->j<=n->0<=aC es j:=by
 induction n using Nat.strongRecOn with
 | ind n ih =>
  intro h j h1 h2;by_cases e:j=n
  ·subst e;exact h
  rw[jK]at h h1;exact uF ih _ _ cq h j h1 cq
def lY(es:Q09)(i:Nat):Bool:=(dx es i).all fun k=>decide (0<=k)&&decide (k<=(i:Int)-1)
def zo{es:Q09}{n:Nat}:∀(ks:List Int) (a:Int),a<n->0<=dF (dJ es n) ks a->∀k∈ks,0<=k/\k<=a
 | [],_,_,_,k,hk=>by cases hk
 | x::ks,a,ha,h,k,hk=>by
  unfold dF at h;split at h
  ·omega
  rename_i c;split at h
  ·omega
  rename_i c2;have h0:0<=a:=cq;rcases X7.1 hk with rfl|hk
  ·omega
  have hl:=Qg es n a h0;have:=zo ks (dJ es n a-1) cq h k hk;omega
def NJ(es:Q09)(i:Nat)(h:0<=aC es i):lY es i=true:=by
 unfold lY;rw[XY];intro k hk;rw[jK]at h;have:=zo _ _ cq h k (by simpa using hk);simp;omega
def Qh(es:Q09)(n:Nat):Prop:=∀j,j<n->0<=aC es j
def own(es:Q09):Nat:=(es.filter fun e=>decide (e.kind=1)).length
def iq(es:Q09)(k:Nat):Nat:=own<|es.take k
def Bf(es:Q09)(k:Nat)(h:k<es.length):iq es (k+1)=iq es k+(if es[k].kind=1 then 1 else 0):=by
 unfold iq own;rw[XM h,YU,XT];by_cases e:es[k].kind=1<;>simp[e]
def wC(es:Q09)(k:Nat):iq es k<=k:=by
 unfold iq own;exact XR (List.length_filter_le ..) (by simp;omega)
def jY(es:Q09)(k:Nat):Bool:=(es.take k).all aD
def wD(es:Q09)(k:Nat)(h:k<es.length):jY es (k+1)=(jY es k&&aD es[k]):=by
 unfold jY;rw[XM h,YQ];simp
def Ev(es:Q09)(k:Nat)(h:k<es.length)(hb:aD es[k]=false):es.all aD=false:=by
 rw[Bool.eq_false_iff];intro h2;rw[XY]at h2;have:=h2 es[k]<|XI h;rw[hb]at this;cases this
def jG(es:Q09)(k:Nat):Bool:=(List.range k).all<|lY es
def Ie(es:Q09)(k:Nat):jG es (k+1)=(jG es k&&lY es k):=by simp[jG,List.range_succ]
def Qi(es:Q09)(k:Nat)(h:k<es.length)(hb:lY es k=false):jG es es.length=false:=by
 rw[Bool.eq_false_iff];intro h2;unfold jG at h2;rw[XY]at h2;have:=h2 k (by simpa using h);rw[hb]at this;cases this
def aS(es:Q09):Bool:=decide (1<=es.length)&&decide (es.length<=15)&&es.all aD&&jG es es.length&&decide (own es<=1)&&decide (aC es (es.length-1)=0)
def jv(es:Q09):Bool:=(List.range es.length).all fun j=>decide (0<=aC es j)
def lw(es:Q09):Bool:=decide (1<=es.length)&&decide (es.length<=15)&&es.all aD&&decide (own es<=1)&&(jv es&&decide (aC es (es.length-1)=0))
def tH(es:Q09):aS es=lw es:=by
 by_cases h1:1<=es.length
 ·by_cases ht:aC es (es.length-1)=0
  ·have ha:jv es=true:=by
    unfold jv;rw[XY];intro j hj;have hj':j<es.length:=by simpa using hj
    simpa using oJ es (es.length-1) cq j cq cq
   have hk:jG es es.length=true:=by
    unfold jG;rw[XY];intro j hj;have hj':j<es.length:=by simpa using hj
    exact NJ es j<|oJ es (es.length-1) cq j cq cq
   simp[aS,lw,ht,ha,hk,h1]
  simp[aS,lw,ht]
 simp[aS,lw,h1]
variable  {P:Program}{ops:Array Oper}{Q:Exit->Act->World->Prop}
def Bg(ops:Array Oper):Bool:=(List.range ops.size).all fun i=>(ops[i]?.map fun o=>o.after.all fun e=>!Region.binds .any e || decide (e.on<i)).getD true
def tJ{ops:Array Oper}(h:Bg ops=true):∀(i:Nat) (o:Oper),ops[i]?=some o->∀e∈o.after,Region.binds .any e=true->e.on<i:=by
 intro i o ho e he hb;rw[Bg,XY]at h;have h1:=h i (by simpa using (XO.1 ho).1);rw[ho]at h1;simp only[Option.map_some,Yv,Array.all_eq_true_iff_forall_mem]at h1;have h2:=h1 e he;rw[hb]at h2;simpa using h2
def rD{listed:Array Bool}{n:Nat}(hr:Region.ready .any ops listed=[])(hs:ops.size=n)(ZN:∀(i:Nat) (o:Oper),ops[i]?=some o->∀e∈o.after,Region.binds .any e=true->e.on<i)(hsz:listed.size=n):∀i,i<n->listed.getD i true=true:=by
 intro i
 induction i using Nat.strongRecOn with
 | ind i ih =>
  intro hi;cases hl:listed.getD i true;case true=>rfl
  exfalso;have hmem:i∈Region.ready .any ops listed:=by
   refine mem_ready.2 ⟨hl,ops[i]'cq,Yy cq,fun e he hb=>?_⟩;have hlt:=ZN i _ (Yy cq) e he hb;have:=ih e.on hlt cq;rw[Yd,Yy cq]at this ⊢;simpa using this
  rw[hr]at hmem;cases hmem
def AB(ops:Array Oper)(L:Nat):Bool:=(List.range L).all fun j=>(List.range<|L+1).any fun k=>decide (j<k)&&(ops[k]?.map fun o=>o.after.any fun e=>e.on==j&&Region.binds .any e).getD false
def Kk{ops:Array Oper}{L:Nat}(h:AB ops L=true):∀j,j<L->∃k o,j<k/\k<=L/\ops[k]?=some o/\∃e∈o.after,e.on=j/\Region.binds .any e=true:=by
 intro j hj;rw[AB,XY]at h;have h1:=h j<|List.mem_range.2 hj;rw[Yq]at h1;obtain⟨k,hk,h2⟩:=h1;simp only[XN,XU]at h2;cases ho:ops[k]? with
 | none=>rw[ho]at h2;simp at h2
 | some o =>
  rw[ho]at h2;simp only[Option.map_some,Yv]at h2;obtain⟨h3,h4⟩:=h2;rw[Array.any_eq_true']at h4;obtain⟨e,he,h5⟩:=h4;simp only[XN,beq_iff_eq]at h5;exact⟨k,o,h3,by have:=List.mem_range.1 hk;omega,ho,e,he,h5.1,h5.2⟩
def Shut(ops:Array Oper)(listed:Array Bool):Prop:=∀(k:Nat) (o:Oper),ops[k]?=some o->listed.getD k false=true->∀e∈o.after,Region.binds .any e=true->listed.getD e.on false=true
def Qj{ops:Array Oper}{listed:Array Bool}{L:Nat}(hlo:AB ops L=true)(hS:Shut ops listed){o:Oper}(ho:ops[L]?=some o)(hpre:∀e∈o.after,Region.binds .any e=true->listed.getD e.on false=true):∀d j,j+d=L->j<L->listed.getD j false=true:=by
 intro d
 induction d using Nat.strongRecOn with
 | ind d ih =>
  intro j hjd hj;obtain⟨k,o',h1,h2,h3,e,he,h4,h5⟩:=Kk hlo j hj;by_cases hk:k=L
  ·subst hk;rw[ho]at h3;injection h3 with h3;subst h3;rw[<-h4];exact hpre e he h5
  have:=ih (L-k) cq k cq cq;rw[<-h4];exact hS k o' h3 this e he h5
def mX{id:Nat}{a:Act}{w:ag}(L:Nat)(f0:Nat->Value)(F:(Nat->Value)->Act)(V:Nat->Value->World->Prop)(G:Array Bool->World->Prop)
  (hm:P.follows .mixedOrders=true) (hsz:ops.size=L+1) (ZN:Bg ops=true) (hlo:AB ops L=true)
  (h0:a=F f0) (hG0:G (Array.replicate ops.size false) w.drew)
  (hstep:∀ i,i<L->∀ o,ops[i]?=some o->∀ (listed:Array Bool) f w',listed.size=L+1->listed.getD i true=false->G listed w'->(∀ e∈o.after,Region.binds .any e=true->V e.on (f e.on) w') ->
   wpOp P ops Q i (fun a' w''=>∃v,a'=F (upd f i v)/\G (listed.setIfInBounds i true) w''/\V i v w''/\∀k u,k≠i->V k u w'->V k u w'') (F f) w')
  (hfin:∀o,ops[L]?=some o->∀(listed:Array Bool) f w',G listed w'->(∀k,k<L->V k (f k) w')->wpOp P ops Q L (fun a' w''=>Q .normal a' w'') (F f) w') :
  (Code.region id ops true).wp P Q a w:=by
 refine iD (fun listed a' w'=>listed.size=L+1/\((listed.getD L false=false/\Shut ops listed/\∃f,a'=F f/\G listed w'/\∀k,k<L->listed.getD k false=true->V k (f k) w')\/((∀j,j<=L->listed.getD j true=true)/\Q .normal a' w'))) hm ?_ ?_ ?_
 ·refine⟨by simpa using hsz,Or.inl ⟨?_,fun k o _ h=>?_,_,h0,hG0,fun k _ h=>?_⟩⟩
  ·rw[Yd,Yw];split<;>rfl
  ·rw[Yd,Yw]at h;split at h<;>cases h
  rw[Yd,Yw]at h;split at h<;>cases h
 ·rintro listed a' w' ⟨hs,h⟩ i hi;obtain⟨hl,o,ho,hpre⟩:=mem_ready.1 hi;have hiL:i<L+1:=by have:=(XO.1 ho).1;omega
  rcases h with⟨hn,hS,f,rfl,hG,hV⟩|⟨hall,-⟩
  ·by_cases e:i=L
   ·subst e;have hall:∀k,k<i->listed.getD k false=true:=fun k hk=>Qj hlo hS ho hpre (i-k) k cq hk;refine wpOp_mono (fun a'' w'' hq=>⟨by simpa using hs,Or.inr ⟨fun j hj=>?_,hq⟩⟩) (hfin o ho listed f w' hG fun k hk=>hV k hk<|hall k hk);rw[kK (by simp;omega),aV _ _ _ cq];by_cases e:j=i
    ·simp[e]
    rw[if_neg e];exact hall j cq
   refine wpOp_mono ?_ (hstep i cq o ho listed f w' hs hl hG fun e he hb=>hV e.on (by have:=tJ ZN i o ho e he hb;omega) (hpre e he hb));rintro a'' w'' ⟨v,rfl,hG',hv,hmono⟩;refine⟨by simpa using hs,Or.inl ⟨?_,fun k o' ho' hkl e' he' hb'=>?_,_,rfl,hG',fun k hk hkl=>?_⟩⟩
   ·rw[aV _ _ _ cq,if_neg<|Ne.symm e];exact hn
   ·rw[aV _ _ _ cq]at hkl ⊢;by_cases ee:e'.on=i
    ·rw[if_pos ee]
    rw[if_neg ee];by_cases ek:k=i
    ·subst ek;rw[ho]at ho';injection ho' with ho';subst ho';exact hpre e' he' hb'
    rw[if_neg ek]at hkl;exact hS k o' ho' hkl e' he' hb'
   rw[aV _ _ _ cq]at hkl;by_cases ek:k=i
   ·subst ek;simpa[upd] using hv
   rw[if_neg ek]at hkl;simp only[upd,if_neg ek];exact hmono _ _ ek<|hV k hk hkl
  rw[hall i cq]at hl;cases hl
 rintro listed a' w' ⟨hs,h⟩ hr;rcases h with⟨hn,-⟩|⟨-,hq⟩
 ·have:=rD hr hsz (tJ ZN) hs L cq;rw[kK cq]at this;rw[this]at hn;cases hn
 exact hq
def lZ{P:Program}{ops:Array Oper}{Q:Exit->Act->World->Prop}{k:Nat}{o:Oper}{K:Act->World->Prop}{a:Act}(w:ag)(hop:ops[k]?=some o)(hgd:o.guard=none)(s x:Operand)(t:TypeId)
  (ho:o.op=.call { callee:=.builtin .append,args:=#[s,x],argTypes:=#[t,t] })
  (base:Nat) (e:TypeId) (i:TypeInfo) (z:Value) (size bytes:Nat) (ht:P.underlying t=some (.slice e)) (hi:P.info? e=some i) (hz:i.zero=some z)
  (hsize:i.size=size) (hby:i.bytes=bytes) (hzs:z.cells.size=size) (hsz:0<size)
  (v:Value) (n:Nat) (xs:Q03) (hs:a.eval s=v) (hown:w.ownsRow base e size v n xs)
  (ad:Addr) (m c:Nat) (news:Q03) (hx:a.eval x=.slice (some ad) m c) (hl:news.length=m*size) (hnews:∀j u,news[j]?=some u->w.cell? (ad.add j)=some u) (h1:∀u∈news,u.oneCell'=true)
  (h63:n+m<=maxLen) (hbytes:(n+m)*bytes<=140737488355328) (hbase:cV base w)
  (h:∀v' w',w'.ownsRow base e size v' (n+m) (xs++news)->w.grownBy w' v.ownBlock->(v'.ownBlock=v.ownBlock\/v'.ownBlock=some w.heap.size)->K (a.put o.dst v') w') :
  wpOp P ops Q k K a w:=by
 refine wpOp_step hop fun K' hK=>?_;have hw:Region.wanted o (yielded ops a.tmps)=true:=by simp[Region.wanted,hgd]
 rw[if_pos hw];obtain⟨v',w',hr,h2,h3,h4,h5⟩:=run_append_own_at (P:=P) w base t o.type e i z size bytes ht hi hz hsize hby hzs hsz v n xs hown ad m c news hl hnews h1 h63 hbytes hbase;unfold Oper.wp execOp;simp only[ho,resolve,invoke,builtin,Sem.run_bind,Sem.run_pure,Result.andThen_ok,List.map_toArray,YT,List.map_nil,hs,hx,hr];exact hK _ _<|h v' w' h2 h3 h5
structure Aside(w:World)(v:Value)(w':World)(v':Value):Prop where
 size:w.heap.size<=w'.heap.size
 block:∀k,k<w.heap.size->v.ownBlock≠some k->w'.heap[k]?=w.heap[k]?
 own:v'.ownBlock=v.ownBlock \/ ∃g,v'.ownBlock=some g/\w.heap.size<=g
def Aside.refl(w:ag)(v:Value):Aside w v w v:=⟨XK _,fun _ _ _=>rfl,.inl rfl⟩
def Aside.apart{w w':ag}{v v':Value}{k:Nat}(h:Aside w v w' v')(hk:cW k w)(hv:v.ownBlock≠some k):v'.ownBlock≠some k:=by
 rcases h.own with e|⟨g,e,hg⟩
 ·rw[e];exact hv
 rw[e];intro h2;injection h2 with h2;omega
def Aside.trans{w w1 w2:ag}{v v1 v2:Value}(h:Aside w v w1 v1)(h2:Aside w1 v1 w2 v2):Aside w v w2 v2 where
 size:=XR h.size h2.size
 block k hk hv:=(h2.block k (XJ hk h.size)<|h.apart hk hv).trans<|h.block k hk hv
 own:=by
  rcases h2.own with e|⟨g,e,hg⟩
  ·rw[e];exact h.own
  exact .inr ⟨g,e,XR h.size hg⟩
def Aside.below{w w':ag}{v:Value}(h:ae w w'):Aside w v w' v:=⟨h.size,fun k hk _=>h.block k hk,.inl rfl⟩
def Aside.app{w w':ag}{v v':Value}(hg:w.grownBy w' v.ownBlock)(h5:v'.ownBlock=v.ownBlock\/v'.ownBlock=some w.heap.size):Aside w v w' v' where
 size:=hg.size
 block k hk hv:=hg.block k hk fun e=>hv e.symm
 own:=by
  rcases h5 with e|e
  ·exact .inl e
  exact .inr ⟨_,e,XK _⟩
def Aside.cell{w w':ag}{v v':Value}(h:Aside w v w' v'){p:Addr}(hp:p.block<w.heap.size)(hv:v.ownBlock≠some p.block):w'.cell? p=w.cell? p:=Yf (w:=w)<|h.block p.block hp hv
open ChangeAt ChangeShapes Maps WideShapes
def Qk(v:Value):Option (DataW Value×List MemPlace):=some (.held v,[])
section
variable  {K:Type}(enc:K->Value)(P:Program)(k:TypeId)
def VE(D:DataW Value)(kl:Lit):Option Value->Prop
 | none=>Maps.has D kl=false/\∀z,D.atKey kl z=z
 | some v=>Maps.has D kl=true/\∀z,D.atKey kl z=.held v
def aL(w:World)(b n:Nat)(M:K->Option Value):Prop :=
 ∃D:DataW Value,w.ownsMap P k Qk b n D/\∀x kl,keyOf P k (enc x)=some kl->VE D kl (M x)
def iw[DecidableEq K](M:K->Option Value)(x:K)(v:Option Value):K->Option Value:=fun y=>if y=x then v else M y
end
section
variable  {K:Type}{enc:K->Value}{P:Program}{k:TypeId}{w:World}{b n:Nat}{M:K->Option Value}
def dH[DecidableEq K](M:K->Option Value)(x:K)(v:Option Value):iw M x v x=v:=by simp[iw]
def bP[DecidableEq K]{M:K->Option Value}{x y:K}{v:Option Value}(h:y≠x):iw M x v y=M y:=by simp[iw,h]
def jL(enc:K->Value)(P:Program)(k:TypeId)(w:ag):aL enc P k (w.alloc<|.map #[] 0) w.heap.size 0 (fun _=>none) :=
 ⟨.map [],World.ownsMap_made w P k Qk,fun _ kl _=>⟨rfl,fun z=>by simp[DataW.atKey]⟩⟩
def aL.lt(h:aL enc P k w b n M):b<w.heap.size:=by obtain⟨D,h1,-⟩:=h;exact h1.lt
def aL.mono(h:aL enc P k w b n M){n':Nat}(hn:n<=n'):aL enc P k w b n' M:=by obtain⟨D,h1,h2⟩:=h;exact⟨D,h1.mono hn,h2⟩
def aL.kept{w':ag}{row:Option Nat}(h:aL enc P k w b n M)(hg:w.grownBy w' row)(hne:some b≠row):aL enc P k w' b n M:=by
 obtain⟨D,h1,h2⟩:=h;exact⟨D,h1.kept hg hne,h2⟩
def aL.below{w':ag}(h:aL enc P k w b n M)(hB:ae w w'):aL enc P k w' b n M :=
 h.kept (row:=none) ⟨hB.os,hB.tape,hB.output,hB.size,fun k hk _=>hB.block k hk⟩ ct
def aL.setCell(h:aL enc P k w b n M){a:Addr}(ha:b≠a.block)(u:Value):aL enc P k (w.setCell a u) b n M:=by
 obtain⟨D,h1,h2⟩:=h;exact⟨D,h1.setCell ha u,h2⟩
def aL.look{t e:TypeId}(h:aL enc P k w b n M)(L:Keyed P k)(ht:P.underlying t=some (.map k e)){z:Value}(hz:(zeroValue e).run P w=.ok z w){x:K}{kl:Lit}(hkey:keyOf P k (enc x)=some kl):
  (Instr.lookup t (.map<|some b) (enc x) false).run P w=.ok ((M x).getD z) w:=by
 obtain⟨D,h1,h2⟩:=h;obtain⟨v,ps,hrun,hv⟩:=h1.lookup L ht hz (zd:=.held z) (zp:=[]) rfl hkey;have h3:=h2 x kl hkey;rw[hrun];have:v=(M x).getD z:=by
  simp only[Qk,Option.some.injEq,Prod.mk.injEq]at hv;cases e:M x with
  | none=>rw[e]at h3;rw[h3.2]at hv;injection hv.1 with h4
  | some u=>rw[e]at h3;rw[h3.2]at hv;injection hv.1 with h4
 rw[this]
def aL.look_ok{t e:TypeId}(h:aL enc P k w b n M)(L:Keyed P k)(ht:P.underlying t=some (.map k e)){z:Value}(hz:(zeroValue e).run P w=.ok z w){x:K}{kl:Lit}(hkey:keyOf P k (enc x)=some kl):
  (Instr.lookup t (.map<|some b) (enc x) true).run P w=.ok (.tuple #[(M x).getD z,.bool (M x).isSome]) w:=by
 obtain⟨D,h1,h2⟩:=h;obtain⟨v,ps,hrun,hv⟩:=h1.look_ok L ht hz (zd:=.held z) (zp:=[]) rfl hkey;have h3:=h2 x kl hkey;rw[hrun];simp only[Qk,Option.some.injEq,Prod.mk.injEq]at hv;cases e:M x with
 | none=>rw[e]at h3;rw[h3.2]at hv;injection hv.1 with h4;rw[h4,h3.1];rfl
 | some u=>rw[e]at h3;rw[h3.2]at hv;injection hv.1 with h4;rw[h4,h3.1];rfl
def aL.store[DecidableEq K]{t e:TypeId}(h:aL enc P k w b n M)(L:Keyed P k)(hinj:∀x y,enc x=enc y->x=y)(ht:P.underlying t=some (.map k e))(hn:n<maxLen){x:K}{kl:Lit}(hkey:keyOf P k (enc x)=some kl)(v:Value):
  ∃w',(Instr.mapUpdate t (.map<|some b) (enc x) v).run P w=.ok () w'/\aL enc P k w' b (n+1) (iw M x<|some v)/\w.grownBy w' (some b):=by
 obtain⟨D,h1,h2⟩:=h;obtain⟨w',hrun,h3,h4⟩:=h1.update L ht hn hkey (val:=v) (d:=.held v) (ps:=[]) rfl;refine⟨w',hrun,⟨D.put kl<|.held v,h3,fun y ky hy=>?_⟩,h4⟩;by_cases e:y=x
 ·subst e;obtain rfl:ky=kl:=by rw[hkey]at hy;injection hy with hy;exact hy.symm
  rw[dH];exact⟨has_put_same h1.isMap (L.key hkey) _,fun z=>atKey_put_same h1.isMap (L.key hkey) _ z⟩
 have hne:ky≠kl:=fun e2=>e (hinj _ _<|L.inj (by rw[e2]at hy;exact hy) hkey);rw[bP e];have h5:=h2 y ky hy;cases e3:M y with
 | none=>rw[e3]at h5;exact⟨by rw[has_put_other hne];exact h5.1,fun z=>by rw[atKey_put_other hne];exact h5.2 z⟩
 | some u=>rw[e3]at h5;exact⟨by rw[has_put_other hne];exact h5.1,fun z=>by rw[atKey_put_other hne];exact h5.2 z⟩
end
section
variable  {K:Type}{enc:K->Value}{P:Program}(w:World){ops:Array Oper}{rest:List Oper}{o:Oper}{a:Act}{Q:Exit->Act->World->Prop}
def jZ(hg:o.guard=none)(m x:Operand)(t:TypeId)(hop:o.op=Op.lookup t m x false)(k e:TypeId)(L:Keyed P k)(ht:P.underlying t=some (.map k e)){z:Value}(hz:(zeroValue e).run P w=.ok z w)(b n:Nat)(M:K->Option Value)
  (hm:a.eval m=.map (some b)) (hV:aL enc P k w b n M) (y:K) (kl:Lit) (hx:a.eval x=enc y) (hkey:keyOf P k (enc y)=some kl)
  (hK:wpList P ops Q rest (a.put o.dst<|(M y).getD z) w):wpList P ops Q (o::rest) a w:=by
 refine wpList_plain hg fun K' hK'=>?_;have hrun:=hV.look L ht hz hkey;unfold Oper.wp;simp[execOp,hop,hm,hx,hrun,Result.andThen];exact hK' _ _ hK
def dm(hg:o.guard=none)(m x:Operand)(t:TypeId)(hop:o.op=Op.lookup t m x true)(k e:TypeId)(L:Keyed P k)(ht:P.underlying t=some (.map k e)){z:Value}(hz:(zeroValue e).run P w=.ok z w)(b n:Nat)(M:K->Option Value)
  (hm:a.eval m=.map (some b)) (hV:aL enc P k w b n M) (y:K) (kl:Lit) (hx:a.eval x=enc y) (hkey:keyOf P k (enc y)=some kl)
  (hK:wpList P ops Q rest (a.put o.dst<|.tuple #[(M y).getD z,.bool (M y).isSome]) w):wpList P ops Q (o::rest) a w:=by
 refine wpList_plain hg fun K' hK'=>?_;have hrun:=hV.look_ok L ht hz hkey;unfold Oper.wp;simp[execOp,hop,hm,hx,hrun,Result.andThen];exact hK' _ _ hK
def jw[DecidableEq K](hg:o.guard=none)(m x v:Operand)(t:TypeId)(hop:o.op=Op.mapUpdate t m x v)(k e:TypeId)(L:Keyed P k)(hinj:∀x y,enc x=enc y->x=y)(ht:P.underlying t=some (.map k e))(b n:Nat)(M:K->Option Value)
  (hm:a.eval m=.map (some b)) (hV:aL enc P k w b n M) (hn:n<maxLen) (y:K) (kl:Lit) (hx:a.eval x=enc y) (hkey:keyOf P k (enc y)=some kl) (u:Value) (hv:a.eval v=u)
  (hK:∀w',aL enc P k w' b (n+1) (iw M y<|some u)->w.grownBy w' (some b)->wpList P ops Q rest (a.put o.dst undef) w'):wpList P ops Q (o::rest) a w:=by
 refine wpList_plain hg fun K' hK'=>?_;obtain⟨w',hrun,r1,r2⟩:=hV.store L hinj ht hn hkey u;unfold Oper.wp;simp[execOp,hop,hm,hx,hv,hrun,Result.andThen];exact hK' _ _<|hK w' r1 r2
end
def eD(k:Q01):Value:=.agg #[.string k.1,.string k.2]
def wE(x y:Q01)(h:eD x=eD y):x=y:=by
 unfold eD at h;injection h with h;have h1:=congrArg Array.toList h;simp at h1;exact Prod.ext h1.1 h1.2
def Bh:laidOutB prog=true:=cw
def Ql:(146:TypeId)<prog.types.size:=of_decide_eq_true cw
def TK:(match prog.underlying 146 with|some (.array _ _)|some (.struct _)=>true|_=>false)=true:=by rw[underlying146]
set_option maxRecDepth 100000 in
def MW:WideMaps.KeyLaw prog 146:=deep_law_laid Bh (m:=2) cq Ql cw TK
def ji:Keyed prog 146:=Keyed.of_law MW
def TL:prog.keyType 146=true:=cw
def Ig:prog.cellsOf 146=2:=cw
def strCells:prog.cellsOf 9=1:=cw
def NK:∃n,prog.types.size=n+1:=Nat.exists_eq_succ_of_ne_zero<|Nat.ne_of_gt<|Nat.lt_of_le_of_lt (XP _) Ql
def j5(k:Q01)(h1:k.1.size<=maxLen)(h2:k.2.size<=maxLen):∃kl,keyOf prog 146 (eD k)=some kl:=by
 obtain⟨n,hn⟩:=NK;refine⟨.string<|keyBytes [.string k.1.data.toList,.string k.2.data.toList],?_⟩;unfold keyOf;rw[underlying146];simp only[TL,eD,Value.formed,underlying146,Ig,hn,Value.cells];simp[Program.keyLits,underlying146,underlying9,Ig,strCells,h1,h2]
open Go.Sort
def o7{p:Prop}(h:p):O p:=h
def kP{P:Program}{f:FuncId}{args:Array Value}{W:ag}{v:Value}(h:∀W',Calls P f args W' fun e w'=>e=.returned v/\w'=W'):∀d os,Calls P f args (grow (redrawn W d) os) fun e w''=>e=.returned v/\∃p:Regrown,w''=grow (redrawn W p.d) p.os:=fun d os=>(h _).mono fun _ _ ⟨he,hw⟩=>⟨he,⟨d,os⟩,hw⟩
def dz{P:Program}{f:FuncId}{args:Array Value}{W:ag}{v:Value}(h:∀W',ae W W'->Calls P f args W' fun e w'=>e=.returned v/\ae W' w'):∀d os,Calls P f args (grow (redrawn W d) os) fun e w''=>e=.returned v/\∃p:Regrown,w''=grow (redrawn W p.d) p.os:=fun d os=>Calls.regrown_of<|h _<|below_regrown W d os
def mG(ops:Array Oper)(m k:Nat):Bool:=(ops[m]?.map fun o=>o.after.any fun e=>e.on==k&&Region.binds .any e).getD false
def WR(ops:Array Oper)(i:Nat):List Nat:=(List.range i).reverse.foldl (fun acc k=>if acc.any (fun m=>mG ops m k) then k::acc else acc) [i]
def MX(ops:Array Oper)(L N:Nat):Bool:=(List.range N).all fun i=>decide (i<L) || (List.range i).all fun j=>(WR ops i).contains j
def TM(l:List Oper)(L:Nat):Bool:=l.all fun o=>match o.guard with|some (g,_)=>decide (g<L)|none=>true
def o8(P:Program)(ops:Array Oper)(Q:Exit->Act->World->Prop):Nat->Nat->Act->World->Prop
 | 0,_,a,w=>Q .normal a w
 | n+1,i,a,w=>wpOp P ops Q i (o8 P ops Q n<|i+1) a w
def zq{ops:Array Oper}{m k:Nat}(h:mG ops m k=true):∃o,ops[m]?=some o/\∃e∈o.after,e.on=k/\Region.binds .any e=true:=by
 unfold mG at h;cases ho:ops[m]? with
 | none=>rw[ho]at h;cases h
 | some o =>
  rw[ho]at h;simp only[Option.map_some,Yv]at h;rw[Array.any_eq_true']at h;obtain⟨e,he,h2⟩:=h;simp only[XN,beq_iff_eq]at h2;exact⟨o,rfl,e,he,h2.1,h2.2⟩
def Ih{ops:Array Oper}{i:Nat}{lst:Nat->Prop}(hcl:∀m k,m=i\/lst m->mG ops m k=true->lst k):∀m∈WR ops i,m=i\/lst m:=by
 have key:∀(ks acc:List Nat),(∀m∈acc,m=i\/lst m)->∀m∈ks.foldl (fun acc k=>if acc.any (fun m=>mG ops m k) then k::acc else acc) acc,m=i\/lst m:=by
  intro ks
  induction ks with
  | nil=>intro acc h;exact h
  | cons k ks ih =>
   intro acc h;refine ih _ ?_;dsimp only;split
   ·rename_i ha;obtain⟨m,hm,hb⟩:=Yq.1 ha;intro x hx;rcases X7.1 hx with rfl|hx
    ·exact .inr<|hcl m _ (h m hm) hb
    exact h x hx
   exact h
 exact key _ _ fun m hm=>.inl (by simpa using hm)
def Ew{ops:Array Oper}{L N i:Nat}(h:MX ops L N=true)(hi:i<N)(hL:L<=i){lst:Nat->Prop}(hcl:∀m k,m=i\/lst m->mG ops m k=true->lst k):∀j,j<i->lst j:=fun j hj=>by
 have h1:=XY.1 h i (by simpa using hi);simp only[Bool.or_eq_true,XU]at h1;have h2:=XY.1 (h1.resolve_left cq) j (by simpa using hj);exact(Ih hcl j<|by simpa using h2).resolve_left cq
def rq{P:Program}{id:Nat}{Q:Exit->Act->World->Prop}{a:Act}{w:ag}{l:List Oper}(L n:Nat)(hm:P.follows .mixedOrders=true)(hlen:l.length=L+n)
  (hB:(Region.noSelect (l.take L).toArray&&Region.lexFrom .any (l.take L).toArray L 0 (Array.replicate (L+n) false)&&TM (l.take L) L&&Bc l.toArray&&MX l.toArray L (L+n))=true)
  (h:wpQuiet P (l.take L).toArray (fun w'=>∃p:Regrown,w'=grow (redrawn w p.d) p.os) (fun a'=>∀w',(∃p:Regrown,w'=grow (redrawn w p.d) p.os)->o8 P l.toArray Q n L a' w') (l.take L) a):(Code.region id l.toArray true).wp P Q a w:=by
 obtain⟨C,hC⟩:∃C:World->Prop,C=fun w'=>∃p:Regrown,w'=grow (redrawn w p.d) p.os:=⟨_,rfl⟩;have h':wpQuiet P (l.take L).toArray C (fun a'=>∀w',C w'->o8 P l.toArray Q n L a' w') (l.take L) a:=by simpa[hC] using h
 clear h;have hC0:C w.drew:=by rw[hC];exact⟨⟨w.drawn+1,#[]⟩,by rw[grow_empty];rfl⟩
 clear hC;simp only[XN]at hB;obtain⟨⟨⟨⟨hns,hlx⟩,hgd⟩,ZN⟩,hch⟩:=hB;have htl:(l.take L).length=L:=by rw[Yc];omega
 have hat:∀i,i<L->(l.take L).toArray[i]?=l.toArray[i]?:=fun i hi=>by simp[hi]
 have hsz:l.toArray.size=L+n:=by simpa using hlen
 have hwant:∀(i:Nat) (o:Oper) (a':Act),i<L->l.toArray[i]?=some o->Region.wanted o (yielded (l.take L).toArray a'.tmps)=Region.wanted o (yielded l.toArray a'.tmps):=by
  intro i o a' hi ho;have hmem:o∈l.take L:=by
   rw[<-hat i hi]at ho;exact YR (by simpa using ho)
  have:=XY.1 hgd o hmem;unfold Region.wanted;cases hg:o.guard with
  | none=>rfl
  | some x =>
   obtain⟨g,bw⟩:=x;rw[hg]at this;have hgl:g<L:=by simpa using this
   simp only[yielded,hat g hgl]
 have h1:=wpAnyQ_lex (C:=C) (md:=.any) hns (l.take L) 0 (Array.replicate (L+n) false) a (fun j=>ct) (by rw[htl];exact hlx) h';rw[htl]at h1;refine iD (fun listed a' w'=>listed.size=L+n/\(∀m k,listed.getD m false=true->mG l.toArray m k=true->listed.getD k false=true)/\(((∀j,L<=j->listed.getD j false=false)/\C w'/\∃fuel,wpAnyQ P .any (l.take L).toArray C (fun a'=>∀w',C w'->o8 P l.toArray Q n L a' w') fuel listed a') \/ ∃d,d<=n/\(∀j,j<L+d->listed.getD j false=true)/\(∀j,L+d<=j->listed.getD j false=false)/\o8 P l.toArray Q (n-d) (L+d) a' w')) hm ?_ ?_ ?_
 ·have hf:∀j,(Array.replicate l.toArray.size false).getD j false=false:=fun j=>by
   rw[Yd,Yw];split<;>rfl
  exact⟨by simpa using hsz,fun m k hm=>absurd hm<|by rw[hf];decide,Or.inl ⟨fun j _=>hf j,hC0,L,by rw[hsz];exact h1⟩⟩
 ·rintro listed a' w' ⟨hs,hcl,hh⟩ i hi;obtain⟨hl,o,ho,hpre⟩:=mem_ready.1 hi;have hiL:i<L+n:=by have:=(XO.1 ho).1;omega
  have hcl2:∀m k,(listed.setIfInBounds i true).getD m false=true->mG l.toArray m k=true->(listed.setIfInBounds i true).getD k false=true:=fun m k hm hb=>by
   rw[aV _ _ _ cq]at hm ⊢;by_cases hk:k=i
   ·rw[if_pos hk]
   rw[if_neg hk];by_cases e:m=i
   ·subst e;obtain⟨o',ho',e,he,rfl,hbe⟩:=zq hb;rw[ho]at ho';obtain rfl:=Option.some.inj ho';exact hpre e he hbe
   rw[if_neg e]at hm;exact hcl m k hm hb
  have hup:L<=i->∀j,j<i->listed.getD j false=true:=fun hLi=>Ew hch hiL hLi fun m k hm hb=>by
   rcases hm with rfl|hm
   ·obtain⟨o',ho',e,he,rfl,hbe⟩:=zq hb;rw[ho]at ho';obtain rfl:=Option.some.inj ho';exact hpre e he hbe
   exact hcl m k hm hb
  have hsq:∀d,L+d=i->o8 P l.toArray Q (n-d) (L+d) a' w'->wpOp P l.toArray Q i (fun a'' w''=>(listed.setIfInBounds i true).size=L+n/\(∀m k,(listed.setIfInBounds i true).getD m false=true->mG l.toArray m k=true->(listed.setIfInBounds i true).getD k false=true)/\(((∀j,L<=j->(listed.setIfInBounds i true).getD j false=false)/\C w''/\∃fuel,wpAnyQ P .any (l.take L).toArray C (fun a'=>∀w',C w'->o8 P l.toArray Q n L a' w') fuel (listed.setIfInBounds i true) a'') \/ ∃d,d<=n/\(∀j,j<L+d->(listed.setIfInBounds i true).getD j false=true)/\(∀j,L+d<=j->(listed.setIfInBounds i true).getD j false=false)/\o8 P l.toArray Q (n-d) (L+d) a'' w'')) a' w':=fun d hd hw=>by
   obtain⟨r,hr⟩:∃r,n-d=r+1:=⟨n-d-1,cq⟩;rw[hr,hd]at hw;have hfar:∀j,i<j->listed.getD j false=false:=fun j hj=>by
    cases hlj:listed.getD j false;case false=>rfl
    have hjn:j<L+n:=by
     rcases Nat.lt_or_ge j (L+n) with h|h
     ·exact h
     rw[Yd,Array.getElem?_eq_none cq]at hlj;cases hlj
    have:=Ew hch hjn cq (lst:=fun k=>listed.getD k false=true) (fun m k hm hb=>by
     rcases hm with rfl|hm
     ·exact hcl _ k hlj hb
     exact hcl m k hm hb) i hj
    rw[kK cq]at hl;rw[hl]at this;cases this
   refine wpOp_mono (fun a'' w'' hq=>⟨by simpa using hs,hcl2,.inr ⟨d+1,cq,fun j hj=>?_,fun j hj=>?_,?_⟩⟩) hw
   ·rw[aV _ _ _ cq];by_cases e:j=i
    ·rw[if_pos e]
    rw[if_neg e];exact hup cq j cq
   ·rw[aV _ _ _ cq,if_neg cq];exact hfar j cq
   have e1:n-(d+1)=r:=cq;have e2:L+(d+1)=i+1:=cq;rw[e1,e2];exact hq
  rcases hh with⟨hn,hCw,fuel,hq⟩|⟨d,hdn,hlow,hhigh,hw⟩
  ·by_cases e:i<L
   ·have hr:i∈Region.ready .any (l.take L).toArray listed:=mem_ready.2 ⟨hl,o,by rw[hat i e];exact ho,hpre⟩;cases fuel with
    | zero=>have:=hq.1;rw[this]at hr;cases hr
    | succ nn =>
     have hk:=hq.2 i hr;have:=wpOp_of_qOp (K':=fun a'' w''=>C w''/\wpAnyQ P .any (l.take L).toArray C (fun a'=>∀w',C w'->o8 P l.toArray Q n L a' w') nn (listed.setIfInBounds i true) a'') (Q':=Q) hCw (fun _ _ h1 h2=>⟨h1,h2⟩) hk;have h3:wpOp P l.toArray Q i (fun a'' w''=>C w''/\wpAnyQ P .any (l.take L).toArray C (fun a'=>∀w',C w'->o8 P l.toArray Q n L a' w') nn (listed.setIfInBounds i true) a'') a' w':=by
      unfold wpOp at this⊢;rw[hat i e,ho]at this;rw[ho];simp only[hwant i o a' e ho]at this;exact this
     refine wpOp_mono (fun a'' w'' hh=>⟨by simpa using hs,hcl2,Or.inl ⟨fun j hj=>?_,hh.1,nn,hh.2⟩⟩) h3;rw[aV _ _ _ cq,if_neg cq];exact hn j hj
   have hiE:i=L:=by
    rcases Nat.lt_or_ge L i with h|h
    ·have:=hup cq L h;rw[hn L (XK _)]at this;cases this
    omega
   have hnr:Region.ready .any (l.take L).toArray listed=[]:=by
    rw[List.eq_nil_iff_forall_not_mem];intro j hj;obtain⟨g1,oj,g2,-⟩:=mem_ready.1 hj;have hji:j<L:=by have:=(XO.1 g2).1;simp at this;omega
    rw[kK cq,hup cq j cq]at g1;cases g1
   have hQ:o8 P l.toArray Q n L a' w':=by
    cases fuel with
    | zero=>exact hq.2 _ hCw
    | succ n=>exact hq.1 hnr _ hCw
   exact hsq 0 cq (by simpa using hQ)
  have hid:L+d=i:=by
   rcases Nat.lt_or_ge i (L+d) with h|h
   ·have:=hlow i h;rw[kK cq]at hl;rw[hl]at this;cases this
   rcases Nat.lt_or_ge (L+d) i with h2|h2
   ·have:=hup cq (L+d) h2;rw[hhigh _ (XK _)]at this;cases this
   omega
  exact hsq d hid hw
 rintro listed a' w' ⟨hs,hcl,hh⟩ hr;have hall:=qc hr hsz (mW ZN) hs;rcases hh with⟨hn,hCw,fuel,hq⟩|⟨d,hdn,hlow,hhigh,hw⟩
 ·have hn0:n=0:=by
   rcases Nat.eq_zero_or_pos n with h|h
   ·exact h
   have:=hall L cq;rw[kK cq,hn L<|XK _]at this;cases this
  subst hn0;have hnr:Region.ready .any (l.take L).toArray listed=[]:=by
   rw[List.eq_nil_iff_forall_not_mem];intro j hj;obtain⟨g1,oj,g2,-⟩:=mem_ready.1 hj;have hji:j<L:=by have:=(XO.1 g2).1;simp at this;omega
   rw[hall j cq]at g1;cases g1
  have hQ:o8 P l.toArray Q 0 L a' w':=by
   cases fuel with
   | zero=>exact hq.2 _ hCw
   | succ n=>exact hq.1 hnr _ hCw
  exact hQ
 have hd:d=n:=by
  rcases Nat.lt_or_ge d n with h|h
  ·have:=hall (L+d) cq;rw[kK cq,hhigh _<|XK _]at this;cases this
  omega
 subst hd;rw[Nat.sub_self]at hw;exact hw
end Go.Proofs.YtojjoblnpldniaaGreat
namespace Go.Proofs.YtojjoblnpldniaaGreat.Pl
def gZ{a b:ByteArray}(h:a=b):Ending.returned (.string a)=.returned (.string b):=by rw[h]
def MZ{s:ByteArray}(h:oV s=true):1<=s.size/\s.size<=12:=by simpa[oV] using h
def o9{s:ByteArray}(h:aW s=true):1<=s.size/\s.size<=12:=by
 simp[aW,dX]at h;exact MZ h.1.1
def Qm{s:ByteArray}(h:qW s=true):1<=s.size/\s.size<=12:=by
 simp[qW,dX]at h;exact MZ h.1
def AC{t i:ByteArray}(h:dY t i=true):t.size<=12/\i.size<=12:=by
 simp[dY]at h;exact⟨(o9 h.1).2,(Qm h.2).2⟩
def aI(t i:ByteArray):ByteArray:=if dY t i then t++⟨#[58]⟩++i else ⟨#[]⟩
def og{t i:ByteArray}(h:dY t i=true):aI t i=t++⟨#[58]⟩++i:=by simp[aI,h]
def uZ{t i:ByteArray}(h:dY t i=false):aI t i=⟨#[]⟩:=by simp[aI,h]
def jc(t i:dw):(aI t i).size<=25:=by
 unfold aI;split
 ·rename_i h;have h2:=AC h;have e1:(ByteArray.mk #[58]).size=1:=rfl;rw[Yb,Yb,e1];omega
 exact XP _
def ve(s:ByteArray):Bool:=s.toList.isEmpty || aW s
def cZ(a b r c d s:ByteArray):Bool:=dY a b&&aW r&&dY c d&&ve s
def bC(a b r c d s:ByteArray):ByteArray :=
 if cZ a b r c d s then
  (if s.toList.isEmpty then aI a b++⟨#[35]⟩++r++⟨#[64]⟩++aI c d else aI a b++⟨#[35]⟩++r++⟨#[64]⟩++aI c d++⟨#[35]⟩++s)
 else ⟨#[]⟩
def vg{a b r c d s:ByteArray}(h:cZ a b r c d s=false):bC a b r c d s=⟨#[]⟩:=by simp[bC,h]
def oh{a b r c d s:ByteArray}(h:cZ a b r c d s=true)(hs:s.toList.isEmpty=true):bC a b r c d s=aI a b++⟨#[35]⟩++r++⟨#[64]⟩++aI c d:=by simp[bC,h,hs]
def ol{a b r c d s:ByteArray}(h:cZ a b r c d s=true)(hs:s.toList.isEmpty=false):bC a b r c d s=aI a b++⟨#[35]⟩++r++⟨#[64]⟩++aI c d++⟨#[35]⟩++s:=by simp[bC,h,hs]
def Bi{a b r c d s:ByteArray}(h:dY a b=false):cZ a b r c d s=false:=by simp[cZ,h]
def Bj{a b r c d s:ByteArray}(h:aW r=false):cZ a b r c d s=false:=by simp[cZ,h]
def Bl{a b r c d s:ByteArray}(h:dY c d=false):cZ a b r c d s=false:=by simp[cZ,h]
def Bn{a b r c d s:ByteArray}(h1:dY a b=true)(h2:aW r=true)(h3:dY c d=true):cZ a b r c d s=ve s:=by simp[cZ,h1,h2,h3]
def kS{a b r c d s:ByteArray}(h:cZ a b r c d s=true):dY a b=true/\aW r=true/\dY c d=true/\ve s=true:=by
 simp[cZ]at h;exact⟨h.1.1.1,h.1.1.2,h.1.2,h.2⟩
def Bo{s:ByteArray}(h:s.toList.isEmpty=true):s.size=0:=by
 rw[Go.ByteArray.toList_eq]at h;have h2:s.data.toList=[]:=by simpa using h
 have h3:s.data.toList.length=0:=by rw[h2];rfl
 simpa using h3
def Gc{s:ByteArray}(h:ve s=true):s.size<=12:=by
 simp only[ve,Bool.or_eq_true]at h;rcases h with h|h
 ·have:=Bo h;omega
 exact(o9 h).2
def jy(c:UInt8):List UInt8->List UInt8×List UInt8×Bool
 | []=>([],[],false)
 | b::l=>if b=c then ([],l,true) else (b::(jy c l).1,(jy c l).2.1,(jy c l).2.2)
def TN{c:UInt8}{l:List UInt8}{k:Nat}(hk:k<l.length)(hn:∀x∈l.take k,x≠c)(hc:l[k]=c):jy c l=(l.take k,l.drop<|k+1,true):=by
 induction l generalizing k with
 | nil=>simp at hk
 | cons b l ih =>
  cases k with
  | zero=>simp at hc;simp[jy,hc]
  | succ k =>
   have hb:b≠c:=hn b ct;have:=ih (k:=k) (by simpa using hk) (fun x hx=>hn x<|by simp[hx]) (by simpa using hc);simp[jy,hb,this]
def tK{c:UInt8}{l:List UInt8}(hn:∀x∈l,x≠c):jy c l=(l,[],false):=by
 induction l with
 | nil=>rfl
 | cons b l ih =>
  have hb:b≠c:=hn b ct;have:=ih (fun x hx=>hn x<|by simp[hx]);simp[jy,hb,this]
def Ii(c:UInt8)(l:List UInt8):(jy c l).1.length<=l.length/\(jy c l).2.1.length<=l.length:=by
 induction l with
 | nil=>simp[jy]
 | cons b l ih =>
  unfold jy;split
  ·simp
  simp;omega
def lF(c:UInt8)(s:ByteArray):ByteArray:=⟨(jy c s.data.toList).1.toArray⟩
def jk(c:UInt8)(s:ByteArray):ByteArray:=⟨(jy c s.data.toList).2.1.toArray⟩
def qg(c:UInt8)(s:ByteArray):Bool:=(jy c s.data.toList).2.2
theorem Ey(l:List UInt8):(ByteArray.mk l.toArray).size=l.length:=rfl
def TP(c:UInt8)(s:dw):(lF c s).size<=s.size:=by
 unfold lF;rw[Ey];exact(Ii c s.data.toList).1
def M0(c:UInt8)(s:dw):(jk c s).size<=s.size:=by
 unfold jk;rw[Ey];exact(Ii c s.data.toList).2
def iy{a b:ByteArray}(h:a.data.toList=b.data.toList):a=b:=by
 cases a;cases b;simp at h;simp[h]
def VF(c:UInt8)(s:ByteArray)(k:Nat):Prop:=∀x∈s.data.toList.take k,x≠c
def Qn(c:UInt8)(s:dw):VF c s 0:=by intro x hx;simp at hx
def Qo{c:UInt8}{s:ByteArray}{k:Nat}(h:k<s.size)(hn:VF c s k)(hc:s[k]≠c):VF c s (k+1):=by
 intro x hx;rw[En s k h]at hx;simp at hx;rcases hx with hx|hx
 ·exact hn x (by simpa using hx)
 subst hx;exact hc
def VG{c:UInt8}{s:ByteArray}{k:Nat}(h:k<s.size)(hn:VF c s k)(hc:s[k]=c):jy c s.data.toList=(s.data.toList.take k,s.data.toList.drop<|k+1,true) :=
 TN (by simpa using h) hn (by simpa[ByteArray.getElem_eq_getElem_data] using hc)
def Qp{c:UInt8}{s:ByteArray}{k:Nat}(h:s.size<=k)(hn:VF c s k):jy c s.data.toList=(s.data.toList,[],false) :=
 tK (fun x hx=>hn x<|by rw[Yj (by simpa using h)];exact hx)
def WF(s:ByteArray):Bool:=dY (lF 58 s)<|jk 58 s
def XF(s:ByteArray):ByteArray:=if WF s then lF 58 s else ⟨#[]⟩
def XG(s:ByteArray):ByteArray:=if WF s then jk 58 s else ⟨#[]⟩
def NL{c:UInt8}{l:List UInt8}(h:(jy c l).2.2=false):(jy c l).2.1=[]:=by
 induction l with
 | nil=>rfl
 | cons b l ih =>
  unfold jy at h⊢;split
  ·rename_i hb;simp[hb]at h
  rename_i hb;simp[hb]at h;simpa[hb] using ih h
def Qq{c:UInt8}{s:ByteArray}(h:qg c s=false):jk c s=⟨#[]⟩:=by
 unfold qg at h;unfold jk;rw[NL h]
def Qr{s:ByteArray}(h:WF s=true):XF s=lF 58 s/\XG s=jk 58 s:=by simp[XF,XG,h]
end Go.Proofs.YtojjoblnpldniaaGreat.Pl
namespace Go.Proofs.YtojjoblnpldniaaGreat
open ChangeShapes WideShapes ChangeAt RowKit
open Pl
def wF(c:UInt8)(w:ag):
  Calls prog 278 #[.int .u8 c.toNat] w (bh w<|.bool<|Aw c):=by
 by_cases hl:fH c=true
 ·go_enter func278,ntmps278;go_wp2_with(go_at_call 191;refine(mr _ _).mono ?_;rintro e w' ⟨rfl,rfl⟩);go_ret;exact⟨aj<|by simp[Aw,hl],rfl⟩
 have hf:fH c=false:=by simpa using hl
 clear hl;go_enter func278,ntmps278;go_wp2_with(go_at_call 191;refine(mr _ _).mono ?_;rintro e w' ⟨rfl,rfl⟩)
 all_goals go_ret
 all_goals refine⟨aj ?_,rfl⟩
 all_goals(rw[X9];simp[Aw,hf];omega)
def Kl(s:dw)(w:ag)(hs:s.size<=maxLen):
  Calls prog 281 #[.string s] w (bh w<|.bool<|qW s):=by
 unfold maxLen at hs;by_cases h1:1<=s.size/\s.size<=12
 ·obtain⟨ha,hb⟩:=h1;go_enter func281,ntmps281;go_wp2
  go_loop [3] (fun i=>∃k:Nat,k<=s.size/\i=.int .i64 k/\O (Kc Aw s k=true)) (fun i=>s.size-(intOf i).toNat)
  case atStart=>exact⟨0,XP _,rfl,wu _ _⟩
  obtain⟨k,hk,rfl,hu⟩:=hrel;by_cases hlt:k<s.size
  ·by_cases hc:Aw s[k]=true
   ·have hd:(97<=s[k].toNat/\s[k].toNat<=122)\/(48<=s[k].toNat/\s[k].toNat<=57)\/s[k].toNat=95:=by simp[Aw,fH]at hc;omega
    have HU:O (Kc Aw s (k+1)=true):=by show _=_;rw[ww _ _ _ hlt,hc,hu];rfl
    clear hc;rcases hd with⟨hd1,hd2⟩|⟨hd1,hd2⟩|hd1
    all_goals
     go_wp2;go_round;case rel=>exact⟨k+1,cq,cx,HU⟩
     simp[intOf];omega
   have hc':Aw s[k]=false:=by simpa using hc
   have HB:O (uw Aw s=false):=AA _ _ _ hlt hc';have hd:s[k].toNat<48\/(57<s[k].toNat/\s[k].toNat<95)\/(95<s[k].toNat/\s[k].toNat<97)\/122<s[k].toNat:=by simp[Aw,fH]at hc';omega
   clear hc hc';rcases hd with hd|⟨hd,hd2⟩|⟨hd,hd2⟩|hd
   all_goals
    have h95:((s[k].toNat:Int) != 95)=true:=by simp;omega
    go_wp2;go_ret;exact⟨aj<|by simp[qW,dX,HB.out],rfl⟩
  go_wp2;go_ret;refine⟨aj ?_,rfl⟩;have hall:uw Aw s=true:=by rw[<-Az Aw s k cq];exact hu
  have hl:oV s=true:=by simp[oV];omega
  simp[qW,dX,hall,hl]
 have hn:oV s=false:=by simp[oV];omega
 have HN:O (qW s=false):=by show _=_;simp[qW,dX,hn]
 clear hn;by_cases ha:1<=s.size
 ·have hb:12<s.size:=cq;clear h1;go_enter func281,ntmps281;go_wp2;go_ret;exact⟨aj HN.symm,rfl⟩
 have ha':s.size<1:=cq;clear h1;go_enter func281,ntmps281;go_wp2;go_ret;exact⟨aj HN.symm,rfl⟩
def Bp(s:dw)(w:ag)(hs:s.size<=maxLen):
  Calls prog 190 #[.string s,.func (Fn.func 278) #[] #[]] w (bh w<|.bool<|dX Aw s):=by
 unfold maxLen at hs;by_cases h1:1<=s.size/\s.size<=12
 ·obtain⟨ha,hb⟩:=h1;go_enter func190,ntmps190;go_wp2
  go_loop [16] (fun i=>∃k:Nat,k<=s.size/\i=.int .i64 k/\O (Kc Aw s k=true)) (fun i=>s.size-(intOf i).toNat)
  case atStart=>exact⟨0,XP _,rfl,wu _ _⟩
  obtain⟨k,hk,rfl,hu⟩:=hrel;by_cases hlt:k<s.size
  ·by_cases hc:Aw s[k]=true
   ·have HU:O (Kc Aw s (k+1)=true):=by show _=_;rw[ww _ _ _ hlt,hc,hu];rfl
    go_wp2_with(go_at_call 278;refine(wF _ _).mono ?_;rintro e w' ⟨rfl,rfl⟩);go_round;case rel=>exact⟨k+1,cq,cx,HU⟩
    simp[intOf];omega
   have hc':Aw s[k]=false:=by simpa using hc
   have HB:O (uw Aw s=false):=AA _ _ _ hlt hc';clear hc;go_wp2_with(go_at_call 278;refine(wF _ _).mono ?_;rintro e w' ⟨rfl,rfl⟩);go_ret;exact⟨aj<|by simp[dX,HB.out],rfl⟩
  go_wp2;go_ret;refine⟨aj ?_,rfl⟩;have hall:uw Aw s=true:=by rw[<-Az Aw s k cq];exact hu
  have hl:oV s=true:=by simp[oV];omega
  simp[dX,hall,hl]
 have hn:oV s=false:=by simp[oV];omega
 have HN:O (dX Aw s=false):=by show _=_;simp[dX,hn]
 clear hn;by_cases ha:1<=s.size
 ·have hb:12<s.size:=cq;clear h1;go_enter func190,ntmps190;go_wp2;go_ret;exact⟨aj HN.symm,rfl⟩
 have ha':s.size<1:=cq;clear h1;go_enter func190,ntmps190;go_wp2;go_ret;exact⟨aj HN.symm,rfl⟩
def Bq(s:dw)(w:ag)(hs:s.size<=maxLen):
  Calls prog 220 #[.string s] w (bh w<|.bool<|qW s):=by
 go_enter func220,ntmps220;go_wp2_with(go_at_call 190;refine(Bp _ _ hs).mono ?_;rintro e w' ⟨rfl,rfl⟩);go_ret;exact⟨rfl,rfl⟩
def kL{W w1:ag}(hb:ae W w1):(∀b o,b<W.heap.size->w1.cell? (ap b o)=W.cell? (ap b o))/\(∀b o,b<W.heap.size->w1.frozen? (ap b o)=W.frozen? (ap b o)) :=
 ⟨fun b o h=>hb.cell (p:=⟨b,o,none⟩) h,fun b o h=>hb.frozen (p:=⟨b,o,none⟩) h⟩
def eG(t i:dw)(w:ag)(ht:t.size<=maxLen)(hi:i.size<=maxLen):
  Calls prog 228 #[.agg #[.string t,.string i]] w (a8 w<|.bool<|dY t i):=by
 by_cases hn:aW t=true
 all_goals
  go_enter func228,ntmps228;go_wp2_with(first|(go_at_call 126;refine(aZ _ _ ht).mono ?_;rintro e w' ⟨rfl,rfl⟩)|(go_at_call 281;refine(Kl _ _ hi).mono ?_;rintro e w' ⟨rfl,rfl⟩));go_ret;exact⟨aj<|by simp[dY,hn],(XL _ _).alloc (XK _) _⟩
def gX(t i:dw)(w:ag)(ht:t.size<=maxLen)(hi:i.size<=maxLen):
  Calls prog 147 #[.agg #[.string t,.string i]] w (a8 w<|.bool<|dY t i):=by
 by_cases hn:aW t=true
 all_goals
  go_enter func147,ntmps147;go_wp2_with(first|(go_at_call 122;refine(aT _ _ ht).mono ?_;rintro e w' ⟨rfl,rfl⟩)|(go_at_call 220;refine(Bq _ _ hi).mono ?_;rintro e w' ⟨rfl,rfl⟩));go_ret;exact⟨aj<|by simp[dY,hn],(XL _ _).alloc (XK _) _⟩
def zZ(t i:dw)(w:ag)(ht:t.size<=maxLen)(hi:i.size<=maxLen):
  Calls prog 307 #[.agg #[.string t,.string i]] w (a8 w<|.string<|aI t i):=by
 by_cases hn:dY t i=true
 ·obtain⟨h1,h2⟩:=AC hn;have HT:O (aI t i=t++⟨#[58]⟩++i):=og hn;go_enter func307,ntmps307;go_wp2_with(go_at_call 228;refine(eG _ _ _ ht hi).mono ?_;rintro e w' ⟨rfl,hb⟩;obtain⟨hc,hf⟩:=kL hb);go_ret;exact⟨gZ HT.symm,((XL _ _).alloc (XK _) _).trans<|hb.mono ct⟩
 have hn':dY t i=false:=by simpa using hn
 have HT:O (aI t i=⟨#[]⟩):=uZ hn';clear hn;go_enter func307,ntmps307;go_wp2_with(go_at_call 228;refine(eG _ _ _ ht hi).mono ?_;rintro e w' ⟨rfl,hb⟩;obtain⟨hc,hf⟩:=kL hb);go_ret;exact⟨gZ HT.symm,((XL _ _).alloc (XK _) _).trans<|hb.mono ct⟩
def Aa(t i:dw)(w:ag)(ht:t.size<=maxLen)(hi:i.size<=maxLen):
  Calls prog 276 #[.agg #[.string t,.string i]] w (a8 w<|.string<|aI t i):=by
 by_cases hn:dY t i=true
 ·obtain⟨h1,h2⟩:=AC hn;have HT:O (aI t i=t++⟨#[58]⟩++i):=og hn;go_enter func276,ntmps276;go_wp2_with(go_at_call 147;refine(gX _ _ _ ht hi).mono ?_;rintro e w' ⟨rfl,hb⟩;obtain⟨hc,hf⟩:=kL hb);go_ret;exact⟨gZ HT.symm,((XL _ _).alloc (XK _) _).trans<|hb.mono ct⟩
 have hn':dY t i=false:=by simpa using hn
 have HT:O (aI t i=⟨#[]⟩):=uZ hn';clear hn;go_enter func276,ntmps276;go_wp2_with(go_at_call 147;refine(gX _ _ _ ht hi).mono ?_;rintro e w' ⟨rfl,hb⟩;obtain⟨hc,hf⟩:=kL hb);go_ret;exact⟨gZ HT.symm,((XL _ _).alloc (XK _) _).trans<|hb.mono ct⟩
def Ez(s:dw)(w:ag)(hs:s.size<=maxLen):
  Calls prog 148 #[.string s] w (bh w<|.bool<|ve s):=by
 go_enter func148,ntmps148;go_wp2_with(go_at_call 122;refine(aT _ _ hs).mono ?_;rintro e w' ⟨rfl,rfl⟩)
 all_goals go_ret
 all_goals exact⟨aj<|by simp[ve, *],rfl⟩
def eH(a b r c d s:dw)(w:ag)(ha:a.size<=maxLen)(hb:b.size<=maxLen)(hr:r.size<=maxLen)(hc:c.size<=maxLen)(hd:d.size<=maxLen)(hs:s.size<=maxLen):
  Calls prog 198 #[.agg #[.string a,.string b,.string r,.string c,.string d,.string s]] w (a8 w<|.bool<|cZ a b r c d s):=by
 by_cases h1:dY a b=true
 ·by_cases h2:aW r=true
  ·by_cases h3:dY c d=true
   ·have HT:O (cZ a b r c d s=ve s):=Bn h1 h2 h3;go_enter func198,ntmps198;go_wp2_with fail;refine(eG _ _ _ ha hb).mono ?_;rintro e w1 ⟨rfl,hb1⟩;obtain⟨hc1,hf1⟩:=kL hb1;have hz1:cX w w1:=by have:=hb1.size;simp at this;omega
    go_wp2_with fail;refine(aZ _ _ hr).mono ?_;rintro e w1' ⟨rfl,rfl⟩;go_wp2_with fail;refine(eG _ _ _ hc hd).mono ?_;rintro e w2 ⟨rfl,hb2⟩;obtain⟨hc2,hf2⟩:=kL hb2;have hz2:cX w w2:=by have:=hb2.size;omega
    go_wp2_with(go_at_call 126;refine(aZ _ _ hs).mono ?_;rintro e w3 ⟨rfl,rfl⟩)
    all_goals go_ret
    all_goals exact⟨aj (HT.trans<|by simp[ve, *]).symm,((XL _ _).alloc (XK _) _).trans<|(hb1.mono ct).trans<|hb2.mono cq⟩
   have h3':dY c d=false:=by simpa using h3
   have HT:O (cZ a b r c d s=false):=Bl h3';clear h3;go_enter func198,ntmps198;go_wp2_with fail;refine(eG _ _ _ ha hb).mono ?_;rintro e w1 ⟨rfl,hb1⟩;obtain⟨hc1,hf1⟩:=kL hb1;have hz1:cX w w1:=by have:=hb1.size;simp at this;omega
   go_wp2_with fail;refine(aZ _ _ hr).mono ?_;rintro e w1' ⟨rfl,rfl⟩;go_wp2_with fail;refine(eG _ _ _ hc hd).mono ?_;rintro e w2 ⟨rfl,hb2⟩;go_wp2;go_ret;exact⟨aj HT.symm,((XL _ _).alloc (XK _) _).trans<|(hb1.mono ct).trans<|hb2.mono cq⟩
  have h2':aW r=false:=by simpa using h2
  have HT:O (cZ a b r c d s=false):=Bj h2';clear h2;go_enter func198,ntmps198;go_wp2_with fail;refine(eG _ _ _ ha hb).mono ?_;rintro e w1 ⟨rfl,hb1⟩;obtain⟨hc1,hf1⟩:=kL hb1;go_wp2_with fail;refine(aZ _ _ hr).mono ?_;rintro e w1' ⟨rfl,rfl⟩;go_wp2;go_ret;exact⟨aj HT.symm,((XL _ _).alloc (XK _) _).trans<|hb1.mono ct⟩
 have h1':dY a b=false:=by simpa using h1
 have HT:O (cZ a b r c d s=false):=Bi h1';clear h1;go_enter func198,ntmps198;go_wp2_with fail;refine(eG _ _ _ ha hb).mono ?_;rintro e w1 ⟨rfl,hb1⟩;go_wp2;go_ret;exact⟨aj HT.symm,((XL _ _).alloc (XK _) _).trans<|hb1.mono ct⟩
def fZ(a b r c d s:dw)(w:ag)(ha:a.size<=maxLen)(hb:b.size<=maxLen)(hr:r.size<=maxLen)(hc:c.size<=maxLen)(hd:d.size<=maxLen)(hs:s.size<=maxLen):
  Calls prog 62 #[.agg #[.string a,.string b,.string r,.string c,.string d,.string s]] w (a8 w<|.bool<|cZ a b r c d s):=by
 by_cases h1:dY a b=true
 ·by_cases h2:aW r=true
  ·by_cases h3:dY c d=true
   ·have HT:O (cZ a b r c d s=ve s):=Bn h1 h2 h3;go_enter func62,ntmps62;go_wp2_with fail;refine(gX _ _ _ ha hb).mono ?_;rintro e w1 ⟨rfl,hb1⟩;obtain⟨hc1,hf1⟩:=kL hb1;have hz1:cX w w1:=by have:=hb1.size;simp at this;omega
    go_wp2_with fail;refine(aT _ _ hr).mono ?_;rintro e w1' ⟨rfl,rfl⟩;go_wp2_with fail;refine(gX _ _ _ hc hd).mono ?_;rintro e w2 ⟨rfl,hb2⟩;obtain⟨hc2,hf2⟩:=kL hb2;have hz2:cX w w2:=by have:=hb2.size;omega
    go_wp2_with(go_at_call 148;refine(Ez _ _ hs).mono ?_;rintro e w3 ⟨rfl,rfl⟩)
    all_goals go_ret
    all_goals exact⟨aj (HT.trans<|by simp[ve, *]).symm,((XL _ _).alloc (XK _) _).trans<|(hb1.mono ct).trans<|hb2.mono cq⟩
   have h3':dY c d=false:=by simpa using h3
   have HT:O (cZ a b r c d s=false):=Bl h3';clear h3;go_enter func62,ntmps62;go_wp2_with fail;refine(gX _ _ _ ha hb).mono ?_;rintro e w1 ⟨rfl,hb1⟩;obtain⟨hc1,hf1⟩:=kL hb1;have hz1:cX w w1:=by have:=hb1.size;simp at this;omega
   go_wp2_with fail;refine(aT _ _ hr).mono ?_;rintro e w1' ⟨rfl,rfl⟩;go_wp2_with fail;refine(gX _ _ _ hc hd).mono ?_;rintro e w2 ⟨rfl,hb2⟩;go_wp2;go_ret;exact⟨aj HT.symm,((XL _ _).alloc (XK _) _).trans<|(hb1.mono ct).trans<|hb2.mono cq⟩
  have h2':aW r=false:=by simpa using h2
  have HT:O (cZ a b r c d s=false):=Bj h2';clear h2;go_enter func62,ntmps62;go_wp2_with fail;refine(gX _ _ _ ha hb).mono ?_;rintro e w1 ⟨rfl,hb1⟩;obtain⟨hc1,hf1⟩:=kL hb1;go_wp2_with fail;refine(aT _ _ hr).mono ?_;rintro e w1' ⟨rfl,rfl⟩;go_wp2;go_ret;exact⟨aj HT.symm,((XL _ _).alloc (XK _) _).trans<|hb1.mono ct⟩
 have h1':dY a b=false:=by simpa using h1
 have HT:O (cZ a b r c d s=false):=Bi h1';clear h1;go_enter func62,ntmps62;go_wp2_with fail;refine(gX _ _ _ ha hb).mono ?_;rintro e w1 ⟨rfl,hb1⟩;go_wp2;go_ret;exact⟨aj HT.symm,((XL _ _).alloc (XK _) _).trans<|hb1.mono ct⟩
end Go.Proofs.YtojjoblnpldniaaGreat
namespace Go.Proofs.YtojjoblnpldniaaGreat.Pl
def Qs{c:UInt8}{l m:List UInt8}(h:∀x∈l,x≠c):jy c (l++c::m)=(l,m,true):=by
 induction l with
 | nil=>simp[jy]
 | cons b l ih =>
  have hb:b≠c:=h b ct;have:=ih (fun x hx=>h x<|by simp[hx]);simp[jy,hb,this]
def ED(c:UInt8)(s:dw):(lF c s).data.toList=(jy c s.data.toList).1:=by simp[lF]
def EE(c:UInt8)(s:dw):(jk c s).data.toList=(jy c s.data.toList).2.1:=by simp[jk]
def Ij(a b:dw):(a++b).data.toList=a.data.toList++b.data.toList:=by simp[ByteArray.data_append]
def AJ{c:UInt8}{s:ByteArray}{l m:List UInt8}(hs:s.data.toList=l++c::m)(h:∀x∈l,x≠c):(lF c s).data.toList=l/\(jk c s).data.toList=m/\qg c s=true:=by
 rw[ED,EE,qg,hs,Qs h];exact⟨rfl,rfl,rfl⟩
def TQ{c:UInt8}{s:ByteArray}(h:∀x∈s.data.toList,x≠c):lF c s=s/\jk c s=⟨#[]⟩/\qg c s=false:=by
 refine⟨iy ?_,iy ?_,?_⟩
 ·rw[ED,tK h]
 ·rw[EE,tK h]
 rw[qg,tK h]
def Qt(l:List UInt8):Prop:=∀x∈l,x≠35/\x≠58/\x≠64
def EF{x:UInt8}(h:Aw x=true):x≠35/\x≠58/\x≠64:=by
 refine⟨?_,?_,?_⟩<;>(rintro rfl;revert h;decide)
def Km{x:UInt8}(h:fH x=true):x≠35/\x≠58/\x≠64:=EF (by simp[Aw,h])
def rE{s:ByteArray}(h:aW s=true):Qt s.data.toList:=by
 simp only[aW,dX,uw,XN,XY]at h;exact fun x hx=>Km<|h.1.2 x hx
def Ik{s:ByteArray}(h:qW s=true):Qt s.data.toList:=by
 simp only[qW,dX,uw,XN,XY]at h;exact fun x hx=>EF<|h.2 x hx
def vv{a b:ByteArray}(h:dY a b=true):aW a=true/\qW b=true:=by simpa[dY] using h
def wG{a b:ByteArray}(h:dY a b=true):(aI a b).data.toList=a.data.toList++58::b.data.toList:=by
 rw[og h,Ij,Ij];simp
def uG{a b:ByteArray}(h:dY a b=true):∀x∈(aI a b).data.toList,x≠35/\x≠64:=by
 intro x hx;rw[wG h]at hx;have h1:=rE (vv h).1;have h2:=Ik (vv h).2;simp only[XV,X7]at hx;rcases hx with hx|hx|hx
 ·exact⟨(h1 x hx).1,(h1 x hx).2.2⟩
 ·subst hx;decide
 exact⟨(h2 x hx).1,(h2 x hx).2.2⟩
def qh{a b:ByteArray}(h:dY a b=true):WF (aI a b)=true/\XF (aI a b)=a/\XG (aI a b)=b:=by
 obtain⟨h1,h2,-⟩:=AJ (c:=58) (wG h) fun x hx=>(rE (vv h).1 x hx).2.1;have e1:lF 58 (aI a b)=a:=iy h1;have e2:jk 58 (aI a b)=b:=iy h2;have hb:WF (aI a b)=true:=by rw[WF,e1,e2];exact h
 exact⟨hb,by rw[(Qr hb).1,e1],by rw[(Qr hb).2,e2]⟩
def EG(s:ByteArray):List UInt8:=if s.toList.isEmpty then [] else 35::s.data.toList
def Gd{a b r c d s:ByteArray}(h:cZ a b r c d s=true):
  (bC a b r c d s).data.toList=(aI a b).data.toList++35::(r.data.toList++64::((aI c d).data.toList++EG s)):=by
 by_cases hs:s.toList.isEmpty=true
 ·rw[oh h hs,EG,if_pos hs];simp
 have hs':s.toList.isEmpty=false:=by simpa using hs
 rw[ol h hs',EG,if_neg hs];simp
def Qu{s:ByteArray}(h:s.toList.isEmpty=true):s=⟨#[]⟩:=by
 refine iy ?_;rw[Go.ByteArray.toList_eq]at h;simpa using h
def Qv{o s x:ByteArray}(ho:∀y∈o.data.toList,y≠35)(hx:x.data.toList=o.data.toList++EG s):
  lF 35 x=o/\jk 35 x=s/\qg 35 x=!s.toList.isEmpty:=by
 by_cases hs:s.toList.isEmpty=true
 ·have e:x=o:=iy (by rw[hx,EG,if_pos hs];simp);subst e;obtain⟨h1,h2,h3⟩:=TQ (c:=35) (s:=x) ho;exact⟨h1,by rw[h2,Qu hs],by rw[h3,hs];rfl⟩
 rw[EG,if_neg hs]at hx;obtain⟨h1,h2,h3⟩:=AJ hx ho;have hs':s.toList.isEmpty=false:=by simpa using hs
 exact⟨iy h1,iy h2,by rw[h3,hs'];rfl⟩
def i1(s:ByteArray):=jk 35 s
def i2(s:ByteArray):=jk 64<|i1 s
def Br{a b r c d t s:ByteArray}(h:cZ a b r c d t=true)(hs:bC a b r c d t=s):
  lF 35 s=aI a b/\lF 64 (i1 s)=r/\lF 35 (i2 s)=aI c d/\jk 35 (i2 s)=t:=by
 obtain⟨h1,h2,h3,h4⟩:=kS h;have hl:=Gd h;rw[hs]at hl;obtain⟨c1,c2,-⟩:=AJ hl fun x hx=>(uG h1 x hx).1;obtain⟨d1,d2,-⟩:=AJ (s:=i1 s) c2 fun x hx=>(rE h2 x hx).2.2;obtain⟨e1,e2,-⟩:=Qv (o:=aI c d) (s:=t) (x:=i2 s) (fun x hx=>(uG h3 x hx).1) d2;exact⟨iy c1,iy d1,e1,e2⟩
def Kn(s a b r c d t:ByteArray)(f:Bool):Prop :=
 (f=true/\cZ a b r c d t=true/\bC a b r c d t=s) \/
 (f=false/\(a=⟨#[]⟩/\b=⟨#[]⟩/\r=⟨#[]⟩/\c=⟨#[]⟩/\d=⟨#[]⟩/\t=⟨#[]⟩)/\∀a b r c d t,cZ a b r c d t=true->bC a b r c d t≠s)
def Il{a b r c d t a' b' r' c' d' t':ByteArray}(h:cZ a b r c d t=true)(h':cZ a' b' r' c' d' t'=true)(e:bC a b r c d t=bC a' b' r' c' d' t'):
  a=a'/\b=b'/\r=r'/\c=c'/\d=d'/\t=t':=by
 obtain⟨x1,x2,x3,x4⟩:=Br h e;obtain⟨y1,y2,y3,y4⟩:=Br h' rfl;obtain⟨p1,p2,p3,p4⟩:=kS h;obtain⟨q1,q2,q3,q4⟩:=kS h';have o1:aI a b=aI a' b':=x1.symm.trans y1;have o2:aI c d=aI c' d':=x3.symm.trans y3;obtain⟨-,u1,u2⟩:=qh p1;obtain⟨-,v1,v2⟩:=qh q1;obtain⟨-,u3,u4⟩:=qh p3;obtain⟨-,v3,v4⟩:=qh q3;rw[o1]at u1 u2;rw[o2]at u3 u4;exact⟨u1.symm.trans v1,u2.symm.trans v2,x2.symm.trans y2,u3.symm.trans v3,u4.symm.trans v4,x4.symm.trans y4⟩
def Kn.one{s a b r c d t a' b' r' c' d' t':ByteArray}{f f':Bool}(h:Kn s a b r c d t f)(h':Kn s a' b' r' c' d' t' f'):
  (a=a'/\b=b'/\r=r'/\c=c'/\d=d'/\t=t')/\f=f':=by
 rcases h with⟨rfl,h1,h2⟩|⟨rfl,h1,h2⟩
 ·rcases h' with⟨rfl,k1,k2⟩|⟨rfl,k1,k2⟩
  ·exact⟨Il h1 k1<|h2.trans k2.symm,rfl⟩
  exact absurd h2<|k2 _ _ _ _ _ _ h1
 rcases h' with⟨rfl,k1,k2⟩|⟨rfl,k1,k2⟩
 ·exact absurd k2<|h2 _ _ _ _ _ _ k1
 obtain⟨rfl,rfl,rfl,rfl,rfl,rfl⟩:=h1;obtain⟨rfl,rfl,rfl,rfl,rfl,rfl⟩:=k1;exact⟨⟨rfl,rfl,rfl,rfl,rfl,rfl⟩,rfl⟩
end Go.Proofs.YtojjoblnpldniaaGreat.Pl
namespace Go.Proofs.YtojjoblnpldniaaGreat
open ChangeShapes WideShapes ChangeAt RowKit Maps
open Go.ChangeMaps (setBlock heap_setBlock_same heap_setBlock_other)
section
variable  {K:Type}{enc:K->Value}{P:Program}{k:TypeId}{w:World}{b n:Nat}{M:K->Option Value}
def aL.of_block{w':ag}(h:aL enc P k w b n M)(e:w'.heap[b]?=w.heap[b]?):aL enc P k w' b n M:=by
 obtain⟨D,⟨es,clock,hb,r⟩,h2⟩:=h;exact⟨D,⟨es,clock,e.trans hb,r⟩,h2⟩
def rF{w:ag}{b:Nat}{es es':Array MapEntry}{c c':Nat}(hb:w.heap[b]?=some (.map es c)):w.grownBy (setBlock w b<|.map es' c') (some b) :=
 ⟨rfl,rfl,rfl,by simp[setBlock],fun i _ hi=>heap_setBlock_other hb _ fun e=>hi<|by rw[e]⟩
def aL.entry[DecidableEq K]{t e:TypeId}(h:aL enc P k w b n M)(L:WideMaps.KeyLaw P k)(hinj:∀x y,enc x=enc y->x=y)(ht:P.underlying t=some (.map k e)){z:Value}(hz:∀u:World,(zeroValue e).run P u=.ok z u)(hn:n<maxLen){x:K}{kl:Lit}(hkey:keyOf P k (enc x)=some kl):
  ∃(st:Nat) (w1:World),(Instr.mapEntry t (.map<|some b)<|enc x).run P w=.ok (.tuple #[(M x).getD z,goInt st]) w1/\w.grownBy w1 (some b) /\
   ∀(w2:World) (val:Value),w2.heap[b]?=w1.heap[b]?→∃w3,(Instr.entryStore t (.map<|some b) (goInt st) val).run P w2=.ok () w3/\aL enc P k w3 b (n+1) (iw M x<|some val)/\w2.grownBy w3 (some b):=by
 have LK:=Keyed.of_law L;have hlook:=h.look LK ht (hz w) hkey;have hst:=fun v=>h.store LK hinj ht hn hkey v;obtain⟨D,⟨es,clock,hb,F,hs,hD⟩,h2⟩:=h;obtain⟨v0,st,es1,clock1,hrun,hv0,hback⟩:=WideElems.entry_then_store L ht hz hb F hkey;have hb1:(setBlock w b<|.map es1 clock1).heap[b]?=some (.map es1 clock1):=heap_setBlock_same hb _;have ev:v0=(M x).getD z:=by
  have hl:=hlook;rcases Maps.fit_look false LK ht (hz w) hb F hkey with⟨hrun2,hno,-⟩|⟨e0,y,hmem,hek,hrun2,-,-,-⟩
  ·rw[hl]at hrun2;injection hrun2 with e1;rcases hv0 with⟨e0,hm,hk0,-⟩|⟨-,hz0⟩
   ·exact absurd hk0<|hno e0 hm
   rw[hz0,e1];rfl
  rw[hl]at hrun2;injection hrun2 with e1;rcases hv0 with⟨e1',hm,hk0,hv⟩|⟨hno,-⟩
  ·have hnd:=F.stamped.2.2;have:e1'=e0:=by
    have h3:e1'.key=e0.key:=by rw[hk0,hek]
    obtain⟨i,hi,hie⟩:=Yu.1 hm;obtain⟨j,hj,hje⟩:=Yu.1 hmem;have h4:(es.toList.map (·.key))[i]'(by simpa using hi)=(es.toList.map (·.key))[j]'(by simpa using hj):=by simp only[List.getElem_map,hie,hje];exact h3
    have h6:=List.pairwise_iff_getElem.1 hnd;have h5:i=j:=by
     rcases Nat.lt_trichotomy i j with hl|hl|hl
     ·exact absurd h4<|h6 i j _ _ hl
     ·exact hl
     exact absurd h4.symm<|h6 j i _ _ hl
    subst h5;rw[<-hie,<-hje]
   rw[hv,this,e1];rfl
  exact absurd hek<|hno e0 hmem
 refine⟨st,_,by rw[hrun,ev],rF hb,fun w2 val hw2=>?_⟩;have hw2':w2.heap[b]?=some (.map es1 clock1):=hw2.trans hb1;obtain⟨es',clock',hr1,hr2⟩:=hback w2 val hw2';obtain⟨w',hr3,hM',-⟩:=hst val;rw[hr2]at hr3;injection hr3 with _ e3;refine⟨_,hr1,hM'.of_block ?_,rF hw2'⟩;rw[<-e3,heap_setBlock_same hb,heap_setBlock_same hw2']
end
section
variable  {K:Type}{enc:K->Value}{P:Program}(w:World){ops:Array Oper}{rest:List Oper}{o:Oper}{a:Act}{Q:Exit->Act->World->Prop}
def DR[DecidableEq K](hg:o.guard=none)(m x:Operand)(t:TypeId)(hop:o.op=Op.mapEntry t m x)(k e:TypeId)(L:WideMaps.KeyLaw P k)(hinj:∀x y,enc x=enc y->x=y)(ht:P.underlying t=some (.map k e)){z:Value}(hz:∀u:World,(zeroValue e).run P u=.ok z u)(b n:Nat)(M:K->Option Value)
  (hm:a.eval m=.map (some b)) (hV:aL enc P k w b n M) (hn:n<maxLen) (y:K) (kl:Lit) (hx:a.eval x=enc y) (hkey:keyOf P k (enc y)=some kl)
  (hK:∀ (st:Nat) (w1:World),w.grownBy w1 (some b)->(∀ (w2:World) (val:Value),w2.heap[b]?=w1.heap[b]?→∃ w3,(Instr.entryStore t (.map<|some b) (goInt st) val).run P w2=.ok () w3/\aL enc P k w3 b (n+1) (iw M y<|some val)/\w2.grownBy w3 (some b)) ->
   wpList P ops Q rest (a.put o.dst<|.tuple #[(M y).getD z,goInt st]) w1):wpList P ops Q (o::rest) a w:=by
 refine wpList_plain hg fun K' hK'=>?_;obtain⟨st,w1,hrun,h1,h2⟩:=hV.entry L hinj ht hz hn hkey;unfold Oper.wp;simp[execOp,hop,hm,hx,hrun,Result.andThen];exact hK' _ _<|hK st w1 h1 h2
def vw(hg:o.guard=none)(m s v:Operand)(t:TypeId)(hop:o.op=Op.entryStore t m s v)(b st:Nat)(hm:a.eval m=.map (some b))(hs:a.eval s=goInt st)(u:Value)(hv:a.eval v=u)(k:TypeId)(n:Nat)(M:K->Option Value)
  (hback:∃w3,(Instr.entryStore t (.map<|some b) (goInt st) u).run P w=.ok () w3/\aL enc P k w3 b n M/\w.grownBy w3 (some b))
  (hK:∀w',aL enc P k w' b n M->w.grownBy w' (some b)->wpList P ops Q rest (a.put o.dst undef) w'):wpList P ops Q (o::rest) a w:=by
 refine wpList_plain hg fun K' hK'=>?_;obtain⟨w3,hrun,h1,h2⟩:=hback;unfold Oper.wp;simp[execOp,hop,hm,hs,hv,hrun,Result.andThen];exact hK' _ _<|hK w3 h1 h2
end
set_option linter.unusedVariables false
structure Few{φ υ:Type}(us:φ->υ)(H:List φ->φ->Bool)(qs:List φ)(users:List υ)(out:List φ):Prop where
 set:∀f∈qs,us f ∉ users->f∈out\/H out f=false
def Few.start{φ υ:Type}{us:φ->υ}{H:List φ->φ->Bool}{qs:List φ}{users:List υ}{out:List φ}(h:∀f∈qs,us f∈users):Few us H qs users out:=⟨fun f hf hn=>absurd (h f hf) hn⟩
section
variable  {φ υ:Type}[DecidableEq φ]{us:φ->υ}{H:List φ->φ->Bool}
def Loc(us:φ->υ)(H:List φ->φ->Bool):Prop:=∀(a b:List φ) (f:φ),(∀g,us g=us f->(g∈a↔g∈b))->H a f=H b f
def fJ(H:List φ->φ->Bool)(out:List φ)(f:φ):List φ:=if f∈out\/H out f=false then out else out++[f]
def dh(H:List φ->φ->Bool)(qs:List φ)(out:List φ):List φ:=qs.foldl (fJ H) out
theorem Qw(out:List φ):dh H [] out=out:=rfl
theorem tL(q:φ)(qs out:List φ):dh H (q::qs) out=dh H qs (fJ H out q):=rfl
def Im(zas bs out:List φ):dh H (zas++bs) out=dh H bs (dh H zas out):=by unfold dh;rw[List.foldl_append]
def ym(out:List φ)(f:φ):∃new,fJ H out f=out++new/\∀g∈new,g=f/\g ∉ out/\H out f=true:=by
 unfold fJ;split
 ·exact⟨[],ct,fun g hg=>by cases hg⟩
 rename_i h;refine⟨[f],rfl,fun g hg=>?_⟩;rw[XX]at hg;subst hg;refine⟨rfl,fun e=>h<|.inl e,?_⟩;cases e:H out g;case true=>rfl
 exact absurd (.inr e) h
def lG:∀(qs out:List φ),∃new,dh H qs out=out++new/\∀g∈new,g∈qs/\g ∉ out
 | [],out=>⟨[],by simp[Qw],fun g hg=>by cases hg⟩
 | q::qs,out=>by
  obtain⟨n1,e1,h1⟩:=ym (H:=H) out q;obtain⟨n2,e2,h2⟩:=lG qs<|fJ H out q;refine⟨n1++n2,by rw[tL,e2,e1,Ye],fun g hg=>?_⟩;rcases XV.1 hg with hg|hg
  ·exact⟨by rw[(h1 g hg).1];exact Yx ..,(h1 g hg).2.1⟩
  obtain⟨h3,h4⟩:=h2 g hg;exact⟨Yt _ h3,fun e=>h4<|by rw[e1];exact YN _ e⟩
def rG{qs out:List φ}{g:φ}(h:g∈out):g∈dh H qs out:=by
 obtain⟨n,e,-⟩:=lG (H:=H) qs out;rw[e];exact YN _ h
def yn{out:List φ}{f g:φ}(h:g∈out):g∈fJ H out f:=by
 obtain⟨n,e,-⟩:=ym (H:=H) out f;rw[e];exact YN _ h
def Ko{out:List φ}(h:out.Nodup)(f:φ):(fJ H out f).Nodup:=by
 unfold fJ;split
 ·exact h
 rename_i hn;refine List.nodup_append.2 ⟨h,ct,fun a ha b hb e=>?_⟩;rw[XX]at hb;subst hb;subst e;exact hn<|.inl ha
def yo:∀(qs:List φ) {out:List φ},out.Nodup->(dh H qs out).Nodup
 | [],_,h=>h
 | q::qs,_,h=>yo qs<|Ko h q
def NM{qs out:List φ}(h:∀f∈qs,f∈out\/H out f=false):dh H qs out=out:=by
 induction qs with
 | nil=>rfl
 | cons q qs ih =>
  have e:fJ H out q=out:=if_pos<|h q<|Yx ..;rw[tL,e];exact ih fun f hf=>h f<|Yt _ hf
def om(hL:Loc us H)(P:υ->Bool):∀(qs out:List φ),(∀f∈qs,P (us f)=false->f∈out\/H out f=false)->dh H qs out=dh H (qs.filter fun f=>P<|us f) out
 | [],_,_=>rfl
 | q::qs,out,h=>by
  rw[tL,YS];cases hp:P (us q);case false=>
   have e:fJ H out q=out:=if_pos<|h q (Yx ..) hp;rw[e];exact om hL P qs out fun f hf=>h f<|Yt _ hf
  rw[if_pos rfl,tL];refine om hL P qs _ fun f hf hpf=>?_;have hne:us f≠us q:=fun e=>by rw[e,hp]at hpf;cases hpf
  obtain⟨n,e,hn⟩:=ym (H:=H) out q;have hm:∀g,us g=us f->(g∈out↔g∈fJ H out q):=fun g hg=>by
   rw[e];refine⟨fun h=>YN _ h,fun h=>?_⟩;rcases XV.1 h with h|h
   ·exact h
   exact absurd (by rw[(hn g h).1]at hg;exact hg.symm) hne
  rcases h f (Yt _ hf) hpf with h1|h1
  ·exact .inl<|(hm f rfl).1 h1
  exact .inr (by rw[<-hL out _ f hm];exact h1)
def wH(hL:Loc us H)(u:υ):∀(qs out:List φ),(∀g∈dh H qs out,us g=u->g∈out)->∀f∈qs,us f=u->f∈dh H qs out\/H (dh H qs out) f=false
 | [],_,_,f,hf,_=>by cases hf
 | q::qs,out,h,f,hf,hu=>by
  have hsame:∀g,us g=u->(g∈fJ H out q↔g∈dh H qs (fJ H out q)):=fun g hg=>⟨fun h1=>rG h1,fun h1=>yn<|h g h1 hg⟩;have hrest:∀g∈dh H qs (fJ H out q),us g=u->g∈fJ H out q:=fun g h1 h2=>(hsame g h2).2 h1;rcases X7.1 hf with rfl|hf
  ·show f∈dh H qs (fJ H out f)\/H (dh H qs<|fJ H out f) f=false;by_cases hq:f∈out\/H out f=false
   ·rcases hq with h1|h1
    ·exact .inl<|rG<|yn h1
    refine .inr ?_;rw[<-hL out _ f fun g hg=>?_]
    ·exact h1
    exact⟨fun h2=>rG<|yn h2,fun h2=>h g h2<|hg.trans hu⟩
   have e:fJ H out f=out++[f]:=if_neg hq;exact .inl (rG<|by rw[e];simp)
  exact wH hL u qs _ hrest f hf hu
def mg(H:List φ->φ->Bool)(qs:List φ):Nat->List φ->List φ
 | 0,out=>out
 | k+1,out=>if dh H qs out=out then out else mg H qs k (dh H qs out)
def oo(qs out:List φ):Nat:=(qs.filter fun f=>decide (f ∉ out)).length
def Qx(qs:List φ){a b:List φ}(h:∀g∈a,g∈b):oo qs b<=oo qs a:=by
 unfold oo
 induction qs with
 | nil=>simp
 | cons q qs ih =>
  simp only[YS];by_cases hb:q∈b
  ·by_cases ha:q∈a
   ·simp[ha,hb];simpa using ih
   simp[ha,hb];have:=ih;simp at this;omega
  have ha:q ∉ a:=fun e=>hb<|h q e;simp[ha,hb];simpa using ih
def Qy(qs:List φ){a b:List φ}(h:∀g∈a,g∈b){x:φ}(hx:x∈qs)(ha:x ∉ a)(hb:x∈b):oo qs b<oo qs a:=by
 induction qs with
 | nil=>cases hx
 | cons q qs ih =>
  have hle:=Qx qs h;unfold oo at ih hle⊢;simp only[YS];rcases X7.1 hx with rfl|hx
  ·simp[ha,hb];simp at hle;omega
  have:=ih hx;by_cases h1:q∈b
  ·by_cases h2:q∈a
   ·simp[h1,h2];simpa using this
   simp[h1,h2];simp at this;omega
  have h2:q ∉ a:=fun e=>h1<|h q e;simp[h1,h2];simpa using this
def EH{qs out:List φ}(h:dh H qs out≠out):oo qs (dh H qs out)<oo qs out:=by
 obtain⟨n,e,hn⟩:=lG (H:=H) qs out;cases n with
 | nil=>exact absurd (by simpa using e) h
 | cons x n =>
  obtain⟨h1,h2⟩:=hn x<|Yx ..;exact Qy qs (fun g hg=>rG hg) h1 h2 (by rw[e];simp)
def Bt(qs:List φ):∀(k j:Nat) (out:List φ),oo qs out<k->oo qs out<j->mg H qs k out=mg H qs j out
 | 0,_,_,h,_=>absurd h<|YG _
 | _+1,0,_,_,h=>absurd h<|YG _
 | k+1,j+1,out,h1,h2=>by
  unfold mg;by_cases e:dh H qs out=out
  ·rw[if_pos e,if_pos e]
  rw[if_neg e,if_neg e];have:=EH (H:=H) e;exact Bt qs k j _ cq cq
def oK(H:List φ->φ->Bool)(qs out:List φ):List φ:=mg H qs (oo qs out+1) out
def yt{qs out:List φ}(h:dh H qs out=out):oK H qs out=out:=by
 unfold oK mg;rw[if_pos h]
def EJ(qs out:List φ):oK H qs (dh H qs out)=oK H qs out:=by
 by_cases h:dh H qs out=out
 ·rw[h]
 have hlt:=EH (H:=H) h;have e:oK H qs out=mg H qs (oo qs out) (dh H qs out):=by
  show mg H qs (oo qs out+1) out=_;rw[mg,if_neg h]
 rw[e];unfold oK;exact Bt qs _ _ _ (Nat.lt_succ_self _) hlt
def Qz(out:List φ):oK H [] out=out:=yt rfl
def yu(qs:List φ):∀(k:Nat) (out:List φ),∃new,mg H qs k out=out++new/\∀g∈new,g∈qs
 | 0,out=>⟨[],by simp[mg],fun g hg=>by cases hg⟩
 | k+1,out=>by
  unfold mg;split
  ·exact⟨[],ct,fun g hg=>by cases hg⟩
  obtain⟨n1,e1,h1⟩:=lG (H:=H) qs out;obtain⟨n2,e2,h2⟩:=yu qs k<|dh H qs out;refine⟨n1++n2,by rw[e2,e1,Ye],fun g hg=>?_⟩;rcases XV.1 hg with hg|hg
  ·exact(h1 g hg).1
  exact h2 g hg
def Bu(qs:List φ):∀(k:Nat) {out:List φ},out.Nodup->(mg H qs k out).Nodup
 | 0,_,h=>h
 | k+1,out,h=>by
  unfold mg;split
  ·exact h
  exact Bu qs k<|yo qs h
def NN(qs:List φ){out:List φ}(h:out.Nodup):(oK H qs out).Nodup:=Bu qs _ h
def Few.round[DecidableEq υ](hL:Loc us H){qs:List φ}{users:List υ}{out:List φ}(h:Few us H qs users out):dh H (qs.filter fun f=>decide (us f∈users)) out=dh H qs out :=
 (om hL (fun u=>decide (u∈users)) qs out fun f hf hp=>h.set f hf<|by simpa using hp).symm
def Few.next[DecidableEq υ](hL:Loc us H){qs:List φ}{users users':List υ}{out new:List φ}(h:Few us H qs users out)(hn:dh H qs out=out++new)(hu:∀u,u∈users'↔u∈users/\∃g∈new,us g=u):Few us H qs users' (out++new):=by
 refine⟨fun f hf hnf=>?_⟩;have key:∀g∈dh H qs out,us g=us f->g∈out:=fun g hg hgu=>by
  rw[hn]at hg;rcases XV.1 hg with hg|hg
  ·exact hg
  by_cases hin:us f∈users
  ·exact absurd ((hu _).2 ⟨hin,g,hg,hgu⟩) hnf
  -- a user that was left out before finds none
  have e:=h.round hL;obtain⟨n2,e2,h2⟩:=lG (H:=H) (qs.filter fun f=>decide (us f∈users)) out;rw[e,hn]at e2;have e3:new=n2:=List.append_cancel_left e2;rw[e3]at hg;have h3:=(h2 g hg).1;rw[YL]at h3;have h4:us g∈users:=by simpa using h3.2
  rw[hgu]at h4;exact absurd h4 hin
 have:=wH hL (us f) qs out key f hf rfl;rw[hn]at this;exact this
def Few.done{qs:List φ}{out:List φ}(h:Few us H qs [] out):oK H qs out=out:=yt<|NM fun f hf=>h.set f hf List.not_mem_nil
end
end Go.Proofs.YtojjoblnpldniaaGreat
namespace Go.Proofs.YtojjoblnpldniaaGreat.G
open ChangeShapes WideShapes ChangeAt RowKit Maps
open Pl
variable  {K α:Type}{enc:K->Value}{P:Program}{kt et:TypeId}{sz:Nat}{cl:α->List Value}
def FreeB(M:K->Option Value)(g:Nat):Prop:=∀k v,M k=some v->v.ownBlock≠some g
structure Stl(W:World)(M:K->Option Value)(w2:World)(M2:K->Option Value)(bL:Nat):Prop where
 size:W.heap.size<=w2.heap.size
 block:∀g,g<W.heap.size->g≠bL->FreeB M g->w2.heap[g]?=W.heap[g]?
 free:∀g,g<W.heap.size->FreeB M g->FreeB M2 g
def Stl.refl(W:ag)(M:K->Option Value)(bL:Nat):Stl W M W M bL:=⟨XK _,fun _ _ _ _=>rfl,fun _ _ h=>h⟩
def Stl.trans{W w2 w3:ag}{M M2 M3:K->Option Value}{bL:Nat}(h:Stl W M w2 M2 bL)(h2:Stl w2 M2 w3 M3 bL):Stl W M w3 M3 bL where
 size:=XR h.size h2.size
 block g hg hb hf:=(h2.block g (XJ hg h.size) hb<|h.free g hg hf).trans<|h.block g hg hb hf
 free g hg hf:=h2.free g (XJ hg h.size)<|h.free g hg hf
def Stl.below{W w2:ag}{M:K->Option Value}{bL:Nat}(hB:ae W w2):Stl W M w2 M bL:=⟨hB.size,fun g hg _ _=>hB.block g hg,fun _ _ h=>h⟩
structure Cel(w:World)(M:K->Option Value)(bL g o:Nat)(u:Value):Prop where
 cell:w.cell? ⟨g,o,none⟩=some u
 lt:g<w.heap.size
 free:FreeB M g
 ne:g≠bL
def Cel.stl{w w2:ag}{M M2:K->Option Value}{bL g o:Nat}{u:Value}(h:Cel w M bL g o u)(hS:Stl w M w2 M2 bL):Cel w2 M2 bL g o u where
 cell:=(Yf (w:=w)<|hS.block g h.lt h.ne h.free).trans h.cell
 lt:=XJ h.lt hS.size
 free:=hS.free g h.lt h.free
 ne:=h.ne
def Kq{w w':ag}{base:Nat}{e:TypeId}{size:Nat}{v:Value}{n:Nat}{xs:Q03}(h:w.ownsRow base e size v n xs)(hb:ae w w'):w'.ownsRow base e size v n xs:=by
 have hl:=fun g hg=>(h.lt g hg).2;refine⟨h.1,?_⟩;rcases h.2 with h0|⟨g,cap,cur,rfl,h1,h2,h3⟩
 ·exact .inl h0
 exact .inr ⟨g,cap,cur,rfl,h1,(hb.block g<|hl g rfl).trans h2,h3⟩
variable  [DecidableEq K]
def flatG(cl:α->List Value)(xs:List α):List Value:=xs.flatMap cl
def Kr(cl:α->List Value)(xs:List α)(x:α):flatG cl (xs++[x])=flatG cl xs++cl x:=by simp[flatG]
def lookL(E:List<|K×α)(k:K):List α:=E.filterMap fun p=>if p.1=k then some p.2 else none
def lookL_append(E F:List<|K×α)(k:K):lookL (E++F) k=lookL E k++lookL F k:=by unfold lookL;rw[List.filterMap_append]
def vz(E:List<|K×α)(k:K)(s:α):lookL (E++[(k,s)]) k=lookL E k++[s]:=by rw[lookL_append];simp[lookL]
def rH(E:List<|K×α){k y:K}(s:α)(h:k≠y):lookL (E++[(y,s)]) k=lookL E k:=by rw[lookL_append];simp[lookL,Ne.symm h]
def mem_lookL{E:List<|K×α}{k:K}{s:α}:s∈lookL E k↔(k,s)∈E:=by
 unfold lookL;rw[List.mem_filterMap];constructor
 ·rintro⟨⟨a,b⟩,h1,h2⟩;simp only at h2;split at h2
  ·rename_i e;injection h2 with h2;rw[<-e,<-h2];exact h1
  cases h2
 intro h;exact⟨(k,s),h,ct⟩
structure Grp(enc:K->Value)(P:Program)(kt et:TypeId)(sz:Nat)(cl:α->List Value)(w:World)(bL n:Nat)(M:K->Option Value)(E:List<|K×α):Prop where
 map:aL enc P kt w bL n M
 row:∀k,(M k=none/\lookL E k=[]) \/ ∃v,M k=some v/\w.ownsRow (bL+1) et sz v (lookL E k).length (flatG cl<|lookL E k)
 apart:∀k k' v v',k≠k'->M k=some v->M k'=some v'->∀g,v.ownBlock=some g->v'.ownBlock≠some g
def Grp.lt{w:ag}{bL n:Nat}{M:K->Option Value}{E:List<|K×α}(h:Grp enc P kt et sz cl w bL n M E){k:K}{v:Value}(hk:M k=some v){g:Nat}(hg:v.ownBlock=some g):bL<g/\g<w.heap.size:=by
 rcases h.row k with⟨e,-⟩|⟨v',e,ho⟩
 ·rw[e]at hk;cases hk
 rw[e]at hk;injection hk with hk;subst hk;have:=ho.lt g hg;exact⟨cq,this.2⟩
def Grp.fresh{w:ag}{bL n:Nat}{M:K->Option Value}{E:List<|K×α}(h:Grp enc P kt et sz cl w bL n M E){g:Nat}(hg:w.heap.size<=g):FreeB M g:=fun k v hk e=>by
 have:=(h.lt hk e).2;omega
def Grp.mono{w:ag}{bL n n':Nat}{M:K->Option Value}{E:List<|K×α}(h:Grp enc P kt et sz cl w bL n M E)(hn:n<=n'):Grp enc P kt et sz cl w bL n' M E:=⟨h.map.mono hn,h.row,h.apart⟩
def Grp.below{w w':ag}{bL n:Nat}{M:K->Option Value}{E:List<|K×α}(h:Grp enc P kt et sz cl w bL n M E)(hB:ae w w'):Grp enc P kt et sz cl w' bL n M E where
 map:=h.map.below hB
 row k:=by
  rcases h.row k with e|⟨v,e,ho⟩
  ·exact .inl e
  exact .inr ⟨v,e,Kq ho hB⟩
 apart:=h.apart
def grp_made(w:ag):Grp enc P kt et sz cl (w.alloc<|.map #[] 0) w.heap.size 0 (fun _=>none) [] where
 map:=jL _ _ _ w
 row k:=.inl ⟨rfl,rfl⟩
 apart k k' v v' _ h:=by cases h
def Grp.step{W0 w1 w2 w3:ag}{bL n:Nat}{M:K->Option Value}{E:List<|K×α}{y:K}{v':Value}{s:α}(h:Grp enc P kt et sz cl W0 bL n M E)(hg1:W0.grownBy w1<|some bL)(hown:w2.ownsRow (bL+1) et sz v' ((lookL E y).length+1)<|flatG cl (lookL E y)++cl s)
  (hg2:w1.grownBy w2 ((M y).getD<|.slice none 0 0).ownBlock) (hloc:v'.ownBlock=((M y).getD<|.slice none 0 0).ownBlock\/v'.ownBlock=some w1.heap.size) (hg3:w2.grownBy w3<|some bL) (hM:aL enc P kt w3 bL (n+1)<|iw M y<|some v') :
  Grp enc P kt et sz cl w3 bL (n+1) (iw M y<|some v') (E++[(y,s)])/\Stl W0 M w3 (iw M y<|some v') bL:=by
 have hrow0:∀k v,M k=some v->∃xs m,W0.ownsRow (bL+1) et sz v m xs:=fun k v hk=>by
  rcases h.row k with⟨e,-⟩|⟨v1,e,ho⟩
  ·rw[e]at hk;cases hk
  rw[e]at hk;injection hk with hk;subst hk;exact⟨_,_,ho⟩
 have hne2:∀k v,k≠y->M k=some v->v.ownBlock=none\/v.ownBlock≠((M y).getD<|.slice none 0 0).ownBlock:=fun k v hky hk=>by
  cases e:v.ownBlock with
  | none=>exact .inl rfl
  | some g =>
   right;cases ey:M y with
   | none=>simp[Value.ownBlock]
   | some vy=>intro e2;exact h.apart k y v vy hky hk ey g e (by simpa using e2.symm)
 have hnb:∀v,(∃k,M k=some v)->v.ownBlock=none\/v.ownBlock≠some bL:=fun v ⟨k,hk⟩=>by
  cases e:v.ownBlock with
  | none=>exact .inl rfl
  | some g=>right;have:=(h.lt hk e).1;intro e2;injection e2 with e2;omega
 have hnew:∀g,v'.ownBlock=some g->bL<g:=fun g e=>by have:=(hown.lt g e).1;omega
 have hv'b:v'.ownBlock=none\/v'.ownBlock≠some bL:=by
  cases e:v'.ownBlock with
  | none=>exact .inl rfl
  | some g=>right;have:=hnew g e;intro e2;injection e2 with e2;omega
 constructor
 ·refine⟨hM,fun k=>?_,fun k k' v u hkk hk hk' g e=>?_⟩
  ·by_cases ek:k=y
   ·subst ek;rw[dH,vz];refine .inr ⟨v',rfl,?_⟩;rw[Kr,XT];exact hown.kept hg3 hv'b
   rw[bP ek,rH _ _ ek];rcases h.row k with e|⟨v,e,ho⟩
   ·exact .inl e
   exact .inr ⟨v,e,((ho.kept hg1<|hnb v ⟨k,e⟩).kept hg2<|hne2 k v ek e).kept hg3<|hnb v ⟨k,e⟩⟩
  by_cases ek:k=y
  ·subst ek;rw[dH]at hk;injection hk with hk;subst hk;rw[bP (Ne.symm hkk)]at hk';intro e2;rcases hloc with el|el
   ·rw[e]at el;cases ey:M k with
    | none=>rw[ey]at el;simp[Value.ownBlock]at el
    | some vy=>rw[ey]at el;exact h.apart k k' vy u hkk ey hk' g (by simpa using el.symm) e2
   rw[e]at el;injection el with el;have:=(h.lt hk' e2).2;have:=hg1.size;omega
  rw[bP ek]at hk;by_cases ek':k'=y
  ·subst ek';rw[dH]at hk';injection hk' with hk';subst hk';intro e2;rcases hloc with el|el
   ·rw[e2]at el;cases ey:M k' with
    | none=>rw[ey]at el;simp[Value.ownBlock]at el
    | some vy=>rw[ey]at el;exact h.apart k k' v vy hkk hk ey g e (by simpa using el.symm)
   rw[e2]at el;injection el with el;have:=(h.lt hk e).2;have:=hg1.size;omega
  rw[bP ek']at hk';exact h.apart k k' v u hkk hk hk' g e
 refine⟨XR hg1.size<|XR hg2.size hg3.size,fun g hg hb hf=>?_,fun g hg hf k v hk=>?_⟩
 ·have h1:=hg1.block g hg (fun e=>hb<|by injection e);have h2:=hg2.block g (XJ hg hg1.size) (fun e=>by
   cases ey:M y with
   | none=>rw[ey]at e;simp[Value.ownBlock]at e
   | some vy=>rw[ey]at e;exact hf y vy ey<|by simpa using e.symm)
  have h3:=hg3.block g (XJ hg<|XR hg1.size hg2.size) (fun e=>hb<|by injection e);rw[h3,h2,h1]
 by_cases ek:k=y
 ·subst ek;rw[dH]at hk;injection hk with hk;subst hk;intro e2;rcases hloc with el|el
  ·rw[e2]at el;cases ey:M k with
   | none=>rw[ey]at el;simp[Value.ownBlock]at el
   | some vy=>rw[ey]at el;exact hf k vy ey (by simpa using el.symm)
  rw[e2]at el;injection el with el;have:=hg1.size;omega
 rw[bP ek]at hk;exact hf k v hk
end Go.Proofs.YtojjoblnpldniaaGreat.G
namespace Go.Proofs.YtojjoblnpldniaaGreat
open RowKit
section
variable  {P:Program}{ops:Array Oper}{Q:Exit->Act->World->Prop}
def qY{id:Nat}{a:Act}{w:ag}(L:Nat)(f0:Nat->Value)(F:(Nat->Value)->Act)(I:(Nat->Bool)->(Nat->Value)->World->Prop)
  (hm:P.follows .mixedOrders=true) (hsz:ops.size=L+1) (ZN:Bg ops=true) (hlo:Bd ops L=true)
  (h0:a=F f0) (hI0:I (fun _=>false) f0 w.drew)
  (hstep:∀ i,i<L->∀ o,ops[i]?=some o->∀ (l:Nat->Bool) f w',l i=false->I l f w'->(∀ e∈o.after,Region.binds .any e=true->l e.on=true) ->
   wpOp P ops Q i (fun a' w''=>∃v,a'=F (upd f i v)/\I (fun k=>if k=i then true else l k) (upd f i v) w'') (F f) w')
  (hfin:∀o,ops[L]?=some o->∀(l:Nat->Bool) f w',(∀k,k<L->l k=true)->I l f w'->wpOp P ops Q L (fun a' w''=>Q .normal a' w'') (F f) w') :
  (Code.region id ops true).wp P Q a w:=by
 refine iD (fun listed a' w'=>listed.size=L+1/\((listed.getD L false=false/\∃f,a'=F f/\I (fun k=>listed.getD k false) f w')\/((∀j,j<=L->listed.getD j true=true)/\Q .normal a' w'))) hm ?_ ?_ ?_
 ·refine⟨by simpa using hsz,Or.inl ⟨?_,_,h0,?_⟩⟩
  ·rw[Yd,Yw];split<;>rfl
  have:(fun k=>(Array.replicate ops.size false).getD k false)=fun _=>false:=funext fun k=>by rw[Yd,Yw];split<;>rfl
  rw[this];exact hI0
 ·rintro listed a' w' ⟨hs,h⟩ i hi;obtain⟨hl,o,ho,hpre⟩:=mem_ready.1 hi;have hiL:i<L+1:=by have:=(XO.1 ho).1;omega
  rcases h with⟨hn,f,rfl,hI⟩|⟨hall,-⟩
  ·by_cases e:i=L
   ·subst e;have hall:∀k,k<i->listed.getD k false=true:=fun k hk=>by
     obtain⟨e,he,rfl,hb⟩:=Es hlo o ho k hk;exact hpre e he hb
    refine wpOp_mono (fun a'' w'' hq=>⟨by simpa using hs,Or.inr ⟨fun j hj=>?_,hq⟩⟩) (hfin o ho _ f w' hall hI);rw[kK (by simp;omega),aV _ _ _ cq];by_cases e:j=i
    ·simp[e]
    rw[if_neg e];exact hall j cq
   refine wpOp_mono ?_ (hstep i cq o ho _ f w' (by rw[<-kK cq];exact hl) hI (fun e he hb=>hpre e he hb));rintro a'' w'' ⟨v,rfl,hI'⟩;refine⟨by simpa using hs,Or.inl ⟨?_,_,rfl,?_⟩⟩
   ·rw[aV _ _ _ cq,if_neg<|Ne.symm e];exact hn
   have:(fun k=>(listed.setIfInBounds i true).getD k false)=fun k=>if k=i then true else listed.getD k false:=funext fun k=>aV _ _ _ cq
   rw[this];exact hI'
  rw[hall i cq]at hl;cases hl
 rintro listed a' w' ⟨hs,h⟩ hr;rcases h with⟨hn,-⟩|⟨-,hq⟩
 ·have:=rD hr hsz (tJ ZN) hs L cq;rw[kK cq]at this;rw[this]at hn;cases hn
 exact hq
end
end Go.Proofs.YtojjoblnpldniaaGreat
namespace Go.Proofs.YtojjoblnpldniaaGreat.G
set_option linter.unusedVariables false
open ChangeShapes WideShapes ChangeAt RowKit Maps
open Pl
def Back{K:Type}[DecidableEq K](enc:K->Value)(P:Program)(kt t:TypeId)(bp n:Nat)(M:K->Option Value)(y:K)(st:Nat)(w:World):Prop :=
 ∀(w2:World) (val:Value),w2.heap[bp]?=w.heap[bp]?→∃w3,(Instr.entryStore t (.map<|some bp) (goInt st) val).run P w2=.ok () w3/\aL enc P kt w3 bp (n+1) (iw M y<|some val)/\w2.grownBy w3 (some bp)
def put(l:Nat->Bool)(i:Nat):Nat->Bool:=fun k=>if k=i then true else l k
structure EA(C:Nat->Value)(NEW:Array Value)(et:TypeId)(W:World)(l:Nat->Bool)(f:Nat->Value)(w:World):Prop where
 late:∀k,7<=k->k<=10->l k=false
 bel:ae W w
 val:∀k,k<=5->l k=true->f k=C k
 row:l 6=true->∃g,f 6=.slice (some ⟨g,0,none⟩) 1 1/\W.heap.size<=g/\w.heap[g]?=some (.cells NEW et (0,0))
structure EB(C:Nat->Value)(NEW:Array Value)(et:TypeId)(W:World)(bp:Nat)(row0:Value)(BK:Nat->World->Prop)(l:Nat->Bool)(f:Nat->Value)(w:World):Prop where
 low:∀k,k<=7->l k=true
 l9:l 9=false
 val:∀k,k<=5->f k=C k
 mid:∃(W0:World) (st g:Nat),ae W W0/\f 6=.slice (some ⟨g,0,none⟩) 1 1/\W.heap.size<=g/\W0.heap[g]?=some (.cells NEW et (0,0))/\W0.grownBy w (some bp)/\f 7=.tuple #[row0,goInt st]/\BK st w/\(l 8=true->f 8=row0)/\(l 10=true->f 10=goInt st)
structure EC(C:Nat->Value)(NEW:Array Value)(et:TypeId)(sz:Nat)(W:World)(bp:Nat)(row0:Value)(nn:Nat)(xs:Q03)(BK:Nat->World->Prop)(l:Nat->Bool)(f:Nat->Value)(w:World):Prop where
 low:∀k,k<=9->l k=true
 val:∀k,k<=5->f k=C k
 mid:∃(W0 w1:World) (st:Nat),ae W W0/\W0.grownBy w1 (some bp)/\w1.grownBy w row0.ownBlock/\w.ownsRow (bp+1) et sz (f 9) (nn+1) (xs++NEW.toList)/\((f 9).ownBlock=row0.ownBlock\/(f 9).ownBlock=some w1.heap.size)/\BK st w1/\f 7=.tuple #[row0,goInt st]/\(l 10=true->f 10=goInt st)
def EI(C:Nat->Value)(NEW:Array Value)(et:TypeId)(sz:Nat)(W:World)(bp:Nat)(row0:Value)(nn:Nat)(xs:Q03)(BK:Nat->World->Prop)(l:Nat->Bool)(f:Nat->Value)(w:World):Prop :=
 EA C NEW et W l f w\/EB C NEW et W bp row0 BK l f w\/EC C NEW et sz W bp row0 nn xs BK l f w
section
variable  {C:Nat->Value}{NEW:Array Value}{et:TypeId}{sz:Nat}{W:World}{bp:Nat}{row0:Value}{nn:Nat}{xs:Q03}{BK:Nat->World->Prop}{l:Nat->Bool}{f:Nat->Value}{w:World}
def ei_start(W:ag):EI C NEW et sz W bp row0 nn xs BK (fun _=>false) f W.drew:=.inl ⟨fun _ _ _=>rfl,(XL _ _).drew,fun _ _ h=>(by cases h),fun h=>(by cases h)⟩
def EI.early(h:EI C NEW et sz W bp row0 nn xs BK l f w){i:Nat}(hi:i<=7)(hl:l i=false):EA C NEW et W l f w:=by
 rcases h with h|h|h
 ·exact h
 ·rw[h.low i hi]at hl;cases hl
 rw[h.low i cq]at hl;cases hl
def EA.put{i:Nat}(h:EA C NEW et W l f w)(hi:i<=5){v:Value}(hv:v=C i):EI C NEW et sz W bp row0 nn xs BK (fun k=>if k=i then true else l k) (upd f i v) w:=by
 refine .inl ⟨fun k h7 h10=>?_,h.bel,fun k hk hl=>?_,fun hl=>?_⟩
 ·show(if _=_ then true else _)=_;rw[if_neg cq];exact h.late k h7 h10
 ·by_cases e:k=i
  ·subst e;simp[upd,hv]
  simp only[if_neg e]at hl;simp only[upd,if_neg e];exact h.val k hk hl
 replace hl:(if _=_ then true else _)=true:=hl;rw[if_neg cq]at hl;simp only[upd];rw[if_neg cq];exact h.row hl
def EA.lay(h:EA C NEW et W l f w):EI C NEW et sz W bp row0 nn xs BK (fun k=>if k=6 then true else l k) (upd f 6<|.slice (some<|am w.heap.size) 1 1) (w.alloc<|.cells NEW et):=by
 refine .inl ⟨fun k h7 h10=>?_,h.bel.alloc h.bel.size _,fun k hk hl=>?_,fun _=>⟨w.heap.size,by simp[upd],h.bel.size,heap_alloc_new w _⟩⟩
 ·show(if _=_ then true else _)=_;rw[if_neg cq];exact h.late k h7 h10
 replace hl:(if _=_ then true else _)=true:=hl;rw[if_neg cq]at hl;simp only[upd];rw[if_neg cq];exact h.val k hk hl
def EA.took(h:EA C NEW et W l f w)(hall:∀k,k<=6->l k=true){st:Nat}{w1:ag}(hg:w.grownBy w1<|some bp)(hb:BK st w1):EI C NEW et sz W bp row0 nn xs BK (fun k=>if k=7 then true else l k) (upd f 7<|.tuple #[row0,goInt st]) w1:=by
 obtain⟨g,e6,hg6,hc⟩:=h.row<|hall 6 cq;refine .inr<|.inl ⟨fun k hk=>?_,?_,fun k hk=>?_,w,st,g,h.bel,?_,hg6,hc,hg,?_,hb,fun h8=>?_,fun h10=>?_⟩
 ·by_cases e:k=7
  ·simp[e]
  simp only[if_neg e];exact hall k cq
 ·show(if (9:Nat)=7 then true else l 9)=false;rw[if_neg cq];exact h.late 9 cq cq
 ·simp only[upd];rw[if_neg cq];exact h.val k hk<|hall k cq
 ·simp only[upd];rw[if_neg cq];exact e6
 ·simp[upd]
 ·have:(if (8:Nat)=7 then true else l 8)=true:=h8;rw[if_neg cq,h.late 8 cq cq]at this;cases this
 have:(if (10:Nat)=7 then true else l 10)=true:=h10;rw[if_neg cq,h.late 10 cq cq]at this;cases this
def EI.midB(h:EI C NEW et sz W bp row0 nn xs BK l f w)(h7:l 7=true){i:Nat}(hi:i<=9)(hl:l i=false):EB C NEW et W bp row0 BK l f w:=by
 rcases h with h|h|h
 ·rw[h.late 7 cq cq]at h7;cases h7
 ·exact h
 rw[h.low i hi]at hl;cases hl
def EI.seven(h:EI C NEW et sz W bp row0 nn xs BK l f w)(h7:l 7=true):∃st:Nat,f 7=.tuple #[row0,goInt st]:=by
 rcases h with h|h|h
 ·rw[h.late 7 cq cq]at h7;cases h7
 ·obtain⟨_,st,_,_,_,_,_,_,e,_⟩:=h.mid;exact⟨st,e⟩
 obtain⟨_,_,st,_,_,_,_,_,_,e,_⟩:=h.mid;exact⟨st,e⟩
def EB.first(h:EB C NEW et W bp row0 BK l f w):EI C NEW et sz W bp row0 nn xs BK (fun k=>if k=8 then true else l k) (upd f 8 row0) w:=by
 obtain⟨W0,st,g,h1,h2,h3,h4,h5,h6,h7,h8,h9⟩:=h.mid;refine .inr<|.inl ⟨fun k hk=>?_,?_,fun k hk=>?_,W0,st,g,h1,?_,h3,h4,h5,?_,h7,fun _=>?_,fun h10=>?_⟩
 ·show(if _=_ then true else _)=_;rw[if_neg cq];exact h.low k hk
 ·show(if (9:Nat)=8 then true else l 9)=false;rw[if_neg cq];exact h.l9
 ·simp only[upd];rw[if_neg cq];exact h.val k hk
 ·simp only[upd];rw[if_neg cq];exact h2
 ·simp only[upd];rw[if_neg cq];exact h6
 ·simp[upd]
 have h10':(if (10:Nat)=8 then true else l 10)=true:=h10;rw[if_neg cq]at h10';simp only[upd];rw[if_neg cq];exact h9 h10'
def EI.second(h:EI C NEW et sz W bp row0 nn xs BK l f w)(h7:l 7=true){st:Nat}(e:f 7=.tuple #[row0,goInt st]):EI C NEW et sz W bp row0 nn xs BK (fun k=>if k=10 then true else l k) (upd f 10<|goInt st) w:=by
 have same:∀st':Nat,.tuple #[row0,goInt st']=Value.tuple #[row0,goInt st]->goInt st'=goInt st:=fun st' e=>by
  injection e with e;have:=congrArg Array.toList e;simp only[List.cons.injEq]at this;exact this.2.1
 rcases h with h|h|h
 ·rw[h.late 7 cq cq]at h7;cases h7
 ·obtain⟨W0,st',g,h1,h2,h3,h4,h5,h6,hb,h8,h9⟩:=h.mid;have es:=same st'<|h6.symm.trans e;refine .inr<|.inl ⟨fun k hk=>?_,?_,fun k hk=>?_,W0,st',g,h1,?_,h3,h4,h5,?_,hb,fun h8'=>?_,fun _=>?_⟩
  ·show(if _=_ then true else _)=_;rw[if_neg cq];exact h.low k hk
  ·show(if (9:Nat)=10 then true else l 9)=false;rw[if_neg cq];exact h.l9
  ·simp only[upd];rw[if_neg cq];exact h.val k hk
  ·simp only[upd];rw[if_neg cq];exact h2
  ·simp only[upd];rw[if_neg cq];exact h6
  ·have h8'':(if (8:Nat)=10 then true else l 8)=true:=h8';rw[if_neg cq]at h8'';simp only[upd];rw[if_neg cq];exact h8 h8''
  simp[upd,es]
 obtain⟨W0,w1,st',h1,h2,h3,h4,h5,hb,h6,h9⟩:=h.mid;have es:=same st'<|h6.symm.trans e;refine .inr<|.inr ⟨fun k hk=>?_,fun k hk=>?_,W0,w1,st',h1,h2,h3,?_,?_,hb,?_,fun _=>?_⟩
 ·show(if _=_ then true else _)=_;rw[if_neg cq];exact h.low k hk
 ·simp only[upd];rw[if_neg cq];exact h.val k hk
 ·simp only[upd];rw[if_neg cq];exact h4
 ·simp only[upd];rw[if_neg cq];exact h5
 ·simp only[upd];rw[if_neg cq];exact h6
 simp[upd,es]
def EB.app(h:EB C NEW et W bp row0 BK l f w)(h8:l 8=true){v':Value}{w':ag}(hg:w.grownBy w' row0.ownBlock)(ho:w'.ownsRow (bp+1) et sz v' (nn+1)<|xs++NEW.toList)(hloc:v'.ownBlock=row0.ownBlock\/v'.ownBlock=some w.heap.size):EI C NEW et sz W bp row0 nn xs BK (fun k=>if k=9 then true else l k) (upd f 9 v') w':=by
 obtain⟨W0,st,g,h1,h2,h3,h4,h5,h6,hb,_,h9⟩:=h.mid;refine .inr<|.inr ⟨fun k hk=>?_,fun k hk=>?_,W0,w,st,h1,h5,hg,?_,?_,hb,?_,fun h10=>?_⟩
 ·by_cases e:k=9
  ·simp[e]
  by_cases e8:k=8
  ·simp only[if_neg e];rw[e8];exact h8
  simp only[if_neg e];exact h.low k cq
 ·simp only[upd];rw[if_neg cq];exact h.val k hk
 ·simp only[upd,if_true];exact ho
 ·simp only[upd,if_true];exact hloc
 ·simp only[upd];rw[if_neg cq];exact h6
 have h10':(if (10:Nat)=9 then true else l 10)=true:=h10;rw[if_neg cq]at h10';simp only[upd];rw[if_neg cq];exact h9 h10'
def EI.last(h:EI C NEW et sz W bp row0 nn xs BK l f w)(hall:∀k,k<11->l k=true):EC C NEW et sz W bp row0 nn xs BK l f w:=by
 rcases h with h|h|h
 ·have:=hall 7 cq;rw[h.late 7 cq cq]at this;cases this
 ·have:=hall 9 cq;rw[h.l9]at this;cases this
 exact h
end
end Go.Proofs.YtojjoblnpldniaaGreat.G
namespace Go.Proofs.YtojjoblnpldniaaGreat
open ChangeShapes WideShapes ChangeAt RowKit Maps
abbrev K3:=ByteArray×ByteArray×ByteArray
def rJ(k:K3):Value:=.agg #[.string k.1,.string k.2.1,.string k.2.2]
def QA(x y:K3)(h:rJ x=rJ y):x=y:=by
 unfold rJ at h;injection h with h;have h1:=congrArg Array.toList h;simp at h1;exact Prod.ext h1.1<|Prod.ext h1.2.1 h1.2.2
def WS:(273:TypeId)<prog.types.size:=of_decide_eq_true cw
def VH:(match prog.underlying 273 with|some (.array _ _)|some (.struct _)=>true|_=>false)=true:=by rw[underlying273]
set_option maxRecDepth 100000 in
def QB:WideMaps.KeyLaw prog 273:=deep_law_laid Bh (m:=3) cq WS cw VH
def M4:Keyed prog 273:=Keyed.of_law QB
def VI:prog.keyType 273=true:=cw
def M5:prog.cellsOf 273=3:=cw
def NP:prog.cellsOf 27=2:=cw
def NQ:2<=prog.types.size:=of_decide_eq_true cw
def Bv:∃n,prog.types.size=n+2:=⟨prog.types.size-2,by have:=NQ;omega⟩
set_option maxRecDepth 100000 in
def wI(k:K3)(h0:k.1.size<=maxLen)(h1:k.2.1.size<=maxLen)(h2:k.2.2.size<=maxLen):∃kl,keyOf prog 273 (rJ k)=some kl:=by
 obtain⟨n,hn⟩:=Bv;refine⟨.string<|keyBytes [.string k.1.data.toList,.string k.2.1.data.toList,.string k.2.2.data.toList],?_⟩;unfold keyOf;rw[underlying273];simp only[VI,rJ,Value.formed,underlying273,M5,hn,Value.cells];simp +decide [Program.keyLits,underlying273,underlying27,underlying9,M5,NP,strCells,h0,h1,h2]
abbrev KL:=ByteArray×Int
def Io(k:KL):Value:=.agg #[.string k.1,.int .i64 k.2]
def QC(x y:KL)(h:Io x=Io y):x=y:=by
 unfold Io at h;injection h with h;have h1:=congrArg Array.toList h;simp at h1;exact Prod.ext h1.1 h1.2
def WT:(197:TypeId)<prog.types.size:=of_decide_eq_true cw
def VJ:(match prog.underlying 197 with|some (.array _ _)|some (.struct _)=>true|_=>false)=true:=by rw[underlying197]
set_option maxRecDepth 100000 in
def QD:WideMaps.KeyLaw prog 197:=deep_law_laid Bh (m:=2) cq WT cw VJ
def WU:Keyed prog 197:=Keyed.of_law QD
def VK:prog.keyType 197=true:=cw
def M7:prog.cellsOf 197=2:=cw
def QE:prog.cellsOf 2=1:=cw
set_option maxRecDepth 100000 in
def M8(k:KL)(h0:k.1.size<=maxLen)(h1:0<=k.2)(h2:k.2<=1000000):∃kl,keyOf prog 197 (Io k)=some kl:=by
 have hw:(Lit.int .i64 k.2).wf=true:=WalkArith.wf_i64 ⟨cq,cq⟩;obtain⟨n,hn⟩:=Bv;refine⟨.string<|keyBytes [.string k.1.data.toList,.int .i64 k.2],?_⟩;unfold keyOf;rw[underlying197];simp only[VK,Io,Value.formed,underlying197,M7,hn,Value.cells];simp +decide [Program.keyLits,underlying197,underlying2,underlying9,M7,QE,strCells,h0,hw]
section
variable  {P:Program}{ops:Array Oper}{Q:Exit->Act->World->Prop}
def kU{id:Nat}{a:Act}{w:ag}(L:Nat)(f0:Nat->Value)(F:(Nat->Value)->Act)(I:(Nat->Bool)->(Nat->Value)->World->Prop)
  (hm:P.follows .mixedOrders=true) (hsz:ops.size=L+1) (ZN:Bg ops=true)
  (hcl:∀o,ops[L]?=some o->∀(l:Nat->Bool) f w',I l f w'->(∀e∈o.after,Region.binds .any e=true->l e.on=true)->∀k,k<L->l k=true)
  (h0:a=F f0) (hI0:I (fun _=>false) f0 w.drew)
  (hstep:∀ i,i<L->∀ o,ops[i]?=some o->∀ (l:Nat->Bool) f w',l i=false->I l f w'->(∀ e∈o.after,Region.binds .any e=true->l e.on=true) ->
   wpOp P ops Q i (fun a' w''=>∃v,a'=F (upd f i v)/\I (fun k=>if k=i then true else l k) (upd f i v) w'') (F f) w')
  (hfin:∀o,ops[L]?=some o->∀(l:Nat->Bool) f w',(∀k,k<L->l k=true)->I l f w'->wpOp P ops Q L (fun a' w''=>Q .normal a' w'') (F f) w') :
  (Code.region id ops true).wp P Q a w:=by
 refine iD (fun listed a' w'=>listed.size=L+1/\((listed.getD L false=false/\∃f,a'=F f/\I (fun k=>listed.getD k false) f w')\/((∀j,j<=L->listed.getD j true=true)/\Q .normal a' w'))) hm ?_ ?_ ?_
 ·refine⟨by simpa using hsz,Or.inl ⟨?_,_,h0,?_⟩⟩
  ·rw[Yd,Yw];split<;>rfl
  have:(fun k=>(Array.replicate ops.size false).getD k false)=fun _=>false:=funext fun k=>by rw[Yd,Yw];split<;>rfl
  rw[this];exact hI0
 ·rintro listed a' w' ⟨hs,h⟩ i hi;obtain⟨hl,o,ho,hpre⟩:=mem_ready.1 hi;have hiL:i<L+1:=by have:=(XO.1 ho).1;omega
  rcases h with⟨hn,f,rfl,hI⟩|⟨hall,-⟩
  ·by_cases e:i=L
   ·subst e;have hall:∀k,k<i->listed.getD k false=true:=hcl o ho _ f w' hI fun e he hb=>hpre e he hb;refine wpOp_mono (fun a'' w'' hq=>⟨by simpa using hs,Or.inr ⟨fun j hj=>?_,hq⟩⟩) (hfin o ho _ f w' hall hI);rw[kK (by simp;omega),aV _ _ _ cq];by_cases e:j=i
    ·simp[e]
    rw[if_neg e];exact hall j cq
   refine wpOp_mono ?_ (hstep i cq o ho _ f w' (by rw[<-kK cq];exact hl) hI (fun e he hb=>hpre e he hb));rintro a'' w'' ⟨v,rfl,hI'⟩;refine⟨by simpa using hs,Or.inl ⟨?_,_,rfl,?_⟩⟩
   ·rw[aV _ _ _ cq,if_neg<|Ne.symm e];exact hn
   have:(fun k=>(listed.setIfInBounds i true).getD k false)=fun k=>if k=i then true else listed.getD k false:=funext fun k=>aV _ _ _ cq
   rw[this];exact hI'
  rw[hall i cq]at hl;cases hl
 rintro listed a' w' ⟨hs,h⟩ hr;rcases h with⟨hn,-⟩|⟨-,hq⟩
 ·have:=rD hr hsz (tJ ZN) hs L cq;rw[kK cq]at this;rw[this]at hn;cases hn
 exact hq
end
end Go.Proofs.YtojjoblnpldniaaGreat
namespace Go.Proofs.YtojjoblnpldniaaGreat.G
set_option linter.unusedVariables false
open ChangeShapes WideShapes ChangeAt RowKit
structure WI(C:Nat->Value)(W:World)(CD:Value->World->Prop)(l:Nat->Bool)(f:Nat->Value)(w:World):Prop where
 val:∀k,k<=9->k≠7->l k=true->f k=C k
 seq:l 7=true->l 4=true/\l 6=true
 nin:l 9=true->l 8=true
 mid:(l 7=false/\ae W w)\/(l 7=true/\CD (f 7) w)
section
variable  {C:Nat->Value}{W:World}{CD:Value->World->Prop}{l:Nat->Bool}{f:Nat->Value}{w:World}
def wi_start(W:ag):WI C W CD (fun _=>false) f W.drew:=⟨fun _ _ _ h=>(by cases h),fun h=>(by cases h),fun h=>(by cases h),.inl ⟨rfl,(XL _ _).drew⟩⟩
def WI.put(h:WI C W CD l f w){i:Nat}(hi:i≠7)(h9:i=9->l 8=true){v:Value}(hv:v=C i):WI C W CD (fun k=>if k=i then true else l k) (upd f i v) w:=by
 refine⟨fun k hk h7 hl=>?_,fun hl=>?_,fun hl=>?_,?_⟩
 ·by_cases e:k=i
  ·subst e;simp[upd,hv]
  simp only[if_neg e]at hl;simp only[upd,if_neg e];exact h.val k hk h7 hl
 ·have hl':(if (7:Nat)=i then true else l 7)=true:=hl;rw[if_neg (Ne.symm hi)]at hl';have:=h.seq hl';constructor
  ·show(if (4:Nat)=i then true else l 4)=true;rw[this.1];split<;>rfl
  show(if (6:Nat)=i then true else l 6)=true;rw[this.2];split<;>rfl
 ·have hl':(if (9:Nat)=i then true else l 9)=true:=hl;show(if (8:Nat)=i then true else l 8)=true;by_cases e:(9:Nat)=i
  ·rw[h9 e.symm];split<;>rfl
  rw[if_neg e]at hl';rw[h.nin hl'];split<;>rfl
 have e7:(if (7:Nat)=i then true else l 7)=l 7:=if_neg<|Ne.symm hi;have f7:upd f i v 7=f 7:=by simp only[upd];rw[if_neg (Ne.symm hi)]
 rcases h.mid with⟨h1,h2⟩|⟨h1,h2⟩
 ·exact .inl ⟨e7.trans h1,h2⟩
 exact .inr ⟨e7.trans h1,by rw[f7];exact h2⟩
def WI.before(h:WI C W CD l f w)(hl:l 7=false):ae W w:=by
 rcases h.mid with⟨_,h2⟩|⟨h1,_⟩
 ·exact h2
 rw[h1]at hl;cases hl
def WI.early(h:WI C W CD l f w)(hl:l 4=false\/l 6=false):ae W w:=by
 refine h.before ?_;cases h7:l 7;case false=>rfl
 obtain⟨h4,h6⟩:=h.seq h7;rcases hl with e|e
 ·rw[h4]at e;cases e
 rw[h6]at e;cases e
def WI.call(h:WI C W CD l f w)(h4:l 4=true)(h6:l 6=true){v:Value}{w':ag}(hc:CD v w'):WI C W CD (fun k=>if k=7 then true else l k) (upd f 7 v) w':=by
 refine⟨fun k hk h7 hl=>?_,fun _=>⟨by simp[h4],by simp[h6]⟩,fun hl=>h.nin hl,.inr ⟨ct,by simp only[upd,if_true];exact hc⟩⟩;simp only[if_neg h7]at hl;simp only[upd,if_neg h7];exact h.val k hk h7 hl
def WI.last(h:WI C W CD l f w)(hall:∀k,k<10->l k=true):(∀k,k<=9->k≠7->f k=C k)/\CD (f 7) w:=by
 refine⟨fun k hk h7=>h.val k hk h7<|hall k cq,?_⟩;rcases h.mid with⟨h1,_⟩|⟨_,h2⟩
 ·rw[hall 7 cq]at h1;cases h1
 exact h2
end
end Go.Proofs.YtojjoblnpldniaaGreat.G
