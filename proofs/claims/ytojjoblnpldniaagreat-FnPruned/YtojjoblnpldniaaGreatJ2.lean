/- A region that draws its order, by what holds whichever operations have come up: each operation is run once, from what those that it waits for have left. -/
import Derived.Test.YtojjoblnpldniaaGreatSq
import Derived.Deep.RegionWith
import Derived.OwnWalk
import Derived.Maps.AppendAt
import Derived.RegionTactic
import Derived.Test.YtojjoblnpldniaaGreatJ1
import Derived.Maps.OwnSet
import Derived.DeepKeys4
import Derived.Lib.QuietBelow
import Derived.BigQuiet
import Derived.Lib.IndexMore
import Derived.Lib.IndexBytes
import Derived.Lib.Strings
import Derived.WideKeyEntry
import Derived.WalkArith
open Go.Proofs.Tryz
namespace Go.Proofs.YtojjoblnpldniaaGreat
open RowKit
theorem OI{α:Type}(p q:α->Bool)(l:List α)(h:∀x∈l,q x=true->p x=true)(y:α)(hy:y∈l)(hp:p y=true)(hq:q y=false):l.countP q<l.countP p:=by
 induction l with
 | nil=>cases hy
 | cons a l ih =>
  rw[List.countP_cons,List.countP_cons];rcases VL.1 hy with rfl|hy
  ·have:=List.countP_mono_left (p:=q) (q:=p) (l:=l) (fun x hx=>h x (V7 _ hx));simp[hp,hq];omega
  have h1:=ih (fun x hx=>h x (V7 _ hx)) hy;have h2:=h a (Ws ..);cases hqa:q a;case true=>simp[h2 hqa];omega
  simp;omega
section
variable  {P:Program}{ops:Array Oper}{Q:Exit->Act->World->Prop}{md:Region.Mode}
theorem aa{i:Nat}{o:Oper}{K:Act->World->Prop}{a:Act}{w:af}(ho:ops[i]?=some o)
  (h:∀K':Act->World->Prop,Hid (∀a w,K a w->K' a w)->if Region.wanted o (yielded ops a.tmps)=true then Oper.wp P o a w K' Q else K' (a.put o.dst undef) w):wpOp P ops Q i K a w:=wpOp_step ho h
def left(ops:Array Oper)(listed:Array Bool):Nat:=(List.range ops.size).countP (fun i=>!(listed.getD i true))
theorem F8(listed:Array Bool)(i j:Nat):(listed.setIfInBounds i true).getD j true=if j=i then true else listed.getD j true:=by
 rw[VQ,VQ,Array.getElem?_setIfInBounds];by_cases e:i=j
 ·subst e;by_cases h:i<listed.size<;>simp[h]
 simp[e,Ne.symm e]
theorem F9{listed:Array Bool}{i:Nat}(hi:i<ops.size)(hl:listed.getD i true=false):left ops (listed.setIfInBounds i true)<left ops listed:=by
 refine OI _ _ _ ?_ i (by simpa using hi) (by simp[hl]) (by rw[F8];simp);intro x _ hx;simp only[F8,Bool.not_eq_true']at hx ⊢;by_cases e:x=i
 ·simp[e]at hx
 simpa[e] using hx
theorem Mj(Inv:Array Bool->Act->World->Prop)
  (hstep:∀listed a w,Inv listed a w->∀i∈Region.ready md ops listed,wpOp P ops Q i (Inv (listed.setIfInBounds i true)) a w)
  (hend:∀listed a w,Inv listed a w->Region.ready md ops listed=[]->Q .normal a w) :
  ∀(fuel:Nat) (listed:Array Bool) (a:Act) (w:World),left ops listed<=fuel->Inv listed a w->wpAny P md ops Q fuel listed a w:=by
 intro fuel
 induction fuel with
 | zero =>
  intro listed a w hc hI;have hr:Region.ready md ops listed=[]:=by
   rw[List.eq_nil_iff_forall_not_mem];intro i hi;obtain⟨h1,o,h2,-⟩:=mem_ready.1 hi;have:=F9 (ops:=ops) (VC.1 h2).1 h1;omega
  exact⟨hr,hend _ _ _ hI hr⟩
 | succ n ih =>
  intro listed a w hc hI;refine⟨fun hr=>hend _ _ _ hI hr,fun i hi=>wpOp_mono (fun a' w' h=>ih _ _ _ ?_ h) (hstep _ _ _ hI i hi)⟩;obtain⟨h1,o,h2,-⟩:=mem_ready.1 hi;have:=F9 (ops:=ops) (VC.1 h2).1 h1;omega
theorem Rq(ops:Array Oper)(listed:Array Bool):left ops listed<=ops.size:=by
 unfold left;exact Vz List.countP_le_length (by simp)
theorem eu{id:Nat}{a:Act}{w:af}(Inv:Array Bool->Act->World->Prop)(hm:P.follows .mixedOrders=true)
  (h0:Inv (Array.replicate ops.size false) a w.drew)
  (hstep:∀listed a w,Inv listed a w->∀i∈Region.ready .any ops listed,wpOp P ops Q i (Inv (listed.setIfInBounds i true)) a w)
  (hend:∀listed a w,Inv listed a w->Region.ready .any ops listed=[]->Q .normal a w):(Code.region id ops true).wp P Q a w :=
 wp_region_any hm (Mj Inv hstep hend _ _ _ _ (Rq _ _) h0)
theorem o9{listed:Array Bool}{n:Nat}(hr:Region.ready md ops listed=[])(hs:ops.size=n)(Xo:∀(i:Nat) (o:Oper),ops[i]?=some o->∀e∈o.after,e.on<i)(hsz:listed.size=n):∀i,i<n->listed.getD i true=true:=by
 intro i
 induction i using Nat.strongRecOn with
 | ind i ih =>
  intro hi;cases hl:listed.getD i true;case true=>rfl
  exfalso;have hmem:i∈Region.ready md ops listed:=by
   refine mem_ready.2 ⟨hl,ops[i]'(by omega),Wv (by omega),fun e he _=>?_⟩;have hlt:=Xo i _ (Wv (by omega)) e he;have:=ih e.on hlt (by omega);rw[VQ,Wv (by omega)]at this ⊢;simpa using this
  rw[hr]at hmem;cases hmem
end
def upd(f:Nat->Value)(i:Nat)(v:Value):Nat->Value:=fun k=>if k=i then v else f k
section
variable  {P:Program}{ops:Array Oper}{Q:Exit->Act->World->Prop}
theorem aK(listed:Array Bool)(i j:Nat)(hi:i<listed.size):(listed.setIfInBounds i true).getD j false=if j=i then true else listed.getD j false:=by
 rw[VQ,VQ,Array.getElem?_setIfInBounds];by_cases e:i=j
 ·subst e;simp[hi]
 simp[e,Ne.symm e]
theorem jL{listed:Array Bool}{i:Nat}(hi:i<listed.size):listed.getD i true=listed.getD i false:=by
 rw[VQ,VQ,Wv hi];rfl
def CS(ops:Array Oper):Bool:=(List.range ops.size).all (fun i=>(ops[i]?.map (fun o=>o.after.all (fun e=>decide (e.on<i)))).getD true)
def Ev(ops:Array Oper)(L:Nat):Bool:=(List.range L).all (fun j=>(ops[L]?.map (fun o=>o.after.any (fun e=>e.on==j&&Region.binds .any e))).getD false)
theorem mh{ops:Array Oper}(h:CS ops=true):∀(i:Nat) (o:Oper),ops[i]?=some o->∀e∈o.after,e.on<i:=by
 intro i o ho e he;rw[CS,VF]at h;have h1:=h i (by simpa using (VC.1 ho).1);rw[ho]at h1;simp only[Option.map_some,Wn,Array.all_eq_true_iff_forall_mem]at h1;simpa using h1 e he
theorem CU{ops:Array Oper}{L:Nat}(h:Ev ops L=true):∀(o:Oper),ops[L]?=some o->∀j,j<L->∃e∈o.after,e.on=j/\Region.binds .any e=true:=by
 intro o ho j hj;rw[Ev,VF]at h;have h1:=h j (by simpa using hj);rw[ho]at h1;simp only[Option.map_some,Wn]at h1;rw[Array.any_eq_true']at h1;obtain⟨e,he,h2⟩:=h1;simp only[Vw,beq_iff_eq]at h2;exact⟨e,he,h2.1,h2.2⟩
theorem bC{id:Nat}{a:Act}{w:af}(L:Nat)(f0:Nat->Value)(F:(Nat->Value)->Act)(V:Nat->Value->World->Prop)(G:World->Prop)
  (hm:P.follows .mixedOrders=true) (hsz:ops.size=L+1) (Xo:CS ops=true) (hlo:Ev ops L=true)
  (h0:a=F f0) (hG0:G w.drew)
  (hstep:∀ i,i<L->∀ o,ops[i]?=some o->∀ f w',G w'->(∀ e∈o.after,Region.binds .any e=true->V e.on (f e.on) w') ->
   wpOp P ops Q i (fun a' w''=>∃v,a'=F (upd f i v)/\G w''/\V i v w''/\∀k u,V k u w'->V k u w'') (F f) w')
  (hfin:∀o,ops[L]?=some o->∀f w',G w'->(∀k,k<L->V k (f k) w')->wpOp P ops Q L (fun a' w''=>Q .normal a' w'') (F f) w') :
  (Code.region id ops true).wp P Q a w:=by
 refine eu (fun listed a' w'=>listed.size=L+1/\((listed.getD L false=false/\∃f,a'=F f/\G w'/\∀k,k<L->listed.getD k false=true->V k (f k) w')\/((∀j,j<=L->listed.getD j true=true)/\Q .normal a' w'))) hm ?_ ?_ ?_
 ·refine⟨by simpa using hsz,Or.inl ⟨?_,_,h0,hG0,fun k _ h=>?_⟩⟩
  ·rw[VQ,Wh];split<;>rfl
  rw[VQ,Wh]at h;split at h<;>cases h
 ·rintro listed a' w' ⟨hs,h⟩ i hi;obtain⟨hl,o,ho,hpre⟩:=mem_ready.1 hi;have hiL:i<L+1:=by have:=(VC.1 ho).1;omega
  rcases h with⟨hn,f,rfl,hG,hV⟩|⟨hall,-⟩
  ·by_cases e:i=L
   ·subst e;have hall:∀k,k<i->listed.getD k false=true:=fun k hk=>by
     obtain⟨e,he,rfl,hb⟩:=CU hlo o ho k hk;exact hpre e he hb
    refine wpOp_mono (fun a'' w'' hq=>⟨by simpa using hs,Or.inr ⟨fun j hj=>?_,hq⟩⟩) (hfin o ho f w' hG (fun k hk=>hV k hk (hall k hk)));rw[jL (by simp;omega),aK _ _ _ (by omega)];by_cases e:j=i
    ·simp[e]
    rw[if_neg e];exact hall j (by omega)
   refine wpOp_mono ?_ (hstep i (by omega) o ho f w' hG (fun e he hb=>hV e.on (by have:=mh Xo i o ho e he;omega) (hpre e he hb)));rintro a'' w'' ⟨v,rfl,hG',hv,hmono⟩;refine⟨by simpa using hs,Or.inl ⟨?_,_,rfl,hG',fun k hk hkl=>?_⟩⟩
   ·rw[aK _ _ _ (by omega),if_neg (Ne.symm e)];exact hn
   rw[aK _ _ _ (by omega)]at hkl;by_cases ek:k=i
   ·subst ek;simpa[upd] using hv
   rw[if_neg ek]at hkl;simp only[upd,if_neg ek];exact hmono _ _ (hV k hk hkl)
  rw[hall i (by omega)]at hl;cases hl
 rintro listed a' w' ⟨hs,h⟩ hr;rcases h with⟨hn,-⟩|⟨-,hq⟩
 ·have:=o9 hr hsz (mh Xo) hs L (by omega);rw[jL (by omega)]at this;rw[this]at hn;cases hn
 exact hq
theorem nZ{id:Nat}{a:Act}{w:af}(N:Nat)(f0:Nat->Value)(F:(Nat->Value)->Act)(V:Nat->Value->World->Prop)(G:World->Prop)
  (hm:P.follows .mixedOrders=true) (hsz:ops.size=N) (Xo:CS ops=true)
  (h0:a=F f0) (hG0:G w.drew)
  (hstep:∀ i,i<N->∀ o,ops[i]?=some o->∀ f w',G w'->(∀ e∈o.after,Region.binds .any e=true->V e.on (f e.on) w') ->
   wpOp P ops Q i (fun a' w''=>∃v,a'=F (upd f i v)/\G w''/\V i v w''/\∀k u,V k u w'->V k u w'') (F f) w')
  (hend:∀f w',G w'->(∀k,k<N->V k (f k) w')->Q .normal (F f) w') :
  (Code.region id ops true).wp P Q a w:=by
 refine eu (fun listed a' w'=>listed.size=N/\∃f,a'=F f/\G w'/\∀k,k<N->listed.getD k false=true->V k (f k) w') hm ?_ ?_ ?_
 ·refine⟨by simpa using hsz,_,h0,hG0,fun k _ h=>?_⟩;rw[VQ,Wh]at h;split at h<;>cases h
 ·rintro listed a' w' ⟨hs,f,rfl,hG,hV⟩ i hi;obtain⟨hl,o,ho,hpre⟩:=mem_ready.1 hi;have hiN:i<N:=by have:=(VC.1 ho).1;omega
  refine wpOp_mono ?_ (hstep i hiN o ho f w' hG (fun e he hb=>hV e.on (by have:=mh Xo i o ho e he;omega) (hpre e he hb)));rintro a'' w'' ⟨v,rfl,hG',hv,hmono⟩;refine⟨by simpa using hs,_,rfl,hG',fun k hk hkl=>?_⟩;rw[aK _ _ _ (by omega)]at hkl;by_cases ek:k=i
  ·subst ek;simpa[upd] using hv
  rw[if_neg ek]at hkl;simp only[upd,if_neg ek];exact hmono _ _ (hV k hk hkl)
 rintro listed a' w' ⟨hs,f,rfl,hG,hV⟩ hr;refine hend f w' hG fun k hk=>hV k hk ?_;have:=o9 hr hsz (mh Xo) hs k hk;rwa [jL (by omega)]at this
end
def wY(a:Act)(L:(Nat->Value)->List Value)(f:Nat->Value):Act:={ a with tmps:=(L f).toArray }
def Rs(f:Nat->Value):List Value->Nat->List Nat->List Value
 | _::l,0,k::ks=>f k::Rs f l 0 ks
 | v::l,n+1,ks=>v::Rs f l n ks
 | l,_,_=>l
def TL(i:Nat):List Value->Nat->List Nat->Value
 | v::l,0,k::ks=>if i=k then v else TL i l 0 ks
 | _::l,n+1,ks=>TL i l n ks
 | _,_,_=>undef
def puts(f:Nat->Value):List (Nat×List Nat)->List Value->List Value
 | [],l=>l
 | (n,ks)::r,l=>puts f r (Rs f l n ks)
def olds(i:Nat):List (Nat×List Nat)->List Value->Value
 | [],_=>undef
 | (n,ks)::r,l=>if i∈ks then TL i l n ks else olds i r l
theorem yt{a:Act}{L:(Nat->Value)->List Value}(s:List (Nat×List Nat))(_hL:∀f,puts f s a.tmps.toList=L f:=by intro f;simp only[puts,Rs,List.toList_toArray];rfl)(hs:(L fun i=>olds i s a.tmps.toList).toArray=a.tmps:=by kernel_rfl):a=wY a L (fun i=>olds i s a.tmps.toList):=by
 unfold wY;rw[hs]
variable  {P:Program}{ops:Array Oper}{Q:Exit->Act->World->Prop}
def xg(ops:Array Oper):Bool:=(List.range ops.size).all (fun i=>(ops[i]?.map (fun o=>o.after.all (fun e=>!Region.binds .any e || decide (e.on<i)))).getD true)
theorem lV{ops:Array Oper}(h:xg ops=true):∀(i:Nat) (o:Oper),ops[i]?=some o->∀e∈o.after,Region.binds .any e=true->e.on<i:=by
 intro i o ho e he hb;rw[xg,VF]at h;have h1:=h i (by simpa using (VC.1 ho).1);rw[ho]at h1;simp only[Option.map_some,Wn,Array.all_eq_true_iff_forall_mem]at h1;have h2:=h1 e he;rw[hb]at h2;simpa using h2
theorem nC{listed:Array Bool}{n:Nat}(hr:Region.ready .any ops listed=[])(hs:ops.size=n)(Xo:∀(i:Nat) (o:Oper),ops[i]?=some o->∀e∈o.after,Region.binds .any e=true->e.on<i)(hsz:listed.size=n):∀i,i<n->listed.getD i true=true:=by
 intro i
 induction i using Nat.strongRecOn with
 | ind i ih =>
  intro hi;cases hl:listed.getD i true;case true=>rfl
  exfalso;have hmem:i∈Region.ready .any ops listed:=by
   refine mem_ready.2 ⟨hl,ops[i]'(by omega),Wv (by omega),fun e he hb=>?_⟩;have hlt:=Xo i _ (Wv (by omega)) e he hb;have:=ih e.on hlt (by omega);rw[VQ,Wv (by omega)]at this ⊢;simpa using this
  rw[hr]at hmem;cases hmem
def zu(ops:Array Oper)(L:Nat):Bool:=(List.range L).all fun j=>(List.range (L+1)).any fun k=>decide (j<k)&&(ops[k]?.map (fun o=>o.after.any (fun e=>e.on==j&&Region.binds .any e))).getD false
theorem Jg{ops:Array Oper}{L:Nat}(h:zu ops L=true):∀j,j<L->∃k o,j<k/\k<=L/\ops[k]?=some o/\∃e∈o.after,e.on=j/\Region.binds .any e=true:=by
 intro j hj;rw[zu,VF]at h;have h1:=h j (List.mem_range.2 hj);rw[VX]at h1;obtain⟨k,hk,h2⟩:=h1;simp only[Vw,VH]at h2;cases ho:ops[k]? with
 | none=>rw[ho]at h2;simp at h2
 | some o =>
  rw[ho]at h2;simp only[Option.map_some,Wn]at h2;obtain⟨h3,h4⟩:=h2;rw[Array.any_eq_true']at h4;obtain⟨e,he,h5⟩:=h4;simp only[Vw,beq_iff_eq]at h5;exact⟨k,o,h3,by have:=List.mem_range.1 hk;omega,ho,e,he,h5.1,h5.2⟩
def Shut(ops:Array Oper)(listed:Array Bool):Prop:=∀(k:Nat) (o:Oper),ops[k]?=some o->listed.getD k false=true->∀e∈o.after,Region.binds .any e=true->listed.getD e.on false=true
theorem OJ{ops:Array Oper}{listed:Array Bool}{L:Nat}(hlo:zu ops L=true)(hS:Shut ops listed){o:Oper}(ho:ops[L]?=some o)(hpre:∀e∈o.after,Region.binds .any e=true->listed.getD e.on false=true):∀d j,j+d=L->j<L->listed.getD j false=true:=by
 intro d
 induction d using Nat.strongRecOn with
 | ind d ih =>
  intro j hjd hj;obtain⟨k,o',h1,h2,h3,e,he,h4,h5⟩:=Jg hlo j hj;by_cases hk:k=L
  ·subst hk;rw[ho]at h3;injection h3 with h3;subst h3;rw[<-h4];exact hpre e he h5
  have:=ih (L-k) (by omega) k (by omega) (by omega);rw[<-h4];exact hS k o' h3 this e he h5
theorem mi{id:Nat}{a:Act}{w:af}(L:Nat)(f0:Nat->Value)(F:(Nat->Value)->Act)(V:Nat->Value->World->Prop)(G:Array Bool->World->Prop)
  (hm:P.follows .mixedOrders=true) (hsz:ops.size=L+1) (Xo:xg ops=true) (hlo:zu ops L=true)
  (h0:a=F f0) (hG0:G (Array.replicate ops.size false) w.drew)
  (hstep:∀ i,i<L->∀ o,ops[i]?=some o->∀ (listed:Array Bool) f w',listed.size=L+1->listed.getD i true=false->G listed w'->(∀ e∈o.after,Region.binds .any e=true->V e.on (f e.on) w') ->
   wpOp P ops Q i (fun a' w''=>∃v,a'=F (upd f i v)/\G (listed.setIfInBounds i true) w''/\V i v w''/\∀k u,k≠i->V k u w'->V k u w'') (F f) w')
  (hfin:∀o,ops[L]?=some o->∀(listed:Array Bool) f w',G listed w'->(∀k,k<L->V k (f k) w')->wpOp P ops Q L (fun a' w''=>Q .normal a' w'') (F f) w') :
  (Code.region id ops true).wp P Q a w:=by
 refine eu (fun listed a' w'=>listed.size=L+1/\((listed.getD L false=false/\Shut ops listed/\∃f,a'=F f/\G listed w'/\∀k,k<L->listed.getD k false=true->V k (f k) w')\/((∀j,j<=L->listed.getD j true=true)/\Q .normal a' w'))) hm ?_ ?_ ?_
 ·refine⟨by simpa using hsz,Or.inl ⟨?_,fun k o _ h=>?_,_,h0,hG0,fun k _ h=>?_⟩⟩
  ·rw[VQ,Wh];split<;>rfl
  ·rw[VQ,Wh]at h;split at h<;>cases h
  rw[VQ,Wh]at h;split at h<;>cases h
 ·rintro listed a' w' ⟨hs,h⟩ i hi;obtain⟨hl,o,ho,hpre⟩:=mem_ready.1 hi;have hiL:i<L+1:=by have:=(VC.1 ho).1;omega
  rcases h with⟨hn,hS,f,rfl,hG,hV⟩|⟨hall,-⟩
  ·by_cases e:i=L
   ·subst e;have hall:∀k,k<i->listed.getD k false=true:=fun k hk=>OJ hlo hS ho hpre (i-k) k (by omega) hk;refine wpOp_mono (fun a'' w'' hq=>⟨by simpa using hs,Or.inr ⟨fun j hj=>?_,hq⟩⟩) (hfin o ho listed f w' hG (fun k hk=>hV k hk (hall k hk)));rw[jL (by simp;omega),aK _ _ _ (by omega)];by_cases e:j=i
    ·simp[e]
    rw[if_neg e];exact hall j (by omega)
   refine wpOp_mono ?_ (hstep i (by omega) o ho listed f w' hs hl hG (fun e he hb=>hV e.on (by have:=lV Xo i o ho e he hb;omega) (hpre e he hb)));rintro a'' w'' ⟨v,rfl,hG',hv,hmono⟩;refine⟨by simpa using hs,Or.inl ⟨?_,fun k o' ho' hkl e' he' hb'=>?_,_,rfl,hG',fun k hk hkl=>?_⟩⟩
   ·rw[aK _ _ _ (by omega),if_neg (Ne.symm e)];exact hn
   ·rw[aK _ _ _ (by omega)]at hkl ⊢;by_cases ee:e'.on=i
    ·rw[if_pos ee]
    rw[if_neg ee];by_cases ek:k=i
    ·subst ek;rw[ho]at ho';injection ho' with ho';subst ho';exact hpre e' he' hb'
    rw[if_neg ek]at hkl;exact hS k o' ho' hkl e' he' hb'
   rw[aK _ _ _ (by omega)]at hkl;by_cases ek:k=i
   ·subst ek;simpa[upd] using hv
   rw[if_neg ek]at hkl;simp only[upd,if_neg ek];exact hmono _ _ ek (hV k hk hkl)
  rw[hall i (by omega)]at hl;cases hl
 rintro listed a' w' ⟨hs,h⟩ hr;rcases h with⟨hn,-⟩|⟨-,hq⟩
 ·have:=nC hr hsz (lV Xo) hs L (by omega);rw[jL (by omega)]at this;rw[this]at hn;cases hn
 exact hq
theorem gP{P:Program}{ops:Array Oper}{Q:Exit->Act->World->Prop}{k:Nat}{o:Oper}{K:Act->World->Prop}{a:Act}(w:af)(hop:ops[k]?=some o)(hgd:o.guard=none)(s x:Operand)(t:TypeId)
  (ho:o.op=.call { callee:=.builtin .append,args:=#[s,x],argTypes:=#[t,t] })
  (base:Nat) (e:TypeId) (i:TypeInfo) (z:Value) (size bytes:Nat) (ht:P.underlying t=some (.slice e)) (hi:P.info? e=some i) (hz:i.zero=some z)
  (hsize:i.size=size) (hby:i.bytes=bytes) (hzs:z.cells.size=size) (hsz:0<size)
  (v:Value) (n:Nat) (xs:Q03) (hs:a.eval s=v) (hown:w.ownsRow base e size v n xs)
  (ad:Addr) (m c:Nat) (news:Q03) (hx:a.eval x=.slice (some ad) m c) (hl:news.length=m*size) (hnews:∀j u,news[j]?=some u->w.cell? (ad.add j)=some u) (h1:∀u∈news,u.oneCell'=true)
  (h63:n+m<=maxLen) (hbytes:(n+m)*bytes<=140737488355328) (hbase:base<=w.heap.size)
  (h:∀v' w',w'.ownsRow base e size v' (n+m) (xs++news)->w.grownBy w' v.ownBlock->(v'.ownBlock=v.ownBlock\/v'.ownBlock=some w.heap.size)->K (a.put o.dst v') w') :
  wpOp P ops Q k K a w:=by
 refine wpOp_step hop (fun K' hK=>?_);have hw:Region.wanted o (yielded ops a.tmps)=true:=by simp[Region.wanted,hgd]
 rw[if_pos hw];obtain⟨v',w',hr,h2,h3,h4,h5⟩:=run_append_own_at (P:=P) w base t o.type e i z size bytes ht hi hz hsize hby hzs hsz v n xs hown ad m c news hl hnews h1 h63 hbytes hbase;unfold Oper.wp execOp;simp only[ho,resolve,invoke,builtin,Sem.run_bind,Sem.run_pure,Result.andThen_ok,List.map_toArray,WC,List.map_nil,hs,hx,hr];exact hK _ _ (h v' w' h2 h3 h5)
structure Aside(w:World)(v:Value)(w':World)(v':Value):Prop where
 size:w.heap.size<=w'.heap.size
 block:∀k,k<w.heap.size->v.ownBlock≠some k->w'.heap[k]?=w.heap[k]?
 own:v'.ownBlock=v.ownBlock \/ ∃g,v'.ownBlock=some g/\w.heap.size<=g
theorem Aside.refl(w:af)(v:Value):Aside w v w v:=⟨Vu _,fun _ _ _=>rfl,.inl rfl⟩
theorem Aside.apart{w w':af}{v v':Value}{k:Nat}(h:Aside w v w' v')(hk:k<w.heap.size)(hv:v.ownBlock≠some k):v'.ownBlock≠some k:=by
 rcases h.own with e|⟨g,e,hg⟩
 ·rw[e];exact hv
 rw[e];intro h2;injection h2 with h2;omega
theorem Aside.trans{w w1 w2:af}{v v1 v2:Value}(h:Aside w v w1 v1)(h2:Aside w1 v1 w2 v2):Aside w v w2 v2 where
 size:=Vz h.size h2.size
 block k hk hv:=(h2.block k (Vt hk h.size) (h.apart hk hv)).trans (h.block k hk hv)
 own:=by
  rcases h2.own with e|⟨g,e,hg⟩
  ·rw[e];exact h.own
  exact .inr ⟨g,e,Vz h.size hg⟩
theorem Aside.below{w w':af}{v:Value}(h:ag w w'):Aside w v w' v:=⟨h.size,fun k hk _=>h.block k hk,.inl rfl⟩
theorem Aside.app{w w':af}{v v':Value}(hg:w.grownBy w' v.ownBlock)(h5:v'.ownBlock=v.ownBlock\/v'.ownBlock=some w.heap.size):Aside w v w' v' where
 size:=hg.size
 block k hk hv:=hg.block k hk (fun e=>hv e.symm)
 own:=by
  rcases h5 with e|e
  ·exact .inl e
  exact .inr ⟨_,e,Vu _⟩
theorem Aside.cell{w w':af}{v v':Value}(h:Aside w v w' v'){p:Addr}(hp:p.block<w.heap.size)(hv:v.ownBlock≠some p.block):w'.cell? p=w.cell? p:=VN (w:=w) (h.block p.block hp hv)
open ChangeAt ChangeShapes Maps WideShapes
def Rt(v:Value):Option (DataW Value×List MemPlace):=some (.held v,[])
section
variable  {K:Type}(enc:K->Value)(P:Program)(k:TypeId)
def TM(D:DataW Value)(kl:Lit):Option Value->Prop
 | none=>Maps.has D kl=false/\∀z,D.atKey kl z=z
 | some v=>Maps.has D kl=true/\∀z,D.atKey kl z=.held v
def aJ(w:World)(b n:Nat)(M:K->Option Value):Prop :=
 ∃D:DataW Value,w.ownsMap P k Rt b n D/\∀x kl,keyOf P k (enc x)=some kl->TM D kl (M x)
def lI[DecidableEq K](M:K->Option Value)(x:K)(v:Option Value):K->Option Value:=fun y=>if y=x then v else M y
end
section
variable  {K:Type}{enc:K->Value}{P:Program}{k:TypeId}{w:World}{b n:Nat}{M:K->Option Value}
theorem eQ[DecidableEq K](M:K->Option Value)(x:K)(v:Option Value):lI M x v x=v:=by simp[lI]
theorem bZ[DecidableEq K]{M:K->Option Value}{x y:K}{v:Option Value}(h:y≠x):lI M x v y=M y:=by simp[lI,h]
theorem oq(enc:K->Value)(P:Program)(k:TypeId)(w:af):aJ enc P k (w.alloc (.map #[] 0)) w.heap.size 0 (fun _=>none) :=
 ⟨.map [],World.ownsMap_made w P k Rt,fun _ kl _=>⟨rfl,fun z=>by simp[DataW.atKey]⟩⟩
theorem aJ.lt(h:aJ enc P k w b n M):b<w.heap.size:=by obtain⟨D,h1,-⟩:=h;exact h1.lt
theorem aJ.mono(h:aJ enc P k w b n M){n':Nat}(hn:n<=n'):aJ enc P k w b n' M:=by obtain⟨D,h1,h2⟩:=h;exact⟨D,h1.mono hn,h2⟩
theorem aJ.kept{w':af}{row:Option Nat}(h:aJ enc P k w b n M)(hg:w.grownBy w' row)(hne:some b≠row):aJ enc P k w' b n M:=by
 obtain⟨D,h1,h2⟩:=h;exact⟨D,h1.kept hg hne,h2⟩
theorem aJ.below{w':af}(h:aJ enc P k w b n M)(hB:ag w w'):aJ enc P k w' b n M :=
 h.kept (row:=none) ⟨hB.os,hB.tape,hB.output,hB.size,fun k hk _=>hB.block k hk⟩ (by simp)
theorem aJ.setCell(h:aJ enc P k w b n M){a:Addr}(ha:b≠a.block)(u:Value):aJ enc P k (w.setCell a u) b n M:=by
 obtain⟨D,h1,h2⟩:=h;exact⟨D,h1.setCell ha u,h2⟩
theorem aJ.look{t e:TypeId}(h:aJ enc P k w b n M)(L:Keyed P k)(ht:P.underlying t=some (.map k e)){z:Value}(hz:(zeroValue e).run P w=.ok z w){x:K}{kl:Lit}(hkey:keyOf P k (enc x)=some kl):
  (Instr.lookup t (.map (some b)) (enc x) false).run P w=.ok ((M x).getD z) w:=by
 obtain⟨D,h1,h2⟩:=h;obtain⟨v,ps,hrun,hv⟩:=h1.lookup L ht hz (zd:=.held z) (zp:=[]) rfl hkey;have h3:=h2 x kl hkey;rw[hrun];have:v=(M x).getD z:=by
  simp only[Rt,Option.some.injEq,Prod.mk.injEq]at hv;cases e:M x with
  | none=>rw[e]at h3;rw[h3.2]at hv;injection hv.1 with h4
  | some u=>rw[e]at h3;rw[h3.2]at hv;injection hv.1 with h4
 rw[this]
theorem aJ.look_ok{t e:TypeId}(h:aJ enc P k w b n M)(L:Keyed P k)(ht:P.underlying t=some (.map k e)){z:Value}(hz:(zeroValue e).run P w=.ok z w){x:K}{kl:Lit}(hkey:keyOf P k (enc x)=some kl):
  (Instr.lookup t (.map (some b)) (enc x) true).run P w=.ok (.tuple #[(M x).getD z,.bool (M x).isSome]) w:=by
 obtain⟨D,h1,h2⟩:=h;obtain⟨v,ps,hrun,hv⟩:=h1.look_ok L ht hz (zd:=.held z) (zp:=[]) rfl hkey;have h3:=h2 x kl hkey;rw[hrun];simp only[Rt,Option.some.injEq,Prod.mk.injEq]at hv;cases e:M x with
 | none=>rw[e]at h3;rw[h3.2]at hv;injection hv.1 with h4;rw[h4,h3.1];rfl
 | some u=>rw[e]at h3;rw[h3.2]at hv;injection hv.1 with h4;rw[h4,h3.1];rfl
theorem aJ.store[DecidableEq K]{t e:TypeId}(h:aJ enc P k w b n M)(L:Keyed P k)(hinj:∀x y,enc x=enc y->x=y)(ht:P.underlying t=some (.map k e))(hn:n<maxLen){x:K}{kl:Lit}(hkey:keyOf P k (enc x)=some kl)(v:Value):
  ∃w',(Instr.mapUpdate t (.map (some b)) (enc x) v).run P w=.ok () w'/\aJ enc P k w' b (n+1) (lI M x (some v))/\w.grownBy w' (some b):=by
 obtain⟨D,h1,h2⟩:=h;obtain⟨w',hrun,h3,h4⟩:=h1.update L ht hn hkey (val:=v) (d:=.held v) (ps:=[]) rfl;refine⟨w',hrun,⟨D.put kl (.held v),h3,fun y ky hy=>?_⟩,h4⟩;by_cases e:y=x
 ·subst e;obtain rfl:ky=kl:=by rw[hkey]at hy;injection hy with hy;exact hy.symm
  rw[eQ];exact⟨has_put_same h1.isMap (L.key hkey) _,fun z=>atKey_put_same h1.isMap (L.key hkey) _ z⟩
 have hne:ky≠kl:=fun e2=>e (hinj _ _ (L.inj (by rw[e2]at hy;exact hy) hkey));rw[bZ e];have h5:=h2 y ky hy;cases e3:M y with
 | none=>rw[e3]at h5;exact⟨by rw[has_put_other hne];exact h5.1,fun z=>by rw[atKey_put_other hne];exact h5.2 z⟩
 | some u=>rw[e3]at h5;exact⟨by rw[has_put_other hne];exact h5.1,fun z=>by rw[atKey_put_other hne];exact h5.2 z⟩
end
section
variable  {K:Type}{enc:K->Value}{P:Program}(w:World){ops:Array Oper}{rest:List Oper}{o:Oper}{a:Act}{Q:Exit->Act->World->Prop}
theorem jM(hg:o.guard=none)(m x:Operand)(t:TypeId)(hop:o.op=Op.lookup t m x false)(k e:TypeId)(L:Keyed P k)(ht:P.underlying t=some (.map k e)){z:Value}(hz:(zeroValue e).run P w=.ok z w)(b n:Nat)(M:K->Option Value)
  (hm:a.eval m=.map (some b)) (hV:aJ enc P k w b n M) (y:K) (kl:Lit) (hx:a.eval x=enc y) (hkey:keyOf P k (enc y)=some kl)
  (hK:wpList P ops Q rest (a.put o.dst ((M y).getD z)) w):wpList P ops Q (o::rest) a w:=by
 refine wpList_plain hg fun K' hK'=>?_;have hrun:=hV.look L ht hz hkey;unfold Oper.wp;simp[execOp,hop,hm,hx,hrun,Result.andThen];exact hK' _ _ hK
theorem dm(hg:o.guard=none)(m x:Operand)(t:TypeId)(hop:o.op=Op.lookup t m x true)(k e:TypeId)(L:Keyed P k)(ht:P.underlying t=some (.map k e)){z:Value}(hz:(zeroValue e).run P w=.ok z w)(b n:Nat)(M:K->Option Value)
  (hm:a.eval m=.map (some b)) (hV:aJ enc P k w b n M) (y:K) (kl:Lit) (hx:a.eval x=enc y) (hkey:keyOf P k (enc y)=some kl)
  (hK:wpList P ops Q rest (a.put o.dst (.tuple #[(M y).getD z,.bool (M y).isSome])) w):wpList P ops Q (o::rest) a w:=by
 refine wpList_plain hg fun K' hK'=>?_;have hrun:=hV.look_ok L ht hz hkey;unfold Oper.wp;simp[execOp,hop,hm,hx,hrun,Result.andThen];exact hK' _ _ hK
theorem og[DecidableEq K](hg:o.guard=none)(m x v:Operand)(t:TypeId)(hop:o.op=Op.mapUpdate t m x v)(k e:TypeId)(L:Keyed P k)(hinj:∀x y,enc x=enc y->x=y)(ht:P.underlying t=some (.map k e))(b n:Nat)(M:K->Option Value)
  (hm:a.eval m=.map (some b)) (hV:aJ enc P k w b n M) (hn:n<maxLen) (y:K) (kl:Lit) (hx:a.eval x=enc y) (hkey:keyOf P k (enc y)=some kl) (u:Value) (hv:a.eval v=u)
  (hK:∀w',aJ enc P k w' b (n+1) (lI M y (some u))->w.grownBy w' (some b)->wpList P ops Q rest (a.put o.dst undef) w'):wpList P ops Q (o::rest) a w:=by
 refine wpList_plain hg fun K' hK'=>?_;obtain⟨w',hrun,r1,r2⟩:=hV.store L hinj ht hn hkey u;unfold Oper.wp;simp[execOp,hop,hm,hx,hv,hrun,Result.andThen];exact hK' _ _ (hK w' r1 r2)
end
def dw(k:Q01):Value:=.agg #[.string k.1,.string k.2]
theorem uV(x y:Q01)(h:dw x=dw y):x=y:=by
 unfold dw at h;injection h with h;have h1:=congrArg Array.toList h;simp at h1;exact Prod.ext h1.1 h1.2
theorem zC:laidOutB prog=true:=by kernel_rfl
theorem OL:(146:TypeId)<prog.types.size:=of_decide_eq_true (by kernel_rfl)
theorem Rv:(match prog.underlying 146 with|some (.array _ _)|some (.struct _)=>true|_=>false)=true:=by rw[underlying146]
set_option maxRecDepth 100000 in
theorem Lj:WideMaps.KeyLaw prog 146:=deep_law_laid zC (m:=2) (by omega) OL (by kernel_rfl) Rv
theorem iZ:Keyed prog 146:=Keyed.of_law Lj
theorem Rx:prog.keyType 146=true:=by kernel_rfl
theorem Ga:prog.cellsOf 146=2:=by kernel_rfl
theorem strCells:prog.cellsOf 9=1:=by kernel_rfl
theorem Mk:∃n,prog.types.size=n+1:=Nat.exists_eq_succ_of_ne_zero (Nat.ne_of_gt (Nat.lt_of_le_of_lt (Vy _) OL))
theorem jN(k:Q01)(h1:k.1.size<=maxLen)(h2:k.2.size<=maxLen):∃kl,keyOf prog 146 (dw k)=some kl:=by
 obtain⟨n,hn⟩:=Mk;refine⟨.string (keyBytes [.string k.1.data.toList,.string k.2.data.toList]),?_⟩;unfold keyOf;rw[underlying146];simp only[Rx,dw,Value.formed,underlying146,Ga,hn,Value.cells];simp[Program.keyLits,underlying146,underlying9,Ga,strCells,h1,h2]
open Go.Sort
theorem qD{p:Prop}(h:p):Hid p:=h
theorem j4{P:Program}{f:FuncId}{args:Array Value}{W:af}{v:Value}(h:∀W',Calls P f args W' fun e w'=>e=.returned v/\w'=W'):∀d os,Calls P f args (grow (redrawn W d) os) fun e w''=>e=.returned v/\∃p:Regrown,w''=grow (redrawn W p.d) p.os:=fun d os=>(h _).mono fun _ _ ⟨he,hw⟩=>⟨he,⟨d,os⟩,hw⟩
theorem fO{P:Program}{f:FuncId}{args:Array Value}{W:af}{v:Value}(h:∀W',ag W W'->Calls P f args W' fun e w'=>e=.returned v/\ag W' w'):∀d os,Calls P f args (grow (redrawn W d) os) fun e w''=>e=.returned v/\∃p:Regrown,w''=grow (redrawn W p.d) p.os:=fun d os=>Calls.regrown_of (h _ (below_regrown W d os))
def lJ(ops:Array Oper)(m k:Nat):Bool:=(ops[m]?.map fun o=>o.after.any fun e=>e.on==k&&Region.binds .any e).getD false
def UJ(ops:Array Oper)(i:Nat):List Nat:=(List.range i).reverse.foldl (fun acc k=>if acc.any (fun m=>lJ ops m k) then k::acc else acc) [i]
def Ll(ops:Array Oper)(L N:Nat):Bool:=(List.range N).all fun i=>decide (i<L) || (List.range i).all fun j=>(UJ ops i).contains j
def Ry(l:List Oper)(L:Nat):Bool:=l.all fun o=>match o.guard with|some (g,_)=>decide (g<L)|none=>true
def ow(P:Program)(ops:Array Oper)(Q:Exit->Act->World->Prop):Nat->Nat->Act->World->Prop
 | 0,_,a,w=>Q .normal a w
 | n+1,i,a,w=>wpOp P ops Q i (ow P ops Q n (i+1)) a w
theorem yu{ops:Array Oper}{m k:Nat}(h:lJ ops m k=true):∃o,ops[m]?=some o/\∃e∈o.after,e.on=k/\Region.binds .any e=true:=by
 unfold lJ at h;cases ho:ops[m]? with
 | none=>rw[ho]at h;cases h
 | some o =>
  rw[ho]at h;simp only[Option.map_some,Wn]at h;rw[Array.any_eq_true']at h;obtain⟨e,he,h2⟩:=h;simp only[Vw,beq_iff_eq]at h2;exact⟨o,rfl,e,he,h2.1,h2.2⟩
theorem Gb{ops:Array Oper}{i:Nat}{lst:Nat->Prop}(hcl:∀m k,m=i\/lst m->lJ ops m k=true->lst k):∀m∈UJ ops i,m=i\/lst m:=by
 have key:∀(ks acc:List Nat),(∀m∈acc,m=i\/lst m)->∀m∈ks.foldl (fun acc k=>if acc.any (fun m=>lJ ops m k) then k::acc else acc) acc,m=i\/lst m:=by
  intro ks
  induction ks with
  | nil=>intro acc h;exact h
  | cons k ks ih =>
   intro acc h;refine ih _ ?_;dsimp only;split
   ·rename_i ha;obtain⟨m,hm,hb⟩:=VX.1 ha;intro x hx;rcases VL.1 hx with rfl|hx
    ·exact .inr (hcl m _ (h m hm) hb)
    exact h x hx
   exact h
 exact key _ _ fun m hm=>.inl (by simpa using hm)
theorem CW{ops:Array Oper}{L N i:Nat}(h:Ll ops L N=true)(hi:i<N)(hL:L<=i){lst:Nat->Prop}(hcl:∀m k,m=i\/lst m->lJ ops m k=true->lst k):∀j,j<i->lst j:=fun j hj=>by
 have h1:=VF.1 h i (by simpa using hi);simp only[Bool.or_eq_true,VH]at h1;have h2:=VF.1 (h1.resolve_left (by omega)) j (by simpa using hj);exact(Gb hcl j (by simpa using h2)).resolve_left (by omega)
theorem qE{P:Program}{id:Nat}{Q:Exit->Act->World->Prop}{a:Act}{w:af}{l:List Oper}(L n:Nat)(hm:P.follows .mixedOrders=true)(hlen:l.length=L+n)
  (hB:(Region.noSelect (l.take L).toArray&&Region.lexFrom .any (l.take L).toArray L 0 (Array.replicate (L+n) false)&&Ry (l.take L) L&&CS l.toArray&&Ll l.toArray L (L+n))=true)
  (h:wpQuiet P (l.take L).toArray (fun w'=>∃p:Regrown,w'=grow (redrawn w p.d) p.os) (fun a'=>∀w',(∃p:Regrown,w'=grow (redrawn w p.d) p.os)->ow P l.toArray Q n L a' w') (l.take L) a):(Code.region id l.toArray true).wp P Q a w:=by
 obtain⟨C,hC⟩:∃C:World->Prop,C=fun w'=>∃p:Regrown,w'=grow (redrawn w p.d) p.os:=⟨_,rfl⟩;have h':wpQuiet P (l.take L).toArray C (fun a'=>∀w',C w'->ow P l.toArray Q n L a' w') (l.take L) a:=by simpa[hC] using h
 clear h;have hC0:C w.drew:=by rw[hC];exact⟨⟨w.drawn+1,#[]⟩,by rw[grow_empty];rfl⟩
 clear hC;simp only[Vw]at hB;obtain⟨⟨⟨⟨hns,hlx⟩,hgd⟩,Xo⟩,hch⟩:=hB;have htl:(l.take L).length=L:=by rw[V9];omega
 have hat:∀i,i<L->(l.take L).toArray[i]?=l.toArray[i]?:=fun i hi=>by simp[hi]
 have hsz:l.toArray.size=L+n:=by simpa using hlen
 have hwant:∀(i:Nat) (o:Oper) (a':Act),i<L->l.toArray[i]?=some o->Region.wanted o (yielded (l.take L).toArray a'.tmps)=Region.wanted o (yielded l.toArray a'.tmps):=by
  intro i o a' hi ho;have hmem:o∈l.take L:=by
   rw[<-hat i hi]at ho;exact WB (by simpa using ho)
  have:=VF.1 hgd o hmem;unfold Region.wanted;cases hg:o.guard with
  | none=>rfl
  | some x =>
   obtain⟨g,bw⟩:=x;rw[hg]at this;have hgl:g<L:=by simpa using this
   simp only[yielded,hat g hgl]
 have h1:=wpAnyQ_lex (C:=C) (md:=.any) hns (l.take L) 0 (Array.replicate (L+n) false) a (fun j=>by simp) (by rw[htl];exact hlx) h';rw[htl]at h1;refine eu (fun listed a' w'=>listed.size=L+n/\(∀m k,listed.getD m false=true->lJ l.toArray m k=true->listed.getD k false=true)/\(((∀j,L<=j->listed.getD j false=false)/\C w'/\∃fuel,wpAnyQ P .any (l.take L).toArray C (fun a'=>∀w',C w'->ow P l.toArray Q n L a' w') fuel listed a') \/ ∃d,d<=n/\(∀j,j<L+d->listed.getD j false=true)/\(∀j,L+d<=j->listed.getD j false=false)/\ow P l.toArray Q (n-d) (L+d) a' w')) hm ?_ ?_ ?_
 ·have hf:∀j,(Array.replicate l.toArray.size false).getD j false=false:=fun j=>by
   rw[VQ,Wh];split<;>rfl
  exact⟨by simpa using hsz,fun m k hm=>absurd hm (by rw[hf];decide),Or.inl ⟨fun j _=>hf j,hC0,L,by rw[hsz];exact h1⟩⟩
 ·rintro listed a' w' ⟨hs,hcl,hh⟩ i hi;obtain⟨hl,o,ho,hpre⟩:=mem_ready.1 hi;have hiL:i<L+n:=by have:=(VC.1 ho).1;omega
  have hcl2:∀m k,(listed.setIfInBounds i true).getD m false=true->lJ l.toArray m k=true->(listed.setIfInBounds i true).getD k false=true:=fun m k hm hb=>by
   rw[aK _ _ _ (by omega)]at hm ⊢;by_cases hk:k=i
   ·rw[if_pos hk]
   rw[if_neg hk];by_cases e:m=i
   ·subst e;obtain⟨o',ho',e,he,rfl,hbe⟩:=yu hb;rw[ho]at ho';obtain rfl:=Option.some.inj ho';exact hpre e he hbe
   rw[if_neg e]at hm;exact hcl m k hm hb
  have hup:L<=i->∀j,j<i->listed.getD j false=true:=fun hLi=>CW hch hiL hLi fun m k hm hb=>by
   rcases hm with rfl|hm
   ·obtain⟨o',ho',e,he,rfl,hbe⟩:=yu hb;rw[ho]at ho';obtain rfl:=Option.some.inj ho';exact hpre e he hbe
   exact hcl m k hm hb
  have hsq:∀d,L+d=i->ow P l.toArray Q (n-d) (L+d) a' w'->wpOp P l.toArray Q i (fun a'' w''=>(listed.setIfInBounds i true).size=L+n/\(∀m k,(listed.setIfInBounds i true).getD m false=true->lJ l.toArray m k=true->(listed.setIfInBounds i true).getD k false=true)/\(((∀j,L<=j->(listed.setIfInBounds i true).getD j false=false)/\C w''/\∃fuel,wpAnyQ P .any (l.take L).toArray C (fun a'=>∀w',C w'->ow P l.toArray Q n L a' w') fuel (listed.setIfInBounds i true) a'') \/ ∃d,d<=n/\(∀j,j<L+d->(listed.setIfInBounds i true).getD j false=true)/\(∀j,L+d<=j->(listed.setIfInBounds i true).getD j false=false)/\ow P l.toArray Q (n-d) (L+d) a'' w'')) a' w':=fun d hd hw=>by
   obtain⟨r,hr⟩:∃r,n-d=r+1:=⟨n-d-1,by omega⟩;rw[hr,hd]at hw;have ZO:∀j,i<j->listed.getD j false=false:=fun j hj=>by
    cases hlj:listed.getD j false;case false=>rfl
    have hjn:j<L+n:=by
     rcases Nat.lt_or_ge j (L+n) with h|h
     ·exact h
     rw[VQ,Array.getElem?_eq_none (by omega)]at hlj;cases hlj
    have:=CW hch hjn (by omega) (lst:=fun k=>listed.getD k false=true) (fun m k hm hb=>by
     rcases hm with rfl|hm
     ·exact hcl _ k hlj hb
     exact hcl m k hm hb) i hj
    rw[jL (by omega)]at hl;rw[hl]at this;cases this
   refine wpOp_mono (fun a'' w'' hq=>⟨by simpa using hs,hcl2,.inr ⟨d+1,by omega,fun j hj=>?_,fun j hj=>?_,?_⟩⟩) hw
   ·rw[aK _ _ _ (by omega)];by_cases e:j=i
    ·rw[if_pos e]
    rw[if_neg e];exact hup (by omega) j (by omega)
   ·rw[aK _ _ _ (by omega),if_neg (by omega)];exact ZO j (by omega)
   have e1:n-(d+1)=r:=by omega
   have e2:L+(d+1)=i+1:=by omega
   rw[e1,e2];exact hq
  rcases hh with⟨hn,hCw,fuel,hq⟩|⟨d,hdn,hlow,hhigh,hw⟩
  ·by_cases e:i<L
   ·have hr:i∈Region.ready .any (l.take L).toArray listed:=mem_ready.2 ⟨hl,o,by rw[hat i e];exact ho,hpre⟩;cases fuel with
    | zero=>have:=hq.1;rw[this]at hr;cases hr
    | succ nn =>
     have hk:=hq.2 i hr;have:=wpOp_of_qOp (K':=fun a'' w''=>C w''/\wpAnyQ P .any (l.take L).toArray C (fun a'=>∀w',C w'->ow P l.toArray Q n L a' w') nn (listed.setIfInBounds i true) a'') (Q':=Q) hCw (fun _ _ h1 h2=>⟨h1,h2⟩) hk;have h3:wpOp P l.toArray Q i (fun a'' w''=>C w''/\wpAnyQ P .any (l.take L).toArray C (fun a'=>∀w',C w'->ow P l.toArray Q n L a' w') nn (listed.setIfInBounds i true) a'') a' w':=by
      unfold wpOp at this⊢;rw[hat i e,ho]at this;rw[ho];simp only[hwant i o a' e ho]at this;exact this
     refine wpOp_mono (fun a'' w'' hh=>⟨by simpa using hs,hcl2,Or.inl ⟨fun j hj=>?_,hh.1,nn,hh.2⟩⟩) h3;rw[aK _ _ _ (by omega),if_neg (by omega)];exact hn j hj
   have hiE:i=L:=by
    rcases Nat.lt_or_ge L i with h|h
    ·have:=hup (by omega) L h;rw[hn L (Vu _)]at this;cases this
    omega
   have hnr:Region.ready .any (l.take L).toArray listed=[]:=by
    rw[List.eq_nil_iff_forall_not_mem];intro j hj;obtain⟨g1,oj,g2,-⟩:=mem_ready.1 hj;have hji:j<L:=by have:=(VC.1 g2).1;simp at this;omega
    rw[jL (by omega),hup (by omega) j (by omega)]at g1;cases g1
   have hQ:ow P l.toArray Q n L a' w':=by
    cases fuel with
    | zero=>exact hq.2 _ hCw
    | succ n=>exact hq.1 hnr _ hCw
   exact hsq 0 (by omega) (by simpa using hQ)
  have hid:L+d=i:=by
   rcases Nat.lt_or_ge i (L+d) with h|h
   ·have:=hlow i h;rw[jL (by omega)]at hl;rw[hl]at this;cases this
   rcases Nat.lt_or_ge (L+d) i with h2|h2
   ·have:=hup (by omega) (L+d) h2;rw[hhigh _ (Vu _)]at this;cases this
   omega
  exact hsq d hid hw
 rintro listed a' w' ⟨hs,hcl,hh⟩ hr;have hall:=o9 hr hsz (mh Xo) hs;rcases hh with⟨hn,hCw,fuel,hq⟩|⟨d,hdn,hlow,hhigh,hw⟩
 ·have hn0:n=0:=by
   rcases Nat.eq_zero_or_pos n with h|h
   ·exact h
   have:=hall L (by omega);rw[jL (by omega),hn L (Vu _)]at this;cases this
  subst hn0;have hnr:Region.ready .any (l.take L).toArray listed=[]:=by
   rw[List.eq_nil_iff_forall_not_mem];intro j hj;obtain⟨g1,oj,g2,-⟩:=mem_ready.1 hj;have hji:j<L:=by have:=(VC.1 g2).1;simp at this;omega
   rw[hall j (by omega)]at g1;cases g1
  have hQ:ow P l.toArray Q 0 L a' w':=by
   cases fuel with
   | zero=>exact hq.2 _ hCw
   | succ n=>exact hq.1 hnr _ hCw
  exact hQ
 have hd:d=n:=by
  rcases Nat.lt_or_ge d n with h|h
  ·have:=hall (L+d) (by omega);rw[jL (by omega),hhigh _ (Vu _)]at this;cases this
  omega
 subst hd;rw[Nat.sub_self]at hw;exact hw
end Go.Proofs.YtojjoblnpldniaaGreat
namespace Go.Proofs.YtojjoblnpldniaaGreat.Pl
theorem gF{a b:ByteArray}(h:a=b):Ending.returned (.string a)=.returned (.string b):=by rw[h]
theorem Lm{s:ByteArray}(h:oo s=true):1<=s.size/\s.size<=12:=by simpa[oo] using h
theorem oz{s:ByteArray}(h:aP s=true):1<=s.size/\s.size<=12:=by
 simp[aP,dR]at h;exact Lm h.1.1
theorem OM{s:ByteArray}(h:qx s=true):1<=s.size/\s.size<=12:=by
 simp[qx,dR]at h;exact Lm h.1
theorem zw{t i:ByteArray}(h:fB t i=true):t.size<=12/\i.size<=12:=by
 simp[fB]at h;exact⟨(oz h.1).2,(OM h.2).2⟩
def aF(t i:ByteArray):ByteArray:=if fB t i then t++⟨#[58]⟩++i else ⟨#[]⟩
theorem nD{t i:ByteArray}(h:fB t i=true):aF t i=t++⟨#[58]⟩++i:=by simp[aF,h]
theorem uf{t i:ByteArray}(h:fB t i=false):aF t i=⟨#[]⟩:=by simp[aF,h]
theorem iN(t i:bi):(aF t i).size<=25:=by
 unfold aF;split
 ·rename_i h;have h2:=zw h;have e1:(ByteArray.mk #[58]).size=1:=rfl;rw[VK,VK,e1];omega
 exact Vy _
def uW(s:ByteArray):Bool:=s.toList.isEmpty || aP s
def bH(a b r c d s:ByteArray):Bool:=fB a b&&aP r&&fB c d&&uW s
def aX(a b r c d s:ByteArray):ByteArray :=
 if bH a b r c d s then
  (if s.toList.isEmpty then aF a b++⟨#[35]⟩++r++⟨#[64]⟩++aF c d else aF a b++⟨#[35]⟩++r++⟨#[64]⟩++aF c d++⟨#[35]⟩++s)
 else ⟨#[]⟩
theorem ug{a b r c d s:ByteArray}(h:bH a b r c d s=false):aX a b r c d s=⟨#[]⟩:=by simp[aX,h]
theorem nE{a b r c d s:ByteArray}(h:bH a b r c d s=true)(hs:s.toList.isEmpty=true):aX a b r c d s=aF a b++⟨#[35]⟩++r++⟨#[64]⟩++aF c d:=by simp[aX,h,hs]
theorem nG{a b r c d s:ByteArray}(h:bH a b r c d s=true)(hs:s.toList.isEmpty=false):aX a b r c d s=aF a b++⟨#[35]⟩++r++⟨#[64]⟩++aF c d++⟨#[35]⟩++s:=by simp[aX,h,hs]
theorem zD{a b r c d s:ByteArray}(h:fB a b=false):bH a b r c d s=false:=by simp[bH,h]
theorem zF{a b r c d s:ByteArray}(h:aP r=false):bH a b r c d s=false:=by simp[bH,h]
theorem zG{a b r c d s:ByteArray}(h:fB c d=false):bH a b r c d s=false:=by simp[bH,h]
theorem zH{a b r c d s:ByteArray}(h1:fB a b=true)(h2:aP r=true)(h3:fB c d=true):bH a b r c d s=uW s:=by simp[bH,h1,h2,h3]
theorem j5{a b r c d s:ByteArray}(h:bH a b r c d s=true):fB a b=true/\aP r=true/\fB c d=true/\uW s=true:=by
 simp[bH]at h;exact⟨h.1.1.1,h.1.1.2,h.1.2,h.2⟩
theorem zI{s:ByteArray}(h:s.toList.isEmpty=true):s.size=0:=by
 rw[Go.ByteArray.toList_eq]at h;have h2:s.data.toList=[]:=by simpa using h
 have h3:s.data.toList.length=0:=by rw[h2];rfl
 simpa using h3
theorem Ew{s:ByteArray}(h:uW s=true):s.size<=12:=by
 simp only[uW,Bool.or_eq_true]at h;rcases h with h|h
 ·have:=zI h;omega
 exact(oz h).2
def jd(c:UInt8):List UInt8->List UInt8×List UInt8×Bool
 | []=>([],[],false)
 | b::l=>if b=c then ([],l,true) else (b::(jd c l).1,(jd c l).2.1,(jd c l).2.2)
theorem RA{c:UInt8}{l:List UInt8}{k:Nat}(hk:k<l.length)(hn:∀x∈l.take k,x≠c)(hc:l[k]=c):jd c l=(l.take k,l.drop (k+1),true):=by
 induction l generalizing k with
 | nil=>simp at hk
 | cons b l ih =>
  cases k with
  | zero=>simp at hc;simp[jd,hc]
  | succ k =>
   have hb:b≠c:=hn b (by simp);have:=ih (k:=k) (by simpa using hk) (fun x hx=>hn x (by simp[hx])) (by simpa using hc);simp[jd,hb,this]
theorem rT{c:UInt8}{l:List UInt8}(hn:∀x∈l,x≠c):jd c l=(l,[],false):=by
 induction l with
 | nil=>rfl
 | cons b l ih =>
  have hb:b≠c:=hn b (by simp);have:=ih (fun x hx=>hn x (by simp[hx]));simp[jd,hb,this]
theorem Gc(c:UInt8)(l:List UInt8):(jd c l).1.length<=l.length/\(jd c l).2.1.length<=l.length:=by
 induction l with
 | nil=>simp[jd]
 | cons b l ih =>
  unfold jd;split
  ·simp
  simp;omega
def kC(c:UInt8)(s:ByteArray):ByteArray:=⟨(jd c s.data.toList).1.toArray⟩
def ja(c:UInt8)(s:ByteArray):ByteArray:=⟨(jd c s.data.toList).2.1.toArray⟩
def pg(c:UInt8)(s:ByteArray):Bool:=(jd c s.data.toList).2.2
theorem CX(l:List UInt8):(ByteArray.mk l.toArray).size=l.length:=rfl
theorem RB(c:UInt8)(s:bi):(kC c s).size<=s.size:=by
 unfold kC;rw[CX];exact(Gc c s.data.toList).1
theorem Lp(c:UInt8)(s:bi):(ja c s).size<=s.size:=by
 unfold ja;rw[CX];exact(Gc c s.data.toList).2
theorem gQ{a b:ByteArray}(h:a.data.toList=b.data.toList):a=b:=by
 cases a;cases b;simp at h;simp[h]
def TN(c:UInt8)(s:ByteArray)(k:Nat):Prop:=∀x∈s.data.toList.take k,x≠c
theorem OO(c:UInt8)(s:bi):TN c s 0:=by intro x hx;simp at hx
theorem OP{c:UInt8}{s:ByteArray}{k:Nat}(h:k<s.size)(hn:TN c s k)(hc:s[k]≠c):TN c s (k+1):=by
 intro x hx;rw[CR s k h]at hx;simp at hx;rcases hx with hx|hx
 ·exact hn x (by simpa using hx)
 subst hx;exact hc
theorem TP{c:UInt8}{s:ByteArray}{k:Nat}(h:k<s.size)(hn:TN c s k)(hc:s[k]=c):jd c s.data.toList=(s.data.toList.take k,s.data.toList.drop (k+1),true) :=
 RA (by simpa using h) hn (by simpa[ByteArray.getElem_eq_getElem_data] using hc)
theorem OQ{c:UInt8}{s:ByteArray}{k:Nat}(h:s.size<=k)(hn:TN c s k):jd c s.data.toList=(s.data.toList,[],false) :=
 rT (fun x hx=>hn x (by rw[VZ (by simpa using h)];exact hx))
def UC(s:ByteArray):Bool:=fB (kC 58 s) (ja 58 s)
def Vm(s:ByteArray):ByteArray:=if UC s then kC 58 s else ⟨#[]⟩
def Vn(s:ByteArray):ByteArray:=if UC s then ja 58 s else ⟨#[]⟩
theorem Ml{c:UInt8}{l:List UInt8}(h:(jd c l).2.2=false):(jd c l).2.1=[]:=by
 induction l with
 | nil=>rfl
 | cons b l ih =>
  unfold jd at h⊢;split
  ·rename_i hb;simp[hb]at h
  rename_i hb;simp[hb]at h;simpa[hb] using ih h
theorem OT{c:UInt8}{s:ByteArray}(h:pg c s=false):ja c s=⟨#[]⟩:=by
 unfold pg at h;unfold ja;rw[Ml h]
theorem OU{s:ByteArray}(h:UC s=true):Vm s=kC 58 s/\Vn s=ja 58 s:=by simp[Vm,Vn,h]
theorem OV{c:UInt8}{l m:List UInt8}(h:∀x∈l,x≠c):jd c (l++c::m)=(l,m,true):=by
 induction l with
 | nil=>simp[jd]
 | cons b l ih =>
  have hb:b≠c:=h b (by simp);have:=ih (fun x hx=>h x (by simp[hx]));simp[jd,hb,this]
theorem CY(c:UInt8)(s:bi):(kC c s).data.toList=(jd c s.data.toList).1:=by simp[kC]
theorem CZ(c:UInt8)(s:bi):(ja c s).data.toList=(jd c s.data.toList).2.1:=by simp[ja]
theorem Gd(a b:bi):(a++b).data.toList=a.data.toList++b.data.toList:=by simp[ByteArray.data_append]
theorem zx{c:UInt8}{s:ByteArray}{l m:List UInt8}(hs:s.data.toList=l++c::m)(h:∀x∈l,x≠c):(kC c s).data.toList=l/\(ja c s).data.toList=m/\pg c s=true:=by
 rw[CY,CZ,pg,hs,OV h];exact⟨rfl,rfl,rfl⟩
theorem RD{c:UInt8}{s:ByteArray}(h:∀x∈s.data.toList,x≠c):kC c s=s/\ja c s=⟨#[]⟩/\pg c s=false:=by
 refine⟨gQ ?_,gQ ?_,?_⟩
 ·rw[CY,rT h]
 ·rw[CZ,rT h]
 rw[pg,rT h]
def OW(l:List UInt8):Prop:=∀x∈l,x≠35/\x≠58/\x≠64
theorem C8{x:UInt8}(h:zn x=true):x≠35/\x≠58/\x≠64:=by
 refine⟨?_,?_,?_⟩<;>(rintro rfl;revert h;decide)
theorem Jh{x:UInt8}(h:fA x=true):x≠35/\x≠58/\x≠64:=C8 (by simp[zn,h])
theorem qG{s:ByteArray}(h:aP s=true):OW s.data.toList:=by
 simp only[aP,dR,sP,Vw,VF]at h;exact fun x hx=>Jh (h.1.2 x hx)
theorem Gf{s:ByteArray}(h:qx s=true):OW s.data.toList:=by
 simp only[qx,dR,sP,Vw,VF]at h;exact fun x hx=>C8 (h.2 x hx)
theorem uh{a b:ByteArray}(h:fB a b=true):aP a=true/\qx b=true:=by simpa[fB] using h
theorem uX{a b:ByteArray}(h:fB a b=true):(aF a b).data.toList=a.data.toList++58::b.data.toList:=by
 rw[nD h,Gd,Gd];simp
theorem sZ{a b:ByteArray}(h:fB a b=true):∀x∈(aF a b).data.toList,x≠35/\x≠64:=by
 intro x hx;rw[uX h]at hx;have h1:=qG (uh h).1;have h2:=Gf (uh h).2;simp only[VJ,VL]at hx;rcases hx with hx|hx|hx
 ·exact⟨(h1 x hx).1,(h1 x hx).2.2⟩
 ·subst hx;decide
 exact⟨(h2 x hx).1,(h2 x hx).2.2⟩
theorem pq{a b:ByteArray}(h:fB a b=true):UC (aF a b)=true/\Vm (aF a b)=a/\Vn (aF a b)=b:=by
 obtain⟨h1,h2,-⟩:=zx (c:=58) (uX h) (fun x hx=>(qG (uh h).1 x hx).2.1);have e1:kC 58 (aF a b)=a:=gQ h1;have e2:ja 58 (aF a b)=b:=gQ h2;have hb:UC (aF a b)=true:=by rw[UC,e1,e2];exact h
 exact⟨hb,by rw[(OU hb).1,e1],by rw[(OU hb).2,e2]⟩
def C9(s:ByteArray):List UInt8:=if s.toList.isEmpty then [] else 35::s.data.toList
theorem Ey{a b r c d s:ByteArray}(h:bH a b r c d s=true):
  (aX a b r c d s).data.toList=(aF a b).data.toList++35::(r.data.toList++64::((aF c d).data.toList++C9 s)):=by
 by_cases hs:s.toList.isEmpty=true
 ·rw[nE h hs,C9,if_pos hs];simp
 have hs':s.toList.isEmpty=false:=by simpa using hs
 rw[nG h hs',C9,if_neg hs];simp
theorem OX{s:ByteArray}(h:s.toList.isEmpty=true):s=⟨#[]⟩:=by
 refine gQ ?_;rw[Go.ByteArray.toList_eq]at h;simpa using h
theorem OY{o s x:ByteArray}(ho:∀y∈o.data.toList,y≠35)(hx:x.data.toList=o.data.toList++C9 s):
  kC 35 x=o/\ja 35 x=s/\pg 35 x=!s.toList.isEmpty:=by
 by_cases hs:s.toList.isEmpty=true
 ·have e:x=o:=gQ (by rw[hx,C9,if_pos hs];simp);subst e;obtain⟨h1,h2,h3⟩:=RD (c:=35) (s:=x) ho;exact⟨h1,by rw[h2,OX hs],by rw[h3,hs];rfl⟩
 rw[C9,if_neg hs]at hx;obtain⟨h1,h2,h3⟩:=zx hx ho;have hs':s.toList.isEmpty=false:=by simpa using hs
 exact⟨gQ h1,gQ h2,by rw[h3,hs'];rfl⟩
def i1(s:ByteArray):=ja 35 s
def i2(s:ByteArray):=ja 64 (i1 s)
theorem zJ{a b r c d t s:ByteArray}(h:bH a b r c d t=true)(hs:aX a b r c d t=s):
  kC 35 s=aF a b/\kC 64 (i1 s)=r/\kC 35 (i2 s)=aF c d/\ja 35 (i2 s)=t:=by
 obtain⟨h1,h2,h3,h4⟩:=j5 h;have hl:=Ey h;rw[hs]at hl;obtain⟨c1,c2,-⟩:=zx hl (fun x hx=>(sZ h1 x hx).1);obtain⟨d1,d2,-⟩:=zx (s:=i1 s) c2 (fun x hx=>(qG h2 x hx).2.2);obtain⟨e1,e2,-⟩:=OY (o:=aF c d) (s:=t) (x:=i2 s) (fun x hx=>(sZ h3 x hx).1) d2;exact⟨gQ c1,gQ d1,e1,e2⟩
def Ji(s a b r c d t:ByteArray)(f:Bool):Prop :=
 (f=true/\bH a b r c d t=true/\aX a b r c d t=s) \/
 (f=false/\(a=⟨#[]⟩/\b=⟨#[]⟩/\r=⟨#[]⟩/\c=⟨#[]⟩/\d=⟨#[]⟩/\t=⟨#[]⟩)/\∀a b r c d t,bH a b r c d t=true->aX a b r c d t≠s)
theorem yw{a b r c d t a' b' r' c' d' t':ByteArray}(h:bH a b r c d t=true)(h':bH a' b' r' c' d' t'=true)(e:aX a b r c d t=aX a' b' r' c' d' t'):
  a=a'/\b=b'/\r=r'/\c=c'/\d=d'/\t=t':=by
 obtain⟨x1,x2,x3,x4⟩:=zJ h e;obtain⟨y1,y2,y3,y4⟩:=zJ h' rfl;obtain⟨p1,p2,p3,p4⟩:=j5 h;obtain⟨q1,q2,q3,q4⟩:=j5 h';have o1:aF a b=aF a' b':=x1.symm.trans y1;have o2:aF c d=aF c' d':=x3.symm.trans y3;obtain⟨-,u1,u2⟩:=pq p1;obtain⟨-,v1,v2⟩:=pq q1;obtain⟨-,u3,u4⟩:=pq p3;obtain⟨-,v3,v4⟩:=pq q3;rw[o1]at u1 u2;rw[o2]at u3 u4;exact⟨u1.symm.trans v1,u2.symm.trans v2,x2.symm.trans y2,u3.symm.trans v3,u4.symm.trans v4,x4.symm.trans y4⟩
theorem Ji.one{s a b r c d t a' b' r' c' d' t':ByteArray}{f f':Bool}(h:Ji s a b r c d t f)(h':Ji s a' b' r' c' d' t' f'):
  (a=a'/\b=b'/\r=r'/\c=c'/\d=d'/\t=t')/\f=f':=by
 rcases h with⟨rfl,h1,h2⟩|⟨rfl,h1,h2⟩
 ·rcases h' with⟨rfl,k1,k2⟩|⟨rfl,k1,k2⟩
  ·exact⟨yw h1 k1 (h2.trans k2.symm),rfl⟩
  exact absurd h2 (k2 _ _ _ _ _ _ h1)
 rcases h' with⟨rfl,k1,k2⟩|⟨rfl,k1,k2⟩
 ·exact absurd k2 (h2 _ _ _ _ _ _ k1)
 obtain⟨rfl,rfl,rfl,rfl,rfl,rfl⟩:=h1;obtain⟨rfl,rfl,rfl,rfl,rfl,rfl⟩:=k1;exact⟨⟨rfl,rfl,rfl,rfl,rfl,rfl⟩,rfl⟩
end Go.Proofs.YtojjoblnpldniaaGreat.Pl
namespace Go.Proofs.YtojjoblnpldniaaGreat
open ChangeShapes WideShapes ChangeAt RowKit Maps
open Go.ChangeMaps (setBlock heap_setBlock_same heap_setBlock_other)
section
variable  {K:Type}{enc:K->Value}{P:Program}{k:TypeId}{w:World}{b n:Nat}{M:K->Option Value}
theorem aJ.of_block{w':af}(h:aJ enc P k w b n M)(e:w'.heap[b]?=w.heap[b]?):aJ enc P k w' b n M:=by
 obtain⟨D,⟨es,clock,hb,r⟩,h2⟩:=h;exact⟨D,⟨es,clock,e.trans hb,r⟩,h2⟩
theorem qH{w:af}{b:Nat}{es es':Array MapEntry}{c c':Nat}(hb:w.heap[b]?=some (.map es c)):w.grownBy (setBlock w b (.map es' c')) (some b) :=
 ⟨rfl,rfl,rfl,by simp[setBlock],fun i _ hi=>heap_setBlock_other hb _ (fun e=>hi (by rw[e]))⟩
theorem aJ.entry[DecidableEq K]{t e:TypeId}(h:aJ enc P k w b n M)(L:WideMaps.KeyLaw P k)(hinj:∀x y,enc x=enc y->x=y)(ht:P.underlying t=some (.map k e)){z:Value}(hz:∀u:World,(zeroValue e).run P u=.ok z u)(hn:n<maxLen){x:K}{kl:Lit}(hkey:keyOf P k (enc x)=some kl):
  ∃(st:Nat) (w1:World),(Instr.mapEntry t (.map (some b)) (enc x)).run P w=.ok (.tuple #[(M x).getD z,goInt st]) w1/\w.grownBy w1 (some b) /\
   ∀(w2:World) (val:Value),w2.heap[b]?=w1.heap[b]?→∃w3,(Instr.entryStore t (.map (some b)) (goInt st) val).run P w2=.ok () w3/\aJ enc P k w3 b (n+1) (lI M x (some val))/\w2.grownBy w3 (some b):=by
 have LK:=Keyed.of_law L;have hlook:=h.look LK ht (hz w) hkey;have hst:=fun v=>h.store LK hinj ht hn hkey v;obtain⟨D,⟨es,clock,hb,F,hs,hD⟩,h2⟩:=h;obtain⟨v0,st,es1,clock1,hrun,hv0,hback⟩:=WideElems.entry_then_store L ht hz hb F hkey;have hb1:(setBlock w b (.map es1 clock1)).heap[b]?=some (.map es1 clock1):=heap_setBlock_same hb _;have ev:v0=(M x).getD z:=by
  have hl:=hlook;rcases Maps.fit_look false LK ht (hz w) hb F hkey with⟨Ye,hno,-⟩|⟨e0,y,hmem,hek,Ye,-,-,-⟩
  ·rw[hl]at Ye;injection Ye with e1;rcases hv0 with⟨e0,hm,hk0,-⟩|⟨-,hz0⟩
   ·exact absurd hk0 (hno e0 hm)
   rw[hz0,e1];rfl
  rw[hl]at Ye;injection Ye with e1;rcases hv0 with⟨e1',hm,hk0,hv⟩|⟨hno,-⟩
  ·have hnd:=F.stamped.2.2;have:e1'=e0:=by
    have h3:e1'.key=e0.key:=by rw[hk0,hek]
    obtain⟨i,hi,hie⟩:=Wj.1 hm;obtain⟨j,hj,hje⟩:=Wj.1 hmem;have h4:(es.toList.map (·.key))[i]'(by simpa using hi)=(es.toList.map (·.key))[j]'(by simpa using hj):=by simp only[List.getElem_map,hie,hje];exact h3
    have h6:=List.pairwise_iff_getElem.1 hnd;have h5:i=j:=by
     rcases Nat.lt_trichotomy i j with hl|hl|hl
     ·exact absurd h4 (h6 i j _ _ hl)
     ·exact hl
     exact absurd h4.symm (h6 j i _ _ hl)
    subst h5;rw[<-hie,<-hje]
   rw[hv,this,e1];rfl
  exact absurd hek (hno e0 hmem)
 refine⟨st,_,by rw[hrun,ev],qH hb,fun w2 val hw2=>?_⟩;have hw2':w2.heap[b]?=some (.map es1 clock1):=hw2.trans hb1;obtain⟨es',clock',hr1,hr2⟩:=hback w2 val hw2';obtain⟨w',hr3,hM',-⟩:=hst val;rw[hr2]at hr3;injection hr3 with _ e3;refine⟨_,hr1,hM'.of_block ?_,qH hw2'⟩;rw[<-e3,heap_setBlock_same hb,heap_setBlock_same hw2']
end
section
variable  {K:Type}{enc:K->Value}{P:Program}(w:World){ops:Array Oper}{rest:List Oper}{o:Oper}{a:Act}{Q:Exit->Act->World->Prop}
theorem Cn[DecidableEq K](hg:o.guard=none)(m x:Operand)(t:TypeId)(hop:o.op=Op.mapEntry t m x)(k e:TypeId)(L:WideMaps.KeyLaw P k)(hinj:∀x y,enc x=enc y->x=y)(ht:P.underlying t=some (.map k e)){z:Value}(hz:∀u:World,(zeroValue e).run P u=.ok z u)(b n:Nat)(M:K->Option Value)
  (hm:a.eval m=.map (some b)) (hV:aJ enc P k w b n M) (hn:n<maxLen) (y:K) (kl:Lit) (hx:a.eval x=enc y) (hkey:keyOf P k (enc y)=some kl)
  (hK:∀ (st:Nat) (w1:World),w.grownBy w1 (some b)->(∀ (w2:World) (val:Value),w2.heap[b]?=w1.heap[b]?→∃ w3,(Instr.entryStore t (.map (some b)) (goInt st) val).run P w2=.ok () w3/\aJ enc P k w3 b (n+1) (lI M y (some val))/\w2.grownBy w3 (some b)) ->
   wpList P ops Q rest (a.put o.dst (.tuple #[(M y).getD z,goInt st])) w1):wpList P ops Q (o::rest) a w:=by
 refine wpList_plain hg fun K' hK'=>?_;obtain⟨st,w1,hrun,h1,h2⟩:=hV.entry L hinj ht hz hn hkey;unfold Oper.wp;simp[execOp,hop,hm,hx,hrun,Result.andThen];exact hK' _ _ (hK st w1 h1 h2)
theorem ui(hg:o.guard=none)(m s v:Operand)(t:TypeId)(hop:o.op=Op.entryStore t m s v)(b st:Nat)(hm:a.eval m=.map (some b))(hs:a.eval s=goInt st)(u:Value)(hv:a.eval v=u)(k:TypeId)(n:Nat)(M:K->Option Value)
  (hback:∃w3,(Instr.entryStore t (.map (some b)) (goInt st) u).run P w=.ok () w3/\aJ enc P k w3 b n M/\w.grownBy w3 (some b))
  (hK:∀w',aJ enc P k w' b n M->w.grownBy w' (some b)->wpList P ops Q rest (a.put o.dst undef) w'):wpList P ops Q (o::rest) a w:=by
 refine wpList_plain hg fun K' hK'=>?_;obtain⟨w3,hrun,h1,h2⟩:=hback;unfold Oper.wp;simp[execOp,hop,hm,hs,hv,hrun,Result.andThen];exact hK' _ _ (hK w3 h1 h2)
end
section
variable  {P:Program}{ops:Array Oper}{Q:Exit->Act->World->Prop}
theorem eT{id:Nat}{a:Act}{w:af}(L:Nat)(f0:Nat->Value)(F:(Nat->Value)->Act)(I:(Nat->Bool)->(Nat->Value)->World->Prop)
  (hm:P.follows .mixedOrders=true) (hsz:ops.size=L+1) (Xo:xg ops=true)
  (hcl:∀o,ops[L]?=some o->∀(l:Nat->Bool) f w',I l f w'->(∀e∈o.after,Region.binds .any e=true->l e.on=true)->∀k,k<L->l k=true)
  (h0:a=F f0) (hI0:I (fun _=>false) f0 w.drew)
  (hstep:∀ i,i<L->∀ o,ops[i]?=some o->∀ (l:Nat->Bool) f w',l i=false->I l f w'->(∀ e∈o.after,Region.binds .any e=true->l e.on=true) ->
   wpOp P ops Q i (fun a' w''=>∃v,a'=F (upd f i v)/\I (fun k=>if k=i then true else l k) (upd f i v) w'') (F f) w')
  (hfin:∀o,ops[L]?=some o->∀(l:Nat->Bool) f w',(∀k,k<L->l k=true)->I l f w'->wpOp P ops Q L (fun a' w''=>Q .normal a' w'') (F f) w') :
  (Code.region id ops true).wp P Q a w:=by
 refine eu (fun listed a' w'=>listed.size=L+1/\((listed.getD L false=false/\∃f,a'=F f/\I (fun k=>listed.getD k false) f w')\/((∀j,j<=L->listed.getD j true=true)/\Q .normal a' w'))) hm ?_ ?_ ?_
 ·refine⟨by simpa using hsz,Or.inl ⟨?_,_,h0,?_⟩⟩
  ·rw[VQ,Wh];split<;>rfl
  have:(fun k=>(Array.replicate ops.size false).getD k false)=fun _=>false:=funext fun k=>by rw[VQ,Wh];split<;>rfl
  rw[this];exact hI0
 ·rintro listed a' w' ⟨hs,h⟩ i hi;obtain⟨hl,o,ho,hpre⟩:=mem_ready.1 hi;have hiL:i<L+1:=by have:=(VC.1 ho).1;omega
  rcases h with⟨hn,f,rfl,hI⟩|⟨hall,-⟩
  ·by_cases e:i=L
   ·subst e;have hall:∀k,k<i->listed.getD k false=true:=hcl o ho _ f w' hI (fun e he hb=>hpre e he hb);refine wpOp_mono (fun a'' w'' hq=>⟨by simpa using hs,Or.inr ⟨fun j hj=>?_,hq⟩⟩) (hfin o ho _ f w' hall hI);rw[jL (by simp;omega),aK _ _ _ (by omega)];by_cases e:j=i
    ·simp[e]
    rw[if_neg e];exact hall j (by omega)
   refine wpOp_mono ?_ (hstep i (by omega) o ho _ f w' (by rw[<-jL (by omega)];exact hl) hI (fun e he hb=>hpre e he hb));rintro a'' w'' ⟨v,rfl,hI'⟩;refine⟨by simpa using hs,Or.inl ⟨?_,_,rfl,?_⟩⟩
   ·rw[aK _ _ _ (by omega),if_neg (Ne.symm e)];exact hn
   have:(fun k=>(listed.setIfInBounds i true).getD k false)=fun k=>if k=i then true else listed.getD k false:=funext fun k=>aK _ _ _ (by omega)
   rw[this];exact hI'
  rw[hall i (by omega)]at hl;cases hl
 rintro listed a' w' ⟨hs,h⟩ hr;rcases h with⟨hn,-⟩|⟨-,hq⟩
 ·have:=nC hr hsz (lV Xo) hs L (by omega);rw[jL (by omega)]at this;rw[this]at hn;cases hn
 exact hq
end
end Go.Proofs.YtojjoblnpldniaaGreat
namespace Go.Proofs.YtojjoblnpldniaaGreat.G
set_option linter.unusedVariables false
open RowKit
structure CH(c:Nat)(D:Nat->List Nat)(C:Nat->Value)(RF M0:World->Prop)(M1:Value->World->Prop)(Zd:Value->Value)(M3 M4:Value->World->Prop)(l:Nat->Bool)(f:Nat->Value)(w:World):Prop where
 val:∀k,(k<c\/k=c+4)->l k=true->f k=C k
 dep:∀i,l i=true->∀j∈D i,l j=true
 rf:RF w
 mid:(l c=false/\l (c+1)=false/\l (c+2)=false/\l (c+3)=false/\M0 w)\/(l c=true/\l (c+1)=false/\l (c+2)=false/\l (c+3)=false/\M1 (f c) w) \/
  (l c=true/\l (c+1)=true/\l (c+2)=false/\l (c+3)=false/\f (c+1)=Zd (f c)/\M1 (f c) w)\/(l c=true/\l (c+1)=true/\l (c+2)=true/\l (c+3)=false/\M3 (f (c+2)) w)\/(l c=true/\l (c+1)=true/\l (c+2)=true/\l (c+3)=true/\M4 (f (c+3)) w)
section
variable  {c:Nat}{D:Nat->List Nat}{C:Nat->Value}{RF M0:World->Prop}{M1:Value->World->Prop}{Zd:Value->Value}{M3 M4:Value->World->Prop}{l:Nat->Bool}{f:Nat->Value}{w:World}
theorem ch_start{W:af}(h:RF W)(h0:M0 W):CH c D C RF M0 M1 Zd M3 M4 (fun _=>false) f W :=
 ⟨fun _ _ h=>(by cases h),fun _ h=>(by cases h),h,.inl ⟨rfl,rfl,rfl,rfl,h0⟩⟩
theorem uY{i:Nat}(h:∀i,l i=true->∀j∈D i,l j=true)(hi:∀j∈D i,l j=true):∀k,(if k=i then true else l k)=true->∀j∈D k,(if j=i then true else l j)=true:=by
 intro k hk j hj;have:l j=true:=by
  by_cases e:k=i
  ·subst e;exact hi j hj
  rw[if_neg e]at hk;exact h k hk j hj
 rw[this];split<;>rfl
theorem CH.put(h:CH c D C RF M0 M1 Zd M3 M4 l f w){i:Nat}(hi:i<c\/i=c+4)(hd:∀j∈D i,l j=true){v:Value}(hv:v=C i):CH c D C RF M0 M1 Zd M3 M4 (fun k=>if k=i then true else l k) (upd f i v) w:=by
 have e:∀d,d<4->(if c+d=i then true else l (c+d))=l (c+d):=fun d hd=>if_neg (by omega);have g:∀d,d<4->upd f i v (c+d)=f (c+d):=fun d hd=>by simp only[upd];rw[if_neg (by omega)]
 have e0:=e 0 (by omega);have e1:=e 1 (by omega);have e2:=e 2 (by omega);have e3:=e 3 (by omega);have g0:=g 0 (by omega);have g1:=g 1 (by omega);have g2:=g 2 (by omega);have g3:=g 3 (by omega);simp only[Nat.add_zero]at e0 g0;refine⟨fun k hk hl=>?_,uY h.dep hd,h.rf,?_⟩
 ·by_cases e:k=i
  ·subst e;simp[upd,hv]
  simp only[if_neg e]at hl;simp only[upd,if_neg e];exact h.val k hk hl
 simp only[e0,e1,e2,e3,g0,g1,g2,g3];exact h.mid
theorem CH.m0(h:CH c D C RF M0 M1 Zd M3 M4 l f w)(hl:l c=false):M0 w/\l (c+1)=false/\l (c+2)=false/\l (c+3)=false:=by
 rcases h.mid with⟨_,h1,h2,h3,h4⟩|⟨h0,_⟩|⟨h0,_⟩|⟨h0,_⟩|⟨h0,_⟩
 ·exact⟨h4,h1,h2,h3⟩
 all_goals rw[h0]at hl;cases hl
theorem CH.call(h:CH c D C RF M0 M1 Zd M3 M4 l f w)(hl:l c=false)(hd:∀j∈D c,l j=true){v:Value}{w':af}(hr:RF w')(h1:M1 v w'):CH c D C RF M0 M1 Zd M3 M4 (fun k=>if k=c then true else l k) (upd f c v) w':=by
 obtain⟨-,a1,a2,a3⟩:=h.m0 hl;refine⟨fun k hk hl2=>?_,uY h.dep hd,hr,.inr (.inl ⟨by simp,by simpa using a1,by simpa using a2,by simpa using a3,by simpa[upd] using h1⟩)⟩;have e:k≠c:=by omega
 simp only[if_neg e]at hl2;simp only[upd,if_neg e];exact h.val k hk hl2
theorem CH.m1(h:CH c D C RF M0 M1 Zd M3 M4 l f w)(h0:l c=true)(hl:l (c+1)=false):M1 (f c) w/\l (c+2)=false/\l (c+3)=false:=by
 rcases h.mid with⟨a,_⟩|⟨_,_,h2,h3,h4⟩|⟨_,a,_⟩|⟨_,a,_⟩|⟨_,a,_⟩
 ·rw[a]at h0;cases h0
 ·exact⟨h4,h2,h3⟩
 all_goals rw[a]at hl;cases hl
theorem CH.build(h:CH c D C RF M0 M1 Zd M3 M4 l f w)(h0:l c=true)(hl:l (c+1)=false)(hd:∀j∈D (c+1),l j=true){v:Value}(hv:v=Zd (f c)):CH c D C RF M0 M1 Zd M3 M4 (fun k=>if k=c+1 then true else l k) (upd f (c+1) v) w:=by
 obtain⟨a1,a2,a3⟩:=h.m1 h0 hl;refine⟨fun k hk hl2=>?_,uY h.dep hd,h.rf,.inr (.inr (.inl ⟨by simpa using h0,by simp,by simpa using a2,by simpa using a3,by simpa[upd] using hv,by simpa[upd] using a1⟩))⟩;have e:k≠c+1:=by omega
 simp only[if_neg e]at hl2;simp only[upd,if_neg e];exact h.val k hk hl2
theorem CH.m2(h:CH c D C RF M0 M1 Zd M3 M4 l f w)(h1:l (c+1)=true)(hl:l (c+2)=false):f (c+1)=Zd (f c)/\M1 (f c) w/\l c=true/\l (c+3)=false:=by
 rcases h.mid with⟨_,a,_⟩|⟨_,a,_⟩|⟨h0,_,_,h3,h4,h5⟩|⟨_,_,a,_⟩|⟨_,_,a,_⟩
 ·rw[a]at h1;cases h1
 ·rw[a]at h1;cases h1
 ·exact⟨h4,h5,h0,h3⟩
 all_goals rw[a]at hl;cases hl
theorem CH.lay(h:CH c D C RF M0 M1 Zd M3 M4 l f w)(h1:l (c+1)=true)(hl:l (c+2)=false)(hd:∀j∈D (c+2),l j=true){v:Value}{w':af}(hr:RF w')(h3:M3 v w'):CH c D C RF M0 M1 Zd M3 M4 (fun k=>if k=c+2 then true else l k) (upd f (c+2) v) w':=by
 obtain⟨-,-,a0,a3⟩:=h.m2 h1 hl;refine⟨fun k hk hl2=>?_,uY h.dep hd,hr,.inr (.inr (.inr (.inl ⟨by simpa using a0,by simpa using h1,by simp,by simpa using a3,by simpa[upd] using h3⟩)))⟩;have e:k≠c+2:=by omega
 simp only[if_neg e]at hl2;simp only[upd,if_neg e];exact h.val k hk hl2
theorem CH.m3(h:CH c D C RF M0 M1 Zd M3 M4 l f w)(h2:l (c+2)=true)(hl:l (c+3)=false):M3 (f (c+2)) w/\l c=true/\l (c+1)=true:=by
 rcases h.mid with⟨_,_,a,_⟩|⟨_,_,a,_⟩|⟨_,_,a,_⟩|⟨h0,h1,_,_,h4⟩|⟨_,_,_,a,_⟩
 ·rw[a]at h2;cases h2
 ·rw[a]at h2;cases h2
 ·rw[a]at h2;cases h2
 ·exact⟨h4,h0,h1⟩
 rw[a]at hl;cases hl
theorem CH.app(h:CH c D C RF M0 M1 Zd M3 M4 l f w)(h2:l (c+2)=true)(hl:l (c+3)=false)(hd:∀j∈D (c+3),l j=true){v:Value}{w':af}(hr:RF w')(h4:M4 v w'):CH c D C RF M0 M1 Zd M3 M4 (fun k=>if k=c+3 then true else l k) (upd f (c+3) v) w':=by
 obtain⟨-,a0,a1⟩:=h.m3 h2 hl;refine⟨fun k hk hl2=>?_,uY h.dep hd,hr,.inr (.inr (.inr (.inr ⟨by simpa using a0,by simpa using a1,by simpa using h2,by simp,by simpa[upd] using h4⟩)))⟩;have e:k≠c+3:=by omega
 simp only[if_neg e]at hl2;simp only[upd,if_neg e];exact h.val k hk hl2
theorem CH.m4(h:CH c D C RF M0 M1 Zd M3 M4 l f w)(h3:l (c+3)=true):M4 (f (c+3)) w/\l c=true/\l (c+1)=true/\l (c+2)=true:=by
 rcases h.mid with⟨_,_,_,a,_⟩|⟨_,_,_,a,_⟩|⟨_,_,_,a,_⟩|⟨_,_,_,a,_⟩|⟨h0,h1,h2,_,h4⟩
 ·rw[a]at h3;cases h3
 ·rw[a]at h3;cases h3
 ·rw[a]at h3;cases h3
 ·rw[a]at h3;cases h3
 exact⟨h4,h0,h1,h2⟩
end
end Go.Proofs.YtojjoblnpldniaaGreat.G
namespace Go.Proofs.YtojjoblnpldniaaGreat
set_option linter.unusedVariables false
structure Few{φ υ:Type}(us:φ->υ)(H:List φ->φ->Bool)(qs:List φ)(users:List υ)(out:List φ):Prop where
 set:∀f∈qs,us f ∉ users->f∈out\/H out f=false
theorem Few.start{φ υ:Type}{us:φ->υ}{H:List φ->φ->Bool}{qs:List φ}{users:List υ}{out:List φ}(h:∀f∈qs,us f∈users):Few us H qs users out:=⟨fun f hf hn=>absurd (h f hf) hn⟩
section
variable  {φ υ:Type}[DecidableEq φ]{us:φ->υ}{H:List φ->φ->Bool}
def Loc(us:φ->υ)(H:List φ->φ->Bool):Prop:=∀(a b:List φ) (f:φ),(∀g,us g=us f->(g∈a↔g∈b))->H a f=H b f
def fD(H:List φ->φ->Bool)(out:List φ)(f:φ):List φ:=if f∈out\/H out f=false then out else out++[f]
def dN(H:List φ->φ->Bool)(qs:List φ)(out:List φ):List φ:=qs.foldl (fD H) out
theorem OZ(out:List φ):dN H [] out=out:=rfl
theorem oC(q:φ)(qs out:List φ):dN H (q::qs) out=dN H qs (fD H out q):=rfl
theorem Gg(zas bs out:List φ):dN H (zas++bs) out=dN H bs (dN H zas out):=by unfold dN;rw[List.foldl_append]
theorem xh(out:List φ)(f:φ):∃new,fD H out f=out++new/\∀g∈new,g=f/\g ∉ out/\H out f=true:=by
 unfold fD;split
 ·exact⟨[],by simp,fun g hg=>by cases hg⟩
 rename_i h;refine⟨[f],rfl,fun g hg=>?_⟩;rw[VO]at hg;subst hg;refine⟨rfl,fun e=>h (.inl e),?_⟩;cases e:H out g;case true=>rfl
 exact absurd (.inr e) h
theorem mo:∀(qs out:List φ),∃new,dN H qs out=out++new/\∀g∈new,g∈qs/\g ∉ out
 | [],out=>⟨[],by simp[OZ],fun g hg=>by cases hg⟩
 | q::qs,out=>by
  obtain⟨n1,e1,h1⟩:=xh (H:=H) out q;obtain⟨n2,e2,h2⟩:=mo qs (fD H out q);refine⟨n1++n2,by rw[oC,e2,e1,VY],fun g hg=>?_⟩;rcases VJ.1 hg with hg|hg
  ·exact⟨by rw[(h1 g hg).1];exact Ws ..,(h1 g hg).2.1⟩
  obtain⟨h3,h4⟩:=h2 g hg;exact⟨V7 _ h3,fun e=>h4 (by rw[e1];exact Ww _ e)⟩
theorem qI{qs out:List φ}{g:φ}(h:g∈out):g∈dN H qs out:=by
 obtain⟨n,e,-⟩:=mo (H:=H) qs out;rw[e];exact Ww _ h
theorem xk{out:List φ}{f g:φ}(h:g∈out):g∈fD H out f:=by
 obtain⟨n,e,-⟩:=xh (H:=H) out f;rw[e];exact Ww _ h
theorem Jj{out:List φ}(h:out.Nodup)(f:φ):(fD H out f).Nodup:=by
 unfold fD;split
 ·exact h
 rename_i hn;refine List.nodup_append.2 ⟨h,by simp,fun a ha b hb e=>?_⟩;rw[VO]at hb;subst hb;subst e;exact hn (.inl ha)
theorem xm:∀(qs:List φ) {out:List φ},out.Nodup->(dN H qs out).Nodup
 | [],_,h=>h
 | q::qs,_,h=>xm qs (Jj h q)
theorem Da{qs out:List φ}(h:∀f∈qs,f∈out\/H out f=false):dN H qs out=out:=by
 induction qs with
 | nil=>rfl
 | cons q qs ih =>
  have e:fD H out q=out:=if_pos (h q (Ws ..));rw[oC,e];exact ih fun f hf=>h f (V7 _ hf)
theorem Co{qs out:List φ}:dN H qs out=out ↔ ∀f∈qs,f∈out\/H out f=false:=by
 refine⟨fun h=>?_,Da⟩
 induction qs with
 | nil=>intro f hf;cases hf
 | cons q qs ih =>
  rw[oC]at h;by_cases hq:q∈out\/H out q=false
  ·have e:fD H out q=out:=if_pos hq;rw[e]at h;intro f hf;rcases VL.1 hf with rfl|hf
   ·exact hq
   exact ih h f hf
  have e:fD H out q=out++[q]:=if_neg hq;obtain⟨n,e2,-⟩:=mo (H:=H) qs (fD H out q);rw[h,e]at e2;have:=congrArg List.length e2;simp at this
theorem nH(hL:Loc us H)(P:υ->Bool):∀(qs out:List φ),(∀f∈qs,P (us f)=false->f∈out\/H out f=false)->dN H qs out=dN H (qs.filter fun f=>P (us f)) out
 | [],_,_=>rfl
 | q::qs,out,h=>by
  rw[oC,WM];cases hp:P (us q);case false=>
   have e:fD H out q=out:=if_pos (h q (Ws ..) hp);rw[e];exact nH hL P qs out fun f hf=>h f (V7 _ hf)
  rw[if_pos rfl,oC];refine nH hL P qs _ fun f hf hpf=>?_;have hne:us f≠us q:=fun e=>by rw[e,hp]at hpf;cases hpf
  obtain⟨n,e,hn⟩:=xh (H:=H) out q;have hm:∀g,us g=us f->(g∈out↔g∈fD H out q):=fun g hg=>by
   rw[e];refine⟨fun h=>Ww _ h,fun h=>?_⟩;rcases VJ.1 h with h|h
   ·exact h
   exact absurd (by rw[(hn g h).1]at hg;exact hg.symm) hne
  rcases h f (V7 _ hf) hpf with h1|h1
  ·exact .inl ((hm f rfl).1 h1)
  exact .inr (by rw[<-hL out _ f hm];exact h1)
theorem uZ(hL:Loc us H)(u:υ):∀(qs out:List φ),(∀g∈dN H qs out,us g=u->g∈out)->∀f∈qs,us f=u->f∈dN H qs out\/H (dN H qs out) f=false
 | [],_,_,f,hf,_=>by cases hf
 | q::qs,out,h,f,hf,hu=>by
  have hsame:∀g,us g=u->(g∈fD H out q↔g∈dN H qs (fD H out q)):=fun g hg=>⟨fun h1=>qI h1,fun h1=>xk (h g h1 hg)⟩;have hrest:∀g∈dN H qs (fD H out q),us g=u->g∈fD H out q:=fun g h1 h2=>(hsame g h2).2 h1;rcases VL.1 hf with rfl|hf
  ·show f∈dN H qs (fD H out f)\/H (dN H qs (fD H out f)) f=false;by_cases hq:f∈out\/H out f=false
   ·rcases hq with h1|h1
    ·exact .inl (qI (xk h1))
    refine .inr ?_;rw[<-hL out _ f fun g hg=>?_]
    ·exact h1
    exact⟨fun h2=>qI (xk h2),fun h2=>h g h2 (hg.trans hu)⟩
   have e:fD H out f=out++[f]:=if_neg hq;exact .inl (qI (by rw[e];simp))
  exact uZ hL u qs _ hrest f hf hu
def je(H:List φ->φ->Bool)(qs:List φ):Nat->List φ->List φ
 | 0,out=>out
 | k+1,out=>if dN H qs out=out then out else je H qs k (dN H qs out)
def mq(qs out:List φ):Nat:=(qs.filter fun f=>decide (f ∉ out)).length
theorem O0(qs:List φ){a b:List φ}(h:∀g∈a,g∈b):mq qs b<=mq qs a:=by
 unfold mq
 induction qs with
 | nil=>simp
 | cons q qs ih =>
  simp only[WM];by_cases hb:q∈b
  ·by_cases ha:q∈a
   ·simp[ha,hb];simpa using ih
   simp[ha,hb];have:=ih;simp at this;omega
  have ha:q ∉ a:=fun e=>hb (h q e);simp[ha,hb];simpa using ih
theorem O1(qs:List φ){a b:List φ}(h:∀g∈a,g∈b){x:φ}(hx:x∈qs)(ha:x ∉ a)(hb:x∈b):mq qs b<mq qs a:=by
 induction qs with
 | nil=>cases hx
 | cons q qs ih =>
  have hle:=O0 qs h;unfold mq at ih hle⊢;simp only[WM];rcases VL.1 hx with rfl|hx
  ·simp[ha,hb];simp at hle;omega
  have:=ih hx;by_cases h1:q∈b
  ·by_cases h2:q∈a
   ·simp[h1,h2];simpa using this
   simp[h1,h2];simp at this;omega
  have h2:q ∉ a:=fun e=>h1 (h q e);simp[h1,h2];simpa using this
theorem xq{qs out:List φ}(h:dN H qs out≠out):mq qs (dN H qs out)<mq qs out:=by
 obtain⟨n,e,hn⟩:=mo (H:=H) qs out;cases n with
 | nil=>exact absurd (by simpa using e) h
 | cons x n =>
  obtain⟨h1,h2⟩:=hn x (Ws ..);exact O1 qs (fun g hg=>qI hg) h1 h2 (by rw[e];simp)
theorem zL(qs:List φ):∀(k j:Nat) (out:List φ),mq qs out<k->mq qs out<j->je H qs k out=je H qs j out
 | 0,_,_,h,_=>absurd h (Wm _)
 | _+1,0,_,_,h=>absurd h (Wm _)
 | k+1,j+1,out,h1,h2=>by
  unfold je;by_cases e:dN H qs out=out
  ·rw[if_pos e,if_pos e]
  rw[if_neg e,if_neg e];have:=xq (H:=H) e;exact zL qs k j _ (by omega) (by omega)
def mr(H:List φ->φ->Bool)(qs out:List φ):List φ:=je H qs (mq qs out+1) out
theorem Db{qs out:List φ}(h:dN H qs out=out):mr H qs out=out:=by
 unfold mr je;rw[if_pos h]
theorem Mm(qs out:List φ):mr H qs (dN H qs out)=mr H qs out:=by
 by_cases h:dN H qs out=out
 ·rw[h]
 have hlt:=xq (H:=H) h;have e:mr H qs out=je H qs (mq qs out) (dN H qs out):=by
  show je H qs (mq qs out+1) out=_;rw[je,if_neg h]
 rw[e];unfold mr;exact zL qs _ _ _ (WL _) hlt
theorem O3(out:List φ):mr H [] out=out:=Db rfl
theorem xw(qs:List φ):∀(k:Nat) (out:List φ),∃new,je H qs k out=out++new/\∀g∈new,g∈qs
 | 0,out=>⟨[],by simp[je],fun g hg=>by cases hg⟩
 | k+1,out=>by
  unfold je;split
  ·exact⟨[],by simp,fun g hg=>by cases hg⟩
  obtain⟨n1,e1,h1⟩:=mo (H:=H) qs out;obtain⟨n2,e2,h2⟩:=xw qs k (dN H qs out);refine⟨n1++n2,by rw[e2,e1,VY],fun g hg=>?_⟩;rcases VJ.1 hg with hg|hg
  ·exact(h1 g hg).1
  exact h2 g hg
theorem Gh(qs:List φ):∀(k:Nat) (out:List φ),mq qs out<k->dN H qs (je H qs k out)=je H qs k out
 | 0,_,h=>absurd h (Wm _)
 | k+1,out,h=>by
  unfold je;split
  ·rename_i e;exact e
  rename_i e;have:=xq (H:=H) e;exact Gh qs k _ (by omega)
theorem O4(qs out:List φ):dN H qs (mr H qs out)=mr H qs out:=Gh qs _ out (WL _)
theorem zM(qs:List φ):∀(k:Nat) {out:List φ},out.Nodup->(je H qs k out).Nodup
 | 0,_,h=>h
 | k+1,out,h=>by
  unfold je;split
  ·exact h
  exact zM qs k (xm qs h)
theorem Mo(qs:List φ){out:List φ}(h:out.Nodup):(mr H qs out).Nodup:=zM qs _ h
theorem Few.round[DecidableEq υ](hL:Loc us H){qs:List φ}{users:List υ}{out:List φ}(h:Few us H qs users out):dN H (qs.filter fun f=>decide (us f∈users)) out=dN H qs out :=
 (nH hL (fun u=>decide (u∈users)) qs out fun f hf hp=>h.set f hf (by simpa using hp)).symm
theorem Few.next[DecidableEq υ](hL:Loc us H){qs:List φ}{users users':List υ}{out new:List φ}(h:Few us H qs users out)(hn:dN H qs out=out++new)(hu:∀u,u∈users'↔u∈users/\∃g∈new,us g=u):Few us H qs users' (out++new):=by
 refine⟨fun f hf hnf=>?_⟩;have key:∀g∈dN H qs out,us g=us f->g∈out:=fun g hg hgu=>by
  rw[hn]at hg;rcases VJ.1 hg with hg|hg
  ·exact hg
  by_cases hin:us f∈users
  ·exact absurd ((hu _).2 ⟨hin,g,hg,hgu⟩) hnf
  -- a user that was left out before finds none
  have e:=h.round hL;obtain⟨n2,e2,h2⟩:=mo (H:=H) (qs.filter fun f=>decide (us f∈users)) out;rw[e,hn]at e2;have e3:new=n2:=List.append_cancel_left e2;rw[e3]at hg;have h3:=(h2 g hg).1;rw[Wo]at h3;have h4:us g∈users:=by simpa using h3.2
  rw[hgu]at h4;exact absurd h4 hin
 have:=uZ hL (us f) qs out key f hf rfl;rw[hn]at this;exact this
theorem Few.done{qs:List φ}{out:List φ}(h:Few us H qs [] out):mr H qs out=out:=Db (Da fun f hf=>h.set f hf List.not_mem_nil)
end
end Go.Proofs.YtojjoblnpldniaaGreat
namespace Go.Proofs.YtojjoblnpldniaaGreat.G
open ChangeShapes WideShapes ChangeAt RowKit Maps
open Pl
variable  {K α:Type}{enc:K->Value}{P:Program}{kt et:TypeId}{sz:Nat}{cl:α->List Value}
def FreeB(M:K->Option Value)(g:Nat):Prop:=∀k v,M k=some v->v.ownBlock≠some g
structure Stl(W:World)(M:K->Option Value)(w2:World)(M2:K->Option Value)(bL:Nat):Prop where
 size:W.heap.size<=w2.heap.size
 block:∀g,g<W.heap.size->g≠bL->FreeB M g->w2.heap[g]?=W.heap[g]?
 free:∀g,g<W.heap.size->FreeB M g->FreeB M2 g
theorem Stl.refl(W:af)(M:K->Option Value)(bL:Nat):Stl W M W M bL:=⟨Vu _,fun _ _ _ _=>rfl,fun _ _ h=>h⟩
theorem Stl.trans{W w2 w3:af}{M M2 M3:K->Option Value}{bL:Nat}(h:Stl W M w2 M2 bL)(h2:Stl w2 M2 w3 M3 bL):Stl W M w3 M3 bL where
 size:=Vz h.size h2.size
 block g hg hb hf:=(h2.block g (Vt hg h.size) hb (h.free g hg hf)).trans (h.block g hg hb hf)
 free g hg hf:=h2.free g (Vt hg h.size) (h.free g hg hf)
theorem Stl.below{W w2:af}{M:K->Option Value}{bL:Nat}(hB:ag W w2):Stl W M w2 M bL:=⟨hB.size,fun g hg _ _=>hB.block g hg,fun _ _ h=>h⟩
structure Cel(w:World)(M:K->Option Value)(bL g o:Nat)(u:Value):Prop where
 cell:w.cell? ⟨g,o,none⟩=some u
 lt:g<w.heap.size
 free:FreeB M g
 ne:g≠bL
theorem Cel.stl{w w2:af}{M M2:K->Option Value}{bL g o:Nat}{u:Value}(h:Cel w M bL g o u)(hS:Stl w M w2 M2 bL):Cel w2 M2 bL g o u where
 cell:=(VN (w:=w) (hS.block g h.lt h.ne h.free)).trans h.cell
 lt:=Vt h.lt hS.size
 free:=hS.free g h.lt h.free
 ne:=h.ne
theorem Jk{w w':af}{base:Nat}{e:TypeId}{size:Nat}{v:Value}{n:Nat}{xs:Q03}(h:w.ownsRow base e size v n xs)(hb:ag w w'):w'.ownsRow base e size v n xs:=by
 have hl:=fun g hg=>(h.lt g hg).2;refine⟨h.1,?_⟩;rcases h.2 with h0|⟨g,cap,cur,rfl,h1,h2,h3⟩
 ·exact .inl h0
 exact .inr ⟨g,cap,cur,rfl,h1,(hb.block g (hl g rfl)).trans h2,h3⟩
variable  [DecidableEq K]
def flatG(cl:α->List Value)(xs:List α):List Value:=xs.flatMap cl
theorem Jl(cl:α->List Value)(xs:List α)(x:α):flatG cl (xs++[x])=flatG cl xs++cl x:=by simp[flatG]
def lookL(E:List (K×α))(k:K):List α:=E.filterMap fun p=>if p.1=k then some p.2 else none
theorem lookL_append(E F:List (K×α))(k:K):lookL (E++F) k=lookL E k++lookL F k:=by unfold lookL;rw[List.filterMap_append]
theorem uj(E:List (K×α))(k:K)(s:α):lookL (E++[(k,s)]) k=lookL E k++[s]:=by rw[lookL_append];simp[lookL]
theorem qJ(E:List (K×α)){k y:K}(s:α)(h:k≠y):lookL (E++[(y,s)]) k=lookL E k:=by rw[lookL_append];simp[lookL,Ne.symm h]
theorem mem_lookL{E:List (K×α)}{k:K}{s:α}:s∈lookL E k↔(k,s)∈E:=by
 unfold lookL;rw[List.mem_filterMap];constructor
 ·rintro⟨⟨a,b⟩,h1,h2⟩;simp only at h2;split at h2
  ·rename_i e;injection h2 with h2;rw[<-e,<-h2];exact h1
  cases h2
 intro h;exact⟨(k,s),h,by simp⟩
structure Grp(enc:K->Value)(P:Program)(kt et:TypeId)(sz:Nat)(cl:α->List Value)(w:World)(bL n:Nat)(M:K->Option Value)(E:List (K×α)):Prop where
 map:aJ enc P kt w bL n M
 row:∀k,(M k=none/\lookL E k=[]) \/ ∃v,M k=some v/\w.ownsRow (bL+1) et sz v (lookL E k).length (flatG cl (lookL E k))
 apart:∀k k' v v',k≠k'->M k=some v->M k'=some v'->∀g,v.ownBlock=some g->v'.ownBlock≠some g
theorem Grp.lt{w:af}{bL n:Nat}{M:K->Option Value}{E:List (K×α)}(h:Grp enc P kt et sz cl w bL n M E){k:K}{v:Value}(hk:M k=some v){g:Nat}(hg:v.ownBlock=some g):bL<g/\g<w.heap.size:=by
 rcases h.row k with⟨e,-⟩|⟨v',e,ho⟩
 ·rw[e]at hk;cases hk
 rw[e]at hk;injection hk with hk;subst hk;have:=ho.lt g hg;exact⟨by omega,this.2⟩
theorem Grp.fresh{w:af}{bL n:Nat}{M:K->Option Value}{E:List (K×α)}(h:Grp enc P kt et sz cl w bL n M E){g:Nat}(hg:w.heap.size<=g):FreeB M g:=fun k v hk e=>by
 have:=(h.lt hk e).2;omega
theorem Grp.mono{w:af}{bL n n':Nat}{M:K->Option Value}{E:List (K×α)}(h:Grp enc P kt et sz cl w bL n M E)(hn:n<=n'):Grp enc P kt et sz cl w bL n' M E:=⟨h.map.mono hn,h.row,h.apart⟩
theorem Grp.below{w w':af}{bL n:Nat}{M:K->Option Value}{E:List (K×α)}(h:Grp enc P kt et sz cl w bL n M E)(hB:ag w w'):Grp enc P kt et sz cl w' bL n M E where
 map:=h.map.below hB
 row k:=by
  rcases h.row k with e|⟨v,e,ho⟩
  ·exact .inl e
  exact .inr ⟨v,e,Jk ho hB⟩
 apart:=h.apart
theorem grp_made(w:af):Grp enc P kt et sz cl (w.alloc (.map #[] 0)) w.heap.size 0 (fun _=>none) [] where
 map:=oq _ _ _ w
 row k:=.inl ⟨rfl,rfl⟩
 apart k k' v v' _ h:=by cases h
theorem Grp.step{W0 w1 w2 w3:af}{bL n:Nat}{M:K->Option Value}{E:List (K×α)}{y:K}{v':Value}{s:α}(h:Grp enc P kt et sz cl W0 bL n M E)(hg1:W0.grownBy w1 (some bL))(hown:w2.ownsRow (bL+1) et sz v' ((lookL E y).length+1) (flatG cl (lookL E y)++cl s))
  (hg2:w1.grownBy w2 ((M y).getD (.slice none 0 0)).ownBlock) (hloc:v'.ownBlock=((M y).getD (.slice none 0 0)).ownBlock\/v'.ownBlock=some w1.heap.size) (hg3:w2.grownBy w3 (some bL)) (hM:aJ enc P kt w3 bL (n+1) (lI M y (some v'))) :
  Grp enc P kt et sz cl w3 bL (n+1) (lI M y (some v')) (E++[(y,s)])/\Stl W0 M w3 (lI M y (some v')) bL:=by
 have hrow0:∀k v,M k=some v->∃xs m,W0.ownsRow (bL+1) et sz v m xs:=fun k v hk=>by
  rcases h.row k with⟨e,-⟩|⟨v1,e,ho⟩
  ·rw[e]at hk;cases hk
  rw[e]at hk;injection hk with hk;subst hk;exact⟨_,_,ho⟩
 have hne2:∀k v,k≠y->M k=some v->v.ownBlock=none\/v.ownBlock≠((M y).getD (.slice none 0 0)).ownBlock:=fun k v hky hk=>by
  cases e:v.ownBlock with
  | none=>exact .inl rfl
  | some g =>
   right;cases ey:M y with
   | none=>simp[Value.ownBlock]
   | some vy=>intro e2;exact h.apart k y v vy hky hk ey g e (by simpa using e2.symm)
 have hnb:∀v,(∃k,M k=some v)->v.ownBlock=none\/v.ownBlock≠some bL:=fun v ⟨k,hk⟩=>by
  cases e:v.ownBlock with
  | none=>exact .inl rfl
  | some g=>right;have:=(h.lt hk e).1;intro e2;injection e2 with e2;omega
 have hnew:∀g,v'.ownBlock=some g->bL<g:=fun g e=>by have:=(hown.lt g e).1;omega
 have hv'b:v'.ownBlock=none\/v'.ownBlock≠some bL:=by
  cases e:v'.ownBlock with
  | none=>exact .inl rfl
  | some g=>right;have:=hnew g e;intro e2;injection e2 with e2;omega
 constructor
 ·refine⟨hM,fun k=>?_,fun k k' v u hkk hk hk' g e=>?_⟩
  ·by_cases ek:k=y
   ·subst ek;rw[eQ,uj];refine .inr ⟨v',rfl,?_⟩;rw[Jl,VD];exact hown.kept hg3 hv'b
   rw[bZ ek,qJ _ _ ek];rcases h.row k with e|⟨v,e,ho⟩
   ·exact .inl e
   exact .inr ⟨v,e,((ho.kept hg1 (hnb v ⟨k,e⟩)).kept hg2 (hne2 k v ek e)).kept hg3 (hnb v ⟨k,e⟩)⟩
  by_cases ek:k=y
  ·subst ek;rw[eQ]at hk;injection hk with hk;subst hk;rw[bZ (Ne.symm hkk)]at hk';intro e2;rcases hloc with el|el
   ·rw[e]at el;cases ey:M k with
    | none=>rw[ey]at el;simp[Value.ownBlock]at el
    | some vy=>rw[ey]at el;exact h.apart k k' vy u hkk ey hk' g (by simpa using el.symm) e2
   rw[e]at el;injection el with el;have:=(h.lt hk' e2).2;have:=hg1.size;omega
  rw[bZ ek]at hk;by_cases ek':k'=y
  ·subst ek';rw[eQ]at hk';injection hk' with hk';subst hk';intro e2;rcases hloc with el|el
   ·rw[e2]at el;cases ey:M k' with
    | none=>rw[ey]at el;simp[Value.ownBlock]at el
    | some vy=>rw[ey]at el;exact h.apart k k' v vy hkk hk ey g e (by simpa using el.symm)
   rw[e2]at el;injection el with el;have:=(h.lt hk e).2;have:=hg1.size;omega
  rw[bZ ek']at hk';exact h.apart k k' v u hkk hk hk' g e
 refine⟨Vz hg1.size (Vz hg2.size hg3.size),fun g hg hb hf=>?_,fun g hg hf k v hk=>?_⟩
 ·have h1:=hg1.block g hg (fun e=>hb (by injection e));have h2:=hg2.block g (Vt hg hg1.size) (fun e=>by
   cases ey:M y with
   | none=>rw[ey]at e;simp[Value.ownBlock]at e
   | some vy=>rw[ey]at e;exact hf y vy ey (by simpa using e.symm))
  have h3:=hg3.block g (Vt hg (Vz hg1.size hg2.size)) (fun e=>hb (by injection e));rw[h3,h2,h1]
 by_cases ek:k=y
 ·subst ek;rw[eQ]at hk;injection hk with hk;subst hk;intro e2;rcases hloc with el|el
  ·rw[e2]at el;cases ey:M k with
   | none=>rw[ey]at el;simp[Value.ownBlock]at el
   | some vy=>rw[ey]at el;exact hf k vy ey (by simpa using el.symm)
  rw[e2]at el;injection el with el;have:=hg1.size;omega
 rw[bZ ek]at hk;exact hf k v hk
end Go.Proofs.YtojjoblnpldniaaGreat.G
namespace Go.Proofs.YtojjoblnpldniaaGreat
open RowKit
section
variable  {P:Program}{ops:Array Oper}{Q:Exit->Act->World->Prop}
theorem qy{id:Nat}{a:Act}{w:af}(L:Nat)(f0:Nat->Value)(F:(Nat->Value)->Act)(I:(Nat->Bool)->(Nat->Value)->World->Prop)
  (hm:P.follows .mixedOrders=true) (hsz:ops.size=L+1) (Xo:xg ops=true) (hlo:Ev ops L=true)
  (h0:a=F f0) (hI0:I (fun _=>false) f0 w.drew)
  (hstep:∀ i,i<L->∀ o,ops[i]?=some o->∀ (l:Nat->Bool) f w',l i=false->I l f w'->(∀ e∈o.after,Region.binds .any e=true->l e.on=true) ->
   wpOp P ops Q i (fun a' w''=>∃v,a'=F (upd f i v)/\I (fun k=>if k=i then true else l k) (upd f i v) w'') (F f) w')
  (hfin:∀o,ops[L]?=some o->∀(l:Nat->Bool) f w',(∀k,k<L->l k=true)->I l f w'->wpOp P ops Q L (fun a' w''=>Q .normal a' w'') (F f) w') :
  (Code.region id ops true).wp P Q a w:=by
 refine eu (fun listed a' w'=>listed.size=L+1/\((listed.getD L false=false/\∃f,a'=F f/\I (fun k=>listed.getD k false) f w')\/((∀j,j<=L->listed.getD j true=true)/\Q .normal a' w'))) hm ?_ ?_ ?_
 ·refine⟨by simpa using hsz,Or.inl ⟨?_,_,h0,?_⟩⟩
  ·rw[VQ,Wh];split<;>rfl
  have:(fun k=>(Array.replicate ops.size false).getD k false)=fun _=>false:=funext fun k=>by rw[VQ,Wh];split<;>rfl
  rw[this];exact hI0
 ·rintro listed a' w' ⟨hs,h⟩ i hi;obtain⟨hl,o,ho,hpre⟩:=mem_ready.1 hi;have hiL:i<L+1:=by have:=(VC.1 ho).1;omega
  rcases h with⟨hn,f,rfl,hI⟩|⟨hall,-⟩
  ·by_cases e:i=L
   ·subst e;have hall:∀k,k<i->listed.getD k false=true:=fun k hk=>by
     obtain⟨e,he,rfl,hb⟩:=CU hlo o ho k hk;exact hpre e he hb
    refine wpOp_mono (fun a'' w'' hq=>⟨by simpa using hs,Or.inr ⟨fun j hj=>?_,hq⟩⟩) (hfin o ho _ f w' hall hI);rw[jL (by simp;omega),aK _ _ _ (by omega)];by_cases e:j=i
    ·simp[e]
    rw[if_neg e];exact hall j (by omega)
   refine wpOp_mono ?_ (hstep i (by omega) o ho _ f w' (by rw[<-jL (by omega)];exact hl) hI (fun e he hb=>hpre e he hb));rintro a'' w'' ⟨v,rfl,hI'⟩;refine⟨by simpa using hs,Or.inl ⟨?_,_,rfl,?_⟩⟩
   ·rw[aK _ _ _ (by omega),if_neg (Ne.symm e)];exact hn
   have:(fun k=>(listed.setIfInBounds i true).getD k false)=fun k=>if k=i then true else listed.getD k false:=funext fun k=>aK _ _ _ (by omega)
   rw[this];exact hI'
  rw[hall i (by omega)]at hl;cases hl
 rintro listed a' w' ⟨hs,h⟩ hr;rcases h with⟨hn,-⟩|⟨-,hq⟩
 ·have:=nC hr hsz (lV Xo) hs L (by omega);rw[jL (by omega)]at this;rw[this]at hn;cases hn
 exact hq
end
end Go.Proofs.YtojjoblnpldniaaGreat
namespace Go.Proofs.YtojjoblnpldniaaGreat.G
set_option linter.unusedVariables false
open ChangeShapes WideShapes ChangeAt RowKit Maps
open Pl
def Back{K:Type}[DecidableEq K](enc:K->Value)(P:Program)(kt t:TypeId)(bp n:Nat)(M:K->Option Value)(y:K)(st:Nat)(w:World):Prop :=
 ∀(w2:World) (val:Value),w2.heap[bp]?=w.heap[bp]?→∃w3,(Instr.entryStore t (.map (some bp)) (goInt st) val).run P w2=.ok () w3/\aJ enc P kt w3 bp (n+1) (lI M y (some val))/\w2.grownBy w3 (some bp)
def put(l:Nat->Bool)(i:Nat):Nat->Bool:=fun k=>if k=i then true else l k
structure EA(C:Nat->Value)(NEW:Array Value)(et:TypeId)(W:World)(l:Nat->Bool)(f:Nat->Value)(w:World):Prop where
 late:∀k,7<=k->k<=10->l k=false
 bel:ag W w
 val:∀k,k<=5->l k=true->f k=C k
 row:l 6=true->∃g,f 6=.slice (some ⟨g,0,none⟩) 1 1/\W.heap.size<=g/\w.heap[g]?=some (.cells NEW et (0,0))
structure EB(C:Nat->Value)(NEW:Array Value)(et:TypeId)(W:World)(bp:Nat)(row0:Value)(BK:Nat->World->Prop)(l:Nat->Bool)(f:Nat->Value)(w:World):Prop where
 low:∀k,k<=7->l k=true
 l9:l 9=false
 val:∀k,k<=5->f k=C k
 mid:∃(W0:World) (st g:Nat),ag W W0/\f 6=.slice (some ⟨g,0,none⟩) 1 1/\W.heap.size<=g/\W0.heap[g]?=some (.cells NEW et (0,0))/\W0.grownBy w (some bp)/\f 7=.tuple #[row0,goInt st]/\BK st w/\(l 8=true->f 8=row0)/\(l 10=true->f 10=goInt st)
structure EC(C:Nat->Value)(NEW:Array Value)(et:TypeId)(sz:Nat)(W:World)(bp:Nat)(row0:Value)(nn:Nat)(xs:Q03)(BK:Nat->World->Prop)(l:Nat->Bool)(f:Nat->Value)(w:World):Prop where
 low:∀k,k<=9->l k=true
 val:∀k,k<=5->f k=C k
 mid:∃(W0 w1:World) (st:Nat),ag W W0/\W0.grownBy w1 (some bp)/\w1.grownBy w row0.ownBlock/\w.ownsRow (bp+1) et sz (f 9) (nn+1) (xs++NEW.toList)/\((f 9).ownBlock=row0.ownBlock\/(f 9).ownBlock=some w1.heap.size)/\BK st w1/\f 7=.tuple #[row0,goInt st]/\(l 10=true->f 10=goInt st)
def EI(C:Nat->Value)(NEW:Array Value)(et:TypeId)(sz:Nat)(W:World)(bp:Nat)(row0:Value)(nn:Nat)(xs:Q03)(BK:Nat->World->Prop)(l:Nat->Bool)(f:Nat->Value)(w:World):Prop :=
 EA C NEW et W l f w\/EB C NEW et W bp row0 BK l f w\/EC C NEW et sz W bp row0 nn xs BK l f w
section
variable  {C:Nat->Value}{NEW:Array Value}{et:TypeId}{sz:Nat}{W:World}{bp:Nat}{row0:Value}{nn:Nat}{xs:Q03}{BK:Nat->World->Prop}{l:Nat->Bool}{f:Nat->Value}{w:World}
theorem ei_start(W:af):EI C NEW et sz W bp row0 nn xs BK (fun _=>false) f W.drew:=.inl ⟨fun _ _ _=>rfl,(Vv _ _).drew,fun _ _ h=>(by cases h),fun h=>(by cases h)⟩
theorem EI.early(h:EI C NEW et sz W bp row0 nn xs BK l f w){i:Nat}(hi:i<=7)(hl:l i=false):EA C NEW et W l f w:=by
 rcases h with h|h|h
 ·exact h
 ·rw[h.low i hi]at hl;cases hl
 rw[h.low i (by omega)]at hl;cases hl
theorem EA.put{i:Nat}(h:EA C NEW et W l f w)(hi:i<=5){v:Value}(hv:v=C i):EI C NEW et sz W bp row0 nn xs BK (fun k=>if k=i then true else l k) (upd f i v) w:=by
 refine .inl ⟨fun k h7 h10=>?_,h.bel,fun k hk hl=>?_,fun hl=>?_⟩
 ·show(if _=_ then true else _)=_;rw[if_neg (by omega)];exact h.late k h7 h10
 ·by_cases e:k=i
  ·subst e;simp[upd,hv]
  simp only[if_neg e]at hl;simp only[upd,if_neg e];exact h.val k hk hl
 replace hl:(if _=_ then true else _)=true:=hl;rw[if_neg (by omega)]at hl;simp only[upd];rw[if_neg (by omega)];exact h.row hl
theorem EA.lay(h:EA C NEW et W l f w):EI C NEW et sz W bp row0 nn xs BK (fun k=>if k=6 then true else l k) (upd f 6 (.slice (some ⟨w.heap.size,0,none⟩) 1 1)) (w.alloc (.cells NEW et)):=by
 refine .inl ⟨fun k h7 h10=>?_,h.bel.alloc h.bel.size _,fun k hk hl=>?_,fun _=>⟨w.heap.size,by simp[upd],h.bel.size,heap_alloc_new w _⟩⟩
 ·show(if _=_ then true else _)=_;rw[if_neg (by omega)];exact h.late k h7 h10
 replace hl:(if _=_ then true else _)=true:=hl;rw[if_neg (by omega)]at hl;simp only[upd];rw[if_neg (by omega)];exact h.val k hk hl
theorem EA.took(h:EA C NEW et W l f w)(hall:∀k,k<=6->l k=true){st:Nat}{w1:af}(hg:w.grownBy w1 (some bp))(hb:BK st w1):EI C NEW et sz W bp row0 nn xs BK (fun k=>if k=7 then true else l k) (upd f 7 (.tuple #[row0,goInt st])) w1:=by
 obtain⟨g,e6,Y3,hc⟩:=h.row (hall 6 (by omega));refine .inr (.inl ⟨fun k hk=>?_,?_,fun k hk=>?_,w,st,g,h.bel,?_,Y3,hc,hg,?_,hb,fun h8=>?_,fun h10=>?_⟩)
 ·by_cases e:k=7
  ·simp[e]
  simp only[if_neg e];exact hall k (by omega)
 ·show(if (9:Nat)=7 then true else l 9)=false;rw[if_neg (by omega)];exact h.late 9 (by omega) (by omega)
 ·simp only[upd];rw[if_neg (by omega)];exact h.val k hk (hall k (by omega))
 ·simp only[upd];rw[if_neg (by omega)];exact e6
 ·simp[upd]
 ·have:(if (8:Nat)=7 then true else l 8)=true:=h8;rw[if_neg (by omega),h.late 8 (by omega) (by omega)]at this;cases this
 have:(if (10:Nat)=7 then true else l 10)=true:=h10;rw[if_neg (by omega),h.late 10 (by omega) (by omega)]at this;cases this
theorem EI.midB(h:EI C NEW et sz W bp row0 nn xs BK l f w)(h7:l 7=true){i:Nat}(hi:i<=9)(hl:l i=false):EB C NEW et W bp row0 BK l f w:=by
 rcases h with h|h|h
 ·rw[h.late 7 (by omega) (by omega)]at h7;cases h7
 ·exact h
 rw[h.low i hi]at hl;cases hl
theorem EI.seven(h:EI C NEW et sz W bp row0 nn xs BK l f w)(h7:l 7=true):∃st:Nat,f 7=.tuple #[row0,goInt st]:=by
 rcases h with h|h|h
 ·rw[h.late 7 (by omega) (by omega)]at h7;cases h7
 ·obtain⟨_,st,_,_,_,_,_,_,e,_⟩:=h.mid;exact⟨st,e⟩
 obtain⟨_,_,st,_,_,_,_,_,_,e,_⟩:=h.mid;exact⟨st,e⟩
theorem EB.first(h:EB C NEW et W bp row0 BK l f w):EI C NEW et sz W bp row0 nn xs BK (fun k=>if k=8 then true else l k) (upd f 8 row0) w:=by
 obtain⟨W0,st,g,h1,h2,h3,h4,h5,h6,h7,h8,h9⟩:=h.mid;refine .inr (.inl ⟨fun k hk=>?_,?_,fun k hk=>?_,W0,st,g,h1,?_,h3,h4,h5,?_,h7,fun _=>?_,fun h10=>?_⟩)
 ·show(if _=_ then true else _)=_;rw[if_neg (by omega)];exact h.low k hk
 ·show(if (9:Nat)=8 then true else l 9)=false;rw[if_neg (by omega)];exact h.l9
 ·simp only[upd];rw[if_neg (by omega)];exact h.val k hk
 ·simp only[upd];rw[if_neg (by omega)];exact h2
 ·simp only[upd];rw[if_neg (by omega)];exact h6
 ·simp[upd]
 have h10':(if (10:Nat)=8 then true else l 10)=true:=h10;rw[if_neg (by omega)]at h10';simp only[upd];rw[if_neg (by omega)];exact h9 h10'
theorem EI.second(h:EI C NEW et sz W bp row0 nn xs BK l f w)(h7:l 7=true){st:Nat}(e:f 7=.tuple #[row0,goInt st]):EI C NEW et sz W bp row0 nn xs BK (fun k=>if k=10 then true else l k) (upd f 10 (goInt st)) w:=by
 have same:∀st':Nat,.tuple #[row0,goInt st']=Value.tuple #[row0,goInt st]->goInt st'=goInt st:=fun st' e=>by
  injection e with e;have:=congrArg Array.toList e;simp only[List.cons.injEq]at this;exact this.2.1
 rcases h with h|h|h
 ·rw[h.late 7 (by omega) (by omega)]at h7;cases h7
 ·obtain⟨W0,st',g,h1,h2,h3,h4,h5,h6,hb,h8,h9⟩:=h.mid;have es:=same st' (h6.symm.trans e);refine .inr (.inl ⟨fun k hk=>?_,?_,fun k hk=>?_,W0,st',g,h1,?_,h3,h4,h5,?_,hb,fun h8'=>?_,fun _=>?_⟩)
  ·show(if _=_ then true else _)=_;rw[if_neg (by omega)];exact h.low k hk
  ·show(if (9:Nat)=10 then true else l 9)=false;rw[if_neg (by omega)];exact h.l9
  ·simp only[upd];rw[if_neg (by omega)];exact h.val k hk
  ·simp only[upd];rw[if_neg (by omega)];exact h2
  ·simp only[upd];rw[if_neg (by omega)];exact h6
  ·have h8'':(if (8:Nat)=10 then true else l 8)=true:=h8';rw[if_neg (by omega)]at h8'';simp only[upd];rw[if_neg (by omega)];exact h8 h8''
  simp[upd,es]
 obtain⟨W0,w1,st',h1,h2,h3,h4,h5,hb,h6,h9⟩:=h.mid;have es:=same st' (h6.symm.trans e);refine .inr (.inr ⟨fun k hk=>?_,fun k hk=>?_,W0,w1,st',h1,h2,h3,?_,?_,hb,?_,fun _=>?_⟩)
 ·show(if _=_ then true else _)=_;rw[if_neg (by omega)];exact h.low k hk
 ·simp only[upd];rw[if_neg (by omega)];exact h.val k hk
 ·simp only[upd];rw[if_neg (by omega)];exact h4
 ·simp only[upd];rw[if_neg (by omega)];exact h5
 ·simp only[upd];rw[if_neg (by omega)];exact h6
 simp[upd,es]
theorem EB.app(h:EB C NEW et W bp row0 BK l f w)(h8:l 8=true){v':Value}{w':af}(hg:w.grownBy w' row0.ownBlock)(ho:w'.ownsRow (bp+1) et sz v' (nn+1) (xs++NEW.toList))(hloc:v'.ownBlock=row0.ownBlock\/v'.ownBlock=some w.heap.size):EI C NEW et sz W bp row0 nn xs BK (fun k=>if k=9 then true else l k) (upd f 9 v') w':=by
 obtain⟨W0,st,g,h1,h2,h3,h4,h5,h6,hb,_,h9⟩:=h.mid;refine .inr (.inr ⟨fun k hk=>?_,fun k hk=>?_,W0,w,st,h1,h5,hg,?_,?_,hb,?_,fun h10=>?_⟩)
 ·by_cases e:k=9
  ·simp[e]
  by_cases e8:k=8
  ·simp only[if_neg e];rw[e8];exact h8
  simp only[if_neg e];exact h.low k (by omega)
 ·simp only[upd];rw[if_neg (by omega)];exact h.val k hk
 ·simp only[upd,if_true];exact ho
 ·simp only[upd,if_true];exact hloc
 ·simp only[upd];rw[if_neg (by omega)];exact h6
 have h10':(if (10:Nat)=9 then true else l 10)=true:=h10;rw[if_neg (by omega)]at h10';simp only[upd];rw[if_neg (by omega)];exact h9 h10'
theorem EI.last(h:EI C NEW et sz W bp row0 nn xs BK l f w)(hall:∀k,k<11->l k=true):EC C NEW et sz W bp row0 nn xs BK l f w:=by
 rcases h with h|h|h
 ·have:=hall 7 (by omega);rw[h.late 7 (by omega) (by omega)]at this;cases this
 ·have:=hall 9 (by omega);rw[h.l9]at this;cases this
 exact h
end
end Go.Proofs.YtojjoblnpldniaaGreat.G
namespace Go.Proofs.YtojjoblnpldniaaGreat
open ChangeShapes WideShapes ChangeAt RowKit Maps
abbrev K3:=ByteArray×ByteArray×ByteArray
def qK(k:K3):Value:=.agg #[.string k.1,.string k.2.1,.string k.2.2]
theorem O5(x y:K3)(h:qK x=qK y):x=y:=by
 unfold qK at h;injection h with h;have h1:=congrArg Array.toList h;simp at h1;exact Prod.ext h1.1 (Prod.ext h1.2.1 h1.2.2)
theorem UK:(273:TypeId)<prog.types.size:=of_decide_eq_true (by kernel_rfl)
theorem TQ:(match prog.underlying 273 with|some (.array _ _)|some (.struct _)=>true|_=>false)=true:=by rw[underlying273]
set_option maxRecDepth 100000 in
theorem O6:WideMaps.KeyLaw prog 273:=deep_law_laid zC (m:=3) (by omega) UK (by kernel_rfl) TQ
theorem Tk:Keyed prog 273:=Keyed.of_law O6
theorem TS:prog.keyType 273=true:=by kernel_rfl
theorem Lr:prog.cellsOf 273=3:=by kernel_rfl
theorem Mq:prog.cellsOf 27=2:=by kernel_rfl
theorem Ms:2<=prog.types.size:=of_decide_eq_true (by kernel_rfl)
theorem zP:∃n,prog.types.size=n+2:=⟨prog.types.size-2,by have:=Ms;omega⟩
set_option maxRecDepth 100000 in
theorem Ez(k:K3)(h0:k.1.size<=maxLen)(h1:k.2.1.size<=maxLen)(h2:k.2.2.size<=maxLen):∃kl,keyOf prog 273 (qK k)=some kl:=by
 obtain⟨n,hn⟩:=zP;refine⟨.string (keyBytes [.string k.1.data.toList,.string k.2.1.data.toList,.string k.2.2.data.toList]),?_⟩;unfold keyOf;rw[underlying273];simp only[TS,qK,Value.formed,underlying273,Lr,hn,Value.cells];simp +decide [Program.keyLits,underlying273,underlying27,underlying9,Lr,Mq,strCells,h0,h1,h2]
abbrev KL:=ByteArray×Int
def Gi(k:KL):Value:=.agg #[.string k.1,.int .i64 k.2]
theorem O7(x y:KL)(h:Gi x=Gi y):x=y:=by
 unfold Gi at h;injection h with h;have h1:=congrArg Array.toList h;simp at h1;exact Prod.ext h1.1 h1.2
theorem UL:(197:TypeId)<prog.types.size:=of_decide_eq_true (by kernel_rfl)
theorem TT:(match prog.underlying 197 with|some (.array _ _)|some (.struct _)=>true|_=>false)=true:=by rw[underlying197]
set_option maxRecDepth 100000 in
theorem O8:WideMaps.KeyLaw prog 197:=deep_law_laid zC (m:=2) (by omega) UL (by kernel_rfl) TT
theorem UM:Keyed prog 197:=Keyed.of_law O8
theorem TU:prog.keyType 197=true:=by kernel_rfl
theorem Lt:prog.cellsOf 197=2:=by kernel_rfl
theorem O9:prog.cellsOf 2=1:=by kernel_rfl
set_option maxRecDepth 100000 in
theorem Lu(k:KL)(h0:k.1.size<=maxLen)(h1:0<=k.2)(h2:k.2<=1000000):∃kl,keyOf prog 197 (Gi k)=some kl:=by
 have hw:(Lit.int .i64 k.2).wf=true:=WalkArith.wf_i64 ⟨by omega,by omega⟩;obtain⟨n,hn⟩:=zP;refine⟨.string (keyBytes [.string k.1.data.toList,.int .i64 k.2]),?_⟩;unfold keyOf;rw[underlying197];simp only[TU,Gi,Value.formed,underlying197,Lt,hn,Value.cells];simp +decide [Program.keyLits,underlying197,underlying2,underlying9,Lt,O9,strCells,h0,hw]
end Go.Proofs.YtojjoblnpldniaaGreat
namespace Go.Proofs.YtojjoblnpldniaaGreat.G
set_option linter.unusedVariables false
open ChangeShapes WideShapes ChangeAt RowKit
structure WI(C:Nat->Value)(W:World)(CD:Value->World->Prop)(l:Nat->Bool)(f:Nat->Value)(w:World):Prop where
 val:∀k,k<=9->k≠7->l k=true->f k=C k
 seq:l 7=true->l 4=true/\l 6=true
 nin:l 9=true->l 8=true
 mid:(l 7=false/\ag W w)\/(l 7=true/\CD (f 7) w)
section
variable  {C:Nat->Value}{W:World}{CD:Value->World->Prop}{l:Nat->Bool}{f:Nat->Value}{w:World}
theorem wi_start(W:af):WI C W CD (fun _=>false) f W.drew:=⟨fun _ _ _ h=>(by cases h),fun h=>(by cases h),fun h=>(by cases h),.inl ⟨rfl,(Vv _ _).drew⟩⟩
theorem WI.put(h:WI C W CD l f w){i:Nat}(hi:i≠7)(h9:i=9->l 8=true){v:Value}(hv:v=C i):WI C W CD (fun k=>if k=i then true else l k) (upd f i v) w:=by
 refine⟨fun k hk h7 hl=>?_,fun hl=>?_,fun hl=>?_,?_⟩
 ·by_cases e:k=i
  ·subst e;simp[upd,hv]
  simp only[if_neg e]at hl;simp only[upd,if_neg e];exact h.val k hk h7 hl
 ·have hl':(if (7:Nat)=i then true else l 7)=true:=hl;rw[if_neg (Ne.symm hi)]at hl';have:=h.seq hl';constructor
  ·show(if (4:Nat)=i then true else l 4)=true;rw[this.1];split<;>rfl
  show(if (6:Nat)=i then true else l 6)=true;rw[this.2];split<;>rfl
 ·have hl':(if (9:Nat)=i then true else l 9)=true:=hl;show(if (8:Nat)=i then true else l 8)=true;by_cases e:(9:Nat)=i
  ·rw[h9 e.symm];split<;>rfl
  rw[if_neg e]at hl';rw[h.nin hl'];split<;>rfl
 have e7:(if (7:Nat)=i then true else l 7)=l 7:=if_neg (Ne.symm hi);have f7:upd f i v 7=f 7:=by simp only[upd];rw[if_neg (Ne.symm hi)]
 rcases h.mid with⟨h1,h2⟩|⟨h1,h2⟩
 ·exact .inl ⟨e7.trans h1,h2⟩
 exact .inr ⟨e7.trans h1,by rw[f7];exact h2⟩
theorem WI.before(h:WI C W CD l f w)(hl:l 7=false):ag W w:=by
 rcases h.mid with⟨_,h2⟩|⟨h1,_⟩
 ·exact h2
 rw[h1]at hl;cases hl
theorem WI.early(h:WI C W CD l f w)(hl:l 4=false\/l 6=false):ag W w:=by
 refine h.before ?_;cases h7:l 7;case false=>rfl
 obtain⟨h4,h6⟩:=h.seq h7;rcases hl with e|e
 ·rw[h4]at e;cases e
 rw[h6]at e;cases e
theorem WI.call(h:WI C W CD l f w)(h4:l 4=true)(h6:l 6=true){v:Value}{w':af}(hc:CD v w'):WI C W CD (fun k=>if k=7 then true else l k) (upd f 7 v) w':=by
 refine⟨fun k hk h7 hl=>?_,fun _=>⟨by simp[h4],by simp[h6]⟩,fun hl=>h.nin hl,.inr ⟨by simp,by simp only[upd,if_true];exact hc⟩⟩;simp only[if_neg h7]at hl;simp only[upd,if_neg h7];exact h.val k hk h7 hl
theorem WI.last(h:WI C W CD l f w)(hall:∀k,k<10->l k=true):(∀k,k<=9->k≠7->f k=C k)/\CD (f 7) w:=by
 refine⟨fun k hk h7=>h.val k hk h7 (hall k (by omega)),?_⟩;rcases h.mid with⟨h1,_⟩|⟨_,h2⟩
 ·rw[hall 7 (by omega)]at h1;cases h1
 exact h2
end
end Go.Proofs.YtojjoblnpldniaaGreat.G
