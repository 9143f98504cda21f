/- A region that draws its order, by what holds whichever operations have come up: each operation is run once, from what those that it waits for have left. -/
import Derived.Test.YtojjoblnpldniaaGreatSq
import Derived.Test.YtojjoblnpldniaaGreatRows
import Derived.WalkKit
import Derived.Deep.RegionWith
import Derived.WalkLawsBesides
import Derived.ProofKit
import Derived.Laws.IdiomStrings
import Derived.Deep.RegionHeld3
import Derived.Deep.QuietTactic
import Derived.BigQuiet
import Derived.WalkSmall
import Derived.WalkSpells
import Derived.OwnWalk
import Derived.Maps.AppendAt
import Derived.RegionTactic
import Derived.Maps.OwnSet
import Derived.DeepKeys4
import Derived.Lib.QuietBelow
open Go.Proofs.Tryz
set_option maxHeartbeats 80000000
set_option linter.defProp false
namespace Go.Proofs.YtojjoblnpldniaaGreat
open RowKit
def PW{α:Type}(p q:α->Bool)(l:List α)(h:∀x∈l,q x=true->p x=true)(y:α)(hy:y∈l)(hp:p y=true)(hq:q y=false):l.countP q<l.countP p:=by
 induction l with
 | nil=>cases hy
 | cons a l ih =>
  rw[List.countP_cons,List.countP_cons];rcases Xc.1 hy with rfl|hy
  ·have:=List.countP_mono_left (p:=q) (q:=p) (l:=l) fun x hx=>h x<|Xu _ hx;simp[hp,hq];omega
  have h1:=ih (fun x hx=>h x<|Xu _ hx) hy;have h2:=h a<|XH ..;cases hqa:q a;case true=>simp[h2 hqa];omega
  simp;omega
section
variable  {P:Program}{ops:Array Oper}{Q:Exit->Act->World->Prop}{md:Region.Mode}
def aa{i:Nat}{o:Oper}{K:Act->World->Prop}{a:Act}{w:af}(ho:ops[i]?=some o)
  (h:∀K':Act->World->Prop,O (∀a w,K a w->K' a w)->if Region.wanted o (yielded ops a.tmps)=true then Oper.wp P o a w K' Q else K' (a.put o.dst undef) w):wpOp P ops Q i K a w:=wpOp_step ho h
def left(ops:Array Oper)(listed:Array Bool):Nat:=(List.range ops.size).countP fun i=>!(listed.getD i true)
def GZ(listed:Array Bool)(i j:Nat):(listed.setIfInBounds i true).getD j true=if j=i then true else listed.getD j true:=by
 rw[Xf,Xf,Array.getElem?_setIfInBounds];by_cases e:i=j
 ·subst e;by_cases h:i<listed.size<;>simp[h]
 simp[e,Ne.symm e]
def G5{listed:Array Bool}{i:Nat}(hi:i<ops.size)(hl:listed.getD i true=false):left ops (listed.setIfInBounds i true)<left ops listed:=by
 refine PW _ _ _ ?_ i (by simpa using hi) (by simp[hl]) (by rw[GZ];simp);intro x _ hx;simp only[GZ,Bool.not_eq_true']at hx ⊢;by_cases e:x=i
 ·simp[e]at hx
 simpa[e] using hx
def Nu(Inv:Array Bool->Act->World->Prop)
  (hstep:∀listed a w,Inv listed a w->∀i∈Region.ready md ops listed,wpOp P ops Q i (Inv<|listed.setIfInBounds i true) a w)
  (hend:∀listed a w,Inv listed a w->Region.ready md ops listed=[]->Q .normal a w) :
  ∀(fuel:Nat) (listed:Array Bool) (a:Act) (w:World),left ops listed<=fuel->Inv listed a w->wpAny P md ops Q fuel listed a w:=by
 intro fuel
 induction fuel with
 | zero =>
  intro listed a w hc hI;have hr:Region.ready md ops listed=[]:=by
   rw[List.eq_nil_iff_forall_not_mem];intro i hi;obtain⟨h1,o,h2,-⟩:=mem_ready.1 hi;have:=G5 (ops:=ops) (WQ.1 h2).1 h1;omega
  exact⟨hr,hend _ _ _ hI hr⟩
 | succ n ih =>
  intro listed a w hc hI;refine⟨fun hr=>hend _ _ _ hI hr,fun i hi=>wpOp_mono (fun a' w' h=>ih _ _ _ ?_ h) (hstep _ _ _ hI i hi)⟩;obtain⟨h1,o,h2,-⟩:=mem_ready.1 hi;have:=G5 (ops:=ops) (WQ.1 h2).1 h1;omega
def SX(ops:Array Oper)(listed:Array Bool):left ops listed<=ops.size:=by
 unfold left;exact WR List.countP_le_length ct
def eY{id:Nat}{a:Act}{w:af}(Inv:Array Bool->Act->World->Prop)(hm:P.follows .mixedOrders=true)
  (h0:Inv (Array.replicate ops.size false) a w.drew)
  (hstep:∀listed a w,Inv listed a w->∀i∈Region.ready .any ops listed,wpOp P ops Q i (Inv<|listed.setIfInBounds i true) a w)
  (hend:∀listed a w,Inv listed a w->Region.ready .any ops listed=[]->Q .normal a w):(Code.region id ops true).wp P Q a w :=
 wp_region_any hm (Nu Inv hstep hend _ _ _ _ (SX _ _) h0)
def pV{listed:Array Bool}{n:Nat}(hr:Region.ready md ops listed=[])(hs:ops.size=n)(YC:∀(i:Nat) (o:Oper),ops[i]?=some o->∀e∈o.after,e.on<i)(hsz:listed.size=n):∀i,i<n->listed.getD i true=true:=by
 intro i
 induction i using Nat.strongRecOn with
 | ind i ih =>
  intro hi;cases hl:listed.getD i true;case true=>rfl
  exfalso;have hmem:i∈Region.ready md ops listed:=by
   refine mem_ready.2 ⟨hl,ops[i]'cq,XJ cq,fun e he _=>?_⟩;have hlt:=YC i _ (XJ cq) e he;have:=ih e.on hlt cq;rw[Xf,XJ cq]at this ⊢;simpa using this
  rw[hr]at hmem;cases hmem
end
def upd(f:Nat->Value)(i:Nat)(v:Value):Nat->Value:=fun k=>if k=i then v else f k
section
variable  {P:Program}{ops:Array Oper}{Q:Exit->Act->World->Prop}
def aO(listed:Array Bool)(i j:Nat)(hi:i<listed.size):(listed.setIfInBounds i true).getD j false=if j=i then true else listed.getD j false:=by
 rw[Xf,Xf,Array.getElem?_setIfInBounds];by_cases e:i=j
 ·subst e;simp[hi]
 simp[e,Ne.symm e]
def jY{listed:Array Bool}{i:Nat}(hi:i<listed.size):listed.getD i true=listed.getD i false:=by
 rw[Xf,Xf,XJ hi];rfl
def DL(ops:Array Oper):Bool:=(List.range ops.size).all fun i=>(ops[i]?.map fun o=>o.after.all fun e=>decide (e.on<i)).getD true
def FH(ops:Array Oper)(L:Nat):Bool:=(List.range L).all fun j=>(ops[L]?.map fun o=>o.after.any fun e=>e.on==j&&Region.binds .any e).getD false
def mH{ops:Array Oper}(h:DL ops=true):∀(i:Nat) (o:Oper),ops[i]?=some o->∀e∈o.after,e.on<i:=by
 intro i o ho e he;rw[DL,WT]at h;have h1:=h i (by simpa using (WQ.1 ho).1);rw[ho]at h1;simp only[Option.map_some,XF,Array.all_eq_true_iff_forall_mem]at h1;simpa using h1 e he
def DN{ops:Array Oper}{L:Nat}(h:FH ops L=true):∀(o:Oper),ops[L]?=some o->∀j,j<L->∃e∈o.after,e.on=j/\Region.binds .any e=true:=by
 intro o ho j hj;rw[FH,WT]at h;have h1:=h j (by simpa using hj);rw[ho]at h1;simp only[Option.map_some,XF]at h1;rw[Array.any_eq_true']at h1;obtain⟨e,he,h2⟩:=h1;simp only[WM,beq_iff_eq]at h2;exact⟨e,he,h2.1,h2.2⟩
def bC{id:Nat}{a:Act}{w:af}(L:Nat)(f0:Nat->Value)(F:(Nat->Value)->Act)(V:Nat->Value->World->Prop)(G:World->Prop)
  (hm:P.follows .mixedOrders=true) (hsz:ops.size=L+1) (YC:DL ops=true) (hlo:FH ops L=true)
  (h0:a=F f0) (hG0:G w.drew)
  (hstep:∀ i,i<L->∀ o,ops[i]?=some o->∀ f w',G w'->(∀ e∈o.after,Region.binds .any e=true->V e.on (f e.on) w') ->
   wpOp P ops Q i (fun a' w''=>∃v,a'=F (upd f i v)/\G w''/\V i v w''/\∀k u,V k u w'->V k u w'') (F f) w')
  (hfin:∀o,ops[L]?=some o->∀f w',G w'->(∀k,k<L->V k (f k) w')->wpOp P ops Q L (fun a' w''=>Q .normal a' w'') (F f) w') :
  (Code.region id ops true).wp P Q a w:=by
 refine eY (fun listed a' w'=>listed.size=L+1/\((listed.getD L false=false/\∃f,a'=F f/\G w'/\∀k,k<L->listed.getD k false=true->V k (f k) w')\/((∀j,j<=L->listed.getD j true=true)/\Q .normal a' w'))) hm ?_ ?_ ?_
 ·refine⟨by simpa using hsz,Or.inl ⟨?_,_,h0,hG0,fun k _ h=>?_⟩⟩
  ·rw[Xf,Xz];split<;>rfl
  rw[Xf,Xz]at h;split at h<;>cases h
 ·rintro listed a' w' ⟨hs,h⟩ i hi;obtain⟨hl,o,ho,hpre⟩:=mem_ready.1 hi;have hiL:i<L+1:=by have:=(WQ.1 ho).1;omega
  rcases h with⟨hn,f,rfl,hG,hV⟩|⟨hall,-⟩
  ·by_cases e:i=L
   ·subst e;have hall:∀k,k<i->listed.getD k false=true:=fun k hk=>by
     obtain⟨e,he,rfl,hb⟩:=DN hlo o ho k hk;exact hpre e he hb
    refine wpOp_mono (fun a'' w'' hq=>⟨by simpa using hs,Or.inr ⟨fun j hj=>?_,hq⟩⟩) (hfin o ho f w' hG fun k hk=>hV k hk<|hall k hk);rw[jY (by simp;omega),aO _ _ _ cq];by_cases e:j=i
    ·simp[e]
    rw[if_neg e];exact hall j cq
   refine wpOp_mono ?_ (hstep i cq o ho f w' hG fun e he hb=>hV e.on (by have:=mH YC i o ho e he;omega) (hpre e he hb));rintro a'' w'' ⟨v,rfl,hG',hv,hmono⟩;refine⟨by simpa using hs,Or.inl ⟨?_,_,rfl,hG',fun k hk hkl=>?_⟩⟩
   ·rw[aO _ _ _ cq,if_neg<|Ne.symm e];exact hn
   rw[aO _ _ _ cq]at hkl;by_cases ek:k=i
   ·subst ek;simpa[upd] using hv
   rw[if_neg ek]at hkl;simp only[upd,if_neg ek];exact hmono _ _<|hV k hk hkl
  rw[hall i cq]at hl;cases hl
 rintro listed a' w' ⟨hs,h⟩ hr;rcases h with⟨hn,-⟩|⟨-,hq⟩
 ·have:=pV hr hsz (mH YC) hs L cq;rw[jY cq]at this;rw[this]at hn;cases hn
 exact hq
def oC{id:Nat}{a:Act}{w:af}(N:Nat)(f0:Nat->Value)(F:(Nat->Value)->Act)(V:Nat->Value->World->Prop)(G:World->Prop)
  (hm:P.follows .mixedOrders=true) (hsz:ops.size=N) (YC:DL ops=true)
  (h0:a=F f0) (hG0:G w.drew)
  (hstep:∀ i,i<N->∀ o,ops[i]?=some o->∀ f w',G w'->(∀ e∈o.after,Region.binds .any e=true->V e.on (f e.on) w') ->
   wpOp P ops Q i (fun a' w''=>∃v,a'=F (upd f i v)/\G w''/\V i v w''/\∀k u,V k u w'->V k u w'') (F f) w')
  (hend:∀f w',G w'->(∀k,k<N->V k (f k) w')->Q .normal (F f) w') :
  (Code.region id ops true).wp P Q a w:=by
 refine eY (fun listed a' w'=>listed.size=N/\∃f,a'=F f/\G w'/\∀k,k<N->listed.getD k false=true->V k (f k) w') hm ?_ ?_ ?_
 ·refine⟨by simpa using hsz,_,h0,hG0,fun k _ h=>?_⟩;rw[Xf,Xz]at h;split at h<;>cases h
 ·rintro listed a' w' ⟨hs,f,rfl,hG,hV⟩ i hi;obtain⟨hl,o,ho,hpre⟩:=mem_ready.1 hi;have hiN:i<N:=by have:=(WQ.1 ho).1;omega
  refine wpOp_mono ?_ (hstep i hiN o ho f w' hG fun e he hb=>hV e.on (by have:=mH YC i o ho e he;omega) (hpre e he hb));rintro a'' w'' ⟨v,rfl,hG',hv,hmono⟩;refine⟨by simpa using hs,_,rfl,hG',fun k hk hkl=>?_⟩;rw[aO _ _ _ cq]at hkl;by_cases ek:k=i
  ·subst ek;simpa[upd] using hv
  rw[if_neg ek]at hkl;simp only[upd,if_neg ek];exact hmono _ _<|hV k hk hkl
 rintro listed a' w' ⟨hs,f,rfl,hG,hV⟩ hr;refine hend f w' hG fun k hk=>hV k hk ?_;have:=pV hr hsz (mH YC) hs k hk;rwa [jY cq]at this
end
def uI(a:Act)(L:(Nat->Value)->List Value)(f:Nat->Value):Act:={ a with tmps:=(L f).toArray }
def SY(f:Nat->Value):List Value->Nat->List Nat->List Value
 | _::l,0,k::ks=>f k::SY f l 0 ks
 | v::l,n+1,ks=>v::SY f l n ks
 | l,_,_=>l
def U2(i:Nat):List Value->Nat->List Nat->Value
 | v::l,0,k::ks=>if i=k then v else U2 i l 0 ks
 | _::l,n+1,ks=>U2 i l n ks
 | _,_,_=>undef
def puts(f:Nat->Value):List (Nat×List Nat)->List Value->List Value
 | [],l=>l
 | (n,ks)::r,l=>puts f r<|SY f l n ks
def olds(i:Nat):List (Nat×List Nat)->List Value->Value
 | [],_=>undef
 | (n,ks)::r,l=>if i∈ks then U2 i l n ks else olds i r l
def vQ{a:Act}{L:(Nat->Value)->List Value}(s:List<|Nat×List Nat)(_hL:∀f,puts f s a.tmps.toList=L f:=by intro f;simp only[puts,SY,List.toList_toArray];rfl)(hs:(L fun i=>olds i s a.tmps.toList).toArray=a.tmps:=by kernel_rfl):a=uI a L (fun i=>olds i s a.tmps.toList):=by
 unfold uI;rw[hs]
end Go.Proofs.YtojjoblnpldniaaGreat
namespace Go.Proofs.YtojjoblnpldniaaGreat.Pl
def fI(c:UInt8):Bool:=decide (97<=c.toNat)&&decide (c.toNat<=122)
def Ac(c:UInt8):Bool:=fI c || (decide (48<=c.toNat)&&decide (c.toNat<=57)) || decide (c.toNat=95)
def oK(s:ByteArray):Bool:=decide (1<=s.size)&&decide (s.size<=12)
def uf(p:UInt8->Bool)(s:ByteArray):Bool:=s.data.toList.all p
def dZ(p:UInt8->Bool)(s:ByteArray):Bool:=oK s&&uf p s
def Ad(s:ByteArray):Bool:=!(s.toList==[116,104,105,115])
def aS(s:ByteArray):Bool:=dZ fI s&&Ad s
def qO(s:ByteArray):Bool:=dZ Ac s
def ah{a b:Bool}(h:a=b):Ending.returned (.bool a)=.returned (.bool b):=by rw[h]
def DR(s:bN)(k:Nat)(h:k<s.size):s.data.toList.take (k+1)=s.data.toList.take k++[s[k]]:=by
 rw[WN (by simpa using h)];rfl
def JY(p:UInt8->Bool)(s:ByteArray)(k:Nat):Bool:=(s.data.toList.take k).all p
def vR(p:UInt8->Bool)(s:bN):JY p s 0=true:=by simp[JY]
def vS(p:UInt8->Bool)(s:bN)(k:Nat)(h:k<s.size):JY p s (k+1)=(JY p s k&&p s[k]):=by
 unfold JY;rw[DR s k h];simp
def Ae(p:UInt8->Bool)(s:bN)(k:Nat)(h:s.size<=k):JY p s k=uf p s:=by
 unfold JY uf;rw[Xn (by simpa using h)]
def Af(p:UInt8->Bool)(s:bN)(k:Nat)(h:k<s.size)(hb:p s[k]=false):uf p s=false:=by
 unfold uf;rw[List.all_eq_false];exact⟨s[k],by simp[ByteArray.getElem_eq_getElem_data],by simp[hb]⟩
def fJ(t i:ByteArray):Bool:=aS t&&qO i
end Go.Proofs.YtojjoblnpldniaaGreat.Pl
namespace Go.Proofs.YtojjoblnpldniaaGreat
open ChangeShapes WideShapes ChangeAt RowKit
open Pl
def l5(c:UInt8)(w:af):
  Calls prog 191 #[.int .u8 c.toNat] w (bx w<|.bool<|fI c):=by
 go_enter func191,ntmps191;go_wp2
 all_goals go_ret
 all_goals refine⟨ah ?_,rfl⟩
 all_goals(rw[Xe];simp[fI];omega)
def aU(s:bN)(w:af)(hs:s.size<=maxLen):
  Calls prog 126 #[.string s] w (bx w<|.bool<|aS s):=by
 unfold maxLen at hs;by_cases h1:1<=s.size/\s.size<=12
 ·obtain⟨ha,hb⟩:=h1;go_enter func126,ntmps126;go_wp2
  go_loop [3] (fun i=>∃k:Nat,k<=s.size/\i=.int .i64 k/\O (JY fI s k=true)) (fun i=>s.size-(intOf i).toNat)
  case atStart=>exact⟨0,WO _,rfl,vR _ _⟩
  obtain⟨k,hk,rfl,hu⟩:=hrel;by_cases hlt:k<s.size
  ·by_cases hc:fI s[k]=true
   ·have hc1:97<=s[k].toNat:=by simp[fI]at hc;omega
    have hc2:s[k].toNat<=122:=by simp[fI]at hc;omega
    have HU:O (JY fI s (k+1)=true):=by show _=_;rw[vS _ _ _ hlt,hc,hu];rfl
    clear hc;go_wp2;go_round;case rel=>exact⟨k+1,cq,cx,HU⟩
    simp[intOf];omega
   have hc':fI s[k]=false:=by simpa using hc
   have HB:O (uf fI s=false):=Af _ _ _ hlt hc';have hd:s[k].toNat<97\/122<s[k].toNat:=by simp[fI]at hc';omega
   clear hc hc';rcases hd with hd|hd
   all_goals
    go_wp2;go_ret;exact⟨ah<|by simp[aS,dZ,HB.out],rfl⟩
  go_wp2;go_ret;refine⟨ah ?_,rfl⟩;have hall:uf fI s=true:=by rw[<-Ae fI s k cq];exact hu
  have hl:oK s=true:=by simp[oK];omega
  simp[aS,dZ,Ad,hall,hl]
 have hn:oK s=false:=by simp[oK];omega
 have HN:O (aS s=false):=by show _=_;simp[aS,dZ,hn]
 clear hn;by_cases ha:1<=s.size
 ·have hb:12<s.size:=cq;clear h1;go_enter func126,ntmps126;go_wp2;go_ret;exact⟨ah HN.symm,rfl⟩
 have ha':s.size<1:=cq;clear h1;go_enter func126,ntmps126;go_wp2;go_ret;exact⟨ah HN.symm,rfl⟩
def Au(s:bN)(w:af)(hs:s.size<=maxLen):
  Calls prog 190 #[.string s,.func (Fn.func 191) #[] #[]] w (bx w<|.bool<|dZ fI s):=by
 unfold maxLen at hs;by_cases h1:1<=s.size/\s.size<=12
 ·obtain⟨ha,hb⟩:=h1;go_enter func190,ntmps190;go_wp2
  go_loop [16] (fun i=>∃k:Nat,k<=s.size/\i=.int .i64 k/\O (JY fI s k=true)) (fun i=>s.size-(intOf i).toNat)
  case atStart=>exact⟨0,WO _,rfl,vR _ _⟩
  obtain⟨k,hk,rfl,hu⟩:=hrel;by_cases hlt:k<s.size
  ·by_cases hc:fI s[k]=true
   ·have HU:O (JY fI s (k+1)=true):=by show _=_;rw[vS _ _ _ hlt,hc,hu];rfl
    go_wp2_with(go_at_call 191;refine(l5 _ _).mono ?_;rintro e w' ⟨rfl,rfl⟩);go_round;case rel=>exact⟨k+1,cq,cx,HU⟩
    simp[intOf];omega
   have hc':fI s[k]=false:=by simpa using hc
   have HB:O (uf fI s=false):=Af _ _ _ hlt hc';clear hc;go_wp2_with(go_at_call 191;refine(l5 _ _).mono ?_;rintro e w' ⟨rfl,rfl⟩);go_ret;exact⟨ah<|by simp[dZ,HB.out],rfl⟩
  go_wp2;go_ret;refine⟨ah ?_,rfl⟩;have hall:uf fI s=true:=by rw[<-Ae fI s k cq];exact hu
  have hl:oK s=true:=by simp[oK];omega
  simp[dZ,hall,hl]
 have hn:oK s=false:=by simp[oK];omega
 have HN:O (dZ fI s=false):=by show _=_;simp[dZ,hn]
 clear hn;by_cases ha:1<=s.size
 ·have hb:12<s.size:=cq;clear h1;go_enter func190,ntmps190;go_wp2;go_ret;exact⟨ah HN.symm,rfl⟩
 have ha':s.size<1:=cq;clear h1;go_enter func190,ntmps190;go_wp2;go_ret;exact⟨ah HN.symm,rfl⟩
def aP(s:bN)(w:af)(hs:s.size<=maxLen):
  Calls prog 122 #[.string s] w (bx w<|.bool<|aS s):=by
 by_cases h:s.toList=[116,104,105,115]
 ·have hb:(s.toList==[116,104,105,115])=true:=by simp[h]
  have HN:O (aS s=false):=by show _=_;simp[aS,Ad,h]
  clear h;go_enter func122,ntmps122;go_wp2;go_ret;exact⟨ah HN.symm,rfl⟩
 have hb:(s.toList==[116,104,105,115])=false:=by simp[h]
 have HN:O (aS s=dZ fI s):=by show _=_;simp[aS,Ad,h]
 clear h;go_enter func122,ntmps122;go_wp2_with(go_at_call 190;refine(Au _ _ hs).mono ?_;rintro e w' ⟨rfl,rfl⟩);go_ret;exact⟨ah HN.symm,rfl⟩
structure Al where
 t:ByteArray
 s:ByteArray
abbrev Q0a:=List Al
def Al.fits(a:Al):Prop:=a.t.size<=maxLen/\a.s.size<=maxLen
def U3(w:World)(b off:Nat)(a:Al):Prop:=w.cell? ⟨b,off,none⟩=some (.string a.t)/\w.cell? ⟨b,off+1,none⟩=some (.string a.s)
def kV(w:World)(ad:Q02)(xs:Q0a):Prop:=xs=[] \/ ∃b off,ad=some ⟨b,off,none⟩/\b<w.heap.size/\∀(i:Nat) (h:i<xs.length),U3 w b (off+i*2) xs[i]
def sK(w:World)(ad:Q02)(zs:List Int):Prop:=zs=[] \/ ∃b off,ad=some ⟨b,off,none⟩/\b<w.heap.size/\∀(i:Nat) (h:i<zs.length),w.cell? ⟨b,off+i,none⟩=some (.int .i64 zs[i])
def U3.same{w w':af}{b off:Nat}{a:Al}(h:U3 w b off a)(hc:∀o,w'.cell? (aq b o)=w.cell? (aq b o)):U3 w' b off a:=⟨(hc _).trans h.1,(hc _).trans h.2⟩
def kV.below{w w':af}{ad:Q02}{xs:Q0a}(h:kV w ad xs)(hB:ag w w'):kV w' ad xs:=by
 rcases h with h|⟨b,off,e,hb,hr⟩
 ·exact .inl h
 exact .inr ⟨b,off,e,WJ hb hB.size,fun i hi=>(hr i hi).same fun o=>hB.cell (p:=⟨b,o,none⟩) hb⟩
def sK.below{w w':af}{ad:Q02}{zs:List Int}(h:sK w ad zs)(hB:ag w w'):sK w' ad zs:=by
 rcases h with h|⟨b,off,e,hb,hr⟩
 ·exact .inl h
 exact .inr ⟨b,off,e,WJ hb hB.size,fun i hi=>(hB.cell (p:=⟨b,off+i,none⟩) hb).trans<|hr i hi⟩
structure Ex where
 kind:Int
 allow:List Al
 over:ByteArray
 name:ByteArray
 kids:List Int
abbrev Q09:=List Ex
structure ER where
 e:Ex
 adA:Option Addr
 capA:Nat
 adK:Option Addr
 capK:Nat
abbrev ce(q:ER):Array Value:=#[.int .i64 q.e.kind,.slice q.adA q.e.allow.length q.capA,.string q.e.over,.string q.e.name,.slice q.adK q.e.kids.length q.capK]
abbrev Q08:=List ER
def ER.val(r:ER):Value:=.agg #[.int .i64 r.e.kind,.slice r.adA r.e.allow.length r.capA,.string r.e.over,.string r.e.name,.slice r.adK r.e.kids.length r.capK]
def ER.ok(w:World)(r:ER):Prop:=kV w r.adA r.e.allow/\sK w r.adK r.e.kids
def Ex.fits(e:Ex):Prop:=(∀a∈e.allow,a.fits)/\e.over.size<=maxLen/\e.name.size<=maxLen/\e.allow.length<=maxLen/\e.kids.length<=maxLen
def ER.ok.below{w w':af}{r:ER}(h:r.ok w)(hB:ag w w'):r.ok w':=⟨h.1.below hB,h.2.below hB⟩
def vP(w:World)(b off:Nat)(r:ER):Prop :=
 w.cell? ⟨b,off,none⟩=some (.int .i64 r.e.kind)/\w.cell? ⟨b,off+1,none⟩=some (.slice r.adA r.e.allow.length r.capA)/\w.cell? ⟨b,off+2,none⟩=some (.string r.e.over) /\
 w.cell? ⟨b,off+3,none⟩=some (.string r.e.name)/\w.cell? ⟨b,off+4,none⟩=some (.slice r.adK r.e.kids.length r.capK)
def vP.same{w w':af}{b off:Nat}{r:ER}(h:vP w b off r)(hc:∀o,w'.cell? (aq b o)=w.cell? (aq b o)):vP w' b off r:=by
 obtain⟨h0,h1,h2,h3,h4⟩:=h;exact⟨(hc _).trans h0,(hc _).trans h1,(hc _).trans h2,(hc _).trans h3,(hc _).trans h4⟩
def iw(w:World)(ad:Q02)(rs:Q08):Prop:=rs=[] \/ ∃b off,ad=some ⟨b,off,none⟩/\b<w.heap.size/\(∀(i:Nat) (h:i<rs.length),vP w b (off+i*5) rs[i])/\∀r∈rs,r.ok w
def iw.below{w w':af}{ad:Q02}{rs:Q08}(h:iw w ad rs)(hB:ag w w'):iw w' ad rs:=by
 rcases h with h|⟨b,off,e,hb,hr,hk⟩
 ·exact .inl h
 exact .inr ⟨b,off,e,WJ hb hB.size,fun i hi=>(hr i hi).same fun o=>hB.cell (p:=⟨b,o,none⟩) hb,fun r hr=>(hk r hr).below hB⟩
def ai(rs:Q08):List Ex:=rs.map ER.e
def au(rs:Q08):(ai rs).length=rs.length:=by simp[ai]
def vT(s:ByteArray):Bool:=s.toList.isEmpty || aS s
def JZ(s:bN)(w:af)(hs:s.size<=maxLen):
  Calls prog 148 #[.string s] w (bx w<|.bool<|vT s):=by
 go_enter func148,ntmps148;go_wp2_with(go_at_call 122;refine(aP _ _ hs).mono ?_;rintro e w' ⟨rfl,rfl⟩)
 all_goals go_ret
 all_goals exact⟨ah<|by simp[vT, *],rfl⟩
def Ex.light(e:Ex):Prop:=e.allow.length<=1048576/\e.kids.length<=1048576
structure Fil(w wr:World)(g n:Nat)(xs:Q03):Prop where
 below:ag w wr
 ge:w.heap.size<=g
 lt:g<wr.heap.size
 done:∀(j:Nat) (h:j<xs.length),wr.cell? ⟨g,j,none⟩=some xs[j]
 there:∀j,j<n->(wr.cell? ⟨g,j,none⟩).isSome=true
 free:∀j,wr.frozen? ⟨g,j,none⟩=false
def iL{w:af}{g i j:Nat}{v:Value}(h:i≠j):(w.setCell (aq g i) v).cell? (aq g j)=w.cell? (aq g j):=by
 apply World.cell?_setCell_other;intro e;exact h<|congrArg Addr.off e
def oL{w:af}{a:Addr}{v u:Value}(h:w.cell? a=some u):(w.setCell a v).cell? a=some v:=by
 apply World.cell?_setCell_same;exact h
def yY{w:af}{g h i j:Nat}{v:Value}(hn:g≠h):(w.setCell (aq g i) v).cell? (aq h j)=w.cell? (aq h j):=by
 apply World.cell?_setCell_other;intro e;exact hn<|congrArg Addr.block e
def Fil.later{w wr w1:af}{g n:Nat}{xs:Q03}(h:Fil w wr g n xs)(hb:ag wr w1):Fil w w1 g n xs where
 below:=h.below.trans<|hb.mono h.below.size
 ge:=h.ge
 lt:=WJ h.lt hb.size
 done j hj:=by rw[hb.cell (p:=⟨g,j,none⟩) h.lt];exact h.done j hj
 there j hj:=by rw[hb.cell (p:=⟨g,j,none⟩) h.lt];exact h.there j hj
 free j:=by rw[hb.frozen (p:=⟨g,j,none⟩) h.lt];exact h.free j
def Fil.put{w wr:af}{g n o:Nat}{xs:Q03}(h:Fil w wr g n xs)(v:Value)(ho:o=xs.length)(hn:o<n):Fil w (wr.setCell (aq g o) v) g n (xs++[v]) where
 below:=h.below.setCell (p:=⟨g,o,none⟩) h.ge v
 ge:=h.ge
 lt:=by simpa using h.lt
 done j hj:=by
  by_cases e:j=o
  ·subst e;obtain⟨u,hu⟩:=Option.isSome_iff_exists.mp<|h.there j hn;rw[oL hu];simp[ho]
  have hj':j<xs.length:=by simp at hj;omega
  rw[iL (Ne.symm e),h.done j hj',Xp hj']
 there j hj:=by
  by_cases e:j=o
  ·subst e;obtain⟨u,hu⟩:=Option.isSome_iff_exists.mp<|h.there j hn;rw[oL hu];rfl
  rw[iL (Ne.symm e)];exact h.there j hj
 free j:=by simpa using h.free j
def PX{w w0:af}{n k:Nat}{base:Nat}{e:TypeId}{xs:Q03}(h:w0.ownsRow base e k (.slice (some<|am w.heap.size) n n) n xs)(hg:w.grownBy w0 none):Fil w w0 w.heap.size (n*k) [] where
 below:=(WL _ _).grown hg (WK _) (fun k hk=>by cases hk)
 ge:=WK _
 lt:=(h.lt w.heap.size rfl).2
 done j hj:=absurd hj<|XE _
 there j hj:=by
  rw[h.cellAt j hj,WS<|by rw[h.1];exact hj];rfl
 free j:=h.frozenAt j
def U4{t:TypeId}{n b:Nat}(h:(prog.info? t).map (fun i=>(i.zero.isSome,i.size,i.bytes))=some (true,n,b)):∃i z,prog.info? t=some i/\i.zero=some z/\i.size=n/\i.bytes=b:=by
 cases hi:prog.info? t with
 | none=>rw[hi]at h;cases h
 | some i =>
  rw[hi]at h;simp at h;obtain⟨z,hz⟩:=Option.isSome_iff_exists.mp h.1;exact⟨i,z,rfl,hz,h.2.1,h.2.2⟩
def ints(zs:List Int):List Value:=zs.map<|Value.int .i64
def pairs(xs:Q0a):List Value:=xs.flatMap fun a=>[.string a.t,.string a.s]
def kI:∀xs:List Al,(pairs xs).length=xs.length*2
 | []=>rfl
 | a::xs=>by have:=kI xs;simp only[pairs,Xr,WP,Xq,XQ]at this ⊢;omega
def qZ:∀(xs:Q0a) (i:Nat) (h:i<xs.length),(pairs xs)[i*2]?=some (.string xs[i].t)/\(pairs xs)[i*2+1]?=some (.string xs[i].s)
 | [],i,h=>by simp at h
 | a::xs,0,_=>by simp[pairs]
 | a::xs,i+1,h=>by
  have:=qZ xs i (by simpa using h);simp only[pairs,Xr,XB,XR,List.getElem_cons_succ]at this ⊢;rw[show(i+1)*2=i*2+1+1 by omega,show i*2+1+1+1=(i*2+1)+1+1 by omega];simpa using this
def kV.set{w:af}{ad:Q02}{xs:Q0a}{g o:Nat}{v:Value}(h:kV w ad xs)(hn:∀b off,ad=some (aq b off)->g≠b):kV (w.setCell (aq g o) v) ad xs:=by
 rcases h with h|⟨b,off,e,hb,hr⟩
 ·exact .inl h
 exact .inr ⟨b,off,e,by simpa using hb,fun i hi=>(hr i hi).same fun o=>yY<|hn b off e⟩
def sK.set{w:af}{ad:Q02}{zs:List Int}{g o:Nat}{v:Value}(h:sK w ad zs)(hn:∀b off,ad=some (aq b off)->g≠b):sK (w.setCell (aq g o) v) ad zs:=by
 rcases h with h|⟨b,off,e,hb,hr⟩
 ·exact .inl h
 exact .inr ⟨b,off,e,by simpa using hb,fun i hi=>by rw[yY (hn b off e)];exact hr i hi⟩
def kept{W w1:af}{n o:Nat}{v:Value}(hb:ag W w1)(hn:cU n W)(h:W.cell? (aq n o)=some v):w1.cell? (aq n o)=some v:=by
 rw[hb.cell (p:=⟨n,o,none⟩) hn];exact h
def q8{W w1:af}{n o:Nat}(hb:ag W w1)(hn:cU n W)(h:W.frozen? (aq n o)=false):w1.frozen? (aq n o)=false:=by
 rw[hb.frozen (p:=⟨n,o,none⟩) hn];exact h
def PY(w:af)(x:Obj)(C:Array Value)(t:TypeId)(k:Nat){v:Value}(h:C[k]?=some v):((w.alloc x).alloc<|.cells C t).cell? (aq (w.heap.size+1) k)=some v:=by
 have:=World.cell?_alloc_mark (w.alloc x) C t (0,0) k;rw[World.size_alloc,h]at this;exact this
def U5(w:af)(x y:Obj)(C:Array Value)(t:TypeId)(k:Nat){v:Value}(h:C[k]?=some v):(((w.alloc x).alloc y).alloc<|.cells C t).cell? (aq (w.heap.size+1+1) k)=some v:=by
 have:=PY (w.alloc x) y C t k h;rw[World.size_alloc]at this;exact this
def ER.row(r:ER):List Value:=[.int .i64 r.e.kind,.slice r.adA r.e.allow.length r.capA,.string r.e.over,.string r.e.name,.slice r.adK r.e.kids.length r.capK]
def dV(rs:Q08):List Value:=rs.flatMap ER.row
def xS:∀rs:List ER,(dV rs).length=rs.length*5
 | []=>rfl
 | r::rs=>by have:=xS rs;simp only[dV,ER.row,Xr,WP,Xq,XQ]at this ⊢;omega
def Av:∀(rs:Q08) (i:Nat) (h:i<rs.length) (j:Nat),j<5->(dV rs)[i*5+j]?=(rs[i]).row[j]?
 | [],i,h,_,_=>by simp at h
 | r::rs,0,_,j,hj=>by
  simp only[dV,Xr,Nat.zero_mul,Xl,List.getElem_cons_zero];rw[XD (by simpa[ER.row] using hj)]
 | r::rs,i+1,h,j,hj=>by
  have:=Av rs i (by simpa using h) j hj;simp only[dV,Xr,List.getElem_cons_succ]at this ⊢;rw[Xx (by simp[ER.row];omega),<-this];congr 1;simp[ER.row];omega
def Fil.rows{w w':af}{g:Nat}{rs:Q08}(h:Fil w w' g (rs.length*5)<|dV rs)(hok:∀r∈rs,r.ok w'):iw w' (some<|am g) rs:=by
 refine .inr ⟨g,0,rfl,h.lt,fun i hi=>?_,hok⟩;have hl:=xS rs;have key:∀j,j<5->w'.cell? (aq g<|0+i*5+j)=(rs[i]).row[j]?:=fun j hj=>by
  rw[Xl,h.done (i*5+j) cq,<-Av rs i hi j hj,WS cq]
 exact⟨key 0 cq,key 1 cq,key 2 cq,key 3 cq,key 4 cq⟩
def ER.new(B:Nat)(r:ER):Prop:=∃gA gK:Nat,r.adA=some ⟨gA,0,none⟩/\r.adK=some ⟨gK,0,none⟩/\B<gA/\B<gK/\r.capA=r.e.allow.length
def ER.ok.set{w:af}{r:ER}{g o:Nat}{v:Value}(h:r.ok w)(hn:r.new g):r.ok (w.setCell (aq g o) v):=by
 obtain⟨gA,gK,e1,e2,h1,h2,-⟩:=hn;refine⟨h.1.set fun b off e=>?_,h.2.set fun b off e=>?_⟩
 ·rw[e1]at e;injection e with e;injection e with e3 e4;omega
 rw[e2]at e;injection e with e;injection e with e3 e4;omega
def ER.new.mono{B B':Nat}{r:ER}(h:r.new B)(hB:B'<=B):r.new B':=by
 obtain⟨gA,gK,e1,e2,h1,h2,h3⟩:=h;exact⟨gA,gK,e1,e2,cq,cq,h3⟩
structure Rl where
 name:ByteArray
 expr:List Ex
structure RR where
 name:ByteArray
 rows:List ER
 ad:Option Addr
 cap:Nat
abbrev ck(q:RR):Array Value:=#[.string q.name,.slice q.ad q.rows.length q.cap]
abbrev Q07:=List RR
def RR.p(r:RR):Rl:=⟨r.name,ai r.rows⟩
def RR.val(r:RR):Value:=.agg #[.string r.name,.slice r.ad r.rows.length r.cap]
def RR.ok(w:World)(r:RR):Prop:=iw w r.ad r.rows
def RR.fits(r:RR):Prop:=r.name.size<=maxLen/\r.rows.length<=maxLen/\∀q∈r.rows,q.e.fits
def RR.light(r:RR):Prop:=r.rows.length<=1048576/\∀q∈r.rows,q.e.light
def RR.caps(r:RR):Prop:=r.rows.length<=r.cap/\∀q∈r.rows,q.e.allow.length<=q.capA
def RR.new(B:Nat)(r:RR):Prop:=(∃g:Nat,r.ad=some ⟨g,0,none⟩/\B<g)/\∀q∈r.rows,q.new B
def RR.ok.below{w w':af}{r:RR}(h:r.ok w)(hB:ag w w'):r.ok w':=iw.below h hB
def AtR(w:World)(b off:Nat)(r:RR):Prop:=w.cell? ⟨b,off,none⟩=some (.string r.name)/\w.cell? ⟨b,off+1,none⟩=some (.slice r.ad r.rows.length r.cap)
def AtR.same{w w':af}{b off:Nat}{r:RR}(h:AtR w b off r)(hc:∀o,w'.cell? (aq b o)=w.cell? (aq b o)):AtR w' b off r:=⟨(hc _).trans h.1,(hc _).trans h.2⟩
def AtR.later{w w':af}{b off:Nat}{r:RR}(h:AtR w b off r)(hb:cU b w)(hB:ag w w'):AtR w' b off r:=h.same fun o=>hB.cell (p:=⟨b,o,none⟩) hb
def Df(w:World)(ad:Q02)(rs:Q07):Prop:=rs=[] \/ ∃b off,ad=some ⟨b,off,none⟩/\b<w.heap.size/\(∀(i:Nat) (h:i<rs.length),AtR w b (off+i*2) rs[i])/\∀r∈rs,r.ok w
def Df.below{w w':af}{ad:Q02}{rs:Q07}(h:Df w ad rs)(hB:ag w w'):Df w' ad rs:=by
 rcases h with h|⟨b,off,e,hb,hr,hk⟩
 ·exact .inl h
 exact .inr ⟨b,off,e,WJ hb hB.size,fun i hi=>(hr i hi).same fun o=>hB.cell (p:=⟨b,o,none⟩) hb,fun r hr=>(hk r hr).below hB⟩
def df(rs:Q07):List Rl:=rs.map RR.p
def dP(rs:Q07):(df rs).length=rs.length:=by simp[df]
def RR.ok.set{w:af}{r:RR}{g o:Nat}{v:Value}(h:r.ok w)(hn:r.new g):r.ok (w.setCell (aq g o) v):=by
 obtain⟨⟨gE,e1,h1⟩,h2⟩:=hn;rcases h with h|⟨b,off,e,hb,hr,hk⟩
 ·exact .inl h
 refine .inr ⟨b,off,e,by simpa using hb,fun i hi=>(hr i hi).same fun o=>yY ?_,fun q hq=>(hk q hq).set<|h2 q hq⟩;rw[e1]at e;injection e with e;injection e with e3 e4;omega
def RR.new.mono{B B':Nat}{r:RR}(h:r.new B)(hB:B'<=B):r.new B':=by
 obtain⟨⟨g,e,hg⟩,h2⟩:=h;exact⟨⟨g,e,cq⟩,fun q hq=>(h2 q hq).mono hB⟩
structure Ty where
 name:ByteArray
 rels:List Rl
abbrev Q0b:=List Ty
structure TR where
 name:ByteArray
 rows:List RR
 ad:Option Addr
 cap:Nat
abbrev cm(q:TR):Array Value:=#[.string q.name,.slice q.ad q.rows.length q.cap]
abbrev Q06:=List TR
def TR.p(r:TR):Ty:=⟨r.name,df r.rows⟩
def TR.val(r:TR):Value:=.agg #[.string r.name,.slice r.ad r.rows.length r.cap]
def TR.ok(w:World)(r:TR):Prop:=Df w r.ad r.rows
def TR.fits(r:TR):Prop:=r.name.size<=maxLen/\r.rows.length<=maxLen/\∀q∈r.rows,q.fits
def TR.light(r:TR):Prop:=r.rows.length<=1048576/\∀q∈r.rows,q.light
def TR.caps(r:TR):Prop:=r.rows.length<=r.cap/\∀q∈r.rows,q.caps
def TR.new(B:Nat)(r:TR):Prop:=(∃g:Nat,r.ad=some ⟨g,0,none⟩/\B<g)/\∀q∈r.rows,q.new B
def TR.ok.below{w w':af}{r:TR}(h:r.ok w)(hB:ag w w'):r.ok w':=Df.below h hB
def PS(w:World)(b off:Nat)(r:TR):Prop:=w.cell? ⟨b,off,none⟩=some (.string r.name)/\w.cell? ⟨b,off+1,none⟩=some (.slice r.ad r.rows.length r.cap)
def PS.same{w w':af}{b off:Nat}{r:TR}(h:PS w b off r)(hc:∀o,w'.cell? (aq b o)=w.cell? (aq b o)):PS w' b off r:=⟨(hc _).trans h.1,(hc _).trans h.2⟩
def PS.later{w w':af}{b off:Nat}{r:TR}(h:PS w b off r)(hb:cU b w)(hB:ag w w'):PS w' b off r:=h.same fun o=>hB.cell (p:=⟨b,o,none⟩) hb
def jX(w:World)(ad:Q02)(rs:Q06):Prop:=rs=[] \/ ∃b off,ad=some ⟨b,off,none⟩/\b<w.heap.size/\(∀(i:Nat) (h:i<rs.length),PS w b (off+i*2) rs[i])/\∀r∈rs,r.ok w
def jX.below{w w':af}{ad:Q02}{rs:Q06}(h:jX w ad rs)(hB:ag w w'):jX w' ad rs:=by
 rcases h with h|⟨b,off,e,hb,hr,hk⟩
 ·exact .inl h
 exact .inr ⟨b,off,e,WJ hb hB.size,fun i hi=>(hr i hi).same fun o=>hB.cell (p:=⟨b,o,none⟩) hb,fun r hr=>(hk r hr).below hB⟩
def ae(rs:Q06):List Ty:=rs.map TR.p
def bz(rs:Q06):(ae rs).length=rs.length:=by simp[ae]
def TR.ok.set{w:af}{r:TR}{g o:Nat}{v:Value}(h:r.ok w)(hn:r.new g):r.ok (w.setCell (aq g o) v):=by
 obtain⟨⟨gE,e1,h1⟩,h2⟩:=hn;rcases h with h|⟨b,off,e,hb,hr,hk⟩
 ·exact .inl h
 refine .inr ⟨b,off,e,by simpa using hb,fun i hi=>(hr i hi).same fun o=>yY ?_,fun q hq=>(hk q hq).set<|h2 q hq⟩;rw[e1]at e;injection e with e;injection e with e3 e4;omega
def TR.new.mono{B B':Nat}{r:TR}(h:r.new B)(hB:B'<=B):r.new B':=by
 obtain⟨⟨g,e,hg⟩,h2⟩:=h;exact⟨⟨g,e,cq⟩,fun q hq=>(h2 q hq).mono hB⟩
variable  {P:Program}{ops:Array Oper}{Q:Exit->Act->World->Prop}
def xU(ops:Array Oper):Bool:=(List.range ops.size).all fun i=>(ops[i]?.map fun o=>o.after.all fun e=>!Region.binds .any e || decide (e.on<i)).getD true
def mi{ops:Array Oper}(h:xU ops=true):∀(i:Nat) (o:Oper),ops[i]?=some o->∀e∈o.after,Region.binds .any e=true->e.on<i:=by
 intro i o ho e he hb;rw[xU,WT]at h;have h1:=h i (by simpa using (WQ.1 ho).1);rw[ho]at h1;simp only[Option.map_some,XF,Array.all_eq_true_iff_forall_mem]at h1;have h2:=h1 e he;rw[hb]at h2;simpa using h2
def nQ{listed:Array Bool}{n:Nat}(hr:Region.ready .any ops listed=[])(hs:ops.size=n)(YC:∀(i:Nat) (o:Oper),ops[i]?=some o->∀e∈o.after,Region.binds .any e=true->e.on<i)(hsz:listed.size=n):∀i,i<n->listed.getD i true=true:=by
 intro i
 induction i using Nat.strongRecOn with
 | ind i ih =>
  intro hi;cases hl:listed.getD i true;case true=>rfl
  exfalso;have hmem:i∈Region.ready .any ops listed:=by
   refine mem_ready.2 ⟨hl,ops[i]'cq,XJ cq,fun e he hb=>?_⟩;have hlt:=YC i _ (XJ cq) e he hb;have:=ih e.on hlt cq;rw[Xf,XJ cq]at this ⊢;simpa using this
  rw[hr]at hmem;cases hmem
def Ag(ops:Array Oper)(L:Nat):Bool:=(List.range L).all fun j=>(List.range<|L+1).any fun k=>decide (j<k)&&(ops[k]?.map fun o=>o.after.any fun e=>e.on==j&&Region.binds .any e).getD false
def J3{ops:Array Oper}{L:Nat}(h:Ag ops L=true):∀j,j<L->∃k o,j<k/\k<=L/\ops[k]?=some o/\∃e∈o.after,e.on=j/\Region.binds .any e=true:=by
 intro j hj;rw[Ag,WT]at h;have h1:=h j<|List.mem_range.2 hj;rw[Xj]at h1;obtain⟨k,hk,h2⟩:=h1;simp only[WM,WW]at h2;cases ho:ops[k]? with
 | none=>rw[ho]at h2;simp at h2
 | some o =>
  rw[ho]at h2;simp only[Option.map_some,XF]at h2;obtain⟨h3,h4⟩:=h2;rw[Array.any_eq_true']at h4;obtain⟨e,he,h5⟩:=h4;simp only[WM,beq_iff_eq]at h5;exact⟨k,o,h3,by have:=List.mem_range.1 hk;omega,ho,e,he,h5.1,h5.2⟩
def Shut(ops:Array Oper)(listed:Array Bool):Prop:=∀(k:Nat) (o:Oper),ops[k]?=some o->listed.getD k false=true->∀e∈o.after,Region.binds .any e=true->listed.getD e.on false=true
def PZ{ops:Array Oper}{listed:Array Bool}{L:Nat}(hlo:Ag ops L=true)(hS:Shut ops listed){o:Oper}(ho:ops[L]?=some o)(hpre:∀e∈o.after,Region.binds .any e=true->listed.getD e.on false=true):∀d j,j+d=L->j<L->listed.getD j false=true:=by
 intro d
 induction d using Nat.strongRecOn with
 | ind d ih =>
  intro j hjd hj;obtain⟨k,o',h1,h2,h3,e,he,h4,h5⟩:=J3 hlo j hj;by_cases hk:k=L
  ·subst hk;rw[ho]at h3;injection h3 with h3;subst h3;rw[<-h4];exact hpre e he h5
  have:=ih (L-k) cq k cq cq;rw[<-h4];exact hS k o' h3 this e he h5
def mI{id:Nat}{a:Act}{w:af}(L:Nat)(f0:Nat->Value)(F:(Nat->Value)->Act)(V:Nat->Value->World->Prop)(G:Array Bool->World->Prop)
  (hm:P.follows .mixedOrders=true) (hsz:ops.size=L+1) (YC:xU ops=true) (hlo:Ag ops L=true)
  (h0:a=F f0) (hG0:G (Array.replicate ops.size false) w.drew)
  (hstep:∀ i,i<L->∀ o,ops[i]?=some o->∀ (listed:Array Bool) f w',listed.size=L+1->listed.getD i true=false->G listed w'->(∀ e∈o.after,Region.binds .any e=true->V e.on (f e.on) w') ->
   wpOp P ops Q i (fun a' w''=>∃v,a'=F (upd f i v)/\G (listed.setIfInBounds i true) w''/\V i v w''/\∀k u,k≠i->V k u w'->V k u w'') (F f) w')
  (hfin:∀o,ops[L]?=some o->∀(listed:Array Bool) f w',G listed w'->(∀k,k<L->V k (f k) w')->wpOp P ops Q L (fun a' w''=>Q .normal a' w'') (F f) w') :
  (Code.region id ops true).wp P Q a w:=by
 refine eY (fun listed a' w'=>listed.size=L+1/\((listed.getD L false=false/\Shut ops listed/\∃f,a'=F f/\G listed w'/\∀k,k<L->listed.getD k false=true->V k (f k) w')\/((∀j,j<=L->listed.getD j true=true)/\Q .normal a' w'))) hm ?_ ?_ ?_
 ·refine⟨by simpa using hsz,Or.inl ⟨?_,fun k o _ h=>?_,_,h0,hG0,fun k _ h=>?_⟩⟩
  ·rw[Xf,Xz];split<;>rfl
  ·rw[Xf,Xz]at h;split at h<;>cases h
  rw[Xf,Xz]at h;split at h<;>cases h
 ·rintro listed a' w' ⟨hs,h⟩ i hi;obtain⟨hl,o,ho,hpre⟩:=mem_ready.1 hi;have hiL:i<L+1:=by have:=(WQ.1 ho).1;omega
  rcases h with⟨hn,hS,f,rfl,hG,hV⟩|⟨hall,-⟩
  ·by_cases e:i=L
   ·subst e;have hall:∀k,k<i->listed.getD k false=true:=fun k hk=>PZ hlo hS ho hpre (i-k) k cq hk;refine wpOp_mono (fun a'' w'' hq=>⟨by simpa using hs,Or.inr ⟨fun j hj=>?_,hq⟩⟩) (hfin o ho listed f w' hG fun k hk=>hV k hk<|hall k hk);rw[jY (by simp;omega),aO _ _ _ cq];by_cases e:j=i
    ·simp[e]
    rw[if_neg e];exact hall j cq
   refine wpOp_mono ?_ (hstep i cq o ho listed f w' hs hl hG fun e he hb=>hV e.on (by have:=mi YC i o ho e he hb;omega) (hpre e he hb));rintro a'' w'' ⟨v,rfl,hG',hv,hmono⟩;refine⟨by simpa using hs,Or.inl ⟨?_,fun k o' ho' hkl e' he' hb'=>?_,_,rfl,hG',fun k hk hkl=>?_⟩⟩
   ·rw[aO _ _ _ cq,if_neg<|Ne.symm e];exact hn
   ·rw[aO _ _ _ cq]at hkl ⊢;by_cases ee:e'.on=i
    ·rw[if_pos ee]
    rw[if_neg ee];by_cases ek:k=i
    ·subst ek;rw[ho]at ho';injection ho' with ho';subst ho';exact hpre e' he' hb'
    rw[if_neg ek]at hkl;exact hS k o' ho' hkl e' he' hb'
   rw[aO _ _ _ cq]at hkl;by_cases ek:k=i
   ·subst ek;simpa[upd] using hv
   rw[if_neg ek]at hkl;simp only[upd,if_neg ek];exact hmono _ _ ek<|hV k hk hkl
  rw[hall i cq]at hl;cases hl
 rintro listed a' w' ⟨hs,h⟩ hr;rcases h with⟨hn,-⟩|⟨-,hq⟩
 ·have:=nQ hr hsz (mi YC) hs L cq;rw[jY cq]at this;rw[this]at hn;cases hn
 exact hq
def ib{P:Program}{ops:Array Oper}{Q:Exit->Act->World->Prop}{k:Nat}{o:Oper}{K:Act->World->Prop}{a:Act}(w:af)(hop:ops[k]?=some o)(hgd:o.guard=none)(s x:Operand)(t:TypeId)
  (ho:o.op=.call { callee:=.builtin .append,args:=#[s,x],argTypes:=#[t,t] })
  (base:Nat) (e:TypeId) (i:TypeInfo) (z:Value) (size bytes:Nat) (ht:P.underlying t=some (.slice e)) (hi:P.info? e=some i) (hz:i.zero=some z)
  (hsize:i.size=size) (hby:i.bytes=bytes) (hzs:z.cells.size=size) (hsz:0<size)
  (v:Value) (n:Nat) (xs:Q03) (hs:a.eval s=v) (hown:w.ownsRow base e size v n xs)
  (ad:Addr) (m c:Nat) (news:Q03) (hx:a.eval x=.slice (some ad) m c) (hl:news.length=m*size) (hnews:∀j u,news[j]?=some u->w.cell? (ad.add j)=some u) (h1:∀u∈news,u.oneCell'=true)
  (h63:n+m<=maxLen) (hbytes:(n+m)*bytes<=140737488355328) (hbase:cd base w)
  (h:∀v' w',w'.ownsRow base e size v' (n+m) (xs++news)->w.grownBy w' v.ownBlock->(v'.ownBlock=v.ownBlock\/v'.ownBlock=some w.heap.size)->K (a.put o.dst v') w') :
  wpOp P ops Q k K a w:=by
 refine wpOp_step hop fun K' hK=>?_;have hw:Region.wanted o (yielded ops a.tmps)=true:=by simp[Region.wanted,hgd]
 rw[if_pos hw];obtain⟨v',w',hr,h2,h3,h4,h5⟩:=run_append_own_at (P:=P) w base t o.type e i z size bytes ht hi hz hsize hby hzs hsz v n xs hown ad m c news hl hnews h1 h63 hbytes hbase;unfold Oper.wp execOp;simp only[ho,resolve,invoke,builtin,Sem.run_bind,Sem.run_pure,Result.andThen_ok,List.map_toArray,XN,List.map_nil,hs,hx,hr];exact hK _ _<|h v' w' h2 h3 h5
structure Aside(w:World)(v:Value)(w':World)(v':Value):Prop where
 size:w.heap.size<=w'.heap.size
 block:∀k,k<w.heap.size->v.ownBlock≠some k->w'.heap[k]?=w.heap[k]?
 own:v'.ownBlock=v.ownBlock \/ ∃g,v'.ownBlock=some g/\w.heap.size<=g
def Aside.refl(w:af)(v:Value):Aside w v w v:=⟨WK _,fun _ _ _=>rfl,.inl rfl⟩
def Aside.apart{w w':af}{v v':Value}{k:Nat}(h:Aside w v w' v')(hk:cU k w)(hv:v.ownBlock≠some k):v'.ownBlock≠some k:=by
 rcases h.own with e|⟨g,e,hg⟩
 ·rw[e];exact hv
 rw[e];intro h2;injection h2 with h2;omega
def Aside.trans{w w1 w2:af}{v v1 v2:Value}(h:Aside w v w1 v1)(h2:Aside w1 v1 w2 v2):Aside w v w2 v2 where
 size:=WR h.size h2.size
 block k hk hv:=(h2.block k (WJ hk h.size)<|h.apart hk hv).trans<|h.block k hk hv
 own:=by
  rcases h2.own with e|⟨g,e,hg⟩
  ·rw[e];exact h.own
  exact .inr ⟨g,e,WR h.size hg⟩
def Aside.below{w w':af}{v:Value}(h:ag w w'):Aside w v w' v:=⟨h.size,fun k hk _=>h.block k hk,.inl rfl⟩
def Aside.app{w w':af}{v v':Value}(hg:w.grownBy w' v.ownBlock)(h5:v'.ownBlock=v.ownBlock\/v'.ownBlock=some w.heap.size):Aside w v w' v' where
 size:=hg.size
 block k hk hv:=hg.block k hk fun e=>hv e.symm
 own:=by
  rcases h5 with e|e
  ·exact .inl e
  exact .inr ⟨_,e,WK _⟩
def Aside.cell{w w':af}{v v':Value}(h:Aside w v w' v'){p:Addr}(hp:p.block<w.heap.size)(hv:v.ownBlock≠some p.block):w'.cell? p=w.cell? p:=WX (w:=w)<|h.block p.block hp hv
open Maps
def S9(v:Value):Option (DataW Value×List MemPlace):=some (.held v,[])
section
variable  {K:Type}(enc:K->Value)(P:Program)(k:TypeId)
def U6(D:DataW Value)(kl:Lit):Option Value->Prop
 | none=>Maps.has D kl=false/\∀z,D.atKey kl z=z
 | some v=>Maps.has D kl=true/\∀z,D.atKey kl z=.held v
def aN(w:World)(b n:Nat)(M:K->Option Value):Prop :=
 ∃D:DataW Value,w.ownsMap P k S9 b n D/\∀x kl,keyOf P k (enc x)=some kl->U6 D kl (M x)
def l6[DecidableEq K](M:K->Option Value)(x:K)(v:Option Value):K->Option Value:=fun y=>if y=x then v else M y
end
section
variable  {K:Type}{enc:K->Value}{P:Program}{k:TypeId}{w:World}{b n:Nat}{M:K->Option Value}
def fu[DecidableEq K](M:K->Option Value)(x:K)(v:Option Value):l6 M x v x=v:=by simp[l6]
def dh[DecidableEq K]{M:K->Option Value}{x y:K}{v:Option Value}(h:y≠x):l6 M x v y=M y:=by simp[l6,h]
def oM(enc:K->Value)(P:Program)(k:TypeId)(w:af):aN enc P k (w.alloc<|.map #[] 0) w.heap.size 0 (fun _=>none) :=
 ⟨.map [],World.ownsMap_made w P k S9,fun _ kl _=>⟨rfl,fun z=>by simp[DataW.atKey]⟩⟩
def aN.lt(h:aN enc P k w b n M):b<w.heap.size:=by obtain⟨D,h1,-⟩:=h;exact h1.lt
def aN.mono(h:aN enc P k w b n M){n':Nat}(hn:n<=n'):aN enc P k w b n' M:=by obtain⟨D,h1,h2⟩:=h;exact⟨D,h1.mono hn,h2⟩
def aN.kept{w':af}{row:Option Nat}(h:aN enc P k w b n M)(hg:w.grownBy w' row)(hne:some b≠row):aN enc P k w' b n M:=by
 obtain⟨D,h1,h2⟩:=h;exact⟨D,h1.kept hg hne,h2⟩
def aN.below{w':af}(h:aN enc P k w b n M)(hB:ag w w'):aN enc P k w' b n M :=
 h.kept (row:=none) ⟨hB.os,hB.tape,hB.output,hB.size,fun k hk _=>hB.block k hk⟩ ct
def aN.setCell(h:aN enc P k w b n M){a:Addr}(ha:b≠a.block)(u:Value):aN enc P k (w.setCell a u) b n M:=by
 obtain⟨D,h1,h2⟩:=h;exact⟨D,h1.setCell ha u,h2⟩
def aN.look{t e:TypeId}(h:aN enc P k w b n M)(L:Keyed P k)(ht:P.underlying t=some (.map k e)){z:Value}(hz:(zeroValue e).run P w=.ok z w){x:K}{kl:Lit}(hkey:keyOf P k (enc x)=some kl):
  (Instr.lookup t (.map<|some b) (enc x) false).run P w=.ok ((M x).getD z) w:=by
 obtain⟨D,h1,h2⟩:=h;obtain⟨v,ps,hrun,hv⟩:=h1.lookup L ht hz (zd:=.held z) (zp:=[]) rfl hkey;have h3:=h2 x kl hkey;rw[hrun];have:v=(M x).getD z:=by
  simp only[S9,Option.some.injEq,Prod.mk.injEq]at hv;cases e:M x with
  | none=>rw[e]at h3;rw[h3.2]at hv;injection hv.1 with h4
  | some u=>rw[e]at h3;rw[h3.2]at hv;injection hv.1 with h4
 rw[this]
def aN.look_ok{t e:TypeId}(h:aN enc P k w b n M)(L:Keyed P k)(ht:P.underlying t=some (.map k e)){z:Value}(hz:(zeroValue e).run P w=.ok z w){x:K}{kl:Lit}(hkey:keyOf P k (enc x)=some kl):
  (Instr.lookup t (.map<|some b) (enc x) true).run P w=.ok (.tuple #[(M x).getD z,.bool (M x).isSome]) w:=by
 obtain⟨D,h1,h2⟩:=h;obtain⟨v,ps,hrun,hv⟩:=h1.look_ok L ht hz (zd:=.held z) (zp:=[]) rfl hkey;have h3:=h2 x kl hkey;rw[hrun];simp only[S9,Option.some.injEq,Prod.mk.injEq]at hv;cases e:M x with
 | none=>rw[e]at h3;rw[h3.2]at hv;injection hv.1 with h4;rw[h4,h3.1];rfl
 | some u=>rw[e]at h3;rw[h3.2]at hv;injection hv.1 with h4;rw[h4,h3.1];rfl
def aN.store[DecidableEq K]{t e:TypeId}(h:aN enc P k w b n M)(L:Keyed P k)(hinj:∀x y,enc x=enc y->x=y)(ht:P.underlying t=some (.map k e))(hn:n<maxLen){x:K}{kl:Lit}(hkey:keyOf P k (enc x)=some kl)(v:Value):
  ∃w',(Instr.mapUpdate t (.map<|some b) (enc x) v).run P w=.ok () w'/\aN enc P k w' b (n+1) (l6 M x<|some v)/\w.grownBy w' (some b):=by
 obtain⟨D,h1,h2⟩:=h;obtain⟨w',hrun,h3,h4⟩:=h1.update L ht hn hkey (val:=v) (d:=.held v) (ps:=[]) rfl;refine⟨w',hrun,⟨D.put kl<|.held v,h3,fun y ky hy=>?_⟩,h4⟩;by_cases e:y=x
 ·subst e;obtain rfl:ky=kl:=by rw[hkey]at hy;injection hy with hy;exact hy.symm
  rw[fu];exact⟨has_put_same h1.isMap (L.key hkey) _,fun z=>atKey_put_same h1.isMap (L.key hkey) _ z⟩
 have hne:ky≠kl:=fun e2=>e (hinj _ _<|L.inj (by rw[e2]at hy;exact hy) hkey);rw[dh e];have h5:=h2 y ky hy;cases e3:M y with
 | none=>rw[e3]at h5;exact⟨by rw[has_put_other hne];exact h5.1,fun z=>by rw[atKey_put_other hne];exact h5.2 z⟩
 | some u=>rw[e3]at h5;exact⟨by rw[has_put_other hne];exact h5.1,fun z=>by rw[atKey_put_other hne];exact h5.2 z⟩
end
section
variable  {K:Type}{enc:K->Value}{P:Program}(w:World){ops:Array Oper}{rest:List Oper}{o:Oper}{a:Act}{Q:Exit->Act->World->Prop}
def jZ(hg:o.guard=none)(m x:Operand)(t:TypeId)(hop:o.op=Op.lookup t m x false)(k e:TypeId)(L:Keyed P k)(ht:P.underlying t=some (.map k e)){z:Value}(hz:(zeroValue e).run P w=.ok z w)(b n:Nat)(M:K->Option Value)
  (hm:a.eval m=.map (some b)) (hV:aN enc P k w b n M) (y:K) (kl:Lit) (hx:a.eval x=enc y) (hkey:keyOf P k (enc y)=some kl)
  (hK:wpList P ops Q rest (a.put o.dst<|(M y).getD z) w):wpList P ops Q (o::rest) a w:=by
 refine wpList_plain hg fun K' hK'=>?_;have hrun:=hV.look L ht hz hkey;unfold Oper.wp;simp[execOp,hop,hm,hx,hrun,Result.andThen];exact hK' _ _ hK
def d9(hg:o.guard=none)(m x:Operand)(t:TypeId)(hop:o.op=Op.lookup t m x true)(k e:TypeId)(L:Keyed P k)(ht:P.underlying t=some (.map k e)){z:Value}(hz:(zeroValue e).run P w=.ok z w)(b n:Nat)(M:K->Option Value)
  (hm:a.eval m=.map (some b)) (hV:aN enc P k w b n M) (y:K) (kl:Lit) (hx:a.eval x=enc y) (hkey:keyOf P k (enc y)=some kl)
  (hK:wpList P ops Q rest (a.put o.dst<|.tuple #[(M y).getD z,.bool (M y).isSome]) w):wpList P ops Q (o::rest) a w:=by
 refine wpList_plain hg fun K' hK'=>?_;have hrun:=hV.look_ok L ht hz hkey;unfold Oper.wp;simp[execOp,hop,hm,hx,hrun,Result.andThen];exact hK' _ _ hK
def oD[DecidableEq K](hg:o.guard=none)(m x v:Operand)(t:TypeId)(hop:o.op=Op.mapUpdate t m x v)(k e:TypeId)(L:Keyed P k)(hinj:∀x y,enc x=enc y->x=y)(ht:P.underlying t=some (.map k e))(b n:Nat)(M:K->Option Value)
  (hm:a.eval m=.map (some b)) (hV:aN enc P k w b n M) (hn:n<maxLen) (y:K) (kl:Lit) (hx:a.eval x=enc y) (hkey:keyOf P k (enc y)=some kl) (u:Value) (hv:a.eval v=u)
  (hK:∀w',aN enc P k w' b (n+1) (l6 M y<|some u)->w.grownBy w' (some b)->wpList P ops Q rest (a.put o.dst undef) w'):wpList P ops Q (o::rest) a w:=by
 refine wpList_plain hg fun K' hK'=>?_;obtain⟨w',hrun,r1,r2⟩:=hV.store L hinj ht hn hkey u;unfold Oper.wp;simp[execOp,hop,hm,hx,hv,hrun,Result.andThen];exact hK' _ _<|hK w' r1 r2
end
def dE(k:Q01):Value:=.agg #[.string k.1,.string k.2]
def vV(x y:Q01)(h:dE x=dE y):x=y:=by
 unfold dE at h;injection h with h;have h1:=congrArg Array.toList h;simp at h1;exact Prod.ext h1.1 h1.2
def Aw:laidOutB prog=true:=cw
def P5:(146:TypeId)<prog.types.size:=of_decide_eq_true cw
def Ta:(match prog.underlying 146 with|some (.array _ _)|some (.struct _)=>true|_=>false)=true:=by rw[underlying146]
set_option maxRecDepth 100000 in
def Mx:WideMaps.KeyLaw prog 146:=deep_law_laid Aw (m:=2) cq P5 cw Ta
def jl:Keyed prog 146:=Keyed.of_law Mx
def Tc:prog.keyType 146=true:=cw
def G6:prog.cellsOf 146=2:=cw
def strCells:prog.cellsOf 9=1:=cw
def Nv:∃n,prog.types.size=n+1:=Nat.exists_eq_succ_of_ne_zero<|Nat.ne_of_gt<|Nat.lt_of_le_of_lt (WO _) P5
def j3(k:Q01)(h1:k.1.size<=maxLen)(h2:k.2.size<=maxLen):∃kl,keyOf prog 146 (dE k)=some kl:=by
 obtain⟨n,hn⟩:=Nv;refine⟨.string<|keyBytes [.string k.1.data.toList,.string k.2.data.toList],?_⟩;unfold keyOf;rw[underlying146];simp only[Tc,dE,Value.formed,underlying146,G6,hn,Value.cells];simp[Program.keyLits,underlying146,underlying9,G6,strCells,h1,h2]
def iM:List Rl->ByteArray->Option (List Ex)
 | [],_=>none
 | r::rs,n=>if r.name.toList==n.toList then some r.expr else iM rs n
def fB:List Ty->ByteArray->ByteArray->Option (List Ex)
 | [],_,_=>none
 | t::ts,ty,n=>if t.name.toList==ty.toList then (iM t.rels n).or (fB ts ty n) else fB ts ty n
def l7:List Ty->ByteArray->Bool
 | [],_=>false
 | t::ts,ty=>(t.name.toList==ty.toList) || l7 ts ty
def oN(rs:Q06)(k:Nat)(h:k<rs.length):ae (rs.drop k)=⟨rs[k].name,df rs[k].rows⟩::ae (rs.drop<|k+1):=by
 rw[Xw h];rfl
def G7(rs:Q07)(k:Nat)(h:k<rs.length):df (rs.drop k)=⟨rs[k].name,ai rs[k].rows⟩::df (rs.drop<|k+1):=by
 rw[Xw h];rfl
def J4(ad:Q02)(cap:Nat)(rs:Q06)(typ:bN)(w:af)(hlen:bh rs)(hs:jX w ad rs):
  Calls prog 247 #[.slice ad rs.length cap,.string typ] w (bx w<|.bool<|l7 (ae rs) typ):=by
 go_enter func247,ntmps247;go_wp2;go_loopw[5] (fun i wr=>∃k:Nat,k<=rs.length/\i=.int .i64 k/\O (l7 (ae<|rs.drop k) typ=l7 (ae rs) typ)/\wr=w) (fun i _=>rs.length-(intOf i).toNat);case atStart=>exact⟨0,WO _,rfl,rfl,rfl⟩
 obtain⟨k,hk,rfl,HP,rfl⟩:=hrel;by_cases hlt:k<rs.length
 ·rcases hs with rfl|⟨b,off,rfl,hb,hr,hok⟩
  ·simp at hlt
  obtain⟨t0,t1⟩:=hr k hlt;have hk1:=bY k;have hk2:(k:Int)<(rs.length:Int):=cq;clear hr hok;cases hq:(rs[k].name.toList==typ.toList);case true=>
   have HN:O (l7 (ae rs) typ=true):=by show _=_;rw[<-HP,oN _ _ hlt];simp[l7,hq]
   go_wp2;go_ret;exact⟨by rw[HN];rfl,rfl⟩
  have Ye:O (l7 (ae<|rs.drop<|k+1) typ=l7 (ae rs) typ):=by show _=_;rw[<-HP,oN _ _ hlt];simp[l7,hq]
  go_wp2;go_roundw;case rel=>exact⟨k+1,cq,cx,Ye,by first|rfl|trivial⟩
  simp[intOf]<;>omega
 have HN:O (l7 (ae rs) typ=false):=by show _=_;rw[<-HP,Xm cq];rfl
 go_wp2;go_ret;exact⟨by rw[HN];rfl,rfl⟩
def qP(rs:Q06)(ad:Q02)(rows:Q08):Prop:=rows=[] \/ ∃t∈rs,∃q∈t.rows,rows=q.rows/\ad=q.ad
def Df.mem{w:af}{ad:Q02}{rs:Q07}(h:Df w ad rs){q:RR}(hq:q∈rs):q.ok w:=by
 rcases h with rfl|⟨b,off,e,hb,hr,hk⟩
 ·cases hq
 exact hk q hq
def jX.mem{w:af}{ad:Q02}{rs:Q06}(h:jX w ad rs){q:TR}(hq:q∈rs):q.ok w:=by
 rcases h with rfl|⟨b,off,e,hb,hr,hk⟩
 ·cases hq
 exact hk q hq
def qP.sl{rs:Q06}{ad ad0:Q02}{rows:Q08}{w:af}(h:qP rs ad rows)(hs:jX w ad0 rs):iw w ad rows:=by
 rcases h with rfl|⟨t,ht,q,hq,rfl,rfl⟩
 ·exact .inl rfl
 exact Df.mem (hs.mem ht) hq
def jM(ad:Q02)(cap:Nat)(rs:Q06)(typ rel:bN)(w:af)(hlen:bh rs)(hs:jX w ad rs)(hl:∀r∈rs,r.light):
  Calls prog 101 #[.slice ad rs.length cap,.string typ,.string rel] w fun e w'=>(∃(rows:Q08) (Yh:Q02) (cap':Nat),e=.returned (.slice Yh rows.length cap')/\ai rows=(fB (ae rs) typ rel).getD []/\iw w Yh rows/\qP rs Yh rows)/\w'=w:=by
 have HS:=aB hs;have HL:=aB hl;clear hs hl;go_enter func101,ntmps101;go_wp2;go_loopw[7] (fun i wr=>∃k:Nat,k<=rs.length/\i=.int .i64 k/\O (fB (ae<|rs.drop k) typ rel=fB (ae rs) typ rel)/\wr=w) (fun i _=>rs.length-(intOf i).toNat);case atStart=>exact⟨0,WO _,rfl,rfl,rfl⟩
 obtain⟨k,hk,rfl,HP,rfl⟩:=hrel;by_cases hlt:k<rs.length
 ·rcases HS.out with rfl|⟨b,off,rfl,hb,hr,hok⟩
  ·simp at hlt
  obtain⟨t0,t1⟩:=hr k hlt;have ok:=hok rs[k]<|WH hlt;have lg:=(HL rs[k]<|WH hlt).1;have Yn:=aB ok;have hk1:=bY k;have hk2:(k:Int)<(rs.length:Int):=cq;clear hr hok ok;cases hq:(rs[k].name.toList==typ.toList);case false=>
   have Ye:O (fB (ae<|rs.drop<|k+1) typ rel=fB (ae rs) typ rel):=by show _=_;rw[<-HP,oN _ _ hlt];simp[fB,hq]
   go_wp2_with fail;go_loopw[8] (fun i w2=>i=.int .i64 0/\w2=wr) (fun i _=>(intOf i).toNat);case atStart=>exact⟨rfl,rfl⟩
   obtain⟨rfl,rfl⟩:=hrel;go_wp2;go_roundw;case rel=>exact⟨k+1,cq,cx,Ye,by first|rfl|trivial⟩
   simp[intOf]<;>omega
  go_wp2_with fail;go_loopw[8] (fun i w2=>∃j:Nat,j<=rs[k].rows.length/\i=.int .i64 j/\O (iM (df<|rs[k].rows.drop j) rel=iM (df rs[k].rows) rel)/\w2=wr) (fun i _=>rs[k].rows.length-(intOf i).toNat);case atStart=>exact⟨0,WO _,rfl,rfl,rfl⟩
  obtain⟨j,hj,rfl,HI,rfl⟩:=hrel;by_cases hjl:j<rs[k].rows.length
  ·rcases Yn.out with hnil|⟨b2,X7,had,hb2,hr2,hok2⟩
   ·rw[hnil]at hjl;simp at hjl
   have t1':=t1;rw[had]at t1';obtain⟨q0,q1⟩:=hr2 j hjl;have HOQ:O (rs[k].rows[j].ok _):=hok2 rs[k].rows[j]<|WH hjl;have hj1:=bY j;have hj2:(j:Int)<(rs[k].rows.length:Int):=cq;clear hr2 hok2 had t1;cases hn:(rs[k].rows[j].name.toList==rel.toList);case true=>
    have HN:O (ai rs[k].rows[j].rows=(fB (ae rs) typ rel).getD []):=by
     have h1:iM (df rs[k].rows) rel=some (ai rs[k].rows[j].rows):=by rw[<-HI,G7 _ _ hjl];simp[iM,hn]
     show _=_;rw[<-HP,oN _ _ hlt];simp[fB,hq,h1]
    have HFS:O (qP rs rs[k].rows[j].ad rs[k].rows[j].rows):=.inr ⟨rs[k],WH hlt,rs[k].rows[j],WH hjl,rfl,rfl⟩;go_wp2;go_ret;exact⟨⟨rs[k].rows[j].rows,_,_,rfl,HN,HOQ,HFS⟩,rfl⟩
   have HI2:O (iM (df<|rs[k].rows.drop<|j+1) rel=iM (df rs[k].rows) rel):=by show _=_;rw[<-HI,G7 _ _ hjl];simp[iM,hn]
   go_wp2;go_roundw;case rel=>exact⟨j+1,cq,cx,HI2,by first|rfl|trivial⟩
   simp[intOf]<;>omega
  have Ye:O (fB (ae<|rs.drop<|k+1) typ rel=fB (ae rs) typ rel):=by
   have h1:iM (df rs[k].rows) rel=none:=by rw[<-HI,Xm cq];rfl
   show _=_;rw[<-HP,oN _ _ hlt];simp[fB,hq,h1]
  go_wp2;go_roundw;case rel=>exact⟨k+1,cq,cx,Ye,by first|rfl|trivial⟩
  simp[intOf]<;>omega
 have HN:O (ai []=(fB (ae rs) typ rel).getD []):=by show _=_;rw[<-HP,Xm cq];rfl
 go_wp2;go_ret;exact⟨⟨[],none,0,rfl,HN,.inl rfl,.inl rfl⟩,rfl⟩
def aQ:List Ex->List Al
 | []=>[]
 | e::es=>if e.kind=1 then e.allow else aQ es
def ic(rs:Q08)(k:Nat)(h:k<rs.length):ai (rs.drop k)=rs[k].e::ai (rs.drop<|k+1):=by
 rw[Xw h];rfl
def P6(rs:Q08)(ad:Q02)(xs:Q0a):Prop:=xs=[] \/ ∃r∈rs,xs=r.e.allow/\ad=r.adA
def iw.mem{w:af}{ad:Q02}{rs:Q08}(h:iw w ad rs){q:ER}(hq:q∈rs):q.ok w:=by
 rcases h with rfl|⟨b,off,e,hb,hr,hk⟩
 ·cases hq
 exact hk q hq
def P6.sl{rs:Q08}{ad ad0:Q02}{xs:Q0a}{w:af}(h:P6 rs ad xs)(hs:iw w ad0 rs):kV w ad xs:=by
 rcases h with rfl|⟨r,hr,rfl,rfl⟩
 ·exact .inl rfl
 exact(hs.mem hr).1
def yZ(ad:Q02)(cap:Nat)(rs:Q08)(w:af)(hlen:bh rs)(hs:iw w ad rs):
  Calls prog 176 #[.slice ad rs.length cap] w fun e w'=>(∃(Yh:Q02) (cap':Nat),e=.returned (.slice Yh (aQ<|ai rs).length cap')/\kV w Yh (aQ<|ai rs)/\P6 rs Yh (aQ<|ai rs))/\w'=w:=by
 have HS:=aB hs;clear hs;go_enter func176,ntmps176;go_wp2;go_loopw[3] (fun i wr=>∃k:Nat,k<=rs.length/\i=.int .i64 k/\O (aQ (ai<|rs.drop k)=aQ (ai rs))/\wr=w) (fun i _=>rs.length-(intOf i).toNat);case atStart=>exact⟨0,WO _,rfl,rfl,rfl⟩
 obtain⟨k,hk,rfl,HP,rfl⟩:=hrel;by_cases hlt:k<rs.length
 ·rcases HS.out with rfl|⟨b,off,rfl,hb,hr,hok⟩
  ·simp at hlt
  obtain⟨t0,t1,t2,t3,t4⟩:=hr k hlt;have Yn:O (rs[k].ok _):=hok rs[k]<|WH hlt;have hk1:=bY k;have hk2:(k:Int)<(rs.length:Int):=cq;clear hr hok;by_cases hq:rs[k].e.kind=1
  ·have HN:O (aQ (ai rs)=rs[k].e.allow):=by show _=_;rw[<-HP,ic _ _ hlt];simp[aQ,hq]
   go_wp2;go_ret;exact⟨⟨rs[k].adA,rs[k].capA,by rw[HN];rfl,by rw[HN];exact Yn.1,.inr ⟨rs[k],WH hlt,HN,rfl⟩⟩,rfl⟩
  have Ye:O (aQ (ai<|rs.drop<|k+1)=aQ (ai rs)):=by show _=_;rw[<-HP,ic _ _ hlt];simp[aQ,hq]
  have hqb:(rs[k].e.kind==1)=false:=by simpa using hq
  go_wp2;go_roundw;case rel=>exact⟨k+1,cq,cx,Ye,by first|rfl|trivial⟩
  simp[intOf]<;>omega
 have HN:O (aQ (ai rs)=[]):=by show _=_;rw[<-HP,Xm cq];rfl
 go_wp2;go_ret;exact⟨⟨none,0,by rw[HN];rfl,by rw[HN];exact .inl rfl,.inl HN⟩,rfl⟩
def bH:List Ex->Bool
 | [e]=>decide (e.kind=1)&&e.allow.all fun a=>a.s.toList.isEmpty
 | _=>false
def Ay(xs:Q0a)(k:Nat):Bool:=(xs.take k).all fun a=>a.s.toList.isEmpty
def J5(xs:Q0a)(k:Nat)(h:k<xs.length):Ay xs (k+1)=(Ay xs k&&xs[k].s.toList.isEmpty):=by
 unfold Ay;rw[WN h,XU];simp
def Nw(xs:Q0a)(k:Nat)(h:k<xs.length)(hb:xs[k].s.toList.isEmpty=false):(xs.all fun a=>a.s.toList.isEmpty)=false:=by
 rw[Bool.eq_false_iff];intro h2;rw[WT]at h2;have:=h2 xs[k]<|WH h;rw[hb]at this;cases this
def FI(ad:Q02)(cap:Nat)(rs:Q08)(w:af)(hlen:bh rs)(hs:iw w ad rs)(hl:∀r∈rs,r.e.light):
  Calls prog 248 #[.slice ad rs.length cap] w (bx w<|.bool<|bH<|ai rs):=by
 by_cases h1:rs.length=1
 ·obtain⟨r,rfl⟩:∃r,rs=[r]:=List.length_eq_one_iff.1 h1;rcases hs with h|⟨b,off,rfl,hb,hr,hok⟩
  ·cases h
  obtain⟨t0,t1,t2,t3,t4⟩:=hr 0 ct;simp only[Nat.zero_mul,Nat.add_zero,List.getElem_cons_zero]at t0 t1 t2 t3 t4;have Yn:O (r.ok w):=hok r ct;obtain⟨lg,-⟩:=hl r ct;clear hr hok h1;simp only[Xq,XQ,Xl];by_cases hq:r.e.kind=1
  ·have HD:O (bH (ai [r])=r.e.allow.all fun a=>a.s.toList.isEmpty):=by show _=_;simp[bH,ai,hq]
   go_enter func248,ntmps248;go_wp2;go_loopw[3] (fun i wr=>∃k:Nat,k<=r.e.allow.length/\i=.int .i64 k/\O (Ay r.e.allow k=true)/\wr=w) (fun i _=>r.e.allow.length-(intOf i).toNat);case atStart=>exact⟨0,WO _,rfl,(by show _=_;simp[Ay]),rfl⟩
   obtain⟨k,hk,rfl,HP,rfl⟩:=hrel;by_cases hlt:k<r.e.allow.length
   ·rcases Yn.out.1 with hnil|⟨ba,ZQ,ZR,hba,hra⟩
    ·rw[hnil]at hlt;simp at hlt
    have t1':=t1;rw[ZR]at t1';obtain⟨q0,q1⟩:=hra k hlt;have hk1:=bY k;have hk2:(k:Int)<(r.e.allow.length:Int):=cq;clear hra ZR t1;cases he:r.e.allow[k].s.toList.isEmpty;case true=>
     have Ye:O (Ay r.e.allow (k+1)=true):=by show _=_;rw[J5 _ _ hlt,HP,he];rfl
     go_wp2;go_roundw;case rel=>exact⟨k+1,cq,cx,Ye,by first|rfl|trivial⟩
     simp[intOf]<;>omega
    have HN:O (bH (ai [r])=false):=by show _=_;rw[HD];exact Nw _ k hlt he
    go_wp2;go_ret;exact⟨by rw[HN];rfl,rfl⟩
   have HN:O (bH (ai [r])=true):=by
    show _=_;rw[HD];have:=HP.out;unfold Ay at this;rwa [Xn cq]at this
   go_wp2;go_ret;exact⟨by rw[HN];rfl,rfl⟩
  have HN:O (bH (ai [r])=false):=by show _=_;simp[bH,ai,hq]
  have hqb:(r.e.kind != 1)=true:=by simpa using hq
  go_enter func248,ntmps248;go_wp2;go_ret;exact⟨by rw[HN];rfl,rfl⟩
 have HN:O (bH (ai rs)=false):=by
  show _=_
  match rs,h1 with
  | [],_=>rfl
  | [r],h=>exact absurd rfl h
  | a::b::r,_=>rfl
 have h1':((rs.length:Int) != 1)=true:=by simp;omega
 go_enter func248,ntmps248;go_wp2;go_ret;exact⟨by rw[HN];rfl,rfl⟩
def aj(ts:Q0b)(ty n:ByteArray):List Ex:=(fB ts ty n).getD []
def gl(ts:Q0b)(rel:ByteArray):List Al->List ByteArray
 | []=>[]
 | a::xs=>if (aj ts a.t rel).isEmpty then gl ts rel xs else a.t::gl ts rel xs
def iN(ts:Q0b)(ty over rel:ByteArray):List ByteArray:=gl ts rel<|aQ<|aj ts ty over
def DT(ts:Q0b)(rel:bN)(xs ys:Q0a):gl ts rel (xs++ys)=gl ts rel xs++gl ts rel ys:=by
 induction xs with
 | nil=>rfl
 | cons a xs ih=>simp only[XB,gl,ih];split<;>simp
def UI(ts:Q0b)(rel:bN)(xs:Q0a)(k:Nat)(h:k<xs.length)(he:aj ts xs[k].t rel=[]):gl ts rel (xs.take<|k+1)=gl ts rel (xs.take k):=by
 rw[WN h,DT];simp[gl,he]
def P7(ts:Q0b)(rel:bN)(xs:Q0a)(k:Nat)(h:k<xs.length)(he:aj ts xs[k].t rel≠[]):gl ts rel (xs.take<|k+1)=gl ts rel (xs.take k)++[xs[k].t]:=by
 rw[WN h,DT];simp[gl,he]
def J6(ts:Q0b)(rel:bN)(xs:Q0a):(gl ts rel xs).length<=xs.length:=by
 induction xs with
 | nil=>simp[gl]
 | cons a xs ih=>simp only[gl];split<;>simp<;>omega
def Ny:(prog.info? 9).map (fun i=>(i.zero,i.size,i.bytes))=some (some<|.string ⟨#[]⟩,1,16):=cw
def rq(xs:List ByteArray):List Value:=xs.map Value.string
def U7(w:World)(ad:Q02)(xs:List ByteArray):Prop:=xs=[] \/ ∃b off,ad=some ⟨b,off,none⟩/\b<w.heap.size/\∀(i:Nat) (h:i<xs.length),w.cell? ⟨b,off+i,none⟩=some (.string xs[i])
def U7.below{w w':af}{ad:Q02}{xs:List ByteArray}(h:U7 w ad xs)(hB:ag w w'):U7 w' ad xs:=by
 rcases h with h|⟨b,off,e,hb,hr⟩
 ·exact .inl h
 exact .inr ⟨b,off,e,WJ hb hB.size,fun i hi=>(hB.cell (p:=⟨b,off+i,none⟩) hb).trans<|hr i hi⟩
def P8{w:af}{base k:Nat}{v:Value}{xs:List ByteArray}(h:w.ownsRow base 9 1 v k<|rq xs):∃ad cp,v=.slice ad xs.length cp/\U7 w ad xs/\∀p,ad=some p->base<=p.block:=by
 have hl:xs.length=k:=by have:=h.1;simpa[rq] using this
 have h2:=h;rcases h.2 with⟨rfl,h0⟩|⟨g,cp,cur,rfl,hbg,hg,hnc,-⟩
 ·refine⟨none,0,?_,.inl<|Xb.1 cq,fun p hp=>by cases hp⟩;rw[hl,h0]
 have hlt:=h2.lt g rfl;refine⟨_,cp,by rw[hl],.inr ⟨g,0,rfl,hlt.2,fun j hj=>?_⟩,fun p hp=>by injection hp with hp;rw[<-hp];exact hlt.1⟩;have:=h2.cells (g:=g) rfl j (.string xs[j]) (by simp[rq,hj]);rw[Xl];have e:(⟨g,0,none⟩:Addr).add j=⟨g,j,none⟩:=by
  unfold Addr.add;by_cases hj:j=0
  ·subst hj;simp
  simp[hj]
 rwa [e]at this
def qP.light{rs:Q06}{ad:Q02}{rows:Q08}(h:qP rs ad rows)(hl:∀r∈rs,r.light):rows.length<=1048576/\∀q∈rows,q.e.light:=by
 rcases h with rfl|⟨t,ht,q,hq,rfl,-⟩
 ·exact⟨ct,ct⟩
 exact(hl t ht).2 q hq
def Az(rows:Q08)(hl:∀q∈rows,q.e.light):(aQ<|ai rows).length<=1048576:=by
 induction rows with
 | nil=>simp[ai,aQ]
 | cons r rows ih =>
  have e:ai (r::rows)=r.e::ai rows:=rfl;rw[e];simp only[aQ];split
  ·exact(hl r ct).1
  exact ih fun q hq=>hl q (by simp[hq])
set_option maxRecDepth 100000 in
def za(ad:Q02)(cap:Nat)(rs:Q06)(typ over rel:bN)(w:af)(hlen:bh rs)(hs:jX w ad rs)(hl:∀r∈rs,r.light):
  Calls prog 103 #[.slice ad rs.length cap,.string typ,.string over,.string rel] w fun e w'=>(∃(Yh:Q02) (cap':Nat),e=.returned (.slice Yh (iN (ae rs) typ over rel).length cap')/\U7 w' Yh (iN (ae rs) typ over rel)/\∀p,Yh=some p->w.heap.size<=p.block)/\ag w w':=by
 have HS:=aB hs;have HL:=aB hl;clear hs hl;obtain⟨i0,hi,hz0,hz1,hz2⟩:=info_parts Ny;go_enter func103,ntmps103;go_wp2_with fail;have hbA:ag w (w.alloc<|.cells #[] 9):=(WL _ _).alloc (WK _) _;have hown1:(w.alloc<|.cells #[] 9).ownsRow w.heap.size 9 1 (.slice (some<|a7 w) 0 0) 0 []:=World.ownsRow_made w #[] 0 (WK _) cv rfl;refine(jM ad cap rs typ over _ hlen (HS.below hbA) HL).mono ?_;rintro e w1 ⟨⟨rows,ad1,cap1,rfl,hx1,hs1,hf1⟩,rfl⟩;have hl1:=hf1.light HL;have hal:=Az rows hl1.2;go_wp2_with fail;refine(yZ ad1 cap1 rows _ hl1.1 hs1).mono ?_;rintro e w1 ⟨⟨ad2,cap2,rfl,-,hf2⟩,rfl⟩;have HG:O (iN (ae rs) typ over rel=gl (ae rs) rel (aQ<|ai rows)):=by show _=_;rw[hx1];rfl
 have HA:O (kV w ad2<|aQ<|ai rows):=hf2.sl<|hf1.sl HS;generalize aQ (ai rows)=xs at *
 clear hs1 hx1 hf1 hl1 hf2;have HBA:=aB hbA;have Yu:=aB hown1;clear hbA hown1;obtain⟨wA,hwA⟩:=eQx<|w.alloc<|.cells #[] 9;rw[<-hwA]at HBA Yu ⊢;clear hwA;go_wp2_with fail;go_loopw[9,11] (fun v i wr=>∃k:Nat,k<=xs.length/\i=.int .i64 k/\cD w wr 9 1 v (gl (ae rs) rel<|xs.take k).length (rq<|gl (ae rs) rel<|xs.take k)/\ag w wr) (fun _ i _=>xs.length-(intOf i).toNat);case atStart=>exact⟨0,WO _,rfl,by simpa[rq,gl] using Yu.out,HBA⟩
 obtain⟨k,hk,rfl,hown,hB⟩:=hrel;by_cases hlt:k<xs.length
 ·have HST:O (jX _ ad rs):=HS.below hB;rcases HA.out.below hB with rfl|⟨b,off,rfl,hb,hr⟩
  ·simp at hlt
  obtain⟨t0,t1⟩:=hr k hlt;have hBs:=hB.size;have hgl:=J6 (ae rs) rel<|xs.take k;rw[XC]at hgl;have HBH:=aB hB;have HOW:O (cD w wr 9 1 _ _ _):=hown;clear hr hB hown;go_wp2_with fail;refine(jM ad cap rs xs[k].t rel _ hlen HST HL).mono ?_;rintro e w1 ⟨⟨YZ,ad3,cap3,rfl,hx3,-,-⟩,rfl⟩;by_cases hz:YZ.length=0
  ·have HE:O (gl (ae rs) rel (xs.take<|k+1)=gl (ae rs) rel (xs.take k)):=by
    refine UI _ _ _ _ hlt ?_;show _=_;unfold aj;rw[<-hx3,Xb.1 hz];rfl
   rw[hz];clear hx3;go_wp2;go_roundw;case rel=>exact⟨k+1,cq,cx,by rw[HE];exact HOW,HBH⟩
   simp[intOf]<;>omega
  have HX:O (gl (ae rs) rel (xs.take<|k+1)=gl (ae rs) rel (xs.take k)++[xs[k].t]):=by
   refine P7 _ _ _ _ hlt ?_;show ¬_=_;unfold aj;rw[<-hx3];intro h2;apply hz;rw[<-au,h2];rfl
  have hzz:(0:Int)<(YZ.length:Int):=cq;clear hx3;go_wp2_with(at_builtin;refine wpList_append_own _ rfl _ _ 143 rfl w.heap.size 9 i0 (.string ⟨#[]⟩) 1 16 underlying143 hi hz0 hz1 hz2 rfl cv _ _ _ rfl (HOW.alloc _) ⟨w1.heap.size,0,none⟩ 1 1 [.string xs[k].t] rfl rfl (cell_one_new _ _ _) (by intro u hu;simp at hu;subst hu;rfl) cy cq (by simp;omega) ?_);intro v' w3 hown3 hgrow _;have hb3:ag w w3:=(HBH.alloc HBH.size _).grown hgrow (by simp;omega) (fun i hi=>(HOW.lt i hi).1);have YK:O (cD w w3 9 1 v' (gl (ae rs) rel<|xs.take<|k+1).length<|rq<|gl (ae rs) rel<|xs.take<|k+1):=by
   show World.ownsRow _ _ _ _ _ _ _;rw[HX];simpa[rq] using hown3
  clear hown3 hgrow HOW;go_wp2;go_roundw;case rel=>exact⟨k+1,cq,cx,YK,hb3⟩
  simp[intOf]<;>omega
 obtain rfl:k=xs.length:=cq;have HE:O (xs.take xs.length=xs):=by show _=_;rw[Xa]
 rw[HE,<-HG]at hown;obtain⟨Yh,cp,rfl,hsl,hnew⟩:=P8 hown;have YX:O (∀p,Yh=some p->w.heap.size<=p.block):=hnew;have HSL:O (U7 _ Yh<|iN (ae rs) typ over rel):=hsl;have HBH:O (ag w _):=hB;clear hsl hB hown hnew;go_wp2;go_ret;exact⟨⟨Yh,cp,rfl,HSL,YX⟩,HBH⟩
def qQ(ts:Q0b)(a:Al):Bool:=l7 ts a.t&&(a.s.toList.isEmpty || !(aj ts a.t a.s).isEmpty)
def pW(ts:Q0b)(xs:Q0a):Bool:=xs.all<|qQ ts
def l8(ts:Q0b)(typ:ByteArray)(e:Ex):Bool :=
 if e.kind=2 then !(aj ts typ e.name).isEmpty
 else if e.kind=3 then bH (aj ts typ e.over) && !(iN ts typ e.over e.name).isEmpty
 else true
def aT(ts:Q0b)(typ:ByteArray):List Ex->Bool
 | []=>true
 | e::es=>if pW ts e.allow&&l8 ts typ e then aT ts typ es else false
def oO(ts:Q0b)(xs:Q0a)(k:Nat):Bool:=pW ts<|xs.take k
def AA(ts:Q0b)(xs:Q0a):oO ts xs 0=true:=by simp[oO,pW]
def pX(ts:Q0b)(xs:Q0a)(k:Nat)(h:k<xs.length):oO ts xs (k+1)=(oO ts xs k&&qQ ts xs[k]):=by
 unfold oO pW;rw[WN h,XU];simp
def vW(ts:Q0b)(xs:Q0a)(k:Nat)(h:k<xs.length)(hb:qQ ts xs[k]=false):pW ts xs=false:=by
 unfold pW;rw[Bool.eq_false_iff];intro h2;rw[WT]at h2;have:=h2 xs[k]<|WH h;rw[hb]at this;cases this
def aD{w w':af}{g o:Nat}{v:Value}(hB:ag w w')(hg:cU g w)(h:w.cell? (aq g o)=some v):w'.cell? (aq g o)=some v:=(hB.cell (p:=⟨g,o,none⟩) hg).trans h
set_option maxRecDepth 8000 in
def J7(ad X9:Q02)(cap capE:Nat)(rs:Q06)(typ:bN)(rows:Q08)(w:af)(hlen:bh rs)(hs:jX w ad rs)(hl:∀r∈rs,r.light)(hle:bh rows)(hse:iw w X9 rows)(hlE:∀q∈rows,q.e.light):
  Calls prog 175 #[.slice ad rs.length cap,.string typ,.slice X9 rows.length capE] w (bj w<|.bool<|aT (ae rs) typ<|ai rows):=by
 have HS:=aB hs;have HL:=aB hl;have HE:=aB hse;have Zp:=aB hlE;clear hs hl hse hlE;go_enter func175,ntmps175;go_wp2_with fail;go_loopw[7] (fun i wr=>∃k:Nat,k<=rows.length/\i=.int .i64 k/\O (aT (ae rs) typ (ai<|rows.drop k)=aT (ae rs) typ (ai rows))/\O (ag w wr)) (fun i _=>rows.length-(intOf i).toNat);case atStart=>exact⟨0,WO _,rfl,rfl,WL _ _⟩
 obtain⟨k,hk,rfl,HP,HB⟩:=hrel;by_cases hlt:k<rows.length
 ·have HS1:O (jX _ ad rs):=HS.below HB;rcases HE.out.below HB.out with rfl|⟨b,off,rfl,hb,hr,hok⟩
  ·simp at hlt
  obtain⟨t0,t1,t2,t3,t4⟩:=hr k hlt;have Yn:O (rows[k].ok wr):=hok rows[k]<|WH hlt;have lg:=(Zp rows[k]<|WH hlt).1;have hk1:=bY k;have hk2:(k:Int)<(rows.length:Int):=cq;clear hr hok;obtain⟨W1,hW1⟩:=eQx<|wr.alloc<|.cells (ce rows[k]) 43;have hal:ag wr W1:=by rw[hW1];exact(WL _ _).alloc (WK _) _
  have Yq:=aB hal;have Yg:=iD HB hal;have hgl:wr.heap.size<W1.heap.size:=by rw[hW1];simp
  have g0:W1.cell? (a7 wr)=some (.int .i64 rows[k].e.kind):=by rw[hW1];simp
  have g1:W1.cell? (a8 wr 1)=some (.slice rows[k].adA rows[k].e.allow.length rows[k].capA):=by rw[hW1];simp
  have g2:W1.cell? (a8 wr 2)=some (.string rows[k].e.over):=by rw[hW1];simp
  have g3:W1.cell? (a8 wr 3)=some (.string rows[k].e.name):=by rw[hW1];simp
  clear hal;go_wp2_with fail;rw[<-hW1];clear hW1;go_loopw[9] (fun i w2=>∃j:Nat,j<=rows[k].e.allow.length/\i=.int .i64 j/\O (oO (ae rs) rows[k].e.allow j=true)/\O (ag W1 w2)) (fun i _=>rows[k].e.allow.length-(intOf i).toNat);case atStart=>exact⟨0,WO _,rfl,AA _ _,WL _ _⟩
  obtain⟨j,hj,rfl,HJ,HB2⟩:=hrel;have d0:=aD HB2 hgl g0;have d1:=aD HB2 hgl g1;have d2:=aD HB2 hgl g2;have d3:=aD HB2 hgl g3;clear g0 g1 g2 g3 t0 t1 t2 t3 t4;have Zm:O (ag w _):=Yg.trans<|HB2.mono Yg.size;have HS2:O (jX _ ad rs):=HS.below Zm;by_cases hjl:j<rows[k].e.allow.length
  ·have hA2:kV _ rows[k].adA rows[k].e.allow:=((Yn.1).below Yq).below HB2;rcases hA2 with hnil|⟨ba,ZQ,ZR,hba,hra⟩
   ·rw[hnil]at hjl;simp at hjl
   rw[ZR]at d1;obtain⟨q0,q1⟩:=hra j hjl;have hj1:=bY j;have hj2:(j:Int)<(rows[k].e.allow.length:Int):=cq;clear hra ZR;go_wp2_with fail;refine(J4 ad cap rs _ _ hlen<|HS2.below<|(WL _ _).alloc (WK _) _).mono ?_;rintro e w3 ⟨rfl,rfl⟩;cases hty:l7 (ae rs) rows[k].e.allow[j].t;case false=>
    have HN:O (aT (ae rs) typ (ai rows)=false):=by
     show _=_;rw[<-HP,ic _ _ hlt];simp[aT,vW (ae rs) _ j hjl<|by simp[qQ,hty]]
    go_wp2;go_ret;exact⟨by rw[HN];rfl,Zm.alloc Zm.size _⟩
   cases he:rows[k].e.allow[j].s.toList.isEmpty;case true=>
    have HJ2:O (oO (ae rs) rows[k].e.allow (j+1)=true):=by show _=_;rw[pX _ _ _ hjl,HJ];simp[qQ,hty,he]
    go_wp2;go_roundw;case rel=>exact⟨j+1,cq,cx,HJ2,HB2.alloc HB2.size _⟩
    simp[intOf]<;>omega
   go_wp2_with fail;refine(jM ad cap rs _ _ _ hlen (HS2.below<|(WL _ _).alloc (WK _) _) HL).mono ?_;rintro e w3 ⟨⟨YZ,ad3,cap3,rfl,hx3,-,-⟩,rfl⟩;by_cases hz:YZ.length=0
   ·have HN:O (aT (ae rs) typ (ai rows)=false):=by
     have h1:aj (ae rs) rows[k].e.allow[j].t rows[k].e.allow[j].s=[]:=by unfold aj;rw[<-hx3,Xb.1 hz];rfl
     show _=_;rw[<-HP,ic _ _ hlt];simp[aT,vW (ae rs) _ j hjl<|by simp[qQ,he,h1]]
    rw[hz];clear hx3;go_wp2;go_ret;exact⟨by rw[HN];rfl,Zm.alloc Zm.size _⟩
   have HJ2:O (oO (ae rs) rows[k].e.allow (j+1)=true):=by
    have h1:aj (ae rs) rows[k].e.allow[j].t rows[k].e.allow[j].s≠[]:=by
     unfold aj;rw[<-hx3];intro h2;apply hz;rw[<-au,h2];rfl
    show _=_;rw[pX _ _ _ hjl,HJ];simp[qQ,hty,h1]
   have hzb:((YZ.length:Int)==0)=false:=by simp;intro h;apply hz;rw[h];rfl
   clear hx3;go_wp2;go_roundw;case rel=>exact⟨j+1,cq,cx,HJ2,HB2.alloc HB2.size _⟩
   simp[intOf]<;>omega
  have HRA:O (pW (ae rs) rows[k].e.allow=true):=by
   have:=HJ.out;unfold oO at this;rwa [Xn cq]at this
  by_cases h2:rows[k].e.kind=2
  ·go_wp2_with fail;refine(jM ad cap rs _ _ _ hlen HS2 HL).mono ?_;rintro e w3 ⟨⟨YZ,ad3,cap3,rfl,hx3,-,-⟩,rfl⟩;by_cases hz:YZ.length=0
   ·have HN:O (aT (ae rs) typ (ai rows)=false):=by
     have h1:aj (ae rs) typ rows[k].e.name=[]:=by unfold aj;rw[<-hx3,Xb.1 hz];rfl
     show _=_;rw[<-HP,ic _ _ hlt];simp[aT,l8,h2,h1]
    rw[hz];clear hx3;go_wp2;go_ret;exact⟨by rw[HN];rfl,Zm⟩
   have Ye:O (aT (ae rs) typ (ai<|rows.drop<|k+1)=aT (ae rs) typ (ai rows)):=by
    have h1:aj (ae rs) typ rows[k].e.name≠[]:=by
     unfold aj;rw[<-hx3];intro h2;apply hz;rw[<-au,h2];rfl
    show _=_;rw[<-HP,ic _ _ hlt];simp[aT,l8,h2,h1,HRA.out]
   have hzb:((YZ.length:Int)==0)=false:=by simp;intro h;apply hz;rw[h];rfl
   clear hx3;go_wp2;go_roundw;case rel=>exact⟨k+1,cq,cx,Ye,Zm⟩
   simp[intOf]<;>omega
  by_cases h3:rows[k].e.kind=3
  ·go_wp2_with fail;refine(jM ad cap rs _ _ _ hlen HS2 HL).mono ?_;rintro e w3 ⟨⟨YZ,ad3,cap3,rfl,hx3,hs3,hf3⟩,rfl⟩;have hl3:=hf3.light HL;go_wp2_with fail;refine(FI ad3 cap3 YZ _ hl3.1 hs3 hl3.2).mono ?_;rintro e w3 ⟨rfl,rfl⟩;have HX:O (ai YZ=aj (ae rs) typ rows[k].e.over):=hx3;clear hx3 hs3 hf3 hl3;rw[HX];cases hd:bH (aj (ae rs) typ rows[k].e.over);case false=>
    have HN:O (aT (ae rs) typ (ai rows)=false):=by
     show _=_;rw[<-HP,ic _ _ hlt];simp[aT,l8,h3,hd]
    go_wp2;go_ret;exact⟨by rw[HN];rfl,Zm⟩
   go_wp2_with fail;refine(za ad cap rs _ _ _ _ hlen HS2 HL).mono ?_;rintro e w4 ⟨⟨ad4,cap4,rfl,-⟩,hb4⟩;have YF:=iD Zm hb4;clear hb4;by_cases hz:(iN (ae rs) typ rows[k].e.over rows[k].e.name).length=0
   ·have HN:O (aT (ae rs) typ (ai rows)=false):=by
     show _=_;rw[<-HP,ic _ _ hlt];simp[aT,l8,h3,Xb.1 hz]
    rw[hz];go_wp2;go_ret;exact⟨by rw[HN];rfl,YF⟩
   have Ye:O (aT (ae rs) typ (ai<|rows.drop<|k+1)=aT (ae rs) typ (ai rows)):=by
    have h1:iN (ae rs) typ rows[k].e.over rows[k].e.name≠[]:=by intro h;apply hz;rw[h];rfl
    show _=_;rw[<-HP,ic _ _ hlt];simp[aT,l8,h3,h1,hd,HRA.out]
   have hzb:(((iN (ae rs) typ rows[k].e.over rows[k].e.name).length:Int)==0)=false:=by simp;intro h;apply hz;rw[h];rfl
   go_wp2;go_roundw;case rel=>exact⟨k+1,cq,cx,Ye,YF⟩
   simp[intOf]<;>omega
  have Ye:O (aT (ae rs) typ (ai<|rows.drop<|k+1)=aT (ae rs) typ (ai rows)):=by
   show _=_;rw[<-HP,ic _ _ hlt];simp[aT,l8,h2,h3,HRA.out]
  have hb2:(rows[k].e.kind==2)=false:=by simpa using h2
  have hb3:(rows[k].e.kind==3)=false:=by simpa using h3
  go_wp2;go_roundw;case rel=>exact⟨k+1,cq,cx,Ye,Zm⟩
  simp[intOf]<;>omega
 have HN:O (aT (ae rs) typ (ai rows)=true):=by show _=_;rw[<-HP,Xm cq];rfl
 go_wp2;go_ret;exact⟨by rw[HN];rfl,HB⟩
open Go.Sort
def oP{p:Prop}(h:p):O p:=h
def kJ{P:Program}{f:FuncId}{args:Array Value}{W:af}{v:Value}(h:∀W',Calls P f args W' fun e w'=>e=.returned v/\w'=W'):∀d os,Calls P f args (grow (redrawn W d) os) fun e w''=>e=.returned v/\∃p:Regrown,w''=grow (redrawn W p.d) p.os:=fun d os=>(h _).mono fun _ _ ⟨he,hw⟩=>⟨he,⟨d,os⟩,hw⟩
def gm{P:Program}{f:FuncId}{args:Array Value}{W:af}{v:Value}(h:∀W',ag W W'->Calls P f args W' fun e w'=>e=.returned v/\ag W' w'):∀d os,Calls P f args (grow (redrawn W d) os) fun e w''=>e=.returned v/\∃p:Regrown,w''=grow (redrawn W p.d) p.os:=fun d os=>Calls.regrown_of<|h _<|below_regrown W d os
def ma(ops:Array Oper)(m k:Nat):Bool:=(ops[m]?.map fun o=>o.after.any fun e=>e.on==k&&Region.binds .any e).getD false
def VR(ops:Array Oper)(i:Nat):List Nat:=(List.range i).reverse.foldl (fun acc k=>if acc.any (fun m=>ma ops m k) then k::acc else acc) [i]
def MB(ops:Array Oper)(L N:Nat):Bool:=(List.range N).all fun i=>decide (i<L) || (List.range i).all fun j=>(VR ops i).contains j
def Td(l:List Oper)(L:Nat):Bool:=l.all fun o=>match o.guard with|some (g,_)=>decide (g<L)|none=>true
def oQ(P:Program)(ops:Array Oper)(Q:Exit->Act->World->Prop):Nat->Nat->Act->World->Prop
 | 0,_,a,w=>Q .normal a w
 | n+1,i,a,w=>wpOp P ops Q i (oQ P ops Q n<|i+1) a w
def ze{ops:Array Oper}{m k:Nat}(h:ma ops m k=true):∃o,ops[m]?=some o/\∃e∈o.after,e.on=k/\Region.binds .any e=true:=by
 unfold ma at h;cases ho:ops[m]? with
 | none=>rw[ho]at h;cases h
 | some o =>
  rw[ho]at h;simp only[Option.map_some,XF]at h;rw[Array.any_eq_true']at h;obtain⟨e,he,h2⟩:=h;simp only[WM,beq_iff_eq]at h2;exact⟨o,rfl,e,he,h2.1,h2.2⟩
def G8{ops:Array Oper}{i:Nat}{lst:Nat->Prop}(hcl:∀m k,m=i\/lst m->ma ops m k=true->lst k):∀m∈VR ops i,m=i\/lst m:=by
 have key:∀(ks acc:List Nat),(∀m∈acc,m=i\/lst m)->∀m∈ks.foldl (fun acc k=>if acc.any (fun m=>ma ops m k) then k::acc else acc) acc,m=i\/lst m:=by
  intro ks
  induction ks with
  | nil=>intro acc h;exact h
  | cons k ks ih =>
   intro acc h;refine ih _ ?_;dsimp only;split
   ·rename_i ha;obtain⟨m,hm,hb⟩:=Xj.1 ha;intro x hx;rcases Xc.1 hx with rfl|hx
    ·exact .inr<|hcl m _ (h m hm) hb
    exact h x hx
   exact h
 exact key _ _ fun m hm=>.inl (by simpa using hm)
def DU{ops:Array Oper}{L N i:Nat}(h:MB ops L N=true)(hi:i<N)(hL:L<=i){lst:Nat->Prop}(hcl:∀m k,m=i\/lst m->ma ops m k=true->lst k):∀j,j<i->lst j:=fun j hj=>by
 have h1:=WT.1 h i (by simpa using hi);simp only[Bool.or_eq_true,WW]at h1;have h2:=WT.1 (h1.resolve_left cq) j (by simpa using hj);exact(G8 hcl j<|by simpa using h2).resolve_left cq
def qX{P:Program}{id:Nat}{Q:Exit->Act->World->Prop}{a:Act}{w:af}{l:List Oper}(L n:Nat)(hm:P.follows .mixedOrders=true)(hlen:l.length=L+n)
  (hB:(Region.noSelect (l.take L).toArray&&Region.lexFrom .any (l.take L).toArray L 0 (Array.replicate (L+n) false)&&Td (l.take L) L&&DL l.toArray&&MB l.toArray L (L+n))=true)
  (h:wpQuiet P (l.take L).toArray (fun w'=>∃p:Regrown,w'=grow (redrawn w p.d) p.os) (fun a'=>∀w',(∃p:Regrown,w'=grow (redrawn w p.d) p.os)->oQ P l.toArray Q n L a' w') (l.take L) a):(Code.region id l.toArray true).wp P Q a w:=by
 obtain⟨C,hC⟩:∃C:World->Prop,C=fun w'=>∃p:Regrown,w'=grow (redrawn w p.d) p.os:=⟨_,rfl⟩;have h':wpQuiet P (l.take L).toArray C (fun a'=>∀w',C w'->oQ P l.toArray Q n L a' w') (l.take L) a:=by simpa[hC] using h
 clear h;have hC0:C w.drew:=by rw[hC];exact⟨⟨w.drawn+1,#[]⟩,by rw[grow_empty];rfl⟩
 clear hC;simp only[WM]at hB;obtain⟨⟨⟨⟨hns,hlx⟩,hgd⟩,YC⟩,hch⟩:=hB;have htl:(l.take L).length=L:=by rw[XC];omega
 have hat:∀i,i<L->(l.take L).toArray[i]?=l.toArray[i]?:=fun i hi=>by simp[hi]
 have hsz:l.toArray.size=L+n:=by simpa using hlen
 have hwant:∀(i:Nat) (o:Oper) (a':Act),i<L->l.toArray[i]?=some o->Region.wanted o (yielded (l.take L).toArray a'.tmps)=Region.wanted o (yielded l.toArray a'.tmps):=by
  intro i o a' hi ho;have hmem:o∈l.take L:=by
   rw[<-hat i hi]at ho;exact XO (by simpa using ho)
  have:=WT.1 hgd o hmem;unfold Region.wanted;cases hg:o.guard with
  | none=>rfl
  | some x =>
   obtain⟨g,bw⟩:=x;rw[hg]at this;have hgl:g<L:=by simpa using this
   simp only[yielded,hat g hgl]
 have h1:=wpAnyQ_lex (C:=C) (md:=.any) hns (l.take L) 0 (Array.replicate (L+n) false) a (fun j=>ct) (by rw[htl];exact hlx) h';rw[htl]at h1;refine eY (fun listed a' w'=>listed.size=L+n/\(∀m k,listed.getD m false=true->ma l.toArray m k=true->listed.getD k false=true)/\(((∀j,L<=j->listed.getD j false=false)/\C w'/\∃fuel,wpAnyQ P .any (l.take L).toArray C (fun a'=>∀w',C w'->oQ P l.toArray Q n L a' w') fuel listed a') \/ ∃d,d<=n/\(∀j,j<L+d->listed.getD j false=true)/\(∀j,L+d<=j->listed.getD j false=false)/\oQ P l.toArray Q (n-d) (L+d) a' w')) hm ?_ ?_ ?_
 ·have hf:∀j,(Array.replicate l.toArray.size false).getD j false=false:=fun j=>by
   rw[Xf,Xz];split<;>rfl
  exact⟨by simpa using hsz,fun m k hm=>absurd hm<|by rw[hf];decide,Or.inl ⟨fun j _=>hf j,hC0,L,by rw[hsz];exact h1⟩⟩
 ·rintro listed a' w' ⟨hs,hcl,hh⟩ i hi;obtain⟨hl,o,ho,hpre⟩:=mem_ready.1 hi;have hiL:i<L+n:=by have:=(WQ.1 ho).1;omega
  have hcl2:∀m k,(listed.setIfInBounds i true).getD m false=true->ma l.toArray m k=true->(listed.setIfInBounds i true).getD k false=true:=fun m k hm hb=>by
   rw[aO _ _ _ cq]at hm ⊢;by_cases hk:k=i
   ·rw[if_pos hk]
   rw[if_neg hk];by_cases e:m=i
   ·subst e;obtain⟨o',ho',e,he,rfl,hbe⟩:=ze hb;rw[ho]at ho';obtain rfl:=Option.some.inj ho';exact hpre e he hbe
   rw[if_neg e]at hm;exact hcl m k hm hb
  have hup:L<=i->∀j,j<i->listed.getD j false=true:=fun hLi=>DU hch hiL hLi fun m k hm hb=>by
   rcases hm with rfl|hm
   ·obtain⟨o',ho',e,he,rfl,hbe⟩:=ze hb;rw[ho]at ho';obtain rfl:=Option.some.inj ho';exact hpre e he hbe
   exact hcl m k hm hb
  have hsq:∀d,L+d=i->oQ P l.toArray Q (n-d) (L+d) a' w'->wpOp P l.toArray Q i (fun a'' w''=>(listed.setIfInBounds i true).size=L+n/\(∀m k,(listed.setIfInBounds i true).getD m false=true->ma l.toArray m k=true->(listed.setIfInBounds i true).getD k false=true)/\(((∀j,L<=j->(listed.setIfInBounds i true).getD j false=false)/\C w''/\∃fuel,wpAnyQ P .any (l.take L).toArray C (fun a'=>∀w',C w'->oQ P l.toArray Q n L a' w') fuel (listed.setIfInBounds i true) a'') \/ ∃d,d<=n/\(∀j,j<L+d->(listed.setIfInBounds i true).getD j false=true)/\(∀j,L+d<=j->(listed.setIfInBounds i true).getD j false=false)/\oQ P l.toArray Q (n-d) (L+d) a'' w'')) a' w':=fun d hd hw=>by
   obtain⟨r,hr⟩:∃r,n-d=r+1:=⟨n-d-1,cq⟩;rw[hr,hd]at hw;have hfar:∀j,i<j->listed.getD j false=false:=fun j hj=>by
    cases hlj:listed.getD j false;case false=>rfl
    have hjn:j<L+n:=by
     rcases Nat.lt_or_ge j (L+n) with h|h
     ·exact h
     rw[Xf,Array.getElem?_eq_none cq]at hlj;cases hlj
    have:=DU hch hjn cq (lst:=fun k=>listed.getD k false=true) (fun m k hm hb=>by
     rcases hm with rfl|hm
     ·exact hcl _ k hlj hb
     exact hcl m k hm hb) i hj
    rw[jY cq]at hl;rw[hl]at this;cases this
   refine wpOp_mono (fun a'' w'' hq=>⟨by simpa using hs,hcl2,.inr ⟨d+1,cq,fun j hj=>?_,fun j hj=>?_,?_⟩⟩) hw
   ·rw[aO _ _ _ cq];by_cases e:j=i
    ·rw[if_pos e]
    rw[if_neg e];exact hup cq j cq
   ·rw[aO _ _ _ cq,if_neg cq];exact hfar j cq
   have e1:n-(d+1)=r:=cq;have e2:L+(d+1)=i+1:=cq;rw[e1,e2];exact hq
  rcases hh with⟨hn,hCw,fuel,hq⟩|⟨d,hdn,hlow,hhigh,hw⟩
  ·by_cases e:i<L
   ·have hr:i∈Region.ready .any (l.take L).toArray listed:=mem_ready.2 ⟨hl,o,by rw[hat i e];exact ho,hpre⟩;cases fuel with
    | zero=>have:=hq.1;rw[this]at hr;cases hr
    | succ nn =>
     have hk:=hq.2 i hr;have:=wpOp_of_qOp (K':=fun a'' w''=>C w''/\wpAnyQ P .any (l.take L).toArray C (fun a'=>∀w',C w'->oQ P l.toArray Q n L a' w') nn (listed.setIfInBounds i true) a'') (Q':=Q) hCw (fun _ _ h1 h2=>⟨h1,h2⟩) hk;have h3:wpOp P l.toArray Q i (fun a'' w''=>C w''/\wpAnyQ P .any (l.take L).toArray C (fun a'=>∀w',C w'->oQ P l.toArray Q n L a' w') nn (listed.setIfInBounds i true) a'') a' w':=by
      unfold wpOp at this⊢;rw[hat i e,ho]at this;rw[ho];simp only[hwant i o a' e ho]at this;exact this
     refine wpOp_mono (fun a'' w'' hh=>⟨by simpa using hs,hcl2,Or.inl ⟨fun j hj=>?_,hh.1,nn,hh.2⟩⟩) h3;rw[aO _ _ _ cq,if_neg cq];exact hn j hj
   have hiE:i=L:=by
    rcases Nat.lt_or_ge L i with h|h
    ·have:=hup cq L h;rw[hn L (WK _)]at this;cases this
    omega
   have hnr:Region.ready .any (l.take L).toArray listed=[]:=by
    rw[List.eq_nil_iff_forall_not_mem];intro j hj;obtain⟨g1,oj,g2,-⟩:=mem_ready.1 hj;have hji:j<L:=by have:=(WQ.1 g2).1;simp at this;omega
    rw[jY cq,hup cq j cq]at g1;cases g1
   have hQ:oQ P l.toArray Q n L a' w':=by
    cases fuel with
    | zero=>exact hq.2 _ hCw
    | succ n=>exact hq.1 hnr _ hCw
   exact hsq 0 cq (by simpa using hQ)
  have hid:L+d=i:=by
   rcases Nat.lt_or_ge i (L+d) with h|h
   ·have:=hlow i h;rw[jY cq]at hl;rw[hl]at this;cases this
   rcases Nat.lt_or_ge (L+d) i with h2|h2
   ·have:=hup cq (L+d) h2;rw[hhigh _ (WK _)]at this;cases this
   omega
  exact hsq d hid hw
 rintro listed a' w' ⟨hs,hcl,hh⟩ hr;have hall:=pV hr hsz (mH YC) hs;rcases hh with⟨hn,hCw,fuel,hq⟩|⟨d,hdn,hlow,hhigh,hw⟩
 ·have hn0:n=0:=by
   rcases Nat.eq_zero_or_pos n with h|h
   ·exact h
   have:=hall L cq;rw[jY cq,hn L<|WK _]at this;cases this
  subst hn0;have hnr:Region.ready .any (l.take L).toArray listed=[]:=by
   rw[List.eq_nil_iff_forall_not_mem];intro j hj;obtain⟨g1,oj,g2,-⟩:=mem_ready.1 hj;have hji:j<L:=by have:=(WQ.1 g2).1;simp at this;omega
   rw[hall j cq]at g1;cases g1
  have hQ:oQ P l.toArray Q 0 L a' w':=by
   cases fuel with
   | zero=>exact hq.2 _ hCw
   | succ n=>exact hq.1 hnr _ hCw
  exact hQ
 have hd:d=n:=by
  rcases Nat.lt_or_ge d n with h|h
  ·have:=hall (L+d) cq;rw[jY cq,hhigh _<|WK _]at this;cases this
  omega
 subst hd;rw[Nat.sub_self]at hw;exact hw
def vX(c:UInt8)(w:af):
  Calls prog 278 #[.int .u8 c.toNat] w (bx w<|.bool<|Ac c):=by
 by_cases hl:fI c=true
 ·go_enter func278,ntmps278;go_wp2_with(go_at_call 191;refine(l5 _ _).mono ?_;rintro e w' ⟨rfl,rfl⟩);go_ret;exact⟨ah<|by simp[Ac,hl],rfl⟩
 have hf:fI c=false:=by simpa using hl
 clear hl;go_enter func278,ntmps278;go_wp2_with(go_at_call 191;refine(l5 _ _).mono ?_;rintro e w' ⟨rfl,rfl⟩)
 all_goals go_ret
 all_goals refine⟨ah ?_,rfl⟩
 all_goals(rw[Xe];simp[Ac,hf];omega)
def J8(s:bN)(w:af)(hs:s.size<=maxLen):
  Calls prog 281 #[.string s] w (bx w<|.bool<|qO s):=by
 unfold maxLen at hs;by_cases h1:1<=s.size/\s.size<=12
 ·obtain⟨ha,hb⟩:=h1;go_enter func281,ntmps281;go_wp2
  go_loop [3] (fun i=>∃k:Nat,k<=s.size/\i=.int .i64 k/\O (JY Ac s k=true)) (fun i=>s.size-(intOf i).toNat)
  case atStart=>exact⟨0,WO _,rfl,vR _ _⟩
  obtain⟨k,hk,rfl,hu⟩:=hrel;by_cases hlt:k<s.size
  ·by_cases hc:Ac s[k]=true
   ·have hd:(97<=s[k].toNat/\s[k].toNat<=122)\/(48<=s[k].toNat/\s[k].toNat<=57)\/s[k].toNat=95:=by simp[Ac,fI]at hc;omega
    have HU:O (JY Ac s (k+1)=true):=by show _=_;rw[vS _ _ _ hlt,hc,hu];rfl
    clear hc;rcases hd with⟨hd1,hd2⟩|⟨hd1,hd2⟩|hd1
    all_goals
     go_wp2;go_round;case rel=>exact⟨k+1,cq,cx,HU⟩
     simp[intOf];omega
   have hc':Ac s[k]=false:=by simpa using hc
   have HB:O (uf Ac s=false):=Af _ _ _ hlt hc';have hd:s[k].toNat<48\/(57<s[k].toNat/\s[k].toNat<95)\/(95<s[k].toNat/\s[k].toNat<97)\/122<s[k].toNat:=by simp[Ac,fI]at hc';omega
   clear hc hc';rcases hd with hd|⟨hd,hd2⟩|⟨hd,hd2⟩|hd
   all_goals
    have h95:((s[k].toNat:Int) != 95)=true:=by simp;omega
    go_wp2;go_ret;exact⟨ah<|by simp[qO,dZ,HB.out],rfl⟩
  go_wp2;go_ret;refine⟨ah ?_,rfl⟩;have hall:uf Ac s=true:=by rw[<-Ae Ac s k cq];exact hu
  have hl:oK s=true:=by simp[oK];omega
  simp[qO,dZ,hall,hl]
 have hn:oK s=false:=by simp[oK];omega
 have HN:O (qO s=false):=by show _=_;simp[qO,dZ,hn]
 clear hn;by_cases ha:1<=s.size
 ·have hb:12<s.size:=cq;clear h1;go_enter func281,ntmps281;go_wp2;go_ret;exact⟨ah HN.symm,rfl⟩
 have ha':s.size<1:=cq;clear h1;go_enter func281,ntmps281;go_wp2;go_ret;exact⟨ah HN.symm,rfl⟩
def AB(s:bN)(w:af)(hs:s.size<=maxLen):
  Calls prog 190 #[.string s,.func (Fn.func 278) #[] #[]] w (bx w<|.bool<|dZ Ac s):=by
 unfold maxLen at hs;by_cases h1:1<=s.size/\s.size<=12
 ·obtain⟨ha,hb⟩:=h1;go_enter func190,ntmps190;go_wp2
  go_loop [16] (fun i=>∃k:Nat,k<=s.size/\i=.int .i64 k/\O (JY Ac s k=true)) (fun i=>s.size-(intOf i).toNat)
  case atStart=>exact⟨0,WO _,rfl,vR _ _⟩
  obtain⟨k,hk,rfl,hu⟩:=hrel;by_cases hlt:k<s.size
  ·by_cases hc:Ac s[k]=true
   ·have HU:O (JY Ac s (k+1)=true):=by show _=_;rw[vS _ _ _ hlt,hc,hu];rfl
    go_wp2_with(go_at_call 278;refine(vX _ _).mono ?_;rintro e w' ⟨rfl,rfl⟩);go_round;case rel=>exact⟨k+1,cq,cx,HU⟩
    simp[intOf];omega
   have hc':Ac s[k]=false:=by simpa using hc
   have HB:O (uf Ac s=false):=Af _ _ _ hlt hc';clear hc;go_wp2_with(go_at_call 278;refine(vX _ _).mono ?_;rintro e w' ⟨rfl,rfl⟩);go_ret;exact⟨ah<|by simp[dZ,HB.out],rfl⟩
  go_wp2;go_ret;refine⟨ah ?_,rfl⟩;have hall:uf Ac s=true:=by rw[<-Ae Ac s k cq];exact hu
  have hl:oK s=true:=by simp[oK];omega
  simp[dZ,hall,hl]
 have hn:oK s=false:=by simp[oK];omega
 have HN:O (dZ Ac s=false):=by show _=_;simp[dZ,hn]
 clear hn;by_cases ha:1<=s.size
 ·have hb:12<s.size:=cq;clear h1;go_enter func190,ntmps190;go_wp2;go_ret;exact⟨ah HN.symm,rfl⟩
 have ha':s.size<1:=cq;clear h1;go_enter func190,ntmps190;go_wp2;go_ret;exact⟨ah HN.symm,rfl⟩
def AC(s:bN)(w:af)(hs:s.size<=maxLen):
  Calls prog 220 #[.string s] w (bx w<|.bool<|qO s):=by
 go_enter func220,ntmps220;go_wp2_with(go_at_call 190;refine(AB _ _ hs).mono ?_;rintro e w' ⟨rfl,rfl⟩);go_ret;exact⟨rfl,rfl⟩
def kF{W w1:af}(hb:ag W w1):(∀b o,b<W.heap.size->w1.cell? (aq b o)=W.cell? (aq b o))/\(∀b o,b<W.heap.size->w1.frozen? (aq b o)=W.frozen? (aq b o)) :=
 ⟨fun b o h=>hb.cell (p:=⟨b,o,none⟩) h,fun b o h=>hb.frozen (p:=⟨b,o,none⟩) h⟩
def gM(t i:bN)(w:af)(ht:t.size<=maxLen)(hi:i.size<=maxLen):
  Calls prog 228 #[.agg #[.string t,.string i]] w (bj w<|.bool<|fJ t i):=by
 by_cases hn:aS t=true
 all_goals
  go_enter func228,ntmps228;go_wp2_with(first|(go_at_call 126;refine(aU _ _ ht).mono ?_;rintro e w' ⟨rfl,rfl⟩)|(go_at_call 281;refine(J8 _ _ hi).mono ?_;rintro e w' ⟨rfl,rfl⟩));go_ret;exact⟨ah<|by simp[fJ,hn],(WL _ _).alloc (WK _) _⟩
def gP(t i:bN)(w:af)(ht:t.size<=maxLen)(hi:i.size<=maxLen):
  Calls prog 147 #[.agg #[.string t,.string i]] w (bj w<|.bool<|fJ t i):=by
 by_cases hn:aS t=true
 all_goals
  go_enter func147,ntmps147;go_wp2_with(first|(go_at_call 122;refine(aP _ _ ht).mono ?_;rintro e w' ⟨rfl,rfl⟩)|(go_at_call 220;refine(AC _ _ hi).mono ?_;rintro e w' ⟨rfl,rfl⟩));go_ret;exact⟨ah<|by simp[fJ,hn],(WL _ _).alloc (WK _) _⟩
section
variable  {P:Program}{ops:Array Oper}{Q:Exit->Act->World->Prop}
def dK{id:Nat}{a:Act}{w:af}(L:Nat)(f0:Nat->Value)(F:(Nat->Value)->Act)(I:(Nat->Bool)->(Nat->Value)->World->Prop)
  (hm:P.follows .mixedOrders=true) (hsz:ops.size=L+1) (YC:xU ops=true)
  (hcl:∀o,ops[L]?=some o->∀(l:Nat->Bool) f w',I l f w'->(∀e∈o.after,Region.binds .any e=true->l e.on=true)->∀k,k<L->l k=true)
  (h0:a=F f0) (hI0:I (fun _=>false) f0 w.drew)
  (hstep:∀ i,i<L->∀ o,ops[i]?=some o->∀ (l:Nat->Bool) f w',l i=false->I l f w'->(∀ e∈o.after,Region.binds .any e=true->l e.on=true) ->
   wpOp P ops Q i (fun a' w''=>∃v,a'=F (upd f i v)/\I (fun k=>if k=i then true else l k) (upd f i v) w'') (F f) w')
  (hfin:∀o,ops[L]?=some o->∀(l:Nat->Bool) f w',(∀k,k<L->l k=true)->I l f w'->wpOp P ops Q L (fun a' w''=>Q .normal a' w'') (F f) w') :
  (Code.region id ops true).wp P Q a w:=by
 refine eY (fun listed a' w'=>listed.size=L+1/\((listed.getD L false=false/\∃f,a'=F f/\I (fun k=>listed.getD k false) f w')\/((∀j,j<=L->listed.getD j true=true)/\Q .normal a' w'))) hm ?_ ?_ ?_
 ·refine⟨by simpa using hsz,Or.inl ⟨?_,_,h0,?_⟩⟩
  ·rw[Xf,Xz];split<;>rfl
  have:(fun k=>(Array.replicate ops.size false).getD k false)=fun _=>false:=funext fun k=>by rw[Xf,Xz];split<;>rfl
  rw[this];exact hI0
 ·rintro listed a' w' ⟨hs,h⟩ i hi;obtain⟨hl,o,ho,hpre⟩:=mem_ready.1 hi;have hiL:i<L+1:=by have:=(WQ.1 ho).1;omega
  rcases h with⟨hn,f,rfl,hI⟩|⟨hall,-⟩
  ·by_cases e:i=L
   ·subst e;have hall:∀k,k<i->listed.getD k false=true:=hcl o ho _ f w' hI fun e he hb=>hpre e he hb;refine wpOp_mono (fun a'' w'' hq=>⟨by simpa using hs,Or.inr ⟨fun j hj=>?_,hq⟩⟩) (hfin o ho _ f w' hall hI);rw[jY (by simp;omega),aO _ _ _ cq];by_cases e:j=i
    ·simp[e]
    rw[if_neg e];exact hall j cq
   refine wpOp_mono ?_ (hstep i cq o ho _ f w' (by rw[<-jY cq];exact hl) hI (fun e he hb=>hpre e he hb));rintro a'' w'' ⟨v,rfl,hI'⟩;refine⟨by simpa using hs,Or.inl ⟨?_,_,rfl,?_⟩⟩
   ·rw[aO _ _ _ cq,if_neg<|Ne.symm e];exact hn
   have:(fun k=>(listed.setIfInBounds i true).getD k false)=fun k=>if k=i then true else listed.getD k false:=funext fun k=>aO _ _ _ cq
   rw[this];exact hI'
  rw[hall i cq]at hl;cases hl
 rintro listed a' w' ⟨hs,h⟩ hr;rcases h with⟨hn,-⟩|⟨-,hq⟩
 ·have:=nQ hr hsz (mi YC) hs L cq;rw[jY cq]at this;rw[this]at hn;cases hn
 exact hq
end
end Go.Proofs.YtojjoblnpldniaaGreat
namespace Go.Proofs.YtojjoblnpldniaaGreat.G
set_option linter.unusedVariables false
open RowKit
structure CH(c:Nat)(D:Nat->List Nat)(C:Nat->Value)(RF M0:World->Prop)(M1:Value->World->Prop)(bld:Value->Value)(M3 M4:Value->World->Prop)(l:Nat->Bool)(f:Nat->Value)(w:World):Prop where
 val:∀k,(k<c\/k=c+4)->l k=true->f k=C k
 dep:∀i,l i=true->∀j∈D i,l j=true
 rf:RF w
 mid:(l c=false/\l (c+1)=false/\l (c+2)=false/\l (c+3)=false/\M0 w)\/(l c=true/\l (c+1)=false/\l (c+2)=false/\l (c+3)=false/\M1 (f c) w) \/
  (l c=true/\l (c+1)=true/\l (c+2)=false/\l (c+3)=false/\f (c+1)=bld (f c)/\M1 (f c) w)\/(l c=true/\l (c+1)=true/\l (c+2)=true/\l (c+3)=false/\M3 (f<|c+2) w)\/(l c=true/\l (c+1)=true/\l (c+2)=true/\l (c+3)=true/\M4 (f<|c+3) w)
section
variable  {c:Nat}{D:Nat->List Nat}{C:Nat->Value}{RF M0:World->Prop}{M1:Value->World->Prop}{bld:Value->Value}{M3 M4:Value->World->Prop}{l:Nat->Bool}{f:Nat->Value}{w:World}
def ch_start{W:af}(h:RF W)(h0:M0 W):CH c D C RF M0 M1 bld M3 M4 (fun _=>false) f W :=
 ⟨fun _ _ h=>(by cases h),fun _ h=>(by cases h),h,.inl ⟨rfl,rfl,rfl,rfl,h0⟩⟩
def vY{i:Nat}(h:∀i,l i=true->∀j∈D i,l j=true)(hi:∀j∈D i,l j=true):∀k,(if k=i then true else l k)=true->∀j∈D k,(if j=i then true else l j)=true:=by
 intro k hk j hj;have:l j=true:=by
  by_cases e:k=i
  ·subst e;exact hi j hj
  rw[if_neg e]at hk;exact h k hk j hj
 rw[this];split<;>rfl
def CH.put(h:CH c D C RF M0 M1 bld M3 M4 l f w){i:Nat}(hi:i<c\/i=c+4)(hd:∀j∈D i,l j=true){v:Value}(hv:v=C i):CH c D C RF M0 M1 bld M3 M4 (fun k=>if k=i then true else l k) (upd f i v) w:=by
 have e:∀d,d<4->(if c+d=i then true else l (c+d))=l (c+d):=fun d hd=>if_neg cq;have g:∀d,d<4->upd f i v (c+d)=f (c+d):=fun d hd=>by simp only[upd];rw[if_neg cq]
 have e0:=e 0 cq;have e1:=e 1 cq;have e2:=e 2 cq;have e3:=e 3 cq;have g0:=g 0 cq;have g1:=g 1 cq;have g2:=g 2 cq;have g3:=g 3 cq;simp only[Nat.add_zero]at e0 g0;refine⟨fun k hk hl=>?_,vY h.dep hd,h.rf,?_⟩
 ·by_cases e:k=i
  ·subst e;simp[upd,hv]
  simp only[if_neg e]at hl;simp only[upd,if_neg e];exact h.val k hk hl
 simp only[e0,e1,e2,e3,g0,g1,g2,g3];exact h.mid
def CH.m0(h:CH c D C RF M0 M1 bld M3 M4 l f w)(hl:l c=false):M0 w/\l (c+1)=false/\l (c+2)=false/\l (c+3)=false:=by
 rcases h.mid with⟨_,h1,h2,h3,h4⟩|⟨h0,_⟩|⟨h0,_⟩|⟨h0,_⟩|⟨h0,_⟩
 ·exact⟨h4,h1,h2,h3⟩
 all_goals rw[h0]at hl;cases hl
def CH.call(h:CH c D C RF M0 M1 bld M3 M4 l f w)(hl:l c=false)(hd:∀j∈D c,l j=true){v:Value}{w':af}(hr:RF w')(h1:M1 v w'):CH c D C RF M0 M1 bld M3 M4 (fun k=>if k=c then true else l k) (upd f c v) w':=by
 obtain⟨-,a1,a2,a3⟩:=h.m0 hl;refine⟨fun k hk hl2=>?_,vY h.dep hd,hr,.inr<|.inl ⟨ct,by simpa using a1,by simpa using a2,by simpa using a3,by simpa[upd] using h1⟩⟩;have e:k≠c:=cq
 simp only[if_neg e]at hl2;simp only[upd,if_neg e];exact h.val k hk hl2
def CH.m1(h:CH c D C RF M0 M1 bld M3 M4 l f w)(h0:l c=true)(hl:l (c+1)=false):M1 (f c) w/\l (c+2)=false/\l (c+3)=false:=by
 rcases h.mid with⟨a,_⟩|⟨_,_,h2,h3,h4⟩|⟨_,a,_⟩|⟨_,a,_⟩|⟨_,a,_⟩
 ·rw[a]at h0;cases h0
 ·exact⟨h4,h2,h3⟩
 all_goals rw[a]at hl;cases hl
def CH.build(h:CH c D C RF M0 M1 bld M3 M4 l f w)(h0:l c=true)(hl:l (c+1)=false)(hd:∀j∈D (c+1),l j=true){v:Value}(hv:v=bld (f c)):CH c D C RF M0 M1 bld M3 M4 (fun k=>if k=c+1 then true else l k) (upd f (c+1) v) w:=by
 obtain⟨a1,a2,a3⟩:=h.m1 h0 hl;refine⟨fun k hk hl2=>?_,vY h.dep hd,h.rf,.inr<|.inr<|.inl ⟨by simpa using h0,ct,by simpa using a2,by simpa using a3,by simpa[upd] using hv,by simpa[upd] using a1⟩⟩;have e:k≠c+1:=cq
 simp only[if_neg e]at hl2;simp only[upd,if_neg e];exact h.val k hk hl2
def CH.m2(h:CH c D C RF M0 M1 bld M3 M4 l f w)(h1:l (c+1)=true)(hl:l (c+2)=false):f (c+1)=bld (f c)/\M1 (f c) w/\l c=true/\l (c+3)=false:=by
 rcases h.mid with⟨_,a,_⟩|⟨_,a,_⟩|⟨h0,_,_,h3,h4,h5⟩|⟨_,_,a,_⟩|⟨_,_,a,_⟩
 ·rw[a]at h1;cases h1
 ·rw[a]at h1;cases h1
 ·exact⟨h4,h5,h0,h3⟩
 all_goals rw[a]at hl;cases hl
def CH.lay(h:CH c D C RF M0 M1 bld M3 M4 l f w)(h1:l (c+1)=true)(hl:l (c+2)=false)(hd:∀j∈D (c+2),l j=true){v:Value}{w':af}(hr:RF w')(h3:M3 v w'):CH c D C RF M0 M1 bld M3 M4 (fun k=>if k=c+2 then true else l k) (upd f (c+2) v) w':=by
 obtain⟨-,-,a0,a3⟩:=h.m2 h1 hl;refine⟨fun k hk hl2=>?_,vY h.dep hd,hr,.inr<|.inr<|.inr<|.inl ⟨by simpa using a0,by simpa using h1,ct,by simpa using a3,by simpa[upd] using h3⟩⟩;have e:k≠c+2:=cq
 simp only[if_neg e]at hl2;simp only[upd,if_neg e];exact h.val k hk hl2
def CH.m3(h:CH c D C RF M0 M1 bld M3 M4 l f w)(h2:l (c+2)=true)(hl:l (c+3)=false):M3 (f<|c+2) w/\l c=true/\l (c+1)=true:=by
 rcases h.mid with⟨_,_,a,_⟩|⟨_,_,a,_⟩|⟨_,_,a,_⟩|⟨h0,h1,_,_,h4⟩|⟨_,_,_,a,_⟩
 ·rw[a]at h2;cases h2
 ·rw[a]at h2;cases h2
 ·rw[a]at h2;cases h2
 ·exact⟨h4,h0,h1⟩
 rw[a]at hl;cases hl
def CH.app(h:CH c D C RF M0 M1 bld M3 M4 l f w)(h2:l (c+2)=true)(hl:l (c+3)=false)(hd:∀j∈D (c+3),l j=true){v:Value}{w':af}(hr:RF w')(h4:M4 v w'):CH c D C RF M0 M1 bld M3 M4 (fun k=>if k=c+3 then true else l k) (upd f (c+3) v) w':=by
 obtain⟨-,a0,a1⟩:=h.m3 h2 hl;refine⟨fun k hk hl2=>?_,vY h.dep hd,hr,.inr<|.inr<|.inr<|.inr ⟨by simpa using a0,by simpa using a1,by simpa using h2,ct,by simpa[upd] using h4⟩⟩;have e:k≠c+3:=cq
 simp only[if_neg e]at hl2;simp only[upd,if_neg e];exact h.val k hk hl2
def CH.m4(h:CH c D C RF M0 M1 bld M3 M4 l f w)(h3:l (c+3)=true):M4 (f<|c+3) w/\l c=true/\l (c+1)=true/\l (c+2)=true:=by
 rcases h.mid with⟨_,_,_,a,_⟩|⟨_,_,_,a,_⟩|⟨_,_,_,a,_⟩|⟨_,_,_,a,_⟩|⟨h0,h1,h2,_,h4⟩
 ·rw[a]at h3;cases h3
 ·rw[a]at h3;cases h3
 ·rw[a]at h3;cases h3
 ·rw[a]at h3;cases h3
 exact⟨h4,h0,h1,h2⟩
end
end Go.Proofs.YtojjoblnpldniaaGreat.G
