/- A region that draws its order, by what holds whichever operations have come up: each operation is run once, from what those that it waits for have left. -/
import Derived.Test.YtcgdckphpjfmhaaGreatDoorSq
import Derived.Test.YtcgdckphpjfmhaaGreatDoorRows
import Derived.WalkKit
import Derived.Deep.RegionWith
import Derived.WalkLawsBesides
import Derived.ProofKit
import Derived.Laws.IdiomStrings
import Derived.Deep.RegionHeld3
import Derived.Deep.QuietTactic
import Derived.BigQuiet
import Derived.WalkSmall
import Derived.WalkSpells
import Derived.OwnWalk
import Derived.Maps.AppendAt
import Derived.RegionTactic
import Derived.Maps.OwnSet
import Derived.DeepKeys4
import Derived.Lib.QuietBelow
open Go.Proofs.Tryz
namespace Go.Proofs.YtcgdckphpjfmhaaGreatDoor
open RowKit
theorem Ox{α:Type}(p q:α->Bool)(l:List α)(h:∀x∈l,q x=true->p x=true)(y:α)(hy:y∈l)(hp:p y=true)(hq:q y=false):l.countP q<l.countP p:=by
 induction l with
 | nil=>cases hy
 | cons a l ih =>
  rw[List.countP_cons,List.countP_cons];rcases Ws.1 hy with rfl|hy
  ·have:=List.countP_mono_left (p:=q) (q:=p) (l:=l) (fun x hx=>h x (WT _ hx));simp[hp,hq];omega
  have h1:=ih (fun x hx=>h x (WT _ hx)) hy;have h2:=h a (Xf ..);cases hqa:q a;case true=>simp[h2 hqa];omega
  simp;omega
section
variable  {P:Program}{ops:Array Oper}{Q:Exit->Act->World->Prop}{md:Region.Mode}
theorem aa{i:Nat}{o:Oper}{K:Act->World->Prop}{a:Act}{w:ae}(ho:ops[i]?=some o)
  (h:∀K':Act->World->Prop,Hid (∀a w,K a w->K' a w)->if Region.wanted o (yielded ops a.tmps)=true then Oper.wp P o a w K' Q else K' (a.put o.dst undef) w):wpOp P ops Q i K a w:=wpOp_step ho h
def left(ops:Array Oper)(listed:Array Bool):Nat:=(List.range ops.size).countP (fun i=>!(listed.getD i true))
theorem FY(listed:Array Bool)(i j:Nat):(listed.setIfInBounds i true).getD j true=if j=i then true else listed.getD j true:=by
 rw[Wz,Wz,Array.getElem?_setIfInBounds];by_cases e:i=j
 ·subst e;by_cases h:i<listed.size<;>simp[h]
 simp[e,Ne.symm e]
theorem FZ{listed:Array Bool}{i:Nat}(hi:i<ops.size)(hl:listed.getD i true=false):left ops (listed.setIfInBounds i true)<left ops listed:=by
 refine Ox _ _ _ ?_ i (by simpa using hi) (by simp[hl]) (by rw[FY];simp);intro x _ hx;simp only[FY,Bool.not_eq_true']at hx ⊢;by_cases e:x=i
 ·simp[e]at hx
 simpa[e] using hx
theorem L6(Inv:Array Bool->Act->World->Prop)
  (hstep:∀listed a w,Inv listed a w->∀i∈Region.ready md ops listed,wpOp P ops Q i (Inv (listed.setIfInBounds i true)) a w)
  (hend:∀listed a w,Inv listed a w->Region.ready md ops listed=[]->Q .normal a w) :
  ∀(fuel:Nat) (listed:Array Bool) (a:Act) (w:World),left ops listed<=fuel->Inv listed a w->wpAny P md ops Q fuel listed a w:=by
 intro fuel
 induction fuel with
 | zero =>
  intro listed a w hc hI;have hr:Region.ready md ops listed=[]:=by
   rw[List.eq_nil_iff_forall_not_mem];intro i hi;obtain⟨h1,o,h2,-⟩:=mem_ready.1 hi;have:=FZ (ops:=ops) (We.1 h2).1 h1;omega
  exact⟨hr,hend _ _ _ hI hr⟩
 | succ n ih =>
  intro listed a w hc hI;refine⟨fun hr=>hend _ _ _ hI hr,fun i hi=>wpOp_mono (fun a' w' h=>ih _ _ _ ?_ h) (hstep _ _ _ hI i hi)⟩;obtain⟨h1,o,h2,-⟩:=mem_ready.1 hi;have:=FZ (ops:=ops) (We.1 h2).1 h1;omega
theorem RD(ops:Array Oper)(listed:Array Bool):left ops listed<=ops.size:=by
 unfold left;exact Wh List.countP_le_length (by simp)
theorem gW{id:Nat}{a:Act}{w:ae}(Inv:Array Bool->Act->World->Prop)(hm:P.follows .mixedOrders=true)
  (h0:Inv (Array.replicate ops.size false) a w.drew)
  (hstep:∀listed a w,Inv listed a w->∀i∈Region.ready .any ops listed,wpOp P ops Q i (Inv (listed.setIfInBounds i true)) a w)
  (hend:∀listed a w,Inv listed a w->Region.ready .any ops listed=[]->Q .normal a w):(Code.region id ops true).wp P Q a w :=
 wp_region_any hm (L6 Inv hstep hend _ _ _ _ (RD _ _) h0)
theorem uk{listed:Array Bool}{n:Nat}(hr:Region.ready md ops listed=[])(hs:ops.size=n)(Ym:∀(i:Nat) (o:Oper),ops[i]?=some o->∀e∈o.after,e.on<i)(hsz:listed.size=n):∀i,i<n->listed.getD i true=true:=by
 intro i
 induction i using Nat.strongRecOn with
 | ind i ih =>
  intro hi;cases hl:listed.getD i true;case true=>rfl
  exfalso;have hmem:i∈Region.ready md ops listed:=by
   refine mem_ready.2 ⟨hl,ops[i]'(by omega),WX (by omega),fun e he _=>?_⟩;have hlt:=Ym i _ (WX (by omega)) e he;have:=ih e.on hlt (by omega);rw[Wz,WX (by omega)]at this ⊢;simpa using this
  rw[hr]at hmem;cases hmem
end
def upd(f:Nat->Value)(i:Nat)(v:Value):Nat->Value:=fun k=>if k=i then v else f k
section
variable  {P:Program}{ops:Array Oper}{Q:Exit->Act->World->Prop}
theorem aQ(listed:Array Bool)(i j:Nat)(hi:i<listed.size):(listed.setIfInBounds i true).getD j false=if j=i then true else listed.getD j false:=by
 rw[Wz,Wz,Array.getElem?_setIfInBounds];by_cases e:i=j
 ·subst e;simp[hi]
 simp[e,Ne.symm e]
theorem kH{listed:Array Bool}{i:Nat}(hi:i<listed.size):listed.getD i true=listed.getD i false:=by
 rw[Wz,Wz,WX hi];rfl
def F3(ops:Array Oper):Bool:=(List.range ops.size).all (fun i=>(ops[i]?.map (fun o=>o.after.all (fun e=>decide (e.on<i)))).getD true)
def Ew(ops:Array Oper)(L:Nat):Bool:=(List.range L).all (fun j=>(ops[L]?.map (fun o=>o.after.any (fun e=>e.on==j&&Region.binds .any e))).getD false)
theorem qH{ops:Array Oper}(h:F3 ops=true):∀(i:Nat) (o:Oper),ops[i]?=some o->∀e∈o.after,e.on<i:=by
 intro i o ho e he;rw[F3,Wq]at h;have h1:=h i (by simpa using (We.1 ho).1);rw[ho]at h1;simp only[Option.map_some,WO,Array.all_eq_true_iff_forall_mem]at h1;simpa using h1 e he
theorem CP{ops:Array Oper}{L:Nat}(h:Ew ops L=true):∀(o:Oper),ops[L]?=some o->∀j,j<L->∃e∈o.after,e.on=j/\Region.binds .any e=true:=by
 intro o ho j hj;rw[Ew,Wq]at h;have h1:=h j (by simpa using hj);rw[ho]at h1;simp only[Option.map_some,WO]at h1;rw[Array.any_eq_true']at h1;obtain⟨e,he,h2⟩:=h1;simp only[V9,beq_iff_eq]at h2;exact⟨e,he,h2.1,h2.2⟩
theorem d9{id:Nat}{a:Act}{w:ae}(L:Nat)(f0:Nat->Value)(F:(Nat->Value)->Act)(V:Nat->Value->World->Prop)(G:World->Prop)
  (hm:P.follows .mixedOrders=true) (hsz:ops.size=L+1) (Ym:F3 ops=true) (hlo:Ew ops L=true)
  (h0:a=F f0) (hG0:G w.drew)
  (hstep:∀ i,i<L->∀ o,ops[i]?=some o->∀ f w',G w'->(∀ e∈o.after,Region.binds .any e=true->V e.on (f e.on) w') ->
   wpOp P ops Q i (fun a' w''=>∃v,a'=F (upd f i v)/\G w''/\V i v w''/\∀k u,V k u w'->V k u w'') (F f) w')
  (hfin:∀o,ops[L]?=some o->∀f w',G w'->(∀k,k<L->V k (f k) w')->wpOp P ops Q L (fun a' w''=>Q .normal a' w'') (F f) w') :
  (Code.region id ops true).wp P Q a w:=by
 refine gW (fun listed a' w'=>listed.size=L+1/\((listed.getD L false=false/\∃f,a'=F f/\G w'/\∀k,k<L->listed.getD k false=true->V k (f k) w')\/((∀j,j<=L->listed.getD j true=true)/\Q .normal a' w'))) hm ?_ ?_ ?_
 ·refine⟨by simpa using hsz,Or.inl ⟨?_,_,h0,hG0,fun k _ h=>?_⟩⟩
  ·rw[Wz,WQ];split<;>rfl
  rw[Wz,WQ]at h;split at h<;>cases h
 ·rintro listed a' w' ⟨hs,h⟩ i hi;obtain⟨hl,o,ho,hpre⟩:=mem_ready.1 hi;have hiL:i<L+1:=by have:=(We.1 ho).1;omega
  rcases h with⟨hn,f,rfl,hG,hV⟩|⟨hall,-⟩
  ·by_cases e:i=L
   ·subst e;have hall:∀k,k<i->listed.getD k false=true:=fun k hk=>by
     obtain⟨e,he,rfl,hb⟩:=CP hlo o ho k hk;exact hpre e he hb
    refine wpOp_mono (fun a'' w'' hq=>⟨by simpa using hs,Or.inr ⟨fun j hj=>?_,hq⟩⟩) (hfin o ho f w' hG (fun k hk=>hV k hk (hall k hk)));rw[kH (by simp;omega),aQ _ _ _ (by omega)];by_cases e:j=i
    ·simp[e]
    rw[if_neg e];exact hall j (by omega)
   refine wpOp_mono ?_ (hstep i (by omega) o ho f w' hG (fun e he hb=>hV e.on (by have:=qH Ym i o ho e he;omega) (hpre e he hb)));rintro a'' w'' ⟨v,rfl,hG',hv,hmono⟩;refine⟨by simpa using hs,Or.inl ⟨?_,_,rfl,hG',fun k hk hkl=>?_⟩⟩
   ·rw[aQ _ _ _ (by omega),if_neg (Ne.symm e)];exact hn
   rw[aQ _ _ _ (by omega)]at hkl;by_cases ek:k=i
   ·subst ek;simpa[upd] using hv
   rw[if_neg ek]at hkl;simp only[upd,if_neg ek];exact hmono _ _ (hV k hk hkl)
  rw[hall i (by omega)]at hl;cases hl
 rintro listed a' w' ⟨hs,h⟩ hr;rcases h with⟨hn,-⟩|⟨-,hq⟩
 ·have:=uk hr hsz (qH Ym) hs L (by omega);rw[kH (by omega)]at this;rw[this]at hn;cases hn
 exact hq
theorem dW{id:Nat}{a:Act}{w:ae}(N:Nat)(f0:Nat->Value)(F:(Nat->Value)->Act)(V:Nat->Value->World->Prop)(G:World->Prop)
  (hm:P.follows .mixedOrders=true) (hsz:ops.size=N) (Ym:F3 ops=true)
  (h0:a=F f0) (hG0:G w.drew)
  (hstep:∀ i,i<N->∀ o,ops[i]?=some o->∀ f w',G w'->(∀ e∈o.after,Region.binds .any e=true->V e.on (f e.on) w') ->
   wpOp P ops Q i (fun a' w''=>∃v,a'=F (upd f i v)/\G w''/\V i v w''/\∀k u,V k u w'->V k u w'') (F f) w')
  (hend:∀f w',G w'->(∀k,k<N->V k (f k) w')->Q .normal (F f) w') :
  (Code.region id ops true).wp P Q a w:=by
 refine gW (fun listed a' w'=>listed.size=N/\∃f,a'=F f/\G w'/\∀k,k<N->listed.getD k false=true->V k (f k) w') hm ?_ ?_ ?_
 ·refine⟨by simpa using hsz,_,h0,hG0,fun k _ h=>?_⟩;rw[Wz,WQ]at h;split at h<;>cases h
 ·rintro listed a' w' ⟨hs,f,rfl,hG,hV⟩ i hi;obtain⟨hl,o,ho,hpre⟩:=mem_ready.1 hi;have hiN:i<N:=by have:=(We.1 ho).1;omega
  refine wpOp_mono ?_ (hstep i hiN o ho f w' hG (fun e he hb=>hV e.on (by have:=qH Ym i o ho e he;omega) (hpre e he hb)));rintro a'' w'' ⟨v,rfl,hG',hv,hmono⟩;refine⟨by simpa using hs,_,rfl,hG',fun k hk hkl=>?_⟩;rw[aQ _ _ _ (by omega)]at hkl;by_cases ek:k=i
  ·subst ek;simpa[upd] using hv
  rw[if_neg ek]at hkl;simp only[upd,if_neg ek];exact hmono _ _ (hV k hk hkl)
 rintro listed a' w' ⟨hs,f,rfl,hG,hV⟩ hr;refine hend f w' hG fun k hk=>hV k hk ?_;have:=uk hr hsz (qH Ym) hs k hk;rwa [kH (by omega)]at this
end
end Go.Proofs.YtcgdckphpjfmhaaGreatDoor
namespace Go.Proofs.YtcgdckphpjfmhaaGreatDoor.Pl
def eT(c:UInt8):Bool:=decide (97<=c.toNat)&&decide (c.toNat<=122)
def zk(c:UInt8):Bool:=eT c || (decide (48<=c.toNat)&&decide (c.toNat<=57)) || decide (c.toNat=95)
def oD(s:ByteArray):Bool:=decide (1<=s.size)&&decide (s.size<=12)
def sZ(p:UInt8->Bool)(s:ByteArray):Bool:=s.data.toList.all p
def dK(p:UInt8->Bool)(s:ByteArray):Bool:=oD s&&sZ p s
def zl(s:ByteArray):Bool:=!(s.toList==[116,104,105,115])
def aR(s:ByteArray):Bool:=dK eT s&&zl s
def qz(s:ByteArray):Bool:=dK zk s
theorem ah{a b:Bool}(h:a=b):Ending.returned (.bool a)=.returned (.bool b):=by rw[h]
theorem CR(s:bZ)(k:Nat)(h:k<s.size):s.data.toList.take (k+1)=s.data.toList.take k++[s[k]]:=by
 rw[V8 (by simpa using h)];rfl
def IY(p:UInt8->Bool)(s:ByteArray)(k:Nat):Bool:=(s.data.toList.take k).all p
theorem uR(p:UInt8->Bool)(s:bZ):IY p s 0=true:=by simp[IY]
theorem uS(p:UInt8->Bool)(s:bZ)(k:Nat)(h:k<s.size):IY p s (k+1)=(IY p s k&&p s[k]):=by
 unfold IY;rw[CR s k h];simp
theorem zm(p:UInt8->Bool)(s:bZ)(k:Nat)(h:s.size<=k):IY p s k=sZ p s:=by
 unfold IY sZ;rw[WL (by simpa using h)]
theorem zn(p:UInt8->Bool)(s:bZ)(k:Nat)(h:k<s.size)(hb:p s[k]=false):sZ p s=false:=by
 unfold sZ;rw[List.all_eq_false];exact⟨s[k],by simp[ByteArray.getElem_eq_getElem_data],by simp[hb]⟩
def eX(t i:ByteArray):Bool:=aR t&&qz i
end Go.Proofs.YtcgdckphpjfmhaaGreatDoor.Pl
namespace Go.Proofs.YtcgdckphpjfmhaaGreatDoor
open ChangeShapes WideShapes ChangeAt RowKit
open Pl
theorem lJ(c:UInt8)(w:ae):
  Calls prog 209 #[.int .u8 c.toNat] w fun e w'=>e=.returned (.bool (eT c))/\w'=w:=by
 go_enter func209,ntmps209;go_wp2
 all_goals go_ret
 all_goals refine⟨ah ?_,rfl⟩
 all_goals(rw[Wy];simp[eT];omega)
theorem aT(s:bZ)(w:ae)(hs:s.size<=maxLen):
  Calls prog 151 #[.string s] w fun e w'=>e=.returned (.bool (aR s))/\w'=w:=by
 unfold maxLen at hs;by_cases h1:1<=s.size/\s.size<=12
 ·obtain⟨ha,hb⟩:=h1;go_enter func151,ntmps151;go_wp2
  go_loop [3] (fun i=>∃k:Nat,k<=s.size/\i=.int .i64 k/\Hid (IY eT s k=true)) (fun i=>s.size-(intOf i).toNat)
  case atStart=>exact⟨0,Wd _,rfl,uR _ _⟩
  obtain⟨k,hk,rfl,hu⟩:=hrel;by_cases hlt:k<s.size
  ·by_cases hc:eT s[k]=true
   ·have hc1:97<=s[k].toNat:=by simp[eT]at hc;omega
    have hc2:s[k].toNat<=122:=by simp[eT]at hc;omega
    have HU:Hid (IY eT s (k+1)=true):=by show _=_;rw[uS _ _ _ hlt,hc,hu.out];rfl
    clear hc;go_wp2;go_round;case rel=>exact⟨k+1,by omega,by go_num,HU⟩
    simp[intOf];omega
   have hc':eT s[k]=false:=by simpa using hc
   have HB:Hid (sZ eT s=false):=zn _ _ _ hlt hc';have hd:s[k].toNat<97\/122<s[k].toNat:=by simp[eT]at hc';omega
   clear hc hc';rcases hd with hd|hd
   all_goals
    go_wp2;go_ret;exact⟨ah (by simp[aR,dK,HB.out]),rfl⟩
  go_wp2;go_ret;refine⟨ah ?_,rfl⟩;have hall:sZ eT s=true:=by rw[<-zm eT s k (by omega)];exact hu.out
  have hl:oD s=true:=by simp[oD];omega
  simp[aR,dK,zl,hall,hl]
 have hn:oD s=false:=by simp[oD];omega
 have HN:Hid (aR s=false):=by show _=_;simp[aR,dK,hn]
 clear hn;by_cases ha:1<=s.size
 ·have hb:12<s.size:=by omega
  clear h1;go_enter func151,ntmps151;go_wp2;go_ret;exact⟨ah HN.out.symm,rfl⟩
 have ha':s.size<1:=by omega
 clear h1;go_enter func151,ntmps151;go_wp2;go_ret;exact⟨ah HN.out.symm,rfl⟩
theorem zD(s:bZ)(w:ae)(hs:s.size<=maxLen):
  Calls prog 208 #[.string s,.func (Fn.func 209) #[] #[]] w fun e w'=>e=.returned (.bool (dK eT s))/\w'=w:=by
 unfold maxLen at hs;by_cases h1:1<=s.size/\s.size<=12
 ·obtain⟨ha,hb⟩:=h1;go_enter func208,ntmps208;go_wp2
  go_loop [16] (fun i=>∃k:Nat,k<=s.size/\i=.int .i64 k/\Hid (IY eT s k=true)) (fun i=>s.size-(intOf i).toNat)
  case atStart=>exact⟨0,Wd _,rfl,uR _ _⟩
  obtain⟨k,hk,rfl,hu⟩:=hrel;by_cases hlt:k<s.size
  ·by_cases hc:eT s[k]=true
   ·have HU:Hid (IY eT s (k+1)=true):=by show _=_;rw[uS _ _ _ hlt,hc,hu.out];rfl
    go_wp2_with(go_at_call 209;refine(lJ _ _).mono ?_;rintro e w' ⟨rfl,rfl⟩);go_round;case rel=>exact⟨k+1,by omega,by go_num,HU⟩
    simp[intOf];omega
   have hc':eT s[k]=false:=by simpa using hc
   have HB:Hid (sZ eT s=false):=zn _ _ _ hlt hc';clear hc;go_wp2_with(go_at_call 209;refine(lJ _ _).mono ?_;rintro e w' ⟨rfl,rfl⟩);go_ret;exact⟨ah (by simp[dK,HB.out]),rfl⟩
  go_wp2;go_ret;refine⟨ah ?_,rfl⟩;have hall:sZ eT s=true:=by rw[<-zm eT s k (by omega)];exact hu.out
  have hl:oD s=true:=by simp[oD];omega
  simp[dK,hall,hl]
 have hn:oD s=false:=by simp[oD];omega
 have HN:Hid (dK eT s=false):=by show _=_;simp[dK,hn]
 clear hn;by_cases ha:1<=s.size
 ·have hb:12<s.size:=by omega
  clear h1;go_enter func208,ntmps208;go_wp2;go_ret;exact⟨ah HN.out.symm,rfl⟩
 have ha':s.size<1:=by omega
 clear h1;go_enter func208,ntmps208;go_wp2;go_ret;exact⟨ah HN.out.symm,rfl⟩
theorem aO(s:bZ)(w:ae)(hs:s.size<=maxLen):
  Calls prog 170 #[.string s] w fun e w'=>e=.returned (.bool (aR s))/\w'=w:=by
 by_cases h:s.toList=[116,104,105,115]
 ·have hb:(s.toList==[116,104,105,115])=true:=by simp[h]
  have HN:Hid (aR s=false):=by show _=_;simp[aR,zl,h]
  clear h;go_enter func170,ntmps170;go_wp2;go_ret;exact⟨ah HN.out.symm,rfl⟩
 have hb:(s.toList==[116,104,105,115])=false:=by simp[h]
 have HN:Hid (aR s=dK eT s):=by show _=_;simp[aR,zl,h]
 clear h;go_enter func170,ntmps170;go_wp2_with(go_at_call 208;refine(zD _ _ hs).mono ?_;rintro e w' ⟨rfl,rfl⟩);go_ret;exact⟨ah HN.out.symm,rfl⟩
structure Al where
 t:ByteArray
 s:ByteArray
abbrev Q0a:=List Al
def Al.fits(a:Al):Prop:=a.t.size<=maxLen/\a.s.size<=maxLen
def Ua(w:World)(b off:Nat)(a:Al):Prop:=w.cell? ⟨b,off,none⟩=some (.string a.t)/\w.cell? ⟨b,off+1,none⟩=some (.string a.s)
def lK(w:World)(ad:Q02)(xs:Q0a):Prop:=xs=[] \/ ∃b off,ad=some ⟨b,off,none⟩/\b<w.heap.size/\∀(i:Nat) (h:i<xs.length),Ua w b (off+i*2) xs[i]
def wS(w:World)(ad:Q02)(zs:List Int):Prop:=zs=[] \/ ∃b off,ad=some ⟨b,off,none⟩/\b<w.heap.size/\∀(i:Nat) (h:i<zs.length),w.cell? ⟨b,off+i,none⟩=some (.int .i64 zs[i])
theorem Ua.same{w w':ae}{b off:Nat}{a:Al}(h:Ua w b off a)(hc:∀o,w'.cell? ⟨b,o,none⟩=w.cell? ⟨b,o,none⟩):Ua w' b off a:=⟨(hc _).trans h.1,(hc _).trans h.2⟩
theorem lK.below{w w':ae}{ad:Q02}{xs:Q0a}(h:lK w ad xs)(hB:af w w'):lK w' ad xs:=by
 rcases h with h|⟨b,off,e,hb,hr⟩
 ·exact .inl h
 exact .inr ⟨b,off,e,VY hb hB.size,fun i hi=>(hr i hi).same fun o=>hB.cell (p:=⟨b,o,none⟩) hb⟩
theorem wS.below{w w':ae}{ad:Q02}{zs:List Int}(h:wS w ad zs)(hB:af w w'):wS w' ad zs:=by
 rcases h with h|⟨b,off,e,hb,hr⟩
 ·exact .inl h
 exact .inr ⟨b,off,e,VY hb hB.size,fun i hi=>(hB.cell (p:=⟨b,off+i,none⟩) hb).trans (hr i hi)⟩
structure Ex where
 kind:Int
 allow:List Al
 over:ByteArray
 name:ByteArray
 kids:List Int
abbrev Q09:=List Ex
structure ER where
 e:Ex
 adA:Option Addr
 capA:Nat
 adK:Option Addr
 capK:Nat
abbrev Q08:=List ER
def ER.val(r:ER):Value:=.agg #[.int .i64 r.e.kind,.slice r.adA r.e.allow.length r.capA,.string r.e.over,.string r.e.name,.slice r.adK r.e.kids.length r.capK]
def ER.ok(w:World)(r:ER):Prop:=lK w r.adA r.e.allow/\wS w r.adK r.e.kids
def Ex.fits(e:Ex):Prop:=(∀a∈e.allow,a.fits)/\e.over.size<=maxLen/\e.name.size<=maxLen/\e.allow.length<=maxLen/\e.kids.length<=maxLen
theorem ER.ok.below{w w':ae}{r:ER}(h:r.ok w)(hB:af w w'):r.ok w':=⟨h.1.below hB,h.2.below hB⟩
def yQ(w:World)(b off:Nat)(r:ER):Prop :=
 w.cell? ⟨b,off,none⟩=some (.int .i64 r.e.kind)/\w.cell? ⟨b,off+1,none⟩=some (.slice r.adA r.e.allow.length r.capA)/\w.cell? ⟨b,off+2,none⟩=some (.string r.e.over) /\
 w.cell? ⟨b,off+3,none⟩=some (.string r.e.name)/\w.cell? ⟨b,off+4,none⟩=some (.slice r.adK r.e.kids.length r.capK)
theorem yQ.same{w w':ae}{b off:Nat}{r:ER}(h:yQ w b off r)(hc:∀o,w'.cell? ⟨b,o,none⟩=w.cell? ⟨b,o,none⟩):yQ w' b off r:=by
 obtain⟨h0,h1,h2,h3,h4⟩:=h;exact⟨(hc _).trans h0,(hc _).trans h1,(hc _).trans h2,(hc _).trans h3,(hc _).trans h4⟩
def jv(w:World)(ad:Q02)(rs:Q08):Prop:=rs=[] \/ ∃b off,ad=some ⟨b,off,none⟩/\b<w.heap.size/\(∀(i:Nat) (h:i<rs.length),yQ w b (off+i*5) rs[i])/\∀r∈rs,r.ok w
theorem jv.below{w w':ae}{ad:Q02}{rs:Q08}(h:jv w ad rs)(hB:af w w'):jv w' ad rs:=by
 rcases h with h|⟨b,off,e,hb,hr,hk⟩
 ·exact .inl h
 exact .inr ⟨b,off,e,VY hb hB.size,fun i hi=>(hr i hi).same fun o=>hB.cell (p:=⟨b,o,none⟩) hb,fun r hr=>(hk r hr).below hB⟩
def aj(rs:Q08):List Ex:=rs.map ER.e
theorem bf(rs:Q08):(aj rs).length=rs.length:=by simp[aj]
def uT(s:ByteArray):Bool:=s.toList.isEmpty || aR s
theorem IZ(s:bZ)(w:ae)(hs:s.size<=maxLen):
  Calls prog 179 #[.string s] w fun e w'=>e=.returned (.bool (uT s))/\w'=w:=by
 go_enter func179,ntmps179;go_wp2_with(go_at_call 170;refine(aO _ _ hs).mono ?_;rintro e w' ⟨rfl,rfl⟩)
 all_goals go_ret
 all_goals exact⟨ah (by simp[uT, *]),rfl⟩
def Ex.light(e:Ex):Prop:=e.allow.length<=1048576/\e.kids.length<=1048576
structure Fil(w wr:World)(g n:Nat)(xs:Q03):Prop where
 below:af w wr
 ge:w.heap.size<=g
 lt:g<wr.heap.size
 done:∀(j:Nat) (h:j<xs.length),wr.cell? ⟨g,j,none⟩=some xs[j]
 there:∀j,j<n->(wr.cell? ⟨g,j,none⟩).isSome=true
 free:∀j,wr.frozen? ⟨g,j,none⟩=false
theorem qI{w:ae}{g i j:Nat}{v:Value}(h:i≠j):(w.setCell ⟨g,i,none⟩ v).cell? ⟨g,j,none⟩=w.cell? ⟨g,j,none⟩:=by
 apply World.cell?_setCell_other;intro e;exact h (congrArg Addr.off e)
theorem zF{w:ae}{a:Addr}{v u:Value}(h:w.cell? a=some u):(w.setCell a v).cell? a=some v:=by
 apply World.cell?_setCell_same;exact h
theorem xW{w:ae}{g h i j:Nat}{v:Value}(hn:g≠h):(w.setCell ⟨g,i,none⟩ v).cell? ⟨h,j,none⟩=w.cell? ⟨h,j,none⟩:=by
 apply World.cell?_setCell_other;intro e;exact hn (congrArg Addr.block e)
theorem Fil.later{w wr w1:ae}{g n:Nat}{xs:Q03}(h:Fil w wr g n xs)(hb:af wr w1):Fil w w1 g n xs where
 below:=h.below.trans (hb.mono h.below.size)
 ge:=h.ge
 lt:=VY h.lt hb.size
 done j hj:=by rw[hb.cell (p:=⟨g,j,none⟩) h.lt];exact h.done j hj
 there j hj:=by rw[hb.cell (p:=⟨g,j,none⟩) h.lt];exact h.there j hj
 free j:=by rw[hb.frozen (p:=⟨g,j,none⟩) h.lt];exact h.free j
theorem Fil.put{w wr:ae}{g n o:Nat}{xs:Q03}(h:Fil w wr g n xs)(v:Value)(ho:o=xs.length)(hn:o<n):Fil w (wr.setCell ⟨g,o,none⟩ v) g n (xs++[v]) where
 below:=h.below.setCell (p:=⟨g,o,none⟩) h.ge v
 ge:=h.ge
 lt:=by simpa using h.lt
 done j hj:=by
  by_cases e:j=o
  ·subst e;obtain⟨u,hu⟩:=Option.isSome_iff_exists.mp (h.there j hn);rw[zF hu];simp[ho]
  have hj':j<xs.length:=by simp at hj;omega
  rw[qI (Ne.symm e),h.done j hj',WA hj']
 there j hj:=by
  by_cases e:j=o
  ·subst e;obtain⟨u,hu⟩:=Option.isSome_iff_exists.mp (h.there j hn);rw[zF hu];rfl
  rw[qI (Ne.symm e)];exact h.there j hj
 free j:=by simpa using h.free j
def ints(zs:List Int):List Value:=zs.map (Value.int .i64)
theorem Fil.ints{w w':ae}{g:Nat}{zs:List Int}(h:Fil w w' g zs.length (ints zs)):wS w' (some ⟨g,0,none⟩) zs :=
 .inr ⟨g,0,rfl,h.lt,fun i hi=>by rw[WB,h.done i (by simpa[YtcgdckphpjfmhaaGreatDoor.ints] using hi)];simp[YtcgdckphpjfmhaaGreatDoor.ints]⟩
def pairs(xs:Q0a):List Value:=xs.flatMap fun a=>[.string a.t,.string a.s]
theorem rY:∀xs:List Al,(pairs xs).length=xs.length*2
 | []=>rfl
 | a::xs=>by have:=rY xs;simp only[pairs,WF,Wi,WH,Xh]at this ⊢;omega
theorem uU:∀(xs:Q0a) (i:Nat) (h:i<xs.length),(pairs xs)[i*2]?=some (.string xs[i].t)/\(pairs xs)[i*2+1]?=some (.string xs[i].s)
 | [],i,h=>by simp at h
 | a::xs,0,_=>by simp[pairs]
 | a::xs,i+1,h=>by
  have:=uU xs i (by simpa using h);simp only[pairs,WF,WU,Xi,List.getElem_cons_succ]at this ⊢;rw[show(i+1)*2=i*2+1+1 by omega,show i*2+1+1+1=(i*2+1)+1+1 by omega];simpa using this
theorem Fil.pairs{w w':ae}{g:Nat}{xs:Q0a}(h:Fil w w' g (xs.length*2) (pairs xs)):lK w' (some ⟨g,0,none⟩) xs:=by
 refine .inr ⟨g,0,rfl,h.lt,fun i hi=>?_⟩;obtain⟨h1,h2⟩:=uU xs i hi;have hl:=rY xs;refine⟨?_,?_⟩
 ·rw[WB,h.done (i*2) (by omega),<-h1,Wm (by omega)]
 rw[WB,h.done (i*2+1) (by omega),<-h2,Wm (by omega)]
theorem lK.set{w:ae}{ad:Q02}{xs:Q0a}{g o:Nat}{v:Value}(h:lK w ad xs)(hn:∀b off,ad=some ⟨b,off,none⟩->g≠b):lK (w.setCell ⟨g,o,none⟩ v) ad xs:=by
 rcases h with h|⟨b,off,e,hb,hr⟩
 ·exact .inl h
 exact .inr ⟨b,off,e,by simpa using hb,fun i hi=>(hr i hi).same fun o=>xW (hn b off e)⟩
theorem wS.set{w:ae}{ad:Q02}{zs:List Int}{g o:Nat}{v:Value}(h:wS w ad zs)(hn:∀b off,ad=some ⟨b,off,none⟩->g≠b):wS (w.setCell ⟨g,o,none⟩ v) ad zs:=by
 rcases h with h|⟨b,off,e,hb,hr⟩
 ·exact .inl h
 exact .inr ⟨b,off,e,by simpa using hb,fun i hi=>by rw[xW (hn b off e)];exact hr i hi⟩
theorem kept{W w1:ae}{n o:Nat}{v:Value}(hb:af W w1)(hn:n<W.heap.size)(h:W.cell? ⟨n,o,none⟩=some v):w1.cell? ⟨n,o,none⟩=some v:=by
 rw[hb.cell (p:=⟨n,o,none⟩) hn];exact h
theorem Vg{W w1:ae}{n o:Nat}(hb:af W w1)(hn:n<W.heap.size)(h:W.frozen? ⟨n,o,none⟩=false):w1.frozen? ⟨n,o,none⟩=false:=by
 rw[hb.frozen (p:=⟨n,o,none⟩) hn];exact h
theorem Oy(w:ae)(x:Obj)(C:Array Value)(t:TypeId)(k:Nat){v:Value}(h:C[k]?=some v):((w.alloc x).alloc (.cells C t)).cell? ⟨w.heap.size+1,k,none⟩=some v:=by
 have:=World.cell?_alloc_mark (w.alloc x) C t (0,0) k;rw[World.size_alloc,h]at this;exact this
theorem Ub(w:ae)(x y:Obj)(C:Array Value)(t:TypeId)(k:Nat){v:Value}(h:C[k]?=some v):(((w.alloc x).alloc y).alloc (.cells C t)).cell? ⟨w.heap.size+1+1,k,none⟩=some v:=by
 have:=Oy (w.alloc x) y C t k h;rw[World.size_alloc]at this;exact this
def ER.row(r:ER):List Value:=[.int .i64 r.e.kind,.slice r.adA r.e.allow.length r.capA,.string r.e.over,.string r.e.name,.slice r.adK r.e.kids.length r.capK]
def jQ(rs:Q08):List Value:=rs.flatMap ER.row
theorem wT:∀rs:List ER,(jQ rs).length=rs.length*5
 | []=>rfl
 | r::rs=>by have:=wT rs;simp only[jQ,ER.row,WF,Wi,WH,Xh]at this ⊢;omega
theorem zG:∀(rs:Q08) (i:Nat) (h:i<rs.length) (j:Nat),j<5->(jQ rs)[i*5+j]?=(rs[i]).row[j]?
 | [],i,h,_,_=>by simp at h
 | r::rs,0,_,j,hj=>by
  simp only[jQ,WF,Nat.zero_mul,WB,List.getElem_cons_zero];rw[Xa (by simpa[ER.row] using hj)]
 | r::rs,i+1,h,j,hj=>by
  have:=zG rs i (by simpa using h) j hj;simp only[jQ,WF,List.getElem_cons_succ]at this ⊢;rw[WY (by simp[ER.row];omega),<-this];congr 1;simp[ER.row];omega
theorem Fil.rows{w w':ae}{g:Nat}{rs:Q08}(h:Fil w w' g (rs.length*5) (jQ rs))(hok:∀r∈rs,r.ok w'):jv w' (some ⟨g,0,none⟩) rs:=by
 refine .inr ⟨g,0,rfl,h.lt,fun i hi=>?_,hok⟩;have hl:=wT rs;have key:∀j,j<5->w'.cell? ⟨g,0+i*5+j,none⟩=(rs[i]).row[j]?:=fun j hj=>by
  rw[WB,h.done (i*5+j) (by omega),<-zG rs i hi j hj,Wm (by omega)]
 exact⟨key 0 (by omega),key 1 (by omega),key 2 (by omega),key 3 (by omega),key 4 (by omega)⟩
def ER.new(B:Nat)(r:ER):Prop:=∃gA gK:Nat,r.adA=some ⟨gA,0,none⟩/\r.adK=some ⟨gK,0,none⟩/\B<gA/\B<gK/\r.capA=r.e.allow.length
theorem ER.ok.set{w:ae}{r:ER}{g o:Nat}{v:Value}(h:r.ok w)(hn:r.new g):r.ok (w.setCell ⟨g,o,none⟩ v):=by
 obtain⟨gA,gK,e1,e2,h1,h2,-⟩:=hn;refine⟨h.1.set fun b off e=>?_,h.2.set fun b off e=>?_⟩
 ·rw[e1]at e;injection e with e;injection e with e3 e4;omega
 rw[e2]at e;injection e with e;injection e with e3 e4;omega
theorem ER.new.mono{B B':Nat}{r:ER}(h:r.new B)(hB:B'<=B):r.new B':=by
 obtain⟨gA,gK,e1,e2,h1,h2,h3⟩:=h;exact⟨gA,gK,e1,e2,by omega,by omega,h3⟩
structure Rl where
 name:ByteArray
 expr:List Ex
structure RR where
 name:ByteArray
 rows:List ER
 ad:Option Addr
 cap:Nat
abbrev Q07:=List RR
def RR.p(r:RR):Rl:=⟨r.name,aj r.rows⟩
def RR.val(r:RR):Value:=.agg #[.string r.name,.slice r.ad r.rows.length r.cap]
def RR.ok(w:World)(r:RR):Prop:=jv w r.ad r.rows
def RR.fits(r:RR):Prop:=r.name.size<=maxLen/\r.rows.length<=maxLen/\∀q∈r.rows,q.e.fits
def RR.light(r:RR):Prop:=r.rows.length<=1048576/\∀q∈r.rows,q.e.light
def RR.caps(r:RR):Prop:=r.rows.length<=r.cap/\∀q∈r.rows,q.e.allow.length<=q.capA
def RR.new(B:Nat)(r:RR):Prop:=(∃g:Nat,r.ad=some ⟨g,0,none⟩/\B<g)/\∀q∈r.rows,q.new B
theorem RR.ok.below{w w':ae}{r:RR}(h:r.ok w)(hB:af w w'):r.ok w':=jv.below h hB
def AtR(w:World)(b off:Nat)(r:RR):Prop:=w.cell? ⟨b,off,none⟩=some (.string r.name)/\w.cell? ⟨b,off+1,none⟩=some (.slice r.ad r.rows.length r.cap)
theorem AtR.same{w w':ae}{b off:Nat}{r:RR}(h:AtR w b off r)(hc:∀o,w'.cell? ⟨b,o,none⟩=w.cell? ⟨b,o,none⟩):AtR w' b off r:=⟨(hc _).trans h.1,(hc _).trans h.2⟩
theorem AtR.later{w w':ae}{b off:Nat}{r:RR}(h:AtR w b off r)(hb:b<w.heap.size)(hB:af w w'):AtR w' b off r:=h.same fun o=>hB.cell (p:=⟨b,o,none⟩) hb
def Oz(w:World)(ad:Q02)(rs:Q07):Prop:=rs=[] \/ ∃b off,ad=some ⟨b,off,none⟩/\b<w.heap.size/\(∀(i:Nat) (h:i<rs.length),AtR w b (off+i*2) rs[i])/\∀r∈rs,r.ok w
theorem Oz.below{w w':ae}{ad:Q02}{rs:Q07}(h:Oz w ad rs)(hB:af w w'):Oz w' ad rs:=by
 rcases h with h|⟨b,off,e,hb,hr,hk⟩
 ·exact .inl h
 exact .inr ⟨b,off,e,VY hb hB.size,fun i hi=>(hr i hi).same fun o=>hB.cell (p:=⟨b,o,none⟩) hb,fun r hr=>(hk r hr).below hB⟩
def eG(rs:Q07):List Rl:=rs.map RR.p
theorem rZ(rs:Q07):(eG rs).length=rs.length:=by simp[eG]
theorem RR.ok.set{w:ae}{r:RR}{g o:Nat}{v:Value}(h:r.ok w)(hn:r.new g):r.ok (w.setCell ⟨g,o,none⟩ v):=by
 obtain⟨⟨gE,e1,h1⟩,h2⟩:=hn;rcases h with h|⟨b,off,e,hb,hr,hk⟩
 ·exact .inl h
 refine .inr ⟨b,off,e,by simpa using hb,fun i hi=>(hr i hi).same fun o=>xW ?_,fun q hq=>(hk q hq).set (h2 q hq)⟩;rw[e1]at e;injection e with e;injection e with e3 e4;omega
theorem RR.new.mono{B B':Nat}{r:RR}(h:r.new B)(hB:B'<=B):r.new B':=by
 obtain⟨⟨g,e,hg⟩,h2⟩:=h;exact⟨⟨g,e,by omega⟩,fun q hq=>(h2 q hq).mono hB⟩
structure Ty where
 name:ByteArray
 rels:List Rl
abbrev Q0b:=List Ty
structure TR where
 name:ByteArray
 rows:List RR
 ad:Option Addr
 cap:Nat
abbrev Q06:=List TR
def TR.p(r:TR):Ty:=⟨r.name,eG r.rows⟩
def TR.val(r:TR):Value:=.agg #[.string r.name,.slice r.ad r.rows.length r.cap]
def TR.ok(w:World)(r:TR):Prop:=Oz w r.ad r.rows
def TR.fits(r:TR):Prop:=r.name.size<=maxLen/\r.rows.length<=maxLen/\∀q∈r.rows,q.fits
def TR.light(r:TR):Prop:=r.rows.length<=1048576/\∀q∈r.rows,q.light
def TR.caps(r:TR):Prop:=r.rows.length<=r.cap/\∀q∈r.rows,q.caps
def TR.new(B:Nat)(r:TR):Prop:=(∃g:Nat,r.ad=some ⟨g,0,none⟩/\B<g)/\∀q∈r.rows,q.new B
theorem TR.ok.below{w w':ae}{r:TR}(h:r.ok w)(hB:af w w'):r.ok w':=Oz.below h hB
def Uc(w:World)(b off:Nat)(r:TR):Prop:=w.cell? ⟨b,off,none⟩=some (.string r.name)/\w.cell? ⟨b,off+1,none⟩=some (.slice r.ad r.rows.length r.cap)
theorem Uc.same{w w':ae}{b off:Nat}{r:TR}(h:Uc w b off r)(hc:∀o,w'.cell? ⟨b,o,none⟩=w.cell? ⟨b,o,none⟩):Uc w' b off r:=⟨(hc _).trans h.1,(hc _).trans h.2⟩
theorem Uc.later{w w':ae}{b off:Nat}{r:TR}(h:Uc w b off r)(hb:b<w.heap.size)(hB:af w w'):Uc w' b off r:=h.same fun o=>hB.cell (p:=⟨b,o,none⟩) hb
def lc(w:World)(ad:Q02)(rs:Q06):Prop:=rs=[] \/ ∃b off,ad=some ⟨b,off,none⟩/\b<w.heap.size/\(∀(i:Nat) (h:i<rs.length),Uc w b (off+i*2) rs[i])/\∀r∈rs,r.ok w
theorem lc.below{w w':ae}{ad:Q02}{rs:Q06}(h:lc w ad rs)(hB:af w w'):lc w' ad rs:=by
 rcases h with h|⟨b,off,e,hb,hr,hk⟩
 ·exact .inl h
 exact .inr ⟨b,off,e,VY hb hB.size,fun i hi=>(hr i hi).same fun o=>hB.cell (p:=⟨b,o,none⟩) hb,fun r hr=>(hk r hr).below hB⟩
def ag(rs:Q06):List Ty:=rs.map TR.p
theorem lN(rs:Q06):(ag rs).length=rs.length:=by simp[ag]
theorem TR.ok.set{w:ae}{r:TR}{g o:Nat}{v:Value}(h:r.ok w)(hn:r.new g):r.ok (w.setCell ⟨g,o,none⟩ v):=by
 obtain⟨⟨gE,e1,h1⟩,h2⟩:=hn;rcases h with h|⟨b,off,e,hb,hr,hk⟩
 ·exact .inl h
 refine .inr ⟨b,off,e,by simpa using hb,fun i hi=>(hr i hi).same fun o=>xW ?_,fun q hq=>(hk q hq).set (h2 q hq)⟩;rw[e1]at e;injection e with e;injection e with e3 e4;omega
theorem TR.new.mono{B B':Nat}{r:TR}(h:r.new B)(hB:B'<=B):r.new B':=by
 obtain⟨⟨g,e,hg⟩,h2⟩:=h;exact⟨⟨g,e,by omega⟩,fun q hq=>(h2 q hq).mono hB⟩
def kI(x y:Al):Bool:=x.t.toList==y.t.toList&&x.s.toList==y.s.toList
def F4(a:Al):Bool:=aR a.t&&uT a.s
def dR(xs:Q0a)(k:Nat)(a:Al):Bool:=(xs.take k).any fun x=>kI x a
theorem ul(xs:Q0a)(k:Nat)(a:Al)(h:k<xs.length):dR xs (k+1) a=(dR xs k a || kI xs[k] a):=by
 unfold dR;rw[V8 h,List.any_append];simp
theorem uq(xs:Q0a)(a:Al):dR xs 0 a=false:=by simp[dR]
def Ey(xs:Q0a):Nat->Bool
 | 0=>true
 | k+1=>Ey xs k&&(xs[k]?.map fun a=>F4 a && !dR xs k a).getD true
theorem zH(xs:Q0a)(k:Nat)(h:k<xs.length):Ey xs (k+1)=(Ey xs k&&(F4 xs[k] && !dR xs k xs[k])):=by
 simp[Ey,h]
theorem pI(xs:Q0a)(k:Nat)(h:k<xs.length)(hb:(F4 xs[k] && !dR xs k xs[k])=false):∀n,k<n->Ey xs n=false
 | 0,hn=>by omega
 | n+1,hn=>by
  by_cases e:n=k
  ·subst e;rw[zH _ _ h,hb];simp
  simp[Ey,pI xs k h hb n (by omega)]
def ed(xs:Q0a):Bool:=decide (1<=xs.length)&&decide (xs.length<=6)&&Ey xs xs.length
def ay(e:Ex):Bool :=
 if e.kind=1 then ed e.allow&&e.over.toList.isEmpty&&e.name.toList.isEmpty&&decide (e.kids.length=0)
 else if e.kind=2 then aR e.name&&decide (e.allow.length=0)&&e.over.toList.isEmpty&&decide (e.kids.length=0)
 else if e.kind=3 then aR e.over&&aR e.name&&decide (e.allow.length=0)&&decide (e.kids.length=0)
 else if e.kind=4\/e.kind=5 then decide (2<=e.kids.length)&&decide (e.kids.length<=5)&&decide (e.allow.length=0)&&e.over.toList.isEmpty&&e.name.toList.isEmpty
 else if e.kind=6 then decide (e.kids.length=2)&&decide (e.allow.length=0)&&e.over.toList.isEmpty&&e.name.toList.isEmpty
 else false
def dC(f:Int->Int):List Int->Int->Int
 | [],at'=>at'+1
 | k::ks,at'=>if at'<0\/k≠at' then -1 else if f at'<0 then -1 else dC f ks (f at'-1)
def mr(es:Q09)(n:Nat):List Int:=(es[n]?.map Ex.kids).getD []
def aI(es:Q09)(n:Nat):Int:=dC (fun x=>if _h:0<=x/\x.toNat<n then aI es x.toNat else -1) (mr es n).reverse ((n:Int)-1)
def dS(es:Q09)(n:Nat)(x:Int):Int:=if 0<=x/\x.toNat<n then aI es x.toNat else -1
theorem jU(es:Q09)(n:Nat):aI es n=dC (dS es n) (mr es n).reverse ((n:Int)-1):=by
 rw[aI];rfl
theorem CS{f:Int->Int}(hf:∀x,0<=x->f x<=x):∀(ks:List Int) (a:Int),-1<=a->dC f ks a<=a+1
 | [],a,_=>by simp[dC]
 | k::ks,a,ha=>by
  unfold dC;split
  ·omega
  rename_i h;split
  ·omega
  rename_i h2;have h0:0<=a:=by omega
  have:=CS hf ks (f a-1) (by omega);have:=hf a h0;omega
theorem oF(es:Q09)(n:Nat):aI es n<=n:=by
 induction n using Nat.strongRecOn with
 | ind n ih =>
  rw [jU];have:=CS (f:=dS es n) (fun x hx=>by
   unfold dS;split
   ·rename_i h;have:=ih x.toNat h.2;omega
   omega) (mr es n).reverse ((n:Int)-1) (by omega)
  omega
theorem OA(es:Q09)(n:Nat)(x:Int)(hx:0<=x):dS es n x<=x:=by
 unfold dS;split
 ·have:=oF es x.toNat;omega
 omega
theorem tK{es:Q09}{n:Nat}(ih:∀m,m<n->0<=aI es m->∀j:Nat,aI es m<=j->j<=m->0<=aI es j):
  ∀(ks:List Int) (a:Int),a<n->0<=dC (dS es n) ks a->∀j:Nat,dC (dS es n) ks a<=j->(j:Int)<=a->0<=aI es j
 | [],a,ha,h,j,h1,h2=>by simp[dC]at h1;omega
 | k::ks,a,ha,h,j,h1,h2=>by
  unfold dC at h h1;split at h
  ·omega
  rename_i c;rw[if_neg c]at h1;split at h
  ·omega
  rename_i c2;rw[if_neg c2]at h1;have h0:0<=a:=by omega
  have hF:dS es n a=aI es a.toNat:=by unfold dS;rw[if_pos ⟨h0,by omega⟩]
  rw[hF]at h h1 c2;by_cases hj:aI es a.toNat<=j
  ·exact ih a.toNat (by omega) (by omega) j hj (by omega)
  exact tK ih ks (aI es a.toNat-1) (by have:=oF es a.toNat;omega) h j h1 (by omega)
theorem tL(es:Q09)(n:Nat):0<=aI es n->∀j:Nat,aI es n<=j->j<=n->0<=aI es j:=by
 induction n using Nat.strongRecOn with
 | ind n ih =>
  intro h j h1 h2;by_cases e:j=n
  ·subst e;exact h
  rw[jU]at h h1;exact tK ih _ _ (by omega) h j h1 (by omega)
def lh(es:Q09)(i:Nat):Bool:=(mr es i).all fun k=>decide (0<=k)&&decide (k<=(i:Int)-1)
theorem xX{es:Q09}{n:Nat}:∀(ks:List Int) (a:Int),a<n->0<=dC (dS es n) ks a->∀k∈ks,0<=k/\k<=a
 | [],_,_,_,k,hk=>by cases hk
 | x::ks,a,ha,h,k,hk=>by
  unfold dC at h;split at h
  ·omega
  rename_i c;split at h
  ·omega
  rename_i c2;have h0:0<=a:=by omega
  rcases Ws.1 hk with rfl|hk
  ·omega
  have hl:=OA es n a h0;have:=xX ks (dS es n a-1) (by omega) h k hk;omega
theorem L8(es:Q09)(i:Nat)(h:0<=aI es i):lh es i=true:=by
 unfold lh;rw[Wq];intro k hk;rw[jU]at h;have:=xX _ _ (by omega) h k (by simpa using hk);simp;omega
def OB(es:Q09)(n:Nat):Prop:=∀j,j<n->0<=aI es j
def own(es:Q09):Nat:=(es.filter fun e=>decide (e.kind=1)).length
def gG(es:Q09)(k:Nat):Nat:=own (es.take k)
theorem zI(es:Q09)(k:Nat)(h:k<es.length):gG es (k+1)=gG es k+(if es[k].kind=1 then 1 else 0):=by
 unfold gG own;rw[V8 h,Xn,Wi];by_cases e:es[k].kind=1<;>simp[e]
theorem uV(es:Q09)(k:Nat):gG es k<=k:=by
 unfold gG own;exact Wh (List.length_filter_le ..) (by simp;omega)
def jw(es:Q09)(k:Nat):Bool:=(es.take k).all ay
theorem uW(es:Q09)(k:Nat)(h:k<es.length):jw es (k+1)=(jw es k&&ay es[k]):=by
 unfold jw;rw[V8 h,Xj];simp
theorem CU(es:Q09)(k:Nat)(h:k<es.length)(hb:ay es[k]=false):es.all ay=false:=by
 rw[Bool.eq_false_iff];intro h2;rw[Wq]at h2;have:=h2 es[k] (VZ h);rw[hb]at this;cases this
def je(es:Q09)(k:Nat):Bool:=(List.range k).all (lh es)
theorem F5(es:Q09)(k:Nat):je es (k+1)=(je es k&&lh es k):=by simp[je,List.range_succ]
theorem OC(es:Q09)(k:Nat)(h:k<es.length)(hb:lh es k=false):je es es.length=false:=by
 rw[Bool.eq_false_iff];intro h2;unfold je at h2;rw[Wq]at h2;have:=h2 k (by simpa using h);rw[hb]at this;cases this
def aP(es:Q09):Bool:=decide (1<=es.length)&&decide (es.length<=15)&&es.all ay&&je es es.length&&decide (own es<=1)&&decide (aI es (es.length-1)=0)
def jy(es:Q09):Bool:=(List.range es.length).all fun j=>decide (0<=aI es j)
def lF(es:Q09):Bool:=decide (1<=es.length)&&decide (es.length<=15)&&es.all ay&&decide (own es<=1)&&(jy es&&decide (aI es (es.length-1)=0))
theorem wU(es:Q09):aP es=lF es:=by
 by_cases h1:1<=es.length
 ·by_cases ht:aI es (es.length-1)=0
  ·have ha:jy es=true:=by
    unfold jy;rw[Wq];intro j hj;have hj':j<es.length:=by simpa using hj
    simpa using tL es (es.length-1) (by omega) j (by omega) (by omega)
   have hk:je es es.length=true:=by
    unfold je;rw[Wq];intro j hj;have hj':j<es.length:=by simpa using hj
    exact L8 es j (tL es (es.length-1) (by omega) j (by omega) (by omega))
   simp[aP,lF,ht,ha,hk,h1]
  simp[aP,lF,ht]
 simp[aP,lF,h1]
theorem ll{P:Program}{ops:Array Oper}{Q:Exit->Act->World->Prop}{k:Nat}{o:Oper}{K:Act->World->Prop}{a:Act}(w:ae)(hop:ops[k]?=some o)(hgd:o.guard=none)(s x:Operand)(t:TypeId)
  (ho:o.op=.call { callee:=.builtin .append,args:=#[s,x],argTypes:=#[t,t] })
  (base:Nat) (e:TypeId) (i:TypeInfo) (z:Value) (size bytes:Nat) (ht:P.underlying t=some (.slice e)) (hi:P.info? e=some i) (hz:i.zero=some z)
  (hsize:i.size=size) (hby:i.bytes=bytes) (hzs:z.cells.size=size) (hsz:0<size)
  (v:Value) (n:Nat) (xs:Q03) (hs:a.eval s=v) (hown:w.ownsRow base e size v n xs)
  (ad:Addr) (m c:Nat) (news:Q03) (hx:a.eval x=.slice (some ad) m c) (hl:news.length=m*size) (hnews:∀j u,news[j]?=some u->w.cell? (ad.add j)=some u) (h1:∀u∈news,u.oneCell'=true)
  (h63:n+m<=maxLen) (hbytes:(n+m)*bytes<=140737488355328) (hbase:base<=w.heap.size)
  (h:∀v' w',w'.ownsRow base e size v' (n+m) (xs++news)->w.grownBy w' v.ownBlock->(v'.ownBlock=v.ownBlock\/v'.ownBlock=some w.heap.size)->K (a.put o.dst v') w') :
  wpOp P ops Q k K a w:=by
 refine wpOp_step hop (fun K' hK=>?_);have hw:Region.wanted o (yielded ops a.tmps)=true:=by simp[Region.wanted,hgd]
 rw[if_pos hw];obtain⟨v',w',hr,h2,h3,h4,h5⟩:=run_append_own_at (P:=P) w base t o.type e i z size bytes ht hi hz hsize hby hzs hsz v n xs hown ad m c news hl hnews h1 h63 hbytes hbase;unfold Oper.wp execOp;simp only[ho,resolve,invoke,builtin,Sem.run_bind,Sem.run_pure,Result.andThen_ok,List.map_toArray,Xp,List.map_nil,hs,hx,hr];exact hK _ _ (h v' w' h2 h3 h5)
structure Aside(w:World)(v:Value)(w':World)(v':Value):Prop where
 size:w.heap.size<=w'.heap.size
 block:∀k,k<w.heap.size->v.ownBlock≠some k->w'.heap[k]?=w.heap[k]?
 own:v'.ownBlock=v.ownBlock \/ ∃g,v'.ownBlock=some g/\w.heap.size<=g
theorem Aside.refl(w:ae)(v:Value):Aside w v w v:=⟨V4 _,fun _ _ _=>rfl,.inl rfl⟩
theorem Aside.apart{w w':ae}{v v':Value}{k:Nat}(h:Aside w v w' v')(hk:k<w.heap.size)(hv:v.ownBlock≠some k):v'.ownBlock≠some k:=by
 rcases h.own with e|⟨g,e,hg⟩
 ·rw[e];exact hv
 rw[e];intro h2;injection h2 with h2;omega
theorem Aside.trans{w w1 w2:ae}{v v1 v2:Value}(h:Aside w v w1 v1)(h2:Aside w1 v1 w2 v2):Aside w v w2 v2 where
 size:=Wh h.size h2.size
 block k hk hv:=(h2.block k (VY hk h.size) (h.apart hk hv)).trans (h.block k hk hv)
 own:=by
  rcases h2.own with e|⟨g,e,hg⟩
  ·rw[e];exact h.own
  exact .inr ⟨g,e,Wh h.size hg⟩
theorem Aside.below{w w':ae}{v:Value}(h:af w w'):Aside w v w' v:=⟨h.size,fun k hk _=>h.block k hk,.inl rfl⟩
theorem Aside.app{w w':ae}{v v':Value}(hg:w.grownBy w' v.ownBlock)(h5:v'.ownBlock=v.ownBlock\/v'.ownBlock=some w.heap.size):Aside w v w' v' where
 size:=hg.size
 block k hk hv:=hg.block k hk (fun e=>hv e.symm)
 own:=by
  rcases h5 with e|e
  ·exact .inl e
  exact .inr ⟨_,e,V4 _⟩
theorem Aside.cell{w w':ae}{v v':Value}(h:Aside w v w' v'){p:Addr}(hp:p.block<w.heap.size)(hv:v.ownBlock≠some p.block):w'.cell? p=w.cell? p:=Wt (w:=w) (h.block p.block hp hv)
open Maps
def RF(v:Value):Option (DataW Value×List MemPlace):=some (.held v,[])
section
variable  {K:Type}(enc:K->Value)(P:Program)(k:TypeId)
def Ud(D:DataW Value)(kl:Lit):Option Value->Prop
 | none=>Maps.has D kl=false/\∀z,D.atKey kl z=z
 | some v=>Maps.has D kl=true/\∀z,D.atKey kl z=.held v
def aN(w:World)(b n:Nat)(M:K->Option Value):Prop :=
 ∃D:DataW Value,w.ownsMap P k RF b n D/\∀x kl,keyOf P k (enc x)=some kl->Ud D kl (M x)
def lQ[DecidableEq K](M:K->Option Value)(x:K)(v:Option Value):K->Option Value:=fun y=>if y=x then v else M y
end
section
variable  {K:Type}{enc:K->Value}{P:Program}{k:TypeId}{w:World}{b n:Nat}{M:K->Option Value}
theorem dY[DecidableEq K](M:K->Option Value)(x:K)(v:Option Value):lQ M x v x=v:=by simp[lQ]
theorem cu[DecidableEq K]{M:K->Option Value}{x y:K}{v:Option Value}(h:y≠x):lQ M x v y=M y:=by simp[lQ,h]
theorem lX(enc:K->Value)(P:Program)(k:TypeId)(w:ae):aN enc P k (w.alloc (.map #[] 0)) w.heap.size 0 (fun _=>none) :=
 ⟨.map [],World.ownsMap_made w P k RF,fun _ kl _=>⟨rfl,fun z=>by simp[DataW.atKey]⟩⟩
theorem aN.lt(h:aN enc P k w b n M):b<w.heap.size:=by obtain⟨D,h1,-⟩:=h;exact h1.lt
theorem aN.mono(h:aN enc P k w b n M){n':Nat}(hn:n<=n'):aN enc P k w b n' M:=by obtain⟨D,h1,h2⟩:=h;exact⟨D,h1.mono hn,h2⟩
theorem aN.kept{w':ae}{row:Option Nat}(h:aN enc P k w b n M)(hg:w.grownBy w' row)(hne:some b≠row):aN enc P k w' b n M:=by
 obtain⟨D,h1,h2⟩:=h;exact⟨D,h1.kept hg hne,h2⟩
theorem aN.below{w':ae}(h:aN enc P k w b n M)(hB:af w w'):aN enc P k w' b n M :=
 h.kept (row:=none) ⟨hB.os,hB.tape,hB.output,hB.size,fun k hk _=>hB.block k hk⟩ (by simp)
theorem aN.setCell(h:aN enc P k w b n M){a:Addr}(ha:b≠a.block)(u:Value):aN enc P k (w.setCell a u) b n M:=by
 obtain⟨D,h1,h2⟩:=h;exact⟨D,h1.setCell ha u,h2⟩
theorem aN.look{t e:TypeId}(h:aN enc P k w b n M)(L:Keyed P k)(ht:P.underlying t=some (.map k e)){z:Value}(hz:(zeroValue e).run P w=.ok z w){x:K}{kl:Lit}(hkey:keyOf P k (enc x)=some kl):
  (Instr.lookup t (.map (some b)) (enc x) false).run P w=.ok ((M x).getD z) w:=by
 obtain⟨D,h1,h2⟩:=h;obtain⟨v,ps,hrun,hv⟩:=h1.lookup L ht hz (zd:=.held z) (zp:=[]) rfl hkey;have h3:=h2 x kl hkey;rw[hrun];have:v=(M x).getD z:=by
  simp only[RF,Option.some.injEq,Prod.mk.injEq]at hv;cases e:M x with
  | none=>rw[e]at h3;rw[h3.2]at hv;injection hv.1 with h4
  | some u=>rw[e]at h3;rw[h3.2]at hv;injection hv.1 with h4
 rw[this]
theorem aN.look_ok{t e:TypeId}(h:aN enc P k w b n M)(L:Keyed P k)(ht:P.underlying t=some (.map k e)){z:Value}(hz:(zeroValue e).run P w=.ok z w){x:K}{kl:Lit}(hkey:keyOf P k (enc x)=some kl):
  (Instr.lookup t (.map (some b)) (enc x) true).run P w=.ok (.tuple #[(M x).getD z,.bool (M x).isSome]) w:=by
 obtain⟨D,h1,h2⟩:=h;obtain⟨v,ps,hrun,hv⟩:=h1.look_ok L ht hz (zd:=.held z) (zp:=[]) rfl hkey;have h3:=h2 x kl hkey;rw[hrun];simp only[RF,Option.some.injEq,Prod.mk.injEq]at hv;cases e:M x with
 | none=>rw[e]at h3;rw[h3.2]at hv;injection hv.1 with h4;rw[h4,h3.1];rfl
 | some u=>rw[e]at h3;rw[h3.2]at hv;injection hv.1 with h4;rw[h4,h3.1];rfl
theorem aN.store[DecidableEq K]{t e:TypeId}(h:aN enc P k w b n M)(L:Keyed P k)(hinj:∀x y,enc x=enc y->x=y)(ht:P.underlying t=some (.map k e))(hn:n<maxLen){x:K}{kl:Lit}(hkey:keyOf P k (enc x)=some kl)(v:Value):
  ∃w',(Instr.mapUpdate t (.map (some b)) (enc x) v).run P w=.ok () w'/\aN enc P k w' b (n+1) (lQ M x (some v))/\w.grownBy w' (some b):=by
 obtain⟨D,h1,h2⟩:=h;obtain⟨w',hrun,h3,h4⟩:=h1.update L ht hn hkey (val:=v) (d:=.held v) (ps:=[]) rfl;refine⟨w',hrun,⟨D.put kl (.held v),h3,fun y ky hy=>?_⟩,h4⟩;by_cases e:y=x
 ·subst e;obtain rfl:ky=kl:=by rw[hkey]at hy;injection hy with hy;exact hy.symm
  rw[dY];exact⟨has_put_same h1.isMap (L.key hkey) _,fun z=>atKey_put_same h1.isMap (L.key hkey) _ z⟩
 have hne:ky≠kl:=fun e2=>e (hinj _ _ (L.inj (by rw[e2]at hy;exact hy) hkey));rw[cu e];have h5:=h2 y ky hy;cases e3:M y with
 | none=>rw[e3]at h5;exact⟨by rw[has_put_other hne];exact h5.1,fun z=>by rw[atKey_put_other hne];exact h5.2 z⟩
 | some u=>rw[e3]at h5;exact⟨by rw[has_put_other hne];exact h5.1,fun z=>by rw[atKey_put_other hne];exact h5.2 z⟩
end
section
variable  {K:Type}{enc:K->Value}{P:Program}(w:World){ops:Array Oper}{rest:List Oper}{o:Oper}{a:Act}{Q:Exit->Act->World->Prop}
theorem jA(hg:o.guard=none)(m x:Operand)(t:TypeId)(hop:o.op=Op.lookup t m x false)(k e:TypeId)(L:Keyed P k)(ht:P.underlying t=some (.map k e)){z:Value}(hz:(zeroValue e).run P w=.ok z w)(b n:Nat)(M:K->Option Value)
  (hm:a.eval m=.map (some b)) (hV:aN enc P k w b n M) (y:K) (kl:Lit) (hx:a.eval x=enc y) (hkey:keyOf P k (enc y)=some kl)
  (hK:wpList P ops Q rest (a.put o.dst ((M y).getD z)) w):wpList P ops Q (o::rest) a w:=by
 refine wpList_plain hg fun K' hK'=>?_;have hrun:=hV.look L ht hz hkey;unfold Oper.wp;simp[execOp,hop,hm,hx,hrun,Result.andThen];exact hK' _ _ hK
theorem dL(hg:o.guard=none)(m x:Operand)(t:TypeId)(hop:o.op=Op.lookup t m x true)(k e:TypeId)(L:Keyed P k)(ht:P.underlying t=some (.map k e)){z:Value}(hz:(zeroValue e).run P w=.ok z w)(b n:Nat)(M:K->Option Value)
  (hm:a.eval m=.map (some b)) (hV:aN enc P k w b n M) (y:K) (kl:Lit) (hx:a.eval x=enc y) (hkey:keyOf P k (enc y)=some kl)
  (hK:wpList P ops Q rest (a.put o.dst (.tuple #[(M y).getD z,.bool (M y).isSome])) w):wpList P ops Q (o::rest) a w:=by
 refine wpList_plain hg fun K' hK'=>?_;have hrun:=hV.look_ok L ht hz hkey;unfold Oper.wp;simp[execOp,hop,hm,hx,hrun,Result.andThen];exact hK' _ _ hK
theorem kw[DecidableEq K](hg:o.guard=none)(m x v:Operand)(t:TypeId)(hop:o.op=Op.mapUpdate t m x v)(k e:TypeId)(L:Keyed P k)(hinj:∀x y,enc x=enc y->x=y)(ht:P.underlying t=some (.map k e))(b n:Nat)(M:K->Option Value)
  (hm:a.eval m=.map (some b)) (hV:aN enc P k w b n M) (hn:n<maxLen) (y:K) (kl:Lit) (hx:a.eval x=enc y) (hkey:keyOf P k (enc y)=some kl) (u:Value) (hv:a.eval v=u)
  (hK:∀w',aN enc P k w' b (n+1) (lQ M y (some u))->w.grownBy w' (some b)->wpList P ops Q rest (a.put o.dst undef) w'):wpList P ops Q (o::rest) a w:=by
 refine wpList_plain hg fun K' hK'=>?_;obtain⟨w',hrun,r1,r2⟩:=hV.store L hinj ht hn hkey u;unfold Oper.wp;simp[execOp,hop,hm,hx,hv,hrun,Result.andThen];exact hK' _ _ (hK w' r1 r2)
end
def dU(k:Q01):Value:=.agg #[.string k.1,.string k.2]
theorem uX(x y:Q01)(h:dU x=dU y):x=y:=by
 unfold dU at h;injection h with h;have h1:=congrArg Array.toList h;simp at h1;exact Prod.ext h1.1 h1.2
theorem zJ:laidOutB prog=true:=by kernel_rfl
theorem OD:(151:TypeId)<prog.types.size:=of_decide_eq_true (by kernel_rfl)
theorem RG:(match prog.underlying 151 with|some (.array _ _)|some (.struct _)=>true|_=>false)=true:=by rw[underlying151]
set_option maxRecDepth 100000 in
theorem Lb:WideMaps.KeyLaw prog 151:=deep_law_laid zJ (m:=2) (by omega) OD (by kernel_rfl) RG
theorem jf:Keyed prog 151:=Keyed.of_law Lb
theorem RH:prog.keyType 151=true:=by kernel_rfl
theorem F6:prog.cellsOf 151=2:=by kernel_rfl
theorem strCells:prog.cellsOf 9=1:=by kernel_rfl
theorem L9:∃n,prog.types.size=n+1:=Nat.exists_eq_succ_of_ne_zero (Nat.ne_of_gt (Nat.lt_of_le_of_lt (Wd _) OD))
theorem kJ(k:Q01)(h1:k.1.size<=maxLen)(h2:k.2.size<=maxLen):∃kl,keyOf prog 151 (dU k)=some kl:=by
 obtain⟨n,hn⟩:=L9;refine⟨.string (keyBytes [.string k.1.data.toList,.string k.2.data.toList]),?_⟩;unfold keyOf;rw[underlying151];simp only[RH,dU,Value.formed,underlying151,F6,hn,Value.cells];simp[Program.keyLits,underlying151,underlying9,F6,strCells,h1,h2]
open Go.Sort
theorem ol{p:Prop}(h:p):Hid p:=h
theorem jV{P:Program}{f:FuncId}{args:Array Value}{W:ae}{v:Value}(h:∀W',Calls P f args W' fun e w'=>e=.returned v/\w'=W'):∀d os,Calls P f args (grow (redrawn W d) os) fun e w''=>e=.returned v/\∃p:Regrown,w''=grow (redrawn W p.d) p.os:=fun d os=>(h _).mono fun _ _ ⟨he,hw⟩=>⟨he,⟨d,os⟩,hw⟩
theorem bq{P:Program}{f:FuncId}{args:Array Value}{W:ae}{v:Value}(h:∀W',af W W'->Calls P f args W' fun e w'=>e=.returned v/\af W' w'):∀d os,Calls P f args (grow (redrawn W d) os) fun e w''=>e=.returned v/\∃p:Regrown,w''=grow (redrawn W p.d) p.os:=fun d os=>Calls.regrown_of (h _ (below_regrown W d os))
def lT(ops:Array Oper)(m k:Nat):Bool:=(ops[m]?.map fun o=>o.after.any fun e=>e.on==k&&Region.binds .any e).getD false
def Vh(ops:Array Oper)(i:Nat):List Nat:=(List.range i).reverse.foldl (fun acc k=>if acc.any (fun m=>lT ops m k) then k::acc else acc) [i]
def Lc(ops:Array Oper)(L N:Nat):Bool:=(List.range N).all fun i=>decide (i<L) || (List.range i).all fun j=>(Vh ops i).contains j
def RI(l:List Oper)(L:Nat):Bool:=l.all fun o=>match o.guard with|some (g,_)=>decide (g<L)|none=>true
def oG(P:Program)(ops:Array Oper)(Q:Exit->Act->World->Prop):Nat->Nat->Act->World->Prop
 | 0,_,a,w=>Q .normal a w
 | n+1,i,a,w=>wpOp P ops Q i (oG P ops Q n (i+1)) a w
theorem xY{ops:Array Oper}{m k:Nat}(h:lT ops m k=true):∃o,ops[m]?=some o/\∃e∈o.after,e.on=k/\Region.binds .any e=true:=by
 unfold lT at h;cases ho:ops[m]? with
 | none=>rw[ho]at h;cases h
 | some o =>
  rw[ho]at h;simp only[Option.map_some,WO]at h;rw[Array.any_eq_true']at h;obtain⟨e,he,h2⟩:=h;simp only[V9,beq_iff_eq]at h2;exact⟨o,rfl,e,he,h2.1,h2.2⟩
theorem F7{ops:Array Oper}{i:Nat}{lst:Nat->Prop}(hcl:∀m k,m=i\/lst m->lT ops m k=true->lst k):∀m∈Vh ops i,m=i\/lst m:=by
 have key:∀(ks acc:List Nat),(∀m∈acc,m=i\/lst m)->∀m∈ks.foldl (fun acc k=>if acc.any (fun m=>lT ops m k) then k::acc else acc) acc,m=i\/lst m:=by
  intro ks
  induction ks with
  | nil=>intro acc h;exact h
  | cons k ks ih =>
   intro acc h;refine ih _ ?_;dsimp only;split
   ·rename_i ha;obtain⟨m,hm,hb⟩:=Xe.1 ha;intro x hx;rcases Ws.1 hx with rfl|hx
    ·exact .inr (hcl m _ (h m hm) hb)
    exact h x hx
   exact h
 exact key _ _ fun m hm=>.inl (by simpa using hm)
theorem CV{ops:Array Oper}{L N i:Nat}(h:Lc ops L N=true)(hi:i<N)(hL:L<=i){lst:Nat->Prop}(hcl:∀m k,m=i\/lst m->lT ops m k=true->lst k):∀j,j<i->lst j:=fun j hj=>by
 have h1:=Wq.1 h i (by simpa using hi);simp only[Bool.or_eq_true,Wn]at h1;have h2:=Wq.1 (h1.resolve_left (by omega)) j (by simpa using hj);exact(F7 hcl j (by simpa using h2)).resolve_left (by omega)
theorem qE{P:Program}{id:Nat}{Q:Exit->Act->World->Prop}{a:Act}{w:ae}{l:List Oper}(L n:Nat)(hm:P.follows .mixedOrders=true)(hlen:l.length=L+n)
  (hB:(Region.noSelect (l.take L).toArray&&Region.lexFrom .any (l.take L).toArray L 0 (Array.replicate (L+n) false)&&RI (l.take L) L&&F3 l.toArray&&Lc l.toArray L (L+n))=true)
  (h:wpQuiet P (l.take L).toArray (fun w'=>∃p:Regrown,w'=grow (redrawn w p.d) p.os) (fun a'=>∀w',(∃p:Regrown,w'=grow (redrawn w p.d) p.os)->oG P l.toArray Q n L a' w') (l.take L) a):(Code.region id l.toArray true).wp P Q a w:=by
 obtain⟨C,hC⟩:∃C:World->Prop,C=fun w'=>∃p:Regrown,w'=grow (redrawn w p.d) p.os:=⟨_,rfl⟩;have h':wpQuiet P (l.take L).toArray C (fun a'=>∀w',C w'->oG P l.toArray Q n L a' w') (l.take L) a:=by simpa[hC] using h
 clear h;have hC0:C w.drew:=by rw[hC];exact⟨⟨w.drawn+1,#[]⟩,by rw[grow_empty];rfl⟩
 clear hC;simp only[V9]at hB;obtain⟨⟨⟨⟨hns,hlx⟩,hgd⟩,Ym⟩,hch⟩:=hB;have htl:(l.take L).length=L:=by rw[WK];omega
 have hat:∀i,i<L->(l.take L).toArray[i]?=l.toArray[i]?:=fun i hi=>by simp[hi]
 have hsz:l.toArray.size=L+n:=by simpa using hlen
 have hwant:∀(i:Nat) (o:Oper) (a':Act),i<L->l.toArray[i]?=some o->Region.wanted o (yielded (l.take L).toArray a'.tmps)=Region.wanted o (yielded l.toArray a'.tmps):=by
  intro i o a' hi ho;have hmem:o∈l.take L:=by
   rw[<-hat i hi]at ho;exact Xk (by simpa using ho)
  have:=Wq.1 hgd o hmem;unfold Region.wanted;cases hg:o.guard with
  | none=>rfl
  | some x =>
   obtain⟨g,bw⟩:=x;rw[hg]at this;have hgl:g<L:=by simpa using this
   simp only[yielded,hat g hgl]
 have h1:=wpAnyQ_lex (C:=C) (md:=.any) hns (l.take L) 0 (Array.replicate (L+n) false) a (fun j=>by simp) (by rw[htl];exact hlx) h';rw[htl]at h1;refine gW (fun listed a' w'=>listed.size=L+n/\(∀m k,listed.getD m false=true->lT l.toArray m k=true->listed.getD k false=true)/\(((∀j,L<=j->listed.getD j false=false)/\C w'/\∃fuel,wpAnyQ P .any (l.take L).toArray C (fun a'=>∀w',C w'->oG P l.toArray Q n L a' w') fuel listed a') \/ ∃d,d<=n/\(∀j,j<L+d->listed.getD j false=true)/\(∀j,L+d<=j->listed.getD j false=false)/\oG P l.toArray Q (n-d) (L+d) a' w')) hm ?_ ?_ ?_
 ·have hf:∀j,(Array.replicate l.toArray.size false).getD j false=false:=fun j=>by
   rw[Wz,WQ];split<;>rfl
  exact⟨by simpa using hsz,fun m k hm=>absurd hm (by rw[hf];decide),Or.inl ⟨fun j _=>hf j,hC0,L,by rw[hsz];exact h1⟩⟩
 ·rintro listed a' w' ⟨hs,hcl,hh⟩ i hi;obtain⟨hl,o,ho,hpre⟩:=mem_ready.1 hi;have hiL:i<L+n:=by have:=(We.1 ho).1;omega
  have hcl2:∀m k,(listed.setIfInBounds i true).getD m false=true->lT l.toArray m k=true->(listed.setIfInBounds i true).getD k false=true:=fun m k hm hb=>by
   rw[aQ _ _ _ (by omega)]at hm ⊢;by_cases hk:k=i
   ·rw[if_pos hk]
   rw[if_neg hk];by_cases e:m=i
   ·subst e;obtain⟨o',ho',e,he,rfl,hbe⟩:=xY hb;rw[ho]at ho';obtain rfl:=Option.some.inj ho';exact hpre e he hbe
   rw[if_neg e]at hm;exact hcl m k hm hb
  have hup:L<=i->∀j,j<i->listed.getD j false=true:=fun hLi=>CV hch hiL hLi fun m k hm hb=>by
   rcases hm with rfl|hm
   ·obtain⟨o',ho',e,he,rfl,hbe⟩:=xY hb;rw[ho]at ho';obtain rfl:=Option.some.inj ho';exact hpre e he hbe
   exact hcl m k hm hb
  have hsq:∀d,L+d=i->oG P l.toArray Q (n-d) (L+d) a' w'->wpOp P l.toArray Q i (fun a'' w''=>(listed.setIfInBounds i true).size=L+n/\(∀m k,(listed.setIfInBounds i true).getD m false=true->lT l.toArray m k=true->(listed.setIfInBounds i true).getD k false=true)/\(((∀j,L<=j->(listed.setIfInBounds i true).getD j false=false)/\C w''/\∃fuel,wpAnyQ P .any (l.take L).toArray C (fun a'=>∀w',C w'->oG P l.toArray Q n L a' w') fuel (listed.setIfInBounds i true) a'') \/ ∃d,d<=n/\(∀j,j<L+d->(listed.setIfInBounds i true).getD j false=true)/\(∀j,L+d<=j->(listed.setIfInBounds i true).getD j false=false)/\oG P l.toArray Q (n-d) (L+d) a'' w'')) a' w':=fun d hd hw=>by
   obtain⟨r,hr⟩:∃r,n-d=r+1:=⟨n-d-1,by omega⟩;rw[hr,hd]at hw;have aaa:∀j,i<j->listed.getD j false=false:=fun j hj=>by
    cases hlj:listed.getD j false;case false=>rfl
    have hjn:j<L+n:=by
     rcases Nat.lt_or_ge j (L+n) with h|h
     ·exact h
     rw[Wz,Array.getElem?_eq_none (by omega)]at hlj;cases hlj
    have:=CV hch hjn (by omega) (lst:=fun k=>listed.getD k false=true) (fun m k hm hb=>by
     rcases hm with rfl|hm
     ·exact hcl _ k hlj hb
     exact hcl m k hm hb) i hj
    rw[kH (by omega)]at hl;rw[hl]at this;cases this
   refine wpOp_mono (fun a'' w'' hq=>⟨by simpa using hs,hcl2,.inr ⟨d+1,by omega,fun j hj=>?_,fun j hj=>?_,?_⟩⟩) hw
   ·rw[aQ _ _ _ (by omega)];by_cases e:j=i
    ·rw[if_pos e]
    rw[if_neg e];exact hup (by omega) j (by omega)
   ·rw[aQ _ _ _ (by omega),if_neg (by omega)];exact aaa j (by omega)
   have e1:n-(d+1)=r:=by omega
   have e2:L+(d+1)=i+1:=by omega
   rw[e1,e2];exact hq
  rcases hh with⟨hn,hCw,fuel,hq⟩|⟨d,hdn,hlow,hhigh,hw⟩
  ·by_cases e:i<L
   ·have hr:i∈Region.ready .any (l.take L).toArray listed:=mem_ready.2 ⟨hl,o,by rw[hat i e];exact ho,hpre⟩;cases fuel with
    | zero=>have:=hq.1;rw[this]at hr;cases hr
    | succ nn =>
     have hk:=hq.2 i hr;have:=wpOp_of_qOp (K':=fun a'' w''=>C w''/\wpAnyQ P .any (l.take L).toArray C (fun a'=>∀w',C w'->oG P l.toArray Q n L a' w') nn (listed.setIfInBounds i true) a'') (Q':=Q) hCw (fun _ _ h1 h2=>⟨h1,h2⟩) hk;have h3:wpOp P l.toArray Q i (fun a'' w''=>C w''/\wpAnyQ P .any (l.take L).toArray C (fun a'=>∀w',C w'->oG P l.toArray Q n L a' w') nn (listed.setIfInBounds i true) a'') a' w':=by
      unfold wpOp at this⊢;rw[hat i e,ho]at this;rw[ho];simp only[hwant i o a' e ho]at this;exact this
     refine wpOp_mono (fun a'' w'' hh=>⟨by simpa using hs,hcl2,Or.inl ⟨fun j hj=>?_,hh.1,nn,hh.2⟩⟩) h3;rw[aQ _ _ _ (by omega),if_neg (by omega)];exact hn j hj
   have hiE:i=L:=by
    rcases Nat.lt_or_ge L i with h|h
    ·have:=hup (by omega) L h;rw[hn L (V4 _)]at this;cases this
    omega
   have hnr:Region.ready .any (l.take L).toArray listed=[]:=by
    rw[List.eq_nil_iff_forall_not_mem];intro j hj;obtain⟨g1,oj,g2,-⟩:=mem_ready.1 hj;have hji:j<L:=by have:=(We.1 g2).1;simp at this;omega
    rw[kH (by omega),hup (by omega) j (by omega)]at g1;cases g1
   have hQ:oG P l.toArray Q n L a' w':=by
    cases fuel with
    | zero=>exact hq.2 _ hCw
    | succ n=>exact hq.1 hnr _ hCw
   exact hsq 0 (by omega) (by simpa using hQ)
  have hid:L+d=i:=by
   rcases Nat.lt_or_ge i (L+d) with h|h
   ·have:=hlow i h;rw[kH (by omega)]at hl;rw[hl]at this;cases this
   rcases Nat.lt_or_ge (L+d) i with h2|h2
   ·have:=hup (by omega) (L+d) h2;rw[hhigh _ (V4 _)]at this;cases this
   omega
  exact hsq d hid hw
 rintro listed a' w' ⟨hs,hcl,hh⟩ hr;have hall:=uk hr hsz (qH Ym) hs;rcases hh with⟨hn,hCw,fuel,hq⟩|⟨d,hdn,hlow,hhigh,hw⟩
 ·have hn0:n=0:=by
   rcases Nat.eq_zero_or_pos n with h|h
   ·exact h
   have:=hall L (by omega);rw[kH (by omega),hn L (V4 _)]at this;cases this
  subst hn0;have hnr:Region.ready .any (l.take L).toArray listed=[]:=by
   rw[List.eq_nil_iff_forall_not_mem];intro j hj;obtain⟨g1,oj,g2,-⟩:=mem_ready.1 hj;have hji:j<L:=by have:=(We.1 g2).1;simp at this;omega
   rw[hall j (by omega)]at g1;cases g1
  have hQ:oG P l.toArray Q 0 L a' w':=by
   cases fuel with
   | zero=>exact hq.2 _ hCw
   | succ n=>exact hq.1 hnr _ hCw
  exact hQ
 have hd:d=n:=by
  rcases Nat.lt_or_ge d n with h|h
  ·have:=hall (L+d) (by omega);rw[kH (by omega),hhigh _ (V4 _)]at this;cases this
  omega
 subst hd;rw[Nat.sub_self]at hw;exact hw
end Go.Proofs.YtcgdckphpjfmhaaGreatDoor
