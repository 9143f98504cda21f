/- A region that draws its order, by what holds whichever operations have come up: each operation is run once, from what those that it waits for have left. -/
import Derived.Test.YtcgdckphpjfmhaaGreatDoorSq
import Derived.Deep.RegionWith
import Derived.Test.YtcgdckphpjfmhaaGreatDoorJ1
import Derived.OwnWalk
import Derived.Maps.AppendAt
import Derived.RegionTactic
import Derived.Maps.OwnSet
import Derived.DeepKeys4
import Derived.Lib.QuietBelow
import Derived.Lib.IndexMore
import Derived.Lib.IndexBytes
import Derived.Lib.Strings
import Derived.WideKeyEntry
import Derived.WalkArith
open Go.Proofs.Tryz
set_option maxHeartbeats 80000000
namespace Go.Proofs.YtcgdckphpjfmhaaGreatDoor
open RowKit
theorem NL{α:Type}(p q:α->Bool)(l:List α)(h:∀x∈l,q x=true->p x=true)(y:α)(hy:y∈l)(hp:p y=true)(hq:q y=false):l.countP q<l.countP p:=by
 induction l with
 | nil=>cases hy
 | cons a l ih =>
  rw[List.countP_cons,List.countP_cons];rcases VU.1 hy with rfl|hy
  ·have:=List.countP_mono_left (p:=q) (q:=p) (l:=l) (fun x hx=>h x (Wv _ hx));simp[hp,hq];omega
  have h1:=ih (fun x hx=>h x (Wv _ hx)) hy;have h2:=h a (WB ..);cases hqa:q a;case true=>simp[h2 hqa];omega
  simp;omega
section
variable  {P:Program}{ops:Array Oper}{Q:Exit->Act->World->Prop}{md:Region.Mode}
theorem aa{i:Nat}{o:Oper}{K:Act->World->Prop}{a:Act}{w:ae}(ho:ops[i]?=some o)
  (h:∀K':Act->World->Prop,Hid (∀a w,K a w->K' a w)->if Region.wanted o (yielded ops a.tmps)=true then Oper.wp P o a w K' Q else K' (a.put o.dst undef) w):wpOp P ops Q i K a w:=wpOp_step ho h
def left(ops:Array Oper)(listed:Array Bool):Nat:=(List.range ops.size).countP (fun i=>!(listed.getD i true))
theorem Fz(listed:Array Bool)(i j:Nat):(listed.setIfInBounds i true).getD j true=if j=i then true else listed.getD j true:=by
 rw[VX,VX,Array.getElem?_setIfInBounds];by_cases e:i=j
 ·subst e;by_cases h:i<listed.size<;>simp[h]
 simp[e,Ne.symm e]
theorem FB{listed:Array Bool}{i:Nat}(hi:i<ops.size)(hl:listed.getD i true=false):left ops (listed.setIfInBounds i true)<left ops listed:=by
 refine NL _ _ _ ?_ i (by simpa using hi) (by simp[hl]) (by rw[Fz];simp);intro x _ hx;simp only[Fz,Bool.not_eq_true']at hx ⊢;by_cases e:x=i
 ·simp[e]at hx
 simpa[e] using hx
theorem Lf(Inv:Array Bool->Act->World->Prop)
  (hstep:∀listed a w,Inv listed a w->∀i∈Region.ready md ops listed,wpOp P ops Q i (Inv (listed.setIfInBounds i true)) a w)
  (hend:∀listed a w,Inv listed a w->Region.ready md ops listed=[]->Q .normal a w) :
  ∀(fuel:Nat) (listed:Array Bool) (a:Act) (w:World),left ops listed<=fuel->Inv listed a w->wpAny P md ops Q fuel listed a w:=by
 intro fuel
 induction fuel with
 | zero =>
  intro listed a w hc hI;have hr:Region.ready md ops listed=[]:=by
   rw[List.eq_nil_iff_forall_not_mem];intro i hi;obtain⟨h1,o,h2,-⟩:=mem_ready.1 hi;have:=FB (ops:=ops) (VH.1 h2).1 h1;omega
  exact⟨hr,hend _ _ _ hI hr⟩
 | succ n ih =>
  intro listed a w hc hI;refine⟨fun hr=>hend _ _ _ hI hr,fun i hi=>wpOp_mono (fun a' w' h=>ih _ _ _ ?_ h) (hstep _ _ _ hI i hi)⟩;obtain⟨h1,o,h2,-⟩:=mem_ready.1 hi;have:=FB (ops:=ops) (VH.1 h2).1 h1;omega
theorem Q4(ops:Array Oper)(listed:Array Bool):left ops listed<=ops.size:=by
 unfold left;exact VJ List.countP_le_length (by simp)
theorem gM{id:Nat}{a:Act}{w:ae}(Inv:Array Bool->Act->World->Prop)(hm:P.follows .mixedOrders=true)
  (h0:Inv (Array.replicate ops.size false) a w.drew)
  (hstep:∀listed a w,Inv listed a w->∀i∈Region.ready .any ops listed,wpOp P ops Q i (Inv (listed.setIfInBounds i true)) a w)
  (hend:∀listed a w,Inv listed a w->Region.ready .any ops listed=[]->Q .normal a w):(Code.region id ops true).wp P Q a w :=
 wp_region_any hm (Lf Inv hstep hend _ _ _ _ (Q4 _ _) h0)
theorem tF{listed:Array Bool}{n:Nat}(hr:Region.ready md ops listed=[])(hs:ops.size=n)(XF:∀(i:Nat) (o:Oper),ops[i]?=some o->∀e∈o.after,e.on<i)(hsz:listed.size=n):∀i,i<n->listed.getD i true=true:=by
 intro i
 induction i using Nat.strongRecOn with
 | ind i ih =>
  intro hi;cases hl:listed.getD i true;case true=>rfl
  exfalso;have hmem:i∈Region.ready md ops listed:=by
   refine mem_ready.2 ⟨hl,ops[i]'(by omega),Wy (by omega),fun e he _=>?_⟩;have hlt:=XF i _ (Wy (by omega)) e he;have:=ih e.on hlt (by omega);rw[VX,Wy (by omega)]at this ⊢;simpa using this
  rw[hr]at hmem;cases hmem
end
def upd(f:Nat->Value)(i:Nat)(v:Value):Nat->Value:=fun k=>if k=i then v else f k
section
variable  {P:Program}{ops:Array Oper}{Q:Exit->Act->World->Prop}
theorem aO(listed:Array Bool)(i j:Nat)(hi:i<listed.size):(listed.setIfInBounds i true).getD j false=if j=i then true else listed.getD j false:=by
 rw[VX,VX,Array.getElem?_setIfInBounds];by_cases e:i=j
 ·subst e;simp[hi]
 simp[e,Ne.symm e]
theorem ko{listed:Array Bool}{i:Nat}(hi:i<listed.size):listed.getD i true=listed.getD i false:=by
 rw[VX,VX,Wy hi];rfl
def Cm(ops:Array Oper):Bool:=(List.range ops.size).all (fun i=>(ops[i]?.map (fun o=>o.after.all (fun e=>decide (e.on<i)))).getD true)
def zm(ops:Array Oper)(L:Nat):Bool:=(List.range L).all (fun j=>(ops[L]?.map (fun o=>o.after.any (fun e=>e.on==j&&Region.binds .any e))).getD false)
theorem qj{ops:Array Oper}(h:Cm ops=true):∀(i:Nat) (o:Oper),ops[i]?=some o->∀e∈o.after,e.on<i:=by
 intro i o ho e he;rw[Cm,VN]at h;have h1:=h i (by simpa using (VH.1 ho).1);rw[ho]at h1;simp only[Option.map_some,Wn,Array.all_eq_true_iff_forall_mem]at h1;simpa using h1 e he
theorem Cn{ops:Array Oper}{L:Nat}(h:zm ops L=true):∀(o:Oper),ops[L]?=some o->∀j,j<L->∃e∈o.after,e.on=j/\Region.binds .any e=true:=by
 intro o ho j hj;rw[zm,VN]at h;have h1:=h j (by simpa using hj);rw[ho]at h1;simp only[Option.map_some,Wn]at h1;rw[Array.any_eq_true']at h1;obtain⟨e,he,h2⟩:=h1;simp only[VF,beq_iff_eq]at h2;exact⟨e,he,h2.1,h2.2⟩
theorem cZ{id:Nat}{a:Act}{w:ae}(L:Nat)(f0:Nat->Value)(F:(Nat->Value)->Act)(V:Nat->Value->World->Prop)(G:World->Prop)
  (hm:P.follows .mixedOrders=true) (hsz:ops.size=L+1) (XF:Cm ops=true) (hlo:zm ops L=true)
  (h0:a=F f0) (hG0:G w.drew)
  (hstep:∀ i,i<L->∀ o,ops[i]?=some o->∀ f w',G w'->(∀ e∈o.after,Region.binds .any e=true->V e.on (f e.on) w') ->
   wpOp P ops Q i (fun a' w''=>∃v,a'=F (upd f i v)/\G w''/\V i v w''/\∀k u,V k u w'->V k u w'') (F f) w')
  (hfin:∀o,ops[L]?=some o->∀f w',G w'->(∀k,k<L->V k (f k) w')->wpOp P ops Q L (fun a' w''=>Q .normal a' w'') (F f) w') :
  (Code.region id ops true).wp P Q a w:=by
 refine gM (fun listed a' w'=>listed.size=L+1/\((listed.getD L false=false/\∃f,a'=F f/\G w'/\∀k,k<L->listed.getD k false=true->V k (f k) w')\/((∀j,j<=L->listed.getD j true=true)/\Q .normal a' w'))) hm ?_ ?_ ?_
 ·refine⟨by simpa using hsz,Or.inl ⟨?_,_,h0,hG0,fun k _ h=>?_⟩⟩
  ·rw[VX,Wo];split<;>rfl
  rw[VX,Wo]at h;split at h<;>cases h
 ·rintro listed a' w' ⟨hs,h⟩ i hi;obtain⟨hl,o,ho,hpre⟩:=mem_ready.1 hi;have hiL:i<L+1:=by have:=(VH.1 ho).1;omega
  rcases h with⟨hn,f,rfl,hG,hV⟩|⟨hall,-⟩
  ·by_cases e:i=L
   ·subst e;have hall:∀k,k<i->listed.getD k false=true:=fun k hk=>by
     obtain⟨e,he,rfl,hb⟩:=Cn hlo o ho k hk;exact hpre e he hb
    refine wpOp_mono (fun a'' w'' hq=>⟨by simpa using hs,Or.inr ⟨fun j hj=>?_,hq⟩⟩) (hfin o ho f w' hG (fun k hk=>hV k hk (hall k hk)));rw[ko (by simp;omega),aO _ _ _ (by omega)];by_cases e:j=i
    ·simp[e]
    rw[if_neg e];exact hall j (by omega)
   refine wpOp_mono ?_ (hstep i (by omega) o ho f w' hG (fun e he hb=>hV e.on (by have:=qj XF i o ho e he;omega) (hpre e he hb)));rintro a'' w'' ⟨v,rfl,hG',hv,hmono⟩;refine⟨by simpa using hs,Or.inl ⟨?_,_,rfl,hG',fun k hk hkl=>?_⟩⟩
   ·rw[aO _ _ _ (by omega),if_neg (Ne.symm e)];exact hn
   rw[aO _ _ _ (by omega)]at hkl;by_cases ek:k=i
   ·subst ek;simpa[upd] using hv
   rw[if_neg ek]at hkl;simp only[upd,if_neg ek];exact hmono _ _ (hV k hk hkl)
  rw[hall i (by omega)]at hl;cases hl
 rintro listed a' w' ⟨hs,h⟩ hr;rcases h with⟨hn,-⟩|⟨-,hq⟩
 ·have:=tF hr hsz (qj XF) hs L (by omega);rw[ko (by omega)]at this;rw[this]at hn;cases hn
 exact hq
theorem BL{id:Nat}{a:Act}{w:ae}(L:Nat)(F:(Nat->Value)->Act)(V:Nat->Value->World->Prop)(G:World->Prop)
  (hm:P.follows .mixedOrders=true) (hsz:ops.size=L+1) (XF:Cm ops=true) (hlo:zm ops L=true)
  (h0:a=F (fun _=>undef)) (hG0:G w.drew)
  (hstep:∀ i,i<L->∀ o,ops[i]?=some o->∀ f w',G w'->(∀ e∈o.after,Region.binds .any e=true->V e.on (f e.on) w') ->
   wpOp P ops Q i (fun a' w''=>∃v,a'=F (upd f i v)/\G w''/\V i v w''/\∀k u,V k u w'->V k u w'') (F f) w')
  (hfin:∀o,ops[L]?=some o->∀f w',G w'->(∀k,k<L->V k (f k) w')->wpOp P ops Q L (fun a' w''=>Q .normal a' w'') (F f) w') :
  (Code.region id ops true).wp P Q a w :=
 cZ L (fun _=>undef) F V G hm hsz XF hlo h0 hG0 hstep hfin
theorem dR{id:Nat}{a:Act}{w:ae}(N:Nat)(f0:Nat->Value)(F:(Nat->Value)->Act)(V:Nat->Value->World->Prop)(G:World->Prop)
  (hm:P.follows .mixedOrders=true) (hsz:ops.size=N) (XF:Cm ops=true)
  (h0:a=F f0) (hG0:G w.drew)
  (hstep:∀ i,i<N->∀ o,ops[i]?=some o->∀ f w',G w'->(∀ e∈o.after,Region.binds .any e=true->V e.on (f e.on) w') ->
   wpOp P ops Q i (fun a' w''=>∃v,a'=F (upd f i v)/\G w''/\V i v w''/\∀k u,V k u w'->V k u w'') (F f) w')
  (hend:∀f w',G w'->(∀k,k<N->V k (f k) w')->Q .normal (F f) w') :
  (Code.region id ops true).wp P Q a w:=by
 refine gM (fun listed a' w'=>listed.size=N/\∃f,a'=F f/\G w'/\∀k,k<N->listed.getD k false=true->V k (f k) w') hm ?_ ?_ ?_
 ·refine⟨by simpa using hsz,_,h0,hG0,fun k _ h=>?_⟩;rw[VX,Wo]at h;split at h<;>cases h
 ·rintro listed a' w' ⟨hs,f,rfl,hG,hV⟩ i hi;obtain⟨hl,o,ho,hpre⟩:=mem_ready.1 hi;have hiN:i<N:=by have:=(VH.1 ho).1;omega
  refine wpOp_mono ?_ (hstep i hiN o ho f w' hG (fun e he hb=>hV e.on (by have:=qj XF i o ho e he;omega) (hpre e he hb)));rintro a'' w'' ⟨v,rfl,hG',hv,hmono⟩;refine⟨by simpa using hs,_,rfl,hG',fun k hk hkl=>?_⟩;rw[aO _ _ _ (by omega)]at hkl;by_cases ek:k=i
  ·subst ek;simpa[upd] using hv
  rw[if_neg ek]at hkl;simp only[upd,if_neg ek];exact hmono _ _ (hV k hk hkl)
 rintro listed a' w' ⟨hs,f,rfl,hG,hV⟩ hr;refine hend f w' hG fun k hk=>hV k hk ?_;have:=tF hr hsz (qj XF) hs k hk;rwa [ko (by omega)]at this
end
def yV(a:Act)(L:(Nat->Value)->List Value)(f:Nat->Value):Act:={ a with tmps:=(L f).toArray }
def Q5(f:Nat->Value):List Value->Nat->List Nat->List Value
 | _::l,0,k::ks=>f k::Q5 f l 0 ks
 | v::l,n+1,ks=>v::Q5 f l n ks
 | l,_,_=>l
def Tx(i:Nat):List Value->Nat->List Nat->Value
 | v::l,0,k::ks=>if i=k then v else Tx i l 0 ks
 | _::l,n+1,ks=>Tx i l n ks
 | _,_,_=>undef
def puts(f:Nat->Value):List (Nat×List Nat)->List Value->List Value
 | [],l=>l
 | (n,ks)::r,l=>puts f r (Q5 f l n ks)
def olds(i:Nat):List (Nat×List Nat)->List Value->Value
 | [],_=>undef
 | (n,ks)::r,l=>if i∈ks then Tx i l n ks else olds i r l
theorem BJ{a:Act}{L:(Nat->Value)->List Value}(s:List (Nat×List Nat))(_hL:∀f,puts f s a.tmps.toList=L f:=by intro f;simp only[puts,Q5,List.toList_toArray];rfl)(hs:(L fun i=>olds i s a.tmps.toList).toArray=a.tmps:=by kernel_rfl):a=yV a L (fun i=>olds i s a.tmps.toList):=by
 unfold yV;rw[hs]
open ChangeAt ChangeShapes WideShapes Pl
structure Rd(w:World)(R:Nat)(ad:Q02)(len cap:Nat):Prop where
 lt:R<w.heap.size
 code:w.cell? ⟨R,0,none⟩=some (.slice ad len cap)
 place:∃p:Nat,w.cell? ⟨R,1,none⟩=some (.int .i64 p)/\p<=len
 free:w.frozen? ⟨R,1,none⟩=false
 bytes:0<len->∃b off,ad=some ⟨b,off,none⟩/\b≠R/\b<w.heap.size/\∀i,i<len->∃c:Int,0<=c/\c<=255/\w.cell? ⟨b,off+i,none⟩=some (.int .u8 c)
 small:len<=maxLen
theorem Rd.below{w w':ae}{R:Nat}{ad:Q02}{len cap:Nat}(h:Rd w R ad len cap)(hb:af w w'):Rd w' R ad len cap where
 lt:=Vy h.lt hb.size
 code:=by rw[hb.cell (p:=⟨R,0,none⟩) h.lt];exact h.code
 place:=by obtain⟨p,hp,hl⟩:=h.place;exact⟨p,by rw[hb.cell (p:=⟨R,1,none⟩) h.lt];exact hp,hl⟩
 free:=by rw[hb.frozen (p:=⟨R,1,none⟩) h.lt];exact h.free
 bytes h0:=by
  obtain⟨b,off,e,hne,hbl,hc⟩:=h.bytes h0;refine⟨b,off,e,hne,Vy hbl hb.size,fun i hi=>?_⟩;obtain⟨c,c0,c1,hcc⟩:=hc i hi;exact⟨c,c0,c1,by rw[hb.cell (p:=⟨b,off+i,none⟩) hbl];exact hcc⟩
 small:=h.small
theorem Rd.step{w:ae}{R p:Nat}{ad:Q02}{len cap:Nat}(h:Rd w R ad len cap)(hp:p+1<=len):Rd (w.setCell ⟨R,1,none⟩ (.int .i64 ((p:Int)+1))) R ad len cap where
 lt:=by simpa using h.lt
 code:=by
  rw[show(w.setCell ⟨R,1,none⟩ (.int .i64 ((p:Int)+1))).cell? ⟨R,0,none⟩=w.cell? ⟨R,0,none⟩ from by apply World.cell?_setCell_other;intro e;cases e];exact h.code
 place:=by
  obtain⟨q,hq,-⟩:=h.place;exact⟨p+1,by rw[show(w.setCell ⟨R,1,none⟩ (.int .i64 ((p:Int)+1))).cell? ⟨R,1,none⟩=some (.int .i64 ((p:Int)+1)) from by apply World.cell?_setCell_same;exact hq];simp,hp⟩
 free:=by simpa using h.free
 bytes h0:=by
  obtain⟨b,off,e,hne,hbl,hc⟩:=h.bytes h0;refine⟨b,off,e,hne,by simpa using hbl,fun i hi=>?_⟩;obtain⟨c,c0,c1,hcc⟩:=hc i hi;refine⟨c,c0,c1,?_⟩;rw[show(w.setCell ⟨R,1,none⟩ (.int .i64 ((p:Int)+1))).cell? ⟨b,off+i,none⟩=w.cell? ⟨b,off+i,none⟩ from by apply World.cell?_setCell_other;intro e;exact hne (congrArg Addr.block e).symm];exact hcc
 small:=h.small
def Only(R:Nat)(w w':World):Prop:=w.grownBy w' (some R)
theorem Only.refl(R:Nat)(w:ae):Only R w w:=⟨rfl,rfl,rfl,VC _,fun _ _ _=>rfl⟩
theorem Only.trans{R:Nat}{a b c:ae}(h:Only R a b)(k:Only R b c):Only R a c :=
 ⟨k.os.trans h.os,k.tape.trans h.tape,k.output.trans h.output,VJ h.size k.size,fun i hi hr=>(k.block i (Vy hi h.size) hr).trans (h.block i hi hr)⟩
theorem Only.drewN{R:Nat}{a b:ae}(h:Only R a b)(n:Nat):Only R a (b.drewN n):=⟨h.os,h.tape,h.output,h.size,h.block⟩
theorem Only.set{R:Nat}{a b:ae}(h:Only R a b)(o:Nat)(v:Value):Only R a (b.setCell ⟨R,o,none⟩ v) :=
 ⟨h.os,h.tape,h.output,by simpa using h.size,fun i hi hr=>(Below.heap_setCell b ⟨R,o,none⟩ v i (fun e=>hr (by rw[e]))).trans (h.block i hi hr)⟩
theorem Only.below{R:Nat}{a b c:ae}(h:Only R a b)(k:af b c):Only R a c :=
 ⟨k.os.trans h.os,k.tape.trans h.tape,k.output.trans h.output,VJ h.size k.size,fun i hi hr=>(k.block i (Vy hi h.size)).trans (h.block i hi hr)⟩
theorem Only.of_below{R:Nat}{b c:ae}(k:af b c):Only R b c:=(Only.refl R b).below k
theorem Only.cell{R:Nat}{w w':ae}(h:Only R w w'){b o:Nat}(hb:b<w.heap.size)(hne:b≠R):w'.cell? ⟨b,o,none⟩=w.cell? ⟨b,o,none⟩ :=
 VR (w:=w) (h.block b hb (fun e=>hne (by injection e)))
theorem Only.frozen{R:Nat}{w w':ae}(h:Only R w w'){b o:Nat}(hb:b<w.heap.size)(hne:b≠R):w'.frozen? ⟨b,o,none⟩=w.frozen? ⟨b,o,none⟩ :=
 World.frozen?_of_block (w:=w) (h.block b hb (fun e=>hne (by injection e)))
theorem Only.toBelow{R B:Nat}{a w w':ae}(h:Below B a w)(k:Only R w w')(hB:B<=w.heap.size)(hR:B<=R):Below B a w' :=
 h.grown k hB (fun i hi=>by injection hi with e;omega)
theorem FD(R:Nat)(ad:Q02)(len cap:Nat)(w:ae)(h:Rd w R ad len cap):
  Calls prog 149 #[.pointer (some ⟨R,0,none⟩)] w fun e w'=>(∃x:Int,e=.returned (.int .i64 x)/\0<=x/\x<=255)/\Rd w' R ad len cap/\Only R w w':=by
 obtain⟨p,hp,hpl⟩:=h.place;have hc:=h.code;have hsm:=h.small;unfold maxLen at hsm;have H:=aC h;by_cases hlt:p<len
 ·obtain⟨b,off,rfl,hne,hbl,hbytes⟩:=h.bytes (by omega);obtain⟨c,c0,c1,hcc⟩:=hbytes p hlt;have hfz:=h.free;have hnl:decide ((len:Int)<=(p:Int))=false:=by simp;omega
  have HS:Hid (Rd (w.setCell ⟨R,1,none⟩ (.int .i64 ((p:Int)+1))) R (some ⟨b,off,none⟩) len cap):=h.step (by omega);clear hbytes h;go_enter func149,ntmps149;go_wp2;go_quiet (fail);go_wp2;have e1:(p:Int)+1-1=(p:Int):=by omega
  have e2:=bq p;have e3:(p:Int)<(len:Int):=by omega
  have hw:IntKind.i64.wrap (p:Int)=(p:Int):=by rw[IntKind.wrap_i64];omega
  have hcw:IntKind.i64.wrap c=c:=by rw[IntKind.wrap_i64];omega
  have x1:(w.setCell ⟨R,1,none⟩ (.int .i64 ((p:Int)+1))).cell? ⟨b,off+p,none⟩=some (.int .u8 c):=by
   rw[show(w.setCell ⟨R,1,none⟩ (.int .i64 ((p:Int)+1))).cell? ⟨b,off+p,none⟩=w.cell? ⟨b,off+p,none⟩ from by apply World.cell?_setCell_other;intro e;exact hne (congrArg Addr.block e).symm];exact hcc
  go_quiet (fail);go_wp2;go_ret;exact⟨⟨c,rfl,c0,c1⟩,HS.out.below ⟨rfl,rfl,rfl,VC _,fun _ _=>rfl⟩,(((Only.refl _ _).drewN _).set _ _).drewN _⟩
 have hge:decide ((len:Int)<=(p:Int))=true:=by simp;omega
 clear h;go_enter func149,ntmps149;go_wp2;go_quiet (fail);go_wp2;go_ret;exact⟨⟨0,rfl,by omega,by omega⟩,H.out.below ((below_drewN (VD _ _) _)),(Only.refl _ _).drewN _⟩
theorem bB(R:Nat)(ad:Q02)(len cap:Nat)(n:Int)(w:ae)(h:Rd w R ad len cap)(h1:2<=n)(h2:n<=256):
  Calls prog 88 #[.pointer (some ⟨R,0,none⟩),.int .i64 n] w fun e w'=>(∃x:Int,e=.returned (.int .i64 x)/\0<=x/\x<n)/\Rd w' R ad len cap/\Only R w w':=by
 have H:=aC h;clear h;have hne:(n==0)=false:=by simp;omega
 go_enter func88,ntmps88;go_wp2_with fail;refine(FD R ad len cap _ H.out).mono ?_;rintro e w1 ⟨⟨x,rfl,hx0,hx1⟩,Xv,Xq⟩;have HR:=aC Xv;have HO:=aC Xq;clear Xv Xq;go_wp2;go_ret;exact⟨⟨_,rfl,Int.emod_nonneg _ (by omega),Int.emod_lt_of_pos _ (by omega)⟩,HR.out,HO.out⟩
theorem ib(R:Nat)(ad:Q02)(len cap:Nat)(n:Int)(w:ae)(h:Rd w R ad len cap)(h1:2<=n)(h2:n<=256):
  Calls prog 89 #[.pointer (some ⟨R,0,none⟩),.int .i64 n] w fun e w'=>(∃x:Bool,e=.returned (.bool x))/\Rd w' R ad len cap/\Only R w w':=by
 have H:=aC h;clear h;go_enter func89,ntmps89;go_wp2_with fail;refine(bB R ad len cap n _ H.out h1 h2).mono ?_;rintro e w1 ⟨⟨x,rfl,hx0,hx1⟩,Xv,Xq⟩;have HR:=aC Xv;have HO:=aC Xq;clear Xv Xq;go_wp2;go_ret;exact⟨⟨_,rfl⟩,HR.out,HO.out⟩
def Strs(w:World)(R g n:Nat):Prop:=g≠R/\g<w.heap.size/\∀i,i<n->∃s:ByteArray,s.size<=20/\w.cell? ⟨g,i,none⟩=some (.string s)
theorem Strs.only{w w':ae}{R g n:Nat}(h:Strs w R g n)(k:Only R w w'):Strs w' R g n :=
 ⟨h.1,Vy h.2.1 k.size,fun i hi=>by obtain⟨s,hs,hc⟩:=h.2.2 i hi;exact⟨s,hs,by rw[k.cell h.2.1 h.1];exact hc⟩⟩
def zn(w:World)(R B g:Nat):Prop:=g≠R/\B<=g/\g<w.heap.size/\(∀o,w.frozen? ⟨g,o,none⟩=false)/\∃a b:ByteArray,a.size<=20/\b.size<=20/\w.cell? ⟨g,0,none⟩=some (.string a)/\w.cell? ⟨g,1,none⟩=some (.string b)
theorem zn.only{w w':ae}{R B g:Nat}(h:zn w R B g)(k:Only R w w'):zn w' R B g:=by
 obtain⟨h1,h2,h3,h4,a,b,ha,hb,ca,cb⟩:=h;exact⟨h1,h2,Vy h3 k.size,fun o=>by rw[k.frozen h3 h1];exact h4 o,a,b,ha,hb,by rw[k.cell h3 h1];exact ca,by rw[k.cell h3 h1];exact cb⟩
theorem fw(w:ae)(R:Nat)(hR:R<w.heap.size){t:TypeId}{xs:List ByteArray}(h:xs.all (fun x=>decide (x.size<=20))=true):Strs (w.alloc (.cells (xs.map Value.string).toArray t)) R w.heap.size xs.length:=by
 refine⟨by omega,by simp,fun i hi=>⟨xs[i],?_,?_⟩⟩
 ·rw[VN]at h;simpa using h xs[i] (Vz hi)
 simp[hi]
theorem Lg{w:ae}{R B:Nat}{t:TypeId}(hR:R<w.heap.size)(hB:B<=w.heap.size):zn (w.alloc (.cells #[.string ⟨#[]⟩,.string ⟨#[]⟩] t)) R B w.heap.size :=
 ⟨by omega,hB,by simp,fun o=>by simp,⟨#[]⟩,⟨#[]⟩,by decide,by decide,by simp,by simp⟩
theorem Lh{w:ae}{R B g:Nat}{x y:Value}{a b:ByteArray}(h1:g≠R)(h2:B<=g)(h3:g<w.heap.size)(h4:∀o,w.frozen? ⟨g,o,none⟩=false)(hx:w.cell? ⟨g,0,none⟩=some x)(hy:w.cell? ⟨g,1,none⟩=some y)(ha:a.size<=20)(hb:b.size<=20):
  zn ((w.setCell ⟨g,0,none⟩ (.string a)).setCell ⟨g,1,none⟩ (.string b)) R B g:=by
 have n01:(⟨g,0,none⟩:Addr)≠⟨g,1,none⟩:=by intro e;cases e
 have e1:(w.setCell ⟨g,0,none⟩ (.string a)).cell? ⟨g,1,none⟩=some y:=by
  rw[show(w.setCell ⟨g,0,none⟩ (.string a)).cell? ⟨g,1,none⟩=w.cell? ⟨g,1,none⟩ from by apply World.cell?_setCell_other;exact n01];exact hy
 refine⟨h1,h2,by simpa using h3,fun o=>by simpa using h4 o,a,b,ha,hb,?_,?_⟩
 ·rw[show((w.setCell ⟨g,0,none⟩ (.string a)).setCell ⟨g,1,none⟩ (.string b)).cell? ⟨g,0,none⟩=(w.setCell ⟨g,0,none⟩ (.string a)).cell? ⟨g,0,none⟩ from by apply World.cell?_setCell_other;exact n01.symm];apply World.cell?_setCell_same;exact hx
 apply World.cell?_setCell_same;exact e1
theorem Rd.setFar{w:ae}{R g o:Nat}{ad:Q02}{len cap:Nat}{v:Value}(h:Rd w R ad len cap)(hg:g≠R)(hb:0<len->∀b off,ad=some ⟨b,off,none⟩->b≠g):Rd (w.setCell ⟨g,o,none⟩ v) R ad len cap where
 lt:=by simpa using h.lt
 code:=by
  rw[show(w.setCell ⟨g,o,none⟩ v).cell? ⟨R,0,none⟩=w.cell? ⟨R,0,none⟩ from by apply World.cell?_setCell_other;intro e;exact hg (congrArg Addr.block e)];exact h.code
 place:=by
  obtain⟨p,hp,hl⟩:=h.place;exact⟨p,by rw[show(w.setCell ⟨g,o,none⟩ v).cell? ⟨R,1,none⟩=w.cell? ⟨R,1,none⟩ from by apply World.cell?_setCell_other;intro e;exact hg (congrArg Addr.block e)];exact hp,hl⟩
 free:=by simpa using h.free
 bytes h0:=by
  obtain⟨b,off,e,hne,hbl,hc⟩:=h.bytes h0;refine⟨b,off,e,hne,by simpa using hbl,fun i hi=>?_⟩;obtain⟨c,c0,c1,hcc⟩:=hc i hi;exact⟨c,c0,c1,by rw[show(w.setCell ⟨g,o,none⟩ v).cell? ⟨b,off+i,none⟩=w.cell? ⟨b,off+i,none⟩ from by apply World.cell?_setCell_other;intro e2;exact hb h0 b off e (congrArg Addr.block e2).symm];exact hcc⟩
 small:=h.small
theorem Only.setNew{R g o:Nat}{a b:ae}{v:Value}(h:Only R a b)(hg:a.heap.size<=g):Only R a (b.setCell ⟨g,o,none⟩ v) :=
 ⟨h.os,h.tape,h.output,by simpa using h.size,fun i hi hr=>(Below.heap_setCell b ⟨g,o,none⟩ v i (by simp;omega)).trans (h.block i hi hr)⟩
theorem Only.alloc{R:Nat}{a b:ae}(h:Only R a b)(o:Obj):Only R a (b.alloc o):=h.below ((VD _ _).alloc (VC _) _)
theorem Rd.alloc{w:ae}{R:Nat}{ad:Q02}{len cap:Nat}(h:Rd w R ad len cap)(o:Obj):Rd (w.alloc o) R ad len cap:=h.below ((VD _ _).alloc (VC _) _)
theorem Q6{w:ae}{a:Addr}{v:Value}(h:w.cell? a=some v)(o:Obj):(w.alloc o).cell? a=some v:=cell_later ((VD _ _).alloc (VC _) _) h
def Ob(w:World)(R g:Nat)(a b:ByteArray):Prop:=g≠R/\g<w.heap.size/\w.cell? ⟨g,0,none⟩=some (.string a)/\w.cell? ⟨g,1,none⟩=some (.string b)
theorem Ob.only{w w':ae}{R g:Nat}{a b:ByteArray}(h:Ob w R g a b)(k:Only R w w'):Ob w' R g a b :=
 ⟨h.1,Vy h.2.1 k.size,by rw[k.cell h.2.1 h.1];exact h.2.2.1,by rw[k.cell h.2.1 h.1];exact h.2.2.2⟩
theorem Ob.alloc{w:ae}{R g:Nat}{a b:ByteArray}(h:Ob w R g a b)(o:Obj):Ob (w.alloc o) R g a b:=h.only ((Only.refl R w).alloc o)
theorem D7{w:ae}{R:Nat}(hR:R<w.heap.size)(t:TypeId)(a b:bW):Ob (w.alloc (.cells #[.string a,.string b] t)) R w.heap.size a b :=
 ⟨by omega,by simp,by simp,by simp⟩
def Tz(w:World)(R n:Nat):Prop:=n≠R/\n<w.heap.size/\(∀o,w.frozen? ⟨n,o,none⟩=false)/\∀o,o<6->w.cell? ⟨n,o,none⟩=some (.string ⟨#[]⟩)
theorem Tz.only{w w':ae}{R n:Nat}(h:Tz w R n)(k:Only R w w'):Tz w' R n :=
 ⟨h.1,Vy h.2.1 k.size,fun o=>by rw[k.frozen h.2.1 h.1];exact h.2.2.1 o,fun o ho=>by rw[k.cell h.2.1 h.1];exact h.2.2.2 o ho⟩
theorem Q7{w:ae}{R:Nat}(hR:R<w.heap.size)(t:TypeId):Tz (w.alloc (.cells #[.string ⟨#[]⟩,.string ⟨#[]⟩,.string ⟨#[]⟩,.string ⟨#[]⟩,.string ⟨#[]⟩,.string ⟨#[]⟩] t)) R w.heap.size:=by
 refine⟨by omega,by simp,fun o=>by simp,fun o ho=>?_⟩;have h6:o=0\/o=1\/o=2\/o=3\/o=4\/o=5:=by omega
 rcases h6 with rfl|rfl|rfl|rfl|rfl|rfl<;>simp
structure Kd where
 s:Value ⊕ Nat ⊕ Nat ⊕ Nat ⊕ Unit ⊕ Unit ⊕ Unit
abbrev Kd.eq (v:Value):Kd:=⟨.inl v⟩
abbrev Kd.strs (n:Nat):Kd:=⟨.inr (.inl n)⟩
abbrev Kd.idx (n:Nat):Kd:=⟨.inr (.inr (.inl n))⟩
abbrev Kd.elt (n:Nat):Kd:=⟨.inr (.inr (.inr (.inl n)))⟩
abbrev Kd.str:Kd:=⟨.inr (.inr (.inr (.inr (.inl ()))))⟩
abbrev Kd.obj:Kd:=⟨.inr (.inr (.inr (.inr (.inr (.inl ())))))⟩
abbrev Kd.tup:Kd:=⟨.inr (.inr (.inr (.inr (.inr (.inr ())))))⟩
def Kd.ok(R:Nat)(w:World)(v:Value):Kd->Prop
 | ⟨.inl u⟩=>v=u
 | ⟨.inr (.inl n)⟩=>∃g,v=.slice (some ⟨g,0,none⟩) n n/\Strs w R g n
 | ⟨.inr (.inr (.inl n))⟩=>∃x:Nat,v=.int .i64 (x:Int)/\x<n
 | ⟨.inr (.inr (.inr (.inl n)))⟩=>∃g x,v=.pointer (some ⟨g,x,none⟩)/\x<n/\Strs w R g n
 | ⟨.inr (.inr (.inr (.inr (.inl _))))⟩=>∃t:ByteArray,v=.string t/\t.size<=20
 | ⟨.inr (.inr (.inr (.inr (.inr (.inl _)))))⟩=>∃a b:ByteArray,v=.agg #[.string a,.string b]/\a.size<=20/\b.size<=20
 | ⟨.inr (.inr (.inr (.inr (.inr (.inr _)))))⟩=>∃a b r c d s:ByteArray,v=.agg #[.string a,.string b,.string r,.string c,.string d,.string s]/\a.size<=20/\b.size<=20/\r.size<=20/\c.size<=20/\d.size<=20/\s.size<=20
theorem Kd.only{R:Nat}{w w':ae}{v:Value}(h:Only R w w')(k:Kd)(hk:k.ok R w v):k.ok R w' v:=by
 match k,hk with
 | ⟨.inl _⟩,hk=>exact hk
 | ⟨.inr (.inl _)⟩,hk=>obtain⟨g,e,hs⟩:=hk;exact⟨g,e,hs.only h⟩
 | ⟨.inr (.inr (.inl _))⟩,hk=>exact hk
 | ⟨.inr (.inr (.inr (.inl _)))⟩,hk=>obtain⟨g,x,e,hx,hs⟩:=hk;exact⟨g,x,e,hx,hs.only h⟩
 | ⟨.inr (.inr (.inr (.inr (.inl _))))⟩,hk=>exact hk
 | ⟨.inr (.inr (.inr (.inr (.inr (.inl _)))))⟩,hk=>exact hk
 | ⟨.inr (.inr (.inr (.inr (.inr (.inr _)))))⟩,hk=>exact hk
def FE(ks:List Kd)(k:Nat):Kd:=ks.getD k .tup
variable  {P:Program}{ops:Array Oper}{Q:Exit->Act->World->Prop}
def zo(ops:Array Oper):Bool:=(List.range ops.size).all (fun i=>(ops[i]?.map (fun o=>o.after.all (fun e=>!Region.binds .any e || decide (e.on<i)))).getD true)
theorem rM{ops:Array Oper}(h:zo ops=true):∀(i:Nat) (o:Oper),ops[i]?=some o->∀e∈o.after,Region.binds .any e=true->e.on<i:=by
 intro i o ho e he hb;rw[zo,VN]at h;have h1:=h i (by simpa using (VH.1 ho).1);rw[ho]at h1;simp only[Option.map_some,Wn,Array.all_eq_true_iff_forall_mem]at h1;have h2:=h1 e he;rw[hb]at h2;simpa using h2
theorem qo{listed:Array Bool}{n:Nat}(hr:Region.ready .any ops listed=[])(hs:ops.size=n)(XF:∀(i:Nat) (o:Oper),ops[i]?=some o->∀e∈o.after,Region.binds .any e=true->e.on<i)(hsz:listed.size=n):∀i,i<n->listed.getD i true=true:=by
 intro i
 induction i using Nat.strongRecOn with
 | ind i ih =>
  intro hi;cases hl:listed.getD i true;case true=>rfl
  exfalso;have hmem:i∈Region.ready .any ops listed:=by
   refine mem_ready.2 ⟨hl,ops[i]'(by omega),Wy (by omega),fun e he hb=>?_⟩;have hlt:=XF i _ (Wy (by omega)) e he hb;have:=ih e.on hlt (by omega);rw[VX,Wy (by omega)]at this ⊢;simpa using this
  rw[hr]at hmem;cases hmem
def yX(ops:Array Oper)(L:Nat):Bool:=(List.range L).all fun j=>(List.range (L+1)).any fun k=>decide (j<k)&&(ops[k]?.map (fun o=>o.after.any (fun e=>e.on==j&&Region.binds .any e))).getD false
theorem Iz{ops:Array Oper}{L:Nat}(h:yX ops L=true):∀j,j<L->∃k o,j<k/\k<=L/\ops[k]?=some o/\∃e∈o.after,e.on=j/\Region.binds .any e=true:=by
 intro j hj;rw[yX,VN]at h;have h1:=h j (List.mem_range.2 hj);rw[WG]at h1;obtain⟨k,hk,h2⟩:=h1;simp only[VF,VM]at h2;cases ho:ops[k]? with
 | none=>rw[ho]at h2;simp at h2
 | some o =>
  rw[ho]at h2;simp only[Option.map_some,Wn]at h2;obtain⟨h3,h4⟩:=h2;rw[Array.any_eq_true']at h4;obtain⟨e,he,h5⟩:=h4;simp only[VF,beq_iff_eq]at h5;exact⟨k,o,h3,by have:=List.mem_range.1 hk;omega,ho,e,he,h5.1,h5.2⟩
def Shut(ops:Array Oper)(listed:Array Bool):Prop:=∀(k:Nat) (o:Oper),ops[k]?=some o->listed.getD k false=true->∀e∈o.after,Region.binds .any e=true->listed.getD e.on false=true
theorem NM{ops:Array Oper}{listed:Array Bool}{L:Nat}(hlo:yX ops L=true)(hS:Shut ops listed){o:Oper}(ho:ops[L]?=some o)(hpre:∀e∈o.after,Region.binds .any e=true->listed.getD e.on false=true):∀d j,j+d=L->j<L->listed.getD j false=true:=by
 intro d
 induction d using Nat.strongRecOn with
 | ind d ih =>
  intro j hjd hj;obtain⟨k,o',h1,h2,h3,e,he,h4,h5⟩:=Iz hlo j hj;by_cases hk:k=L
  ·subst hk;rw[ho]at h3;injection h3 with h3;subst h3;rw[<-h4];exact hpre e he h5
  have:=ih (L-k) (by omega) k (by omega) (by omega);rw[<-h4];exact hS k o' h3 this e he h5
theorem lX{id:Nat}{a:Act}{w:ae}(L:Nat)(f0:Nat->Value)(F:(Nat->Value)->Act)(V:Nat->Value->World->Prop)(G:Array Bool->World->Prop)
  (hm:P.follows .mixedOrders=true) (hsz:ops.size=L+1) (XF:zo ops=true) (hlo:yX ops L=true)
  (h0:a=F f0) (hG0:G (Array.replicate ops.size false) w.drew)
  (hstep:∀ i,i<L->∀ o,ops[i]?=some o->∀ (listed:Array Bool) f w',listed.size=L+1->listed.getD i true=false->G listed w'->(∀ e∈o.after,Region.binds .any e=true->V e.on (f e.on) w') ->
   wpOp P ops Q i (fun a' w''=>∃v,a'=F (upd f i v)/\G (listed.setIfInBounds i true) w''/\V i v w''/\∀k u,k≠i->V k u w'->V k u w'') (F f) w')
  (hfin:∀o,ops[L]?=some o->∀(listed:Array Bool) f w',G listed w'->(∀k,k<L->V k (f k) w')->wpOp P ops Q L (fun a' w''=>Q .normal a' w'') (F f) w') :
  (Code.region id ops true).wp P Q a w:=by
 refine gM (fun listed a' w'=>listed.size=L+1/\((listed.getD L false=false/\Shut ops listed/\∃f,a'=F f/\G listed w'/\∀k,k<L->listed.getD k false=true->V k (f k) w')\/((∀j,j<=L->listed.getD j true=true)/\Q .normal a' w'))) hm ?_ ?_ ?_
 ·refine⟨by simpa using hsz,Or.inl ⟨?_,fun k o _ h=>?_,_,h0,hG0,fun k _ h=>?_⟩⟩
  ·rw[VX,Wo];split<;>rfl
  ·rw[VX,Wo]at h;split at h<;>cases h
  rw[VX,Wo]at h;split at h<;>cases h
 ·rintro listed a' w' ⟨hs,h⟩ i hi;obtain⟨hl,o,ho,hpre⟩:=mem_ready.1 hi;have hiL:i<L+1:=by have:=(VH.1 ho).1;omega
  rcases h with⟨hn,hS,f,rfl,hG,hV⟩|⟨hall,-⟩
  ·by_cases e:i=L
   ·subst e;have hall:∀k,k<i->listed.getD k false=true:=fun k hk=>NM hlo hS ho hpre (i-k) k (by omega) hk;refine wpOp_mono (fun a'' w'' hq=>⟨by simpa using hs,Or.inr ⟨fun j hj=>?_,hq⟩⟩) (hfin o ho listed f w' hG (fun k hk=>hV k hk (hall k hk)));rw[ko (by simp;omega),aO _ _ _ (by omega)];by_cases e:j=i
    ·simp[e]
    rw[if_neg e];exact hall j (by omega)
   refine wpOp_mono ?_ (hstep i (by omega) o ho listed f w' hs hl hG (fun e he hb=>hV e.on (by have:=rM XF i o ho e he hb;omega) (hpre e he hb)));rintro a'' w'' ⟨v,rfl,hG',hv,hmono⟩;refine⟨by simpa using hs,Or.inl ⟨?_,fun k o' ho' hkl e' he' hb'=>?_,_,rfl,hG',fun k hk hkl=>?_⟩⟩
   ·rw[aO _ _ _ (by omega),if_neg (Ne.symm e)];exact hn
   ·rw[aO _ _ _ (by omega)]at hkl ⊢;by_cases ee:e'.on=i
    ·rw[if_pos ee]
    rw[if_neg ee];by_cases ek:k=i
    ·subst ek;rw[ho]at ho';injection ho' with ho';subst ho';exact hpre e' he' hb'
    rw[if_neg ek]at hkl;exact hS k o' ho' hkl e' he' hb'
   rw[aO _ _ _ (by omega)]at hkl;by_cases ek:k=i
   ·subst ek;simpa[upd] using hv
   rw[if_neg ek]at hkl;simp only[upd,if_neg ek];exact hmono _ _ ek (hV k hk hkl)
  rw[hall i (by omega)]at hl;cases hl
 rintro listed a' w' ⟨hs,h⟩ hr;rcases h with⟨hn,-⟩|⟨-,hq⟩
 ·have:=qo hr hsz (rM XF) hs L (by omega);rw[ko (by omega)]at this;rw[this]at hn;cases hn
 exact hq
theorem kM{P:Program}{ops:Array Oper}{Q:Exit->Act->World->Prop}{k:Nat}{o:Oper}{K:Act->World->Prop}{a:Act}(w:ae)(hop:ops[k]?=some o)(hgd:o.guard=none)(s x:Operand)(t:TypeId)
  (ho:o.op=.call { callee:=.builtin .append,args:=#[s,x],argTypes:=#[t,t] })
  (base:Nat) (e:TypeId) (i:TypeInfo) (z:Value) (size bytes:Nat) (ht:P.underlying t=some (.slice e)) (hi:P.info? e=some i) (hz:i.zero=some z)
  (hsize:i.size=size) (hby:i.bytes=bytes) (hzs:z.cells.size=size) (hsz:0<size)
  (v:Value) (n:Nat) (xs:Q03) (hs:a.eval s=v) (hown:w.ownsRow base e size v n xs)
  (ad:Addr) (m c:Nat) (news:Q03) (hx:a.eval x=.slice (some ad) m c) (hl:news.length=m*size) (hnews:∀j u,news[j]?=some u->w.cell? (ad.add j)=some u) (h1:∀u∈news,u.oneCell'=true)
  (h63:n+m<=maxLen) (hbytes:(n+m)*bytes<=140737488355328) (hbase:base<=w.heap.size)
  (h:∀v' w',w'.ownsRow base e size v' (n+m) (xs++news)->w.grownBy w' v.ownBlock->(v'.ownBlock=v.ownBlock\/v'.ownBlock=some w.heap.size)->K (a.put o.dst v') w') :
  wpOp P ops Q k K a w:=by
 refine wpOp_step hop (fun K' hK=>?_);have hw:Region.wanted o (yielded ops a.tmps)=true:=by simp[Region.wanted,hgd]
 rw[if_pos hw];obtain⟨v',w',hr,h2,h3,h4,h5⟩:=run_append_own_at (P:=P) w base t o.type e i z size bytes ht hi hz hsize hby hzs hsz v n xs hown ad m c news hl hnews h1 h63 hbytes hbase;unfold Oper.wp execOp;simp only[ho,resolve,invoke,builtin,Sem.run_bind,Sem.run_pure,Result.andThen_ok,List.map_toArray,WO,List.map_nil,hs,hx,hr];exact hK _ _ (h v' w' h2 h3 h5)
structure Aside(w:World)(v:Value)(w':World)(v':Value):Prop where
 size:w.heap.size<=w'.heap.size
 block:∀k,k<w.heap.size->v.ownBlock≠some k->w'.heap[k]?=w.heap[k]?
 own:v'.ownBlock=v.ownBlock \/ ∃g,v'.ownBlock=some g/\w.heap.size<=g
theorem Aside.refl(w:ae)(v:Value):Aside w v w v:=⟨VC _,fun _ _ _=>rfl,.inl rfl⟩
theorem Aside.apart{w w':ae}{v v':Value}{k:Nat}(h:Aside w v w' v')(hk:k<w.heap.size)(hv:v.ownBlock≠some k):v'.ownBlock≠some k:=by
 rcases h.own with e|⟨g,e,hg⟩
 ·rw[e];exact hv
 rw[e];intro h2;injection h2 with h2;omega
theorem Aside.trans{w w1 w2:ae}{v v1 v2:Value}(h:Aside w v w1 v1)(h2:Aside w1 v1 w2 v2):Aside w v w2 v2 where
 size:=VJ h.size h2.size
 block k hk hv:=(h2.block k (Vy hk h.size) (h.apart hk hv)).trans (h.block k hk hv)
 own:=by
  rcases h2.own with e|⟨g,e,hg⟩
  ·rw[e];exact h.own
  exact .inr ⟨g,e,VJ h.size hg⟩
theorem Aside.below{w w':ae}{v:Value}(h:af w w'):Aside w v w' v:=⟨h.size,fun k hk _=>h.block k hk,.inl rfl⟩
theorem Aside.app{w w':ae}{v v':Value}(hg:w.grownBy w' v.ownBlock)(h5:v'.ownBlock=v.ownBlock\/v'.ownBlock=some w.heap.size):Aside w v w' v' where
 size:=hg.size
 block k hk hv:=hg.block k hk (fun e=>hv e.symm)
 own:=by
  rcases h5 with e|e
  ·exact .inl e
  exact .inr ⟨_,e,VC _⟩
theorem Aside.cell{w w':ae}{v v':Value}(h:Aside w v w' v'){p:Addr}(hp:p.block<w.heap.size)(hv:v.ownBlock≠some p.block):w'.cell? p=w.cell? p:=VR (w:=w) (h.block p.block hp hv)
open Maps
def Q8(v:Value):Option (DataW Value×List MemPlace):=some (.held v,[])
section
variable  {K:Type}(enc:K->Value)(P:Program)(k:TypeId)
def TA(D:DataW Value)(kl:Lit):Option Value->Prop
 | none=>Maps.has D kl=false/\∀z,D.atKey kl z=z
 | some v=>Maps.has D kl=true/\∀z,D.atKey kl z=.held v
def aN(w:World)(b n:Nat)(M:K->Option Value):Prop :=
 ∃D:DataW Value,w.ownsMap P k Q8 b n D/\∀x kl,keyOf P k (enc x)=some kl->TA D kl (M x)
def lq[DecidableEq K](M:K->Option Value)(x:K)(v:Option Value):K->Option Value:=fun y=>if y=x then v else M y
end
section
variable  {K:Type}{enc:K->Value}{P:Program}{k:TypeId}{w:World}{b n:Nat}{M:K->Option Value}
theorem dV[DecidableEq K](M:K->Option Value)(x:K)(v:Option Value):lq M x v x=v:=by simp[lq]
theorem bZ[DecidableEq K]{M:K->Option Value}{x y:K}{v:Option Value}(h:y≠x):lq M x v y=M y:=by simp[lq,h]
theorem nQ(enc:K->Value)(P:Program)(k:TypeId)(w:ae):aN enc P k (w.alloc (.map #[] 0)) w.heap.size 0 (fun _=>none) :=
 ⟨.map [],World.ownsMap_made w P k Q8,fun _ kl _=>⟨rfl,fun z=>by simp[DataW.atKey]⟩⟩
theorem aN.lt(h:aN enc P k w b n M):b<w.heap.size:=by obtain⟨D,h1,-⟩:=h;exact h1.lt
theorem aN.mono(h:aN enc P k w b n M){n':Nat}(hn:n<=n'):aN enc P k w b n' M:=by obtain⟨D,h1,h2⟩:=h;exact⟨D,h1.mono hn,h2⟩
theorem aN.kept{w':ae}{row:Option Nat}(h:aN enc P k w b n M)(hg:w.grownBy w' row)(hne:some b≠row):aN enc P k w' b n M:=by
 obtain⟨D,h1,h2⟩:=h;exact⟨D,h1.kept hg hne,h2⟩
theorem aN.below{w':ae}(h:aN enc P k w b n M)(hB:af w w'):aN enc P k w' b n M :=
 h.kept (row:=none) ⟨hB.os,hB.tape,hB.output,hB.size,fun k hk _=>hB.block k hk⟩ (by simp)
theorem aN.setCell(h:aN enc P k w b n M){a:Addr}(ha:b≠a.block)(u:Value):aN enc P k (w.setCell a u) b n M:=by
 obtain⟨D,h1,h2⟩:=h;exact⟨D,h1.setCell ha u,h2⟩
theorem aN.look{t e:TypeId}(h:aN enc P k w b n M)(L:Keyed P k)(ht:P.underlying t=some (.map k e)){z:Value}(hz:(zeroValue e).run P w=.ok z w){x:K}{kl:Lit}(hkey:keyOf P k (enc x)=some kl):
  (Instr.lookup t (.map (some b)) (enc x) false).run P w=.ok ((M x).getD z) w:=by
 obtain⟨D,h1,h2⟩:=h;obtain⟨v,ps,hrun,hv⟩:=h1.lookup L ht hz (zd:=.held z) (zp:=[]) rfl hkey;have h3:=h2 x kl hkey;rw[hrun];have:v=(M x).getD z:=by
  simp only[Q8,Option.some.injEq,Prod.mk.injEq]at hv;cases e:M x with
  | none=>rw[e]at h3;rw[h3.2]at hv;injection hv.1 with h4
  | some u=>rw[e]at h3;rw[h3.2]at hv;injection hv.1 with h4
 rw[this]
theorem aN.look_ok{t e:TypeId}(h:aN enc P k w b n M)(L:Keyed P k)(ht:P.underlying t=some (.map k e)){z:Value}(hz:(zeroValue e).run P w=.ok z w){x:K}{kl:Lit}(hkey:keyOf P k (enc x)=some kl):
  (Instr.lookup t (.map (some b)) (enc x) true).run P w=.ok (.tuple #[(M x).getD z,.bool (M x).isSome]) w:=by
 obtain⟨D,h1,h2⟩:=h;obtain⟨v,ps,hrun,hv⟩:=h1.look_ok L ht hz (zd:=.held z) (zp:=[]) rfl hkey;have h3:=h2 x kl hkey;rw[hrun];simp only[Q8,Option.some.injEq,Prod.mk.injEq]at hv;cases e:M x with
 | none=>rw[e]at h3;rw[h3.2]at hv;injection hv.1 with h4;rw[h4,h3.1];rfl
 | some u=>rw[e]at h3;rw[h3.2]at hv;injection hv.1 with h4;rw[h4,h3.1];rfl
theorem aN.store[DecidableEq K]{t e:TypeId}(h:aN enc P k w b n M)(L:Keyed P k)(hinj:∀x y,enc x=enc y->x=y)(ht:P.underlying t=some (.map k e))(hn:n<maxLen){x:K}{kl:Lit}(hkey:keyOf P k (enc x)=some kl)(v:Value):
  ∃w',(Instr.mapUpdate t (.map (some b)) (enc x) v).run P w=.ok () w'/\aN enc P k w' b (n+1) (lq M x (some v))/\w.grownBy w' (some b):=by
 obtain⟨D,h1,h2⟩:=h;obtain⟨w',hrun,h3,h4⟩:=h1.update L ht hn hkey (val:=v) (d:=.held v) (ps:=[]) rfl;refine⟨w',hrun,⟨D.put kl (.held v),h3,fun y ky hy=>?_⟩,h4⟩;by_cases e:y=x
 ·subst e;obtain rfl:ky=kl:=by rw[hkey]at hy;injection hy with hy;exact hy.symm
  rw[dV];exact⟨has_put_same h1.isMap (L.key hkey) _,fun z=>atKey_put_same h1.isMap (L.key hkey) _ z⟩
 have hne:ky≠kl:=fun e2=>e (hinj _ _ (L.inj (by rw[e2]at hy;exact hy) hkey));rw[bZ e];have h5:=h2 y ky hy;cases e3:M y with
 | none=>rw[e3]at h5;exact⟨by rw[has_put_other hne];exact h5.1,fun z=>by rw[atKey_put_other hne];exact h5.2 z⟩
 | some u=>rw[e3]at h5;exact⟨by rw[has_put_other hne];exact h5.1,fun z=>by rw[atKey_put_other hne];exact h5.2 z⟩
end
section
variable  {K:Type}{enc:K->Value}{P:Program}(w:World){ops:Array Oper}{rest:List Oper}{o:Oper}{a:Act}{Q:Exit->Act->World->Prop}
theorem jr(hg:o.guard=none)(m x:Operand)(t:TypeId)(hop:o.op=Op.lookup t m x false)(k e:TypeId)(L:Keyed P k)(ht:P.underlying t=some (.map k e)){z:Value}(hz:(zeroValue e).run P w=.ok z w)(b n:Nat)(M:K->Option Value)
  (hm:a.eval m=.map (some b)) (hV:aN enc P k w b n M) (y:K) (kl:Lit) (hx:a.eval x=enc y) (hkey:keyOf P k (enc y)=some kl)
  (hK:wpList P ops Q rest (a.put o.dst ((M y).getD z)) w):wpList P ops Q (o::rest) a w:=by
 refine wpList_plain hg fun K' hK'=>?_;have hrun:=hV.look L ht hz hkey;unfold Oper.wp;simp[execOp,hop,hm,hx,hrun,Result.andThen];exact hK' _ _ hK
theorem dJ(hg:o.guard=none)(m x:Operand)(t:TypeId)(hop:o.op=Op.lookup t m x true)(k e:TypeId)(L:Keyed P k)(ht:P.underlying t=some (.map k e)){z:Value}(hz:(zeroValue e).run P w=.ok z w)(b n:Nat)(M:K->Option Value)
  (hm:a.eval m=.map (some b)) (hV:aN enc P k w b n M) (y:K) (kl:Lit) (hx:a.eval x=enc y) (hkey:keyOf P k (enc y)=some kl)
  (hK:wpList P ops Q rest (a.put o.dst (.tuple #[(M y).getD z,.bool (M y).isSome])) w):wpList P ops Q (o::rest) a w:=by
 refine wpList_plain hg fun K' hK'=>?_;have hrun:=hV.look_ok L ht hz hkey;unfold Oper.wp;simp[execOp,hop,hm,hx,hrun,Result.andThen];exact hK' _ _ hK
theorem nI[DecidableEq K](hg:o.guard=none)(m x v:Operand)(t:TypeId)(hop:o.op=Op.mapUpdate t m x v)(k e:TypeId)(L:Keyed P k)(hinj:∀x y,enc x=enc y->x=y)(ht:P.underlying t=some (.map k e))(b n:Nat)(M:K->Option Value)
  (hm:a.eval m=.map (some b)) (hV:aN enc P k w b n M) (hn:n<maxLen) (y:K) (kl:Lit) (hx:a.eval x=enc y) (hkey:keyOf P k (enc y)=some kl) (u:Value) (hv:a.eval v=u)
  (hK:∀w',aN enc P k w' b (n+1) (lq M y (some u))->w.grownBy w' (some b)->wpList P ops Q rest (a.put o.dst undef) w'):wpList P ops Q (o::rest) a w:=by
 refine wpList_plain hg fun K' hK'=>?_;obtain⟨w',hrun,r1,r2⟩:=hV.store L hinj ht hn hkey u;unfold Oper.wp;simp[execOp,hop,hm,hx,hv,hrun,Result.andThen];exact hK' _ _ (hK w' r1 r2)
end
def dO(k:Q01):Value:=.agg #[.string k.1,.string k.2]
theorem uJ(x y:Q01)(h:dO x=dO y):x=y:=by
 unfold dO at h;injection h with h;have h1:=congrArg Array.toList h;simp at h1;exact Prod.ext h1.1 h1.2
theorem zq:laidOutB prog=true:=by kernel_rfl
theorem NN:(151:TypeId)<prog.types.size:=of_decide_eq_true (by kernel_rfl)
theorem Q9:(match prog.underlying 151 with|some (.array _ _)|some (.struct _)=>true|_=>false)=true:=by rw[underlying151]
set_option maxRecDepth 100000 in
theorem Kw:WideMaps.KeyLaw prog 151:=deep_law_laid zq (m:=2) (by omega) NN (by kernel_rfl) Q9
theorem jb:Keyed prog 151:=Keyed.of_law Kw
theorem Ra:prog.keyType 151=true:=by kernel_rfl
theorem FH:prog.cellsOf 151=2:=by kernel_rfl
theorem strCells:prog.cellsOf 9=1:=by kernel_rfl
theorem Li:∃n,prog.types.size=n+1:=Nat.exists_eq_succ_of_ne_zero (Nat.ne_of_gt (Nat.lt_of_le_of_lt (VG _) NN))
theorem ku(k:Q01)(h1:k.1.size<=maxLen)(h2:k.2.size<=maxLen):∃kl,keyOf prog 151 (dO k)=some kl:=by
 obtain⟨n,hn⟩:=Li;refine⟨.string (keyBytes [.string k.1.data.toList,.string k.2.data.toList]),?_⟩;unfold keyOf;rw[underlying151];simp only[Ra,dO,Value.formed,underlying151,FH,hn,Value.cells];simp[Program.keyLits,underlying151,underlying9,FH,strCells,h1,h2]
open Go.Sort
theorem qp{p:Prop}(h:p):Hid p:=h
theorem jQ{P:Program}{f:FuncId}{args:Array Value}{W:ae}{v:Value}(h:∀W',Calls P f args W' fun e w'=>e=.returned v/\w'=W'):∀d os,Calls P f args (grow (redrawn W d) os) fun e w''=>e=.returned v/\∃p:Regrown,w''=grow (redrawn W p.d) p.os:=fun d os=>(h _).mono fun _ _ ⟨he,hw⟩=>⟨he,⟨d,os⟩,hw⟩
theorem cu{P:Program}{f:FuncId}{args:Array Value}{W:ae}{v:Value}(h:∀W',af W W'->Calls P f args W' fun e w'=>e=.returned v/\af W' w'):∀d os,Calls P f args (grow (redrawn W d) os) fun e w''=>e=.returned v/\∃p:Regrown,w''=grow (redrawn W p.d) p.os:=fun d os=>Calls.regrown_of (h _ (below_regrown W d os))
def lu(ops:Array Oper)(m k:Nat):Bool:=(ops[m]?.map fun o=>o.after.any fun e=>e.on==k&&Region.binds .any e).getD false
def UN(ops:Array Oper)(i:Nat):List Nat:=(List.range i).reverse.foldl (fun acc k=>if acc.any (fun m=>lu ops m k) then k::acc else acc) [i]
def Kz(ops:Array Oper)(L N:Nat):Bool:=(List.range N).all fun i=>decide (i<L) || (List.range i).all fun j=>(UN ops i).contains j
def Rb(l:List Oper)(L:Nat):Bool:=l.all fun o=>match o.guard with|some (g,_)=>decide (g<L)|none=>true
def nR(P:Program)(ops:Array Oper)(Q:Exit->Act->World->Prop):Nat->Nat->Act->World->Prop
 | 0,_,a,w=>Q .normal a w
 | n+1,i,a,w=>wpOp P ops Q i (nR P ops Q n (i+1)) a w
theorem xH{ops:Array Oper}{m k:Nat}(h:lu ops m k=true):∃o,ops[m]?=some o/\∃e∈o.after,e.on=k/\Region.binds .any e=true:=by
 unfold lu at h;cases ho:ops[m]? with
 | none=>rw[ho]at h;cases h
 | some o =>
  rw[ho]at h;simp only[Option.map_some,Wn]at h;rw[Array.any_eq_true']at h;obtain⟨e,he,h2⟩:=h;simp only[VF,beq_iff_eq]at h2;exact⟨o,rfl,e,he,h2.1,h2.2⟩
theorem FI{ops:Array Oper}{i:Nat}{lst:Nat->Prop}(hcl:∀m k,m=i\/lst m->lu ops m k=true->lst k):∀m∈UN ops i,m=i\/lst m:=by
 have key:∀(ks acc:List Nat),(∀m∈acc,m=i\/lst m)->∀m∈ks.foldl (fun acc k=>if acc.any (fun m=>lu ops m k) then k::acc else acc) acc,m=i\/lst m:=by
  intro ks
  induction ks with
  | nil=>intro acc h;exact h
  | cons k ks ih =>
   intro acc h;refine ih _ ?_;dsimp only;split
   ·rename_i ha;obtain⟨m,hm,hb⟩:=WG.1 ha;intro x hx;rcases VU.1 hx with rfl|hx
    ·exact .inr (hcl m _ (h m hm) hb)
    exact h x hx
   exact h
 exact key _ _ fun m hm=>.inl (by simpa using hm)
theorem Co{ops:Array Oper}{L N i:Nat}(h:Kz ops L N=true)(hi:i<N)(hL:L<=i){lst:Nat->Prop}(hcl:∀m k,m=i\/lst m->lu ops m k=true->lst k):∀j,j<i->lst j:=fun j hj=>by
 have h1:=VN.1 h i (by simpa using hi);simp only[Bool.or_eq_true,VM]at h1;have h2:=VN.1 (h1.resolve_left (by omega)) j (by simpa using hj);exact(FI hcl j (by simpa using h2)).resolve_left (by omega)
theorem qc{P:Program}{id:Nat}{Q:Exit->Act->World->Prop}{a:Act}{w:ae}{l:List Oper}(L n:Nat)(hm:P.follows .mixedOrders=true)(hlen:l.length=L+n)
  (hB:(Region.noSelect (l.take L).toArray&&Region.lexFrom .any (l.take L).toArray L 0 (Array.replicate (L+n) false)&&Rb (l.take L) L&&Cm l.toArray&&Kz l.toArray L (L+n))=true)
  (h:wpQuiet P (l.take L).toArray (fun w'=>∃p:Regrown,w'=grow (redrawn w p.d) p.os) (fun a'=>∀w',(∃p:Regrown,w'=grow (redrawn w p.d) p.os)->nR P l.toArray Q n L a' w') (l.take L) a):(Code.region id l.toArray true).wp P Q a w:=by
 obtain⟨C,hC⟩:∃C:World->Prop,C=fun w'=>∃p:Regrown,w'=grow (redrawn w p.d) p.os:=⟨_,rfl⟩;have h':wpQuiet P (l.take L).toArray C (fun a'=>∀w',C w'->nR P l.toArray Q n L a' w') (l.take L) a:=by simpa[hC] using h
 clear h;have hC0:C w.drew:=by rw[hC];exact⟨⟨w.drawn+1,#[]⟩,by rw[grow_empty];rfl⟩
 clear hC;simp only[VF]at hB;obtain⟨⟨⟨⟨hns,hlx⟩,hgd⟩,XF⟩,hch⟩:=hB;have htl:(l.take L).length=L:=by rw[V9];omega
 have hat:∀i,i<L->(l.take L).toArray[i]?=l.toArray[i]?:=fun i hi=>by simp[hi]
 have hsz:l.toArray.size=L+n:=by simpa using hlen
 have hwant:∀(i:Nat) (o:Oper) (a':Act),i<L->l.toArray[i]?=some o->Region.wanted o (yielded (l.take L).toArray a'.tmps)=Region.wanted o (yielded l.toArray a'.tmps):=by
  intro i o a' hi ho;have hmem:o∈l.take L:=by
   rw[<-hat i hi]at ho;exact WL (by simpa using ho)
  have:=VN.1 hgd o hmem;unfold Region.wanted;cases hg:o.guard with
  | none=>rfl
  | some x =>
   obtain⟨g,bw⟩:=x;rw[hg]at this;have hgl:g<L:=by simpa using this
   simp only[yielded,hat g hgl]
 have h1:=wpAnyQ_lex (C:=C) (md:=.any) hns (l.take L) 0 (Array.replicate (L+n) false) a (fun j=>by simp) (by rw[htl];exact hlx) h';rw[htl]at h1;refine gM (fun listed a' w'=>listed.size=L+n/\(∀m k,listed.getD m false=true->lu l.toArray m k=true->listed.getD k false=true)/\(((∀j,L<=j->listed.getD j false=false)/\C w'/\∃fuel,wpAnyQ P .any (l.take L).toArray C (fun a'=>∀w',C w'->nR P l.toArray Q n L a' w') fuel listed a') \/ ∃d,d<=n/\(∀j,j<L+d->listed.getD j false=true)/\(∀j,L+d<=j->listed.getD j false=false)/\nR P l.toArray Q (n-d) (L+d) a' w')) hm ?_ ?_ ?_
 ·have hf:∀j,(Array.replicate l.toArray.size false).getD j false=false:=fun j=>by
   rw[VX,Wo];split<;>rfl
  exact⟨by simpa using hsz,fun m k hm=>absurd hm (by rw[hf];decide),Or.inl ⟨fun j _=>hf j,hC0,L,by rw[hsz];exact h1⟩⟩
 ·rintro listed a' w' ⟨hs,hcl,hh⟩ i hi;obtain⟨hl,o,ho,hpre⟩:=mem_ready.1 hi;have hiL:i<L+n:=by have:=(VH.1 ho).1;omega
  have hcl2:∀m k,(listed.setIfInBounds i true).getD m false=true->lu l.toArray m k=true->(listed.setIfInBounds i true).getD k false=true:=fun m k hm hb=>by
   rw[aO _ _ _ (by omega)]at hm ⊢;by_cases hk:k=i
   ·rw[if_pos hk]
   rw[if_neg hk];by_cases e:m=i
   ·subst e;obtain⟨o',ho',e,he,rfl,hbe⟩:=xH hb;rw[ho]at ho';obtain rfl:=Option.some.inj ho';exact hpre e he hbe
   rw[if_neg e]at hm;exact hcl m k hm hb
  have hup:L<=i->∀j,j<i->listed.getD j false=true:=fun hLi=>Co hch hiL hLi fun m k hm hb=>by
   rcases hm with rfl|hm
   ·obtain⟨o',ho',e,he,rfl,hbe⟩:=xH hb;rw[ho]at ho';obtain rfl:=Option.some.inj ho';exact hpre e he hbe
   exact hcl m k hm hb
  have hsq:∀d,L+d=i->nR P l.toArray Q (n-d) (L+d) a' w'->wpOp P l.toArray Q i (fun a'' w''=>(listed.setIfInBounds i true).size=L+n/\(∀m k,(listed.setIfInBounds i true).getD m false=true->lu l.toArray m k=true->(listed.setIfInBounds i true).getD k false=true)/\(((∀j,L<=j->(listed.setIfInBounds i true).getD j false=false)/\C w''/\∃fuel,wpAnyQ P .any (l.take L).toArray C (fun a'=>∀w',C w'->nR P l.toArray Q n L a' w') fuel (listed.setIfInBounds i true) a'') \/ ∃d,d<=n/\(∀j,j<L+d->(listed.setIfInBounds i true).getD j false=true)/\(∀j,L+d<=j->(listed.setIfInBounds i true).getD j false=false)/\nR P l.toArray Q (n-d) (L+d) a'' w'')) a' w':=fun d hd hw=>by
   obtain⟨r,hr⟩:∃r,n-d=r+1:=⟨n-d-1,by omega⟩;rw[hr,hd]at hw;have ZF:∀j,i<j->listed.getD j false=false:=fun j hj=>by
    cases hlj:listed.getD j false;case false=>rfl
    have hjn:j<L+n:=by
     rcases Nat.lt_or_ge j (L+n) with h|h
     ·exact h
     rw[VX,Array.getElem?_eq_none (by omega)]at hlj;cases hlj
    have:=Co hch hjn (by omega) (lst:=fun k=>listed.getD k false=true) (fun m k hm hb=>by
     rcases hm with rfl|hm
     ·exact hcl _ k hlj hb
     exact hcl m k hm hb) i hj
    rw[ko (by omega)]at hl;rw[hl]at this;cases this
   refine wpOp_mono (fun a'' w'' hq=>⟨by simpa using hs,hcl2,.inr ⟨d+1,by omega,fun j hj=>?_,fun j hj=>?_,?_⟩⟩) hw
   ·rw[aO _ _ _ (by omega)];by_cases e:j=i
    ·rw[if_pos e]
    rw[if_neg e];exact hup (by omega) j (by omega)
   ·rw[aO _ _ _ (by omega),if_neg (by omega)];exact ZF j (by omega)
   have e1:n-(d+1)=r:=by omega
   have e2:L+(d+1)=i+1:=by omega
   rw[e1,e2];exact hq
  rcases hh with⟨hn,hCw,fuel,hq⟩|⟨d,hdn,hlow,hhigh,hw⟩
  ·by_cases e:i<L
   ·have hr:i∈Region.ready .any (l.take L).toArray listed:=mem_ready.2 ⟨hl,o,by rw[hat i e];exact ho,hpre⟩;cases fuel with
    | zero=>have:=hq.1;rw[this]at hr;cases hr
    | succ nn =>
     have hk:=hq.2 i hr;have:=wpOp_of_qOp (K':=fun a'' w''=>C w''/\wpAnyQ P .any (l.take L).toArray C (fun a'=>∀w',C w'->nR P l.toArray Q n L a' w') nn (listed.setIfInBounds i true) a'') (Q':=Q) hCw (fun _ _ h1 h2=>⟨h1,h2⟩) hk;have h3:wpOp P l.toArray Q i (fun a'' w''=>C w''/\wpAnyQ P .any (l.take L).toArray C (fun a'=>∀w',C w'->nR P l.toArray Q n L a' w') nn (listed.setIfInBounds i true) a'') a' w':=by
      unfold wpOp at this⊢;rw[hat i e,ho]at this;rw[ho];simp only[hwant i o a' e ho]at this;exact this
     refine wpOp_mono (fun a'' w'' hh=>⟨by simpa using hs,hcl2,Or.inl ⟨fun j hj=>?_,hh.1,nn,hh.2⟩⟩) h3;rw[aO _ _ _ (by omega),if_neg (by omega)];exact hn j hj
   have hiE:i=L:=by
    rcases Nat.lt_or_ge L i with h|h
    ·have:=hup (by omega) L h;rw[hn L (VC _)]at this;cases this
    omega
   have hnr:Region.ready .any (l.take L).toArray listed=[]:=by
    rw[List.eq_nil_iff_forall_not_mem];intro j hj;obtain⟨g1,oj,g2,-⟩:=mem_ready.1 hj;have hji:j<L:=by have:=(VH.1 g2).1;simp at this;omega
    rw[ko (by omega),hup (by omega) j (by omega)]at g1;cases g1
   have hQ:nR P l.toArray Q n L a' w':=by
    cases fuel with
    | zero=>exact hq.2 _ hCw
    | succ n=>exact hq.1 hnr _ hCw
   exact hsq 0 (by omega) (by simpa using hQ)
  have hid:L+d=i:=by
   rcases Nat.lt_or_ge i (L+d) with h|h
   ·have:=hlow i h;rw[ko (by omega)]at hl;rw[hl]at this;cases this
   rcases Nat.lt_or_ge (L+d) i with h2|h2
   ·have:=hup (by omega) (L+d) h2;rw[hhigh _ (VC _)]at this;cases this
   omega
  exact hsq d hid hw
 rintro listed a' w' ⟨hs,hcl,hh⟩ hr;have hall:=tF hr hsz (qj XF) hs;rcases hh with⟨hn,hCw,fuel,hq⟩|⟨d,hdn,hlow,hhigh,hw⟩
 ·have hn0:n=0:=by
   rcases Nat.eq_zero_or_pos n with h|h
   ·exact h
   have:=hall L (by omega);rw[ko (by omega),hn L (VC _)]at this;cases this
  subst hn0;have hnr:Region.ready .any (l.take L).toArray listed=[]:=by
   rw[List.eq_nil_iff_forall_not_mem];intro j hj;obtain⟨g1,oj,g2,-⟩:=mem_ready.1 hj;have hji:j<L:=by have:=(VH.1 g2).1;simp at this;omega
   rw[hall j (by omega)]at g1;cases g1
  have hQ:nR P l.toArray Q 0 L a' w':=by
   cases fuel with
   | zero=>exact hq.2 _ hCw
   | succ n=>exact hq.1 hnr _ hCw
  exact hQ
 have hd:d=n:=by
  rcases Nat.lt_or_ge d n with h|h
  ·have:=hall (L+d) (by omega);rw[ko (by omega),hhigh _ (VC _)]at this;cases this
  omega
 subst hd;rw[Nat.sub_self]at hw;exact hw
end Go.Proofs.YtcgdckphpjfmhaaGreatDoor
namespace Go.Proofs.YtcgdckphpjfmhaaGreatDoor.Pl
theorem fZ{a b:ByteArray}(h:a=b):Ending.returned (.string a)=.returned (.string b):=by rw[h]
theorem KA{s:ByteArray}(h:nP s=true):1<=s.size/\s.size<=12:=by simpa[nP] using h
theorem nV{s:ByteArray}(h:aS s=true):1<=s.size/\s.size<=12:=by
 simp[aS,dI]at h;exact KA h.1.1
theorem NP{s:ByteArray}(h:pV s=true):1<=s.size/\s.size<=12:=by
 simp[pV,dI]at h;exact KA h.1
theorem yY{t i:ByteArray}(h:fH t i=true):t.size<=12/\i.size<=12:=by
 simp[fH]at h;exact⟨(nV h.1).2,(NP h.2).2⟩
def aB(t i:ByteArray):ByteArray:=if fH t i then t++⟨#[58]⟩++i else ⟨#[]⟩
theorem mX{t i:ByteArray}(h:fH t i=true):aB t i=t++⟨#[58]⟩++i:=by simp[aB,h]
theorem tH{t i:ByteArray}(h:fH t i=false):aB t i=⟨#[]⟩:=by simp[aB,h]
theorem iw(t i:bW):(aB t i).size<=25:=by
 unfold aB;split
 ·rename_i h;have h2:=yY h;have e1:(ByteArray.mk #[58]).size=1:=rfl;rw[VT,VT,e1];omega
 exact VG _
def wE(s:ByteArray):Bool:=s.toList.isEmpty || aS s
def bF(a b r c d s:ByteArray):Bool:=fH a b&&aS r&&fH c d&&wE s
def aY(a b r c d s:ByteArray):ByteArray :=
 if bF a b r c d s then
  (if s.toList.isEmpty then aB a b++⟨#[35]⟩++r++⟨#[64]⟩++aB c d else aB a b++⟨#[35]⟩++r++⟨#[64]⟩++aB c d++⟨#[35]⟩++s)
 else ⟨#[]⟩
theorem tJ{a b r c d s:ByteArray}(h:bF a b r c d s=false):aY a b r c d s=⟨#[]⟩:=by simp[aY,h]
theorem mY{a b r c d s:ByteArray}(h:bF a b r c d s=true)(hs:s.toList.isEmpty=true):aY a b r c d s=aB a b++⟨#[35]⟩++r++⟨#[64]⟩++aB c d:=by simp[aY,h,hs]
theorem mZ{a b r c d s:ByteArray}(h:bF a b r c d s=true)(hs:s.toList.isEmpty=false):aY a b r c d s=aB a b++⟨#[35]⟩++r++⟨#[64]⟩++aB c d++⟨#[35]⟩++s:=by simp[aY,h,hs]
theorem zt{a b r c d s:ByteArray}(h:fH a b=false):bF a b r c d s=false:=by simp[bF,h]
theorem zu{a b r c d s:ByteArray}(h:aS r=false):bF a b r c d s=false:=by simp[bF,h]
theorem zw{a b r c d s:ByteArray}(h:fH c d=false):bF a b r c d s=false:=by simp[bF,h]
theorem zx{a b r c d s:ByteArray}(h1:fH a b=true)(h2:aS r=true)(h3:fH c d=true):bF a b r c d s=wE s:=by simp[bF,h1,h2,h3]
theorem jR{a b r c d s:ByteArray}(h:bF a b r c d s=true):fH a b=true/\aS r=true/\fH c d=true/\wE s=true:=by
 simp[bF]at h;exact⟨h.1.1.1,h.1.1.2,h.1.2,h.2⟩
theorem zy{s:ByteArray}(h:s.toList.isEmpty=true):s.size=0:=by
 rw[Go.ByteArray.toList_eq]at h;have h2:s.data.toList=[]:=by simpa using h
 have h3:s.data.toList.length=0:=by rw[h2];rfl
 simpa using h3
theorem D8{s:ByteArray}(h:wE s=true):s.size<=12:=by
 simp only[wE,Bool.or_eq_true]at h;rcases h with h|h
 ·have:=zy h;omega
 exact(nV h).2
def iP(c:UInt8):List UInt8->List UInt8×List UInt8×Bool
 | []=>([],[],false)
 | b::l=>if b=c then ([],l,true) else (b::(iP c l).1,(iP c l).2.1,(iP c l).2.2)
theorem Rc{c:UInt8}{l:List UInt8}{k:Nat}(hk:k<l.length)(hn:∀x∈l.take k,x≠c)(hc:l[k]=c):iP c l=(l.take k,l.drop (k+1),true):=by
 induction l generalizing k with
 | nil=>simp at hk
 | cons b l ih =>
  cases k with
  | zero=>simp at hc;simp[iP,hc]
  | succ k =>
   have hb:b≠c:=hn b (by simp);have:=ih (k:=k) (by simpa using hk) (fun x hx=>hn x (by simp[hx])) (by simpa using hc);simp[iP,hb,this]
theorem rO{c:UInt8}{l:List UInt8}(hn:∀x∈l,x≠c):iP c l=(l,[],false):=by
 induction l with
 | nil=>rfl
 | cons b l ih =>
  have hb:b≠c:=hn b (by simp);have:=ih (fun x hx=>hn x (by simp[hx]));simp[iP,hb,this]
theorem FJ(c:UInt8)(l:List UInt8):(iP c l).1.length<=l.length/\(iP c l).2.1.length<=l.length:=by
 induction l with
 | nil=>simp[iP]
 | cons b l ih =>
  unfold iP;split
  ·simp
  simp;omega
def kv(c:UInt8)(s:ByteArray):ByteArray:=⟨(iP c s.data.toList).1.toArray⟩
def iK(c:UInt8)(s:ByteArray):ByteArray:=⟨(iP c s.data.toList).2.1.toArray⟩
def oU(c:UInt8)(s:ByteArray):Bool:=(iP c s.data.toList).2.2
theorem Cq(l:List UInt8):(ByteArray.mk l.toArray).size=l.length:=rfl
theorem Re(c:UInt8)(s:bW):(kv c s).size<=s.size:=by
 unfold kv;rw[Cq];exact(FJ c s.data.toList).1
theorem KC(c:UInt8)(s:bW):(iK c s).size<=s.size:=by
 unfold iK;rw[Cq];exact(FJ c s.data.toList).2
theorem gy{a b:ByteArray}(h:a.data.toList=b.data.toList):a=b:=by
 cases a;cases b;simp at h;simp[h]
def TB(c:UInt8)(s:ByteArray)(k:Nat):Prop:=∀x∈s.data.toList.take k,x≠c
theorem NQ(c:UInt8)(s:bW):TB c s 0:=by intro x hx;simp at hx
theorem NR{c:UInt8}{s:ByteArray}{k:Nat}(h:k<s.size)(hn:TB c s k)(hc:s[k]≠c):TB c s (k+1):=by
 intro x hx;rw[Ck s k h]at hx;simp at hx;rcases hx with hx|hx
 ·exact hn x (by simpa using hx)
 subst hx;exact hc
theorem TC{c:UInt8}{s:ByteArray}{k:Nat}(h:k<s.size)(hn:TB c s k)(hc:s[k]=c):iP c s.data.toList=(s.data.toList.take k,s.data.toList.drop (k+1),true) :=
 Rc (by simpa using h) hn (by simpa[ByteArray.getElem_eq_getElem_data] using hc)
theorem NS{c:UInt8}{s:ByteArray}{k:Nat}(h:s.size<=k)(hn:TB c s k):iP c s.data.toList=(s.data.toList,[],false) :=
 rO (fun x hx=>hn x (by rw[Wl (by simpa using h)];exact hx))
def UC(s:ByteArray):Bool:=fH (kv 58 s) (iK 58 s)
def Vq(s:ByteArray):ByteArray:=if UC s then kv 58 s else ⟨#[]⟩
def Vr(s:ByteArray):ByteArray:=if UC s then iK 58 s else ⟨#[]⟩
theorem Lj{c:UInt8}{l:List UInt8}(h:(iP c l).2.2=false):(iP c l).2.1=[]:=by
 induction l with
 | nil=>rfl
 | cons b l ih =>
  unfold iP at h⊢;split
  ·rename_i hb;simp[hb]at h
  rename_i hb;simp[hb]at h;simpa[hb] using ih h
theorem NT{c:UInt8}{s:ByteArray}(h:oU c s=false):iK c s=⟨#[]⟩:=by
 unfold oU at h;unfold iK;rw[Lj h]
theorem NU{s:ByteArray}(h:UC s=true):Vq s=kv 58 s/\Vr s=iK 58 s:=by simp[Vq,Vr,h]
theorem NV{c:UInt8}{l m:List UInt8}(h:∀x∈l,x≠c):iP c (l++c::m)=(l,m,true):=by
 induction l with
 | nil=>simp[iP]
 | cons b l ih =>
  have hb:b≠c:=h b (by simp);have:=ih (fun x hx=>h x (by simp[hx]));simp[iP,hb,this]
theorem Cr(c:UInt8)(s:bW):(kv c s).data.toList=(iP c s.data.toList).1:=by simp[kv]
theorem Cs(c:UInt8)(s:bW):(iK c s).data.toList=(iP c s.data.toList).2.1:=by simp[iK]
theorem FK(a b:bW):(a++b).data.toList=a.data.toList++b.data.toList:=by simp[ByteArray.data_append]
theorem yZ{c:UInt8}{s:ByteArray}{l m:List UInt8}(hs:s.data.toList=l++c::m)(h:∀x∈l,x≠c):(kv c s).data.toList=l/\(iK c s).data.toList=m/\oU c s=true:=by
 rw[Cr,Cs,oU,hs,NV h];exact⟨rfl,rfl,rfl⟩
theorem Rf{c:UInt8}{s:ByteArray}(h:∀x∈s.data.toList,x≠c):kv c s=s/\iK c s=⟨#[]⟩/\oU c s=false:=by
 refine⟨gy ?_,gy ?_,?_⟩
 ·rw[Cr,rO h]
 ·rw[Cs,rO h]
 rw[oU,rO h]
def NW(l:List UInt8):Prop:=∀x∈l,x≠35/\x≠58/\x≠64
theorem Ct{x:UInt8}(h:yR x=true):x≠35/\x≠58/\x≠64:=by
 refine⟨?_,?_,?_⟩<;>(rintro rfl;revert h;decide)
theorem IA{x:UInt8}(h:eF x=true):x≠35/\x≠58/\x≠64:=Ct (by simp[yR,h])
theorem qw{s:ByteArray}(h:aS s=true):NW s.data.toList:=by
 simp only[aS,dI,sD,VF,VN]at h;exact fun x hx=>IA (h.1.2 x hx)
theorem FL{s:ByteArray}(h:pV s=true):NW s.data.toList:=by
 simp only[pV,dI,sD,VF,VN]at h;exact fun x hx=>Ct (h.2 x hx)
theorem tK{a b:ByteArray}(h:fH a b=true):aS a=true/\pV b=true:=by simpa[fH] using h
theorem uK{a b:ByteArray}(h:fH a b=true):(aB a b).data.toList=a.data.toList++58::b.data.toList:=by
 rw[mX h,FK,FK];simp
theorem sM{a b:ByteArray}(h:fH a b=true):∀x∈(aB a b).data.toList,x≠35/\x≠64:=by
 intro x hx;rw[uK h]at hx;have h1:=qw (tK h).1;have h2:=FL (tK h).2;simp only[VL,VU]at hx;rcases hx with hx|hx|hx
 ·exact⟨(h1 x hx).1,(h1 x hx).2.2⟩
 ·subst hx;decide
 exact⟨(h2 x hx).1,(h2 x hx).2.2⟩
theorem oV{a b:ByteArray}(h:fH a b=true):UC (aB a b)=true/\Vq (aB a b)=a/\Vr (aB a b)=b:=by
 obtain⟨h1,h2,-⟩:=yZ (c:=58) (uK h) (fun x hx=>(qw (tK h).1 x hx).2.1);have e1:kv 58 (aB a b)=a:=gy h1;have e2:iK 58 (aB a b)=b:=gy h2;have hb:UC (aB a b)=true:=by rw[UC,e1,e2];exact h
 exact⟨hb,by rw[(NU hb).1,e1],by rw[(NU hb).2,e2]⟩
def Cu(s:ByteArray):List UInt8:=if s.toList.isEmpty then [] else 35::s.data.toList
theorem D9{a b r c d s:ByteArray}(h:bF a b r c d s=true):
  (aY a b r c d s).data.toList=(aB a b).data.toList++35::(r.data.toList++64::((aB c d).data.toList++Cu s)):=by
 by_cases hs:s.toList.isEmpty=true
 ·rw[mY h hs,Cu,if_pos hs];simp
 have hs':s.toList.isEmpty=false:=by simpa using hs
 rw[mZ h hs',Cu,if_neg hs];simp
theorem NY{s:ByteArray}(h:s.toList.isEmpty=true):s=⟨#[]⟩:=by
 refine gy ?_;rw[Go.ByteArray.toList_eq]at h;simpa using h
theorem NZ{o s x:ByteArray}(ho:∀y∈o.data.toList,y≠35)(hx:x.data.toList=o.data.toList++Cu s):
  kv 35 x=o/\iK 35 x=s/\oU 35 x=!s.toList.isEmpty:=by
 by_cases hs:s.toList.isEmpty=true
 ·have e:x=o:=gy (by rw[hx,Cu,if_pos hs];simp);subst e;obtain⟨h1,h2,h3⟩:=Rf (c:=35) (s:=x) ho;exact⟨h1,by rw[h2,NY hs],by rw[h3,hs];rfl⟩
 rw[Cu,if_neg hs]at hx;obtain⟨h1,h2,h3⟩:=yZ hx ho;have hs':s.toList.isEmpty=false:=by simpa using hs
 exact⟨gy h1,gy h2,by rw[h3,hs'];rfl⟩
def i1(s:ByteArray):=iK 35 s
def i2(s:ByteArray):=iK 64 (i1 s)
theorem zz{a b r c d t s:ByteArray}(h:bF a b r c d t=true)(hs:aY a b r c d t=s):
  kv 35 s=aB a b/\kv 64 (i1 s)=r/\kv 35 (i2 s)=aB c d/\iK 35 (i2 s)=t:=by
 obtain⟨h1,h2,h3,h4⟩:=jR h;have hl:=D9 h;rw[hs]at hl;obtain⟨c1,c2,-⟩:=yZ hl (fun x hx=>(sM h1 x hx).1);obtain⟨d1,d2,-⟩:=yZ (s:=i1 s) c2 (fun x hx=>(qw h2 x hx).2.2);obtain⟨e1,e2,-⟩:=NZ (o:=aB c d) (s:=t) (x:=i2 s) (fun x hx=>(sM h3 x hx).1) d2;exact⟨gy c1,gy d1,e1,e2⟩
def IB(s a b r c d t:ByteArray)(f:Bool):Prop :=
 (f=true/\bF a b r c d t=true/\aY a b r c d t=s) \/
 (f=false/\(a=⟨#[]⟩/\b=⟨#[]⟩/\r=⟨#[]⟩/\c=⟨#[]⟩/\d=⟨#[]⟩/\t=⟨#[]⟩)/\∀a b r c d t,bF a b r c d t=true->aY a b r c d t≠s)
theorem xI{a b r c d t a' b' r' c' d' t':ByteArray}(h:bF a b r c d t=true)(h':bF a' b' r' c' d' t'=true)(e:aY a b r c d t=aY a' b' r' c' d' t'):
  a=a'/\b=b'/\r=r'/\c=c'/\d=d'/\t=t':=by
 obtain⟨x1,x2,x3,x4⟩:=zz h e;obtain⟨y1,y2,y3,y4⟩:=zz h' rfl;obtain⟨p1,p2,p3,p4⟩:=jR h;obtain⟨q1,q2,q3,q4⟩:=jR h';have o1:aB a b=aB a' b':=x1.symm.trans y1;have o2:aB c d=aB c' d':=x3.symm.trans y3;obtain⟨-,u1,u2⟩:=oV p1;obtain⟨-,v1,v2⟩:=oV q1;obtain⟨-,u3,u4⟩:=oV p3;obtain⟨-,v3,v4⟩:=oV q3;rw[o1]at u1 u2;rw[o2]at u3 u4;exact⟨u1.symm.trans v1,u2.symm.trans v2,x2.symm.trans y2,u3.symm.trans v3,u4.symm.trans v4,x4.symm.trans y4⟩
theorem IB.one{s a b r c d t a' b' r' c' d' t':ByteArray}{f f':Bool}(h:IB s a b r c d t f)(h':IB s a' b' r' c' d' t' f'):
  (a=a'/\b=b'/\r=r'/\c=c'/\d=d'/\t=t')/\f=f':=by
 rcases h with⟨rfl,h1,h2⟩|⟨rfl,h1,h2⟩
 ·rcases h' with⟨rfl,k1,k2⟩|⟨rfl,k1,k2⟩
  ·exact⟨xI h1 k1 (h2.trans k2.symm),rfl⟩
  exact absurd h2 (k2 _ _ _ _ _ _ h1)
 rcases h' with⟨rfl,k1,k2⟩|⟨rfl,k1,k2⟩
 ·exact absurd k2 (h2 _ _ _ _ _ _ k1)
 obtain⟨rfl,rfl,rfl,rfl,rfl,rfl⟩:=h1;obtain⟨rfl,rfl,rfl,rfl,rfl,rfl⟩:=k1;exact⟨⟨rfl,rfl,rfl,rfl,rfl,rfl⟩,rfl⟩
end Go.Proofs.YtcgdckphpjfmhaaGreatDoor.Pl
namespace Go.Proofs.YtcgdckphpjfmhaaGreatDoor
open ChangeShapes WideShapes ChangeAt RowKit Maps
open Go.ChangeMaps (setBlock heap_setBlock_same heap_setBlock_other)
section
variable  {K:Type}{enc:K->Value}{P:Program}{k:TypeId}{w:World}{b n:Nat}{M:K->Option Value}
theorem aN.of_block{w':ae}(h:aN enc P k w b n M)(e:w'.heap[b]?=w.heap[b]?):aN enc P k w' b n M:=by
 obtain⟨D,⟨es,clock,hb,r⟩,h2⟩:=h;exact⟨D,⟨es,clock,e.trans hb,r⟩,h2⟩
theorem qx{w:ae}{b:Nat}{es es':Array MapEntry}{c c':Nat}(hb:w.heap[b]?=some (.map es c)):w.grownBy (setBlock w b (.map es' c')) (some b) :=
 ⟨rfl,rfl,rfl,by simp[setBlock],fun i _ hi=>heap_setBlock_other hb _ (fun e=>hi (by rw[e]))⟩
theorem aN.entry[DecidableEq K]{t e:TypeId}(h:aN enc P k w b n M)(L:WideMaps.KeyLaw P k)(hinj:∀x y,enc x=enc y->x=y)(ht:P.underlying t=some (.map k e)){z:Value}(hz:∀u:World,(zeroValue e).run P u=.ok z u)(hn:n<maxLen){x:K}{kl:Lit}(hkey:keyOf P k (enc x)=some kl):
  ∃(st:Nat) (w1:World),(Instr.mapEntry t (.map (some b)) (enc x)).run P w=.ok (.tuple #[(M x).getD z,goInt st]) w1/\w.grownBy w1 (some b) /\
   ∀(w2:World) (val:Value),w2.heap[b]?=w1.heap[b]?→∃w3,(Instr.entryStore t (.map (some b)) (goInt st) val).run P w2=.ok () w3/\aN enc P k w3 b (n+1) (lq M x (some val))/\w2.grownBy w3 (some b):=by
 have LK:=Keyed.of_law L;have hlook:=h.look LK ht (hz w) hkey;have hst:=fun v=>h.store LK hinj ht hn hkey v;obtain⟨D,⟨es,clock,hb,F,hs,hD⟩,h2⟩:=h;obtain⟨v0,st,es1,clock1,hrun,hv0,hback⟩:=WideElems.entry_then_store L ht hz hb F hkey;have hb1:(setBlock w b (.map es1 clock1)).heap[b]?=some (.map es1 clock1):=heap_setBlock_same hb _;have ev:v0=(M x).getD z:=by
  have hl:=hlook;rcases Maps.fit_look false LK ht (hz w) hb F hkey with⟨Ym,hno,-⟩|⟨e0,y,hmem,hek,Ym,-,-,-⟩
  ·rw[hl]at Ym;injection Ym with e1;rcases hv0 with⟨e0,hm,hk0,-⟩|⟨-,hz0⟩
   ·exact absurd hk0 (hno e0 hm)
   rw[hz0,e1];rfl
  rw[hl]at Ym;injection Ym with e1;rcases hv0 with⟨e1',hm,hk0,hv⟩|⟨hno,-⟩
  ·have hnd:=F.stamped.2.2;have:e1'=e0:=by
    have h3:e1'.key=e0.key:=by rw[hk0,hek]
    obtain⟨i,hi,hie⟩:=Wm.1 hm;obtain⟨j,hj,hje⟩:=Wm.1 hmem;have h4:(es.toList.map (·.key))[i]'(by simpa using hi)=(es.toList.map (·.key))[j]'(by simpa using hj):=by simp only[List.getElem_map,hie,hje];exact h3
    have h6:=List.pairwise_iff_getElem.1 hnd;have h5:i=j:=by
     rcases Nat.lt_trichotomy i j with hl|hl|hl
     ·exact absurd h4 (h6 i j _ _ hl)
     ·exact hl
     exact absurd h4.symm (h6 j i _ _ hl)
    subst h5;rw[<-hie,<-hje]
   rw[hv,this,e1];rfl
  exact absurd hek (hno e0 hmem)
 refine⟨st,_,by rw[hrun,ev],qx hb,fun w2 val hw2=>?_⟩;have hw2':w2.heap[b]?=some (.map es1 clock1):=hw2.trans hb1;obtain⟨es',clock',hr1,hr2⟩:=hback w2 val hw2';obtain⟨w',hr3,hM',-⟩:=hst val;rw[hr2]at hr3;injection hr3 with _ e3;refine⟨_,hr1,hM'.of_block ?_,qx hw2'⟩;rw[<-e3,heap_setBlock_same hb,heap_setBlock_same hw2']
end
section
variable  {K:Type}{enc:K->Value}{P:Program}(w:World){ops:Array Oper}{rest:List Oper}{o:Oper}{a:Act}{Q:Exit->Act->World->Prop}
theorem BM[DecidableEq K](hg:o.guard=none)(m x:Operand)(t:TypeId)(hop:o.op=Op.mapEntry t m x)(k e:TypeId)(L:WideMaps.KeyLaw P k)(hinj:∀x y,enc x=enc y->x=y)(ht:P.underlying t=some (.map k e)){z:Value}(hz:∀u:World,(zeroValue e).run P u=.ok z u)(b n:Nat)(M:K->Option Value)
  (hm:a.eval m=.map (some b)) (hV:aN enc P k w b n M) (hn:n<maxLen) (y:K) (kl:Lit) (hx:a.eval x=enc y) (hkey:keyOf P k (enc y)=some kl)
  (hK:∀ (st:Nat) (w1:World),w.grownBy w1 (some b)->(∀ (w2:World) (val:Value),w2.heap[b]?=w1.heap[b]?→∃ w3,(Instr.entryStore t (.map (some b)) (goInt st) val).run P w2=.ok () w3/\aN enc P k w3 b (n+1) (lq M y (some val))/\w2.grownBy w3 (some b)) ->
   wpList P ops Q rest (a.put o.dst (.tuple #[(M y).getD z,goInt st])) w1):wpList P ops Q (o::rest) a w:=by
 refine wpList_plain hg fun K' hK'=>?_;obtain⟨st,w1,hrun,h1,h2⟩:=hV.entry L hinj ht hz hn hkey;unfold Oper.wp;simp[execOp,hop,hm,hx,hrun,Result.andThen];exact hK' _ _ (hK st w1 h1 h2)
theorem tL(hg:o.guard=none)(m s v:Operand)(t:TypeId)(hop:o.op=Op.entryStore t m s v)(b st:Nat)(hm:a.eval m=.map (some b))(hs:a.eval s=goInt st)(u:Value)(hv:a.eval v=u)(k:TypeId)(n:Nat)(M:K->Option Value)
  (hback:∃w3,(Instr.entryStore t (.map (some b)) (goInt st) u).run P w=.ok () w3/\aN enc P k w3 b n M/\w.grownBy w3 (some b))
  (hK:∀w',aN enc P k w' b n M->w.grownBy w' (some b)->wpList P ops Q rest (a.put o.dst undef) w'):wpList P ops Q (o::rest) a w:=by
 refine wpList_plain hg fun K' hK'=>?_;obtain⟨w3,hrun,h1,h2⟩:=hback;unfold Oper.wp;simp[execOp,hop,hm,hs,hv,hrun,Result.andThen];exact hK' _ _ (hK w3 h1 h2)
end
end Go.Proofs.YtcgdckphpjfmhaaGreatDoor
namespace Go.Proofs.YtcgdckphpjfmhaaGreatDoor.G
open ChangeShapes WideShapes ChangeAt RowKit Maps
open Pl
variable  {K α:Type}{enc:K->Value}{P:Program}{kt et:TypeId}{sz:Nat}{cl:α->List Value}
def FreeB(M:K->Option Value)(g:Nat):Prop:=∀k v,M k=some v->v.ownBlock≠some g
structure Stl(W:World)(M:K->Option Value)(w2:World)(M2:K->Option Value)(bL:Nat):Prop where
 size:W.heap.size<=w2.heap.size
 block:∀g,g<W.heap.size->g≠bL->FreeB M g->w2.heap[g]?=W.heap[g]?
 free:∀g,g<W.heap.size->FreeB M g->FreeB M2 g
theorem Stl.refl(W:ae)(M:K->Option Value)(bL:Nat):Stl W M W M bL:=⟨VC _,fun _ _ _ _=>rfl,fun _ _ h=>h⟩
theorem Stl.trans{W w2 w3:ae}{M M2 M3:K->Option Value}{bL:Nat}(h:Stl W M w2 M2 bL)(h2:Stl w2 M2 w3 M3 bL):Stl W M w3 M3 bL where
 size:=VJ h.size h2.size
 block g hg hb hf:=(h2.block g (Vy hg h.size) hb (h.free g hg hf)).trans (h.block g hg hb hf)
 free g hg hf:=h2.free g (Vy hg h.size) (h.free g hg hf)
theorem Stl.below{W w2:ae}{M:K->Option Value}{bL:Nat}(hB:af W w2):Stl W M w2 M bL:=⟨hB.size,fun g hg _ _=>hB.block g hg,fun _ _ h=>h⟩
structure Cel(w:World)(M:K->Option Value)(bL g o:Nat)(u:Value):Prop where
 cell:w.cell? ⟨g,o,none⟩=some u
 lt:g<w.heap.size
 free:FreeB M g
 ne:g≠bL
theorem Cel.stl{w w2:ae}{M M2:K->Option Value}{bL g o:Nat}{u:Value}(h:Cel w M bL g o u)(hS:Stl w M w2 M2 bL):Cel w2 M2 bL g o u where
 cell:=(VR (w:=w) (hS.block g h.lt h.ne h.free)).trans h.cell
 lt:=Vy h.lt hS.size
 free:=hS.free g h.lt h.free
 ne:=h.ne
theorem IC{w w':ae}{base:Nat}{e:TypeId}{size:Nat}{v:Value}{n:Nat}{xs:Q03}(h:w.ownsRow base e size v n xs)(hb:af w w'):w'.ownsRow base e size v n xs:=by
 have hl:=fun g hg=>(h.lt g hg).2;refine⟨h.1,?_⟩;rcases h.2 with h0|⟨g,cap,cur,rfl,h1,h2,h3⟩
 ·exact .inl h0
 exact .inr ⟨g,cap,cur,rfl,h1,(hb.block g (hl g rfl)).trans h2,h3⟩
variable  [DecidableEq K]
def flatG(cl:α->List Value)(xs:List α):List Value:=xs.flatMap cl
theorem IE(cl:α->List Value)(xs:List α)(x:α):flatG cl (xs++[x])=flatG cl xs++cl x:=by simp[flatG]
def lookL(E:List (K×α))(k:K):List α:=E.filterMap fun p=>if p.1=k then some p.2 else none
theorem lookL_append(E F:List (K×α))(k:K):lookL (E++F) k=lookL E k++lookL F k:=by unfold lookL;rw[List.filterMap_append]
theorem tO(E:List (K×α))(k:K)(s:α):lookL (E++[(k,s)]) k=lookL E k++[s]:=by rw[lookL_append];simp[lookL]
theorem qy(E:List (K×α)){k y:K}(s:α)(h:k≠y):lookL (E++[(y,s)]) k=lookL E k:=by rw[lookL_append];simp[lookL,Ne.symm h]
theorem mem_lookL{E:List (K×α)}{k:K}{s:α}:s∈lookL E k↔(k,s)∈E:=by
 unfold lookL;rw[List.mem_filterMap];constructor
 ·rintro⟨⟨a,b⟩,h1,h2⟩;simp only at h2;split at h2
  ·rename_i e;injection h2 with h2;rw[<-e,<-h2];exact h1
  cases h2
 intro h;exact⟨(k,s),h,by simp⟩
structure Grp(enc:K->Value)(P:Program)(kt et:TypeId)(sz:Nat)(cl:α->List Value)(w:World)(bL n:Nat)(M:K->Option Value)(E:List (K×α)):Prop where
 map:aN enc P kt w bL n M
 row:∀k,(M k=none/\lookL E k=[]) \/ ∃v,M k=some v/\w.ownsRow (bL+1) et sz v (lookL E k).length (flatG cl (lookL E k))
 apart:∀k k' v v',k≠k'->M k=some v->M k'=some v'->∀g,v.ownBlock=some g->v'.ownBlock≠some g
theorem Grp.lt{w:ae}{bL n:Nat}{M:K->Option Value}{E:List (K×α)}(h:Grp enc P kt et sz cl w bL n M E){k:K}{v:Value}(hk:M k=some v){g:Nat}(hg:v.ownBlock=some g):bL<g/\g<w.heap.size:=by
 rcases h.row k with⟨e,-⟩|⟨v',e,ho⟩
 ·rw[e]at hk;cases hk
 rw[e]at hk;injection hk with hk;subst hk;have:=ho.lt g hg;exact⟨by omega,this.2⟩
theorem Grp.fresh{w:ae}{bL n:Nat}{M:K->Option Value}{E:List (K×α)}(h:Grp enc P kt et sz cl w bL n M E){g:Nat}(hg:w.heap.size<=g):FreeB M g:=fun k v hk e=>by
 have:=(h.lt hk e).2;omega
theorem Grp.mono{w:ae}{bL n n':Nat}{M:K->Option Value}{E:List (K×α)}(h:Grp enc P kt et sz cl w bL n M E)(hn:n<=n'):Grp enc P kt et sz cl w bL n' M E:=⟨h.map.mono hn,h.row,h.apart⟩
theorem Grp.below{w w':ae}{bL n:Nat}{M:K->Option Value}{E:List (K×α)}(h:Grp enc P kt et sz cl w bL n M E)(hB:af w w'):Grp enc P kt et sz cl w' bL n M E where
 map:=h.map.below hB
 row k:=by
  rcases h.row k with e|⟨v,e,ho⟩
  ·exact .inl e
  exact .inr ⟨v,e,IC ho hB⟩
 apart:=h.apart
theorem grp_made(w:ae):Grp enc P kt et sz cl (w.alloc (.map #[] 0)) w.heap.size 0 (fun _=>none) [] where
 map:=nQ _ _ _ w
 row k:=.inl ⟨rfl,rfl⟩
 apart k k' v v' _ h:=by cases h
theorem Grp.step{W0 w1 w2 w3:ae}{bL n:Nat}{M:K->Option Value}{E:List (K×α)}{y:K}{v':Value}{s:α}(h:Grp enc P kt et sz cl W0 bL n M E)(hg1:W0.grownBy w1 (some bL))(hown:w2.ownsRow (bL+1) et sz v' ((lookL E y).length+1) (flatG cl (lookL E y)++cl s))
  (hg2:w1.grownBy w2 ((M y).getD (.slice none 0 0)).ownBlock) (hloc:v'.ownBlock=((M y).getD (.slice none 0 0)).ownBlock\/v'.ownBlock=some w1.heap.size) (hg3:w2.grownBy w3 (some bL)) (hM:aN enc P kt w3 bL (n+1) (lq M y (some v'))) :
  Grp enc P kt et sz cl w3 bL (n+1) (lq M y (some v')) (E++[(y,s)])/\Stl W0 M w3 (lq M y (some v')) bL:=by
 have hrow0:∀k v,M k=some v->∃xs m,W0.ownsRow (bL+1) et sz v m xs:=fun k v hk=>by
  rcases h.row k with⟨e,-⟩|⟨v1,e,ho⟩
  ·rw[e]at hk;cases hk
  rw[e]at hk;injection hk with hk;subst hk;exact⟨_,_,ho⟩
 have hne2:∀k v,k≠y->M k=some v->v.ownBlock=none\/v.ownBlock≠((M y).getD (.slice none 0 0)).ownBlock:=fun k v hky hk=>by
  cases e:v.ownBlock with
  | none=>exact .inl rfl
  | some g =>
   right;cases ey:M y with
   | none=>simp[Value.ownBlock]
   | some vy=>intro e2;exact h.apart k y v vy hky hk ey g e (by simpa using e2.symm)
 have hnb:∀v,(∃k,M k=some v)->v.ownBlock=none\/v.ownBlock≠some bL:=fun v ⟨k,hk⟩=>by
  cases e:v.ownBlock with
  | none=>exact .inl rfl
  | some g=>right;have:=(h.lt hk e).1;intro e2;injection e2 with e2;omega
 have hnew:∀g,v'.ownBlock=some g->bL<g:=fun g e=>by have:=(hown.lt g e).1;omega
 have hv'b:v'.ownBlock=none\/v'.ownBlock≠some bL:=by
  cases e:v'.ownBlock with
  | none=>exact .inl rfl
  | some g=>right;have:=hnew g e;intro e2;injection e2 with e2;omega
 constructor
 ·refine⟨hM,fun k=>?_,fun k k' v u hkk hk hk' g e=>?_⟩
  ·by_cases ek:k=y
   ·subst ek;rw[dV,tO];refine .inr ⟨v',rfl,?_⟩;rw[IE,VI];exact hown.kept hg3 hv'b
   rw[bZ ek,qy _ _ ek];rcases h.row k with e|⟨v,e,ho⟩
   ·exact .inl e
   exact .inr ⟨v,e,((ho.kept hg1 (hnb v ⟨k,e⟩)).kept hg2 (hne2 k v ek e)).kept hg3 (hnb v ⟨k,e⟩)⟩
  by_cases ek:k=y
  ·subst ek;rw[dV]at hk;injection hk with hk;subst hk;rw[bZ (Ne.symm hkk)]at hk';intro e2;rcases hloc with el|el
   ·rw[e]at el;cases ey:M k with
    | none=>rw[ey]at el;simp[Value.ownBlock]at el
    | some vy=>rw[ey]at el;exact h.apart k k' vy u hkk ey hk' g (by simpa using el.symm) e2
   rw[e]at el;injection el with el;have:=(h.lt hk' e2).2;have:=hg1.size;omega
  rw[bZ ek]at hk;by_cases ek':k'=y
  ·subst ek';rw[dV]at hk';injection hk' with hk';subst hk';intro e2;rcases hloc with el|el
   ·rw[e2]at el;cases ey:M k' with
    | none=>rw[ey]at el;simp[Value.ownBlock]at el
    | some vy=>rw[ey]at el;exact h.apart k k' v vy hkk hk ey g e (by simpa using el.symm)
   rw[e2]at el;injection el with el;have:=(h.lt hk e).2;have:=hg1.size;omega
  rw[bZ ek']at hk';exact h.apart k k' v u hkk hk hk' g e
 refine⟨VJ hg1.size (VJ hg2.size hg3.size),fun g hg hb hf=>?_,fun g hg hf k v hk=>?_⟩
 ·have h1:=hg1.block g hg (fun e=>hb (by injection e));have h2:=hg2.block g (Vy hg hg1.size) (fun e=>by
   cases ey:M y with
   | none=>rw[ey]at e;simp[Value.ownBlock]at e
   | some vy=>rw[ey]at e;exact hf y vy ey (by simpa using e.symm))
  have h3:=hg3.block g (Vy hg (VJ hg1.size hg2.size)) (fun e=>hb (by injection e));rw[h3,h2,h1]
 by_cases ek:k=y
 ·subst ek;rw[dV]at hk;injection hk with hk;subst hk;intro e2;rcases hloc with el|el
  ·rw[e2]at el;cases ey:M k with
   | none=>rw[ey]at el;simp[Value.ownBlock]at el
   | some vy=>rw[ey]at el;exact hf k vy ey (by simpa using el.symm)
  rw[e2]at el;injection el with el;have:=hg1.size;omega
 rw[bZ ek]at hk;exact hf k v hk
end Go.Proofs.YtcgdckphpjfmhaaGreatDoor.G
namespace Go.Proofs.YtcgdckphpjfmhaaGreatDoor
open RowKit
section
variable  {P:Program}{ops:Array Oper}{Q:Exit->Act->World->Prop}
theorem pW{id:Nat}{a:Act}{w:ae}(L:Nat)(f0:Nat->Value)(F:(Nat->Value)->Act)(I:(Nat->Bool)->(Nat->Value)->World->Prop)
  (hm:P.follows .mixedOrders=true) (hsz:ops.size=L+1) (XF:zo ops=true) (hlo:zm ops L=true)
  (h0:a=F f0) (hI0:I (fun _=>false) f0 w.drew)
  (hstep:∀ i,i<L->∀ o,ops[i]?=some o->∀ (l:Nat->Bool) f w',l i=false->I l f w'->(∀ e∈o.after,Region.binds .any e=true->l e.on=true) ->
   wpOp P ops Q i (fun a' w''=>∃v,a'=F (upd f i v)/\I (fun k=>if k=i then true else l k) (upd f i v) w'') (F f) w')
  (hfin:∀o,ops[L]?=some o->∀(l:Nat->Bool) f w',(∀k,k<L->l k=true)->I l f w'->wpOp P ops Q L (fun a' w''=>Q .normal a' w'') (F f) w') :
  (Code.region id ops true).wp P Q a w:=by
 refine gM (fun listed a' w'=>listed.size=L+1/\((listed.getD L false=false/\∃f,a'=F f/\I (fun k=>listed.getD k false) f w')\/((∀j,j<=L->listed.getD j true=true)/\Q .normal a' w'))) hm ?_ ?_ ?_
 ·refine⟨by simpa using hsz,Or.inl ⟨?_,_,h0,?_⟩⟩
  ·rw[VX,Wo];split<;>rfl
  have:(fun k=>(Array.replicate ops.size false).getD k false)=fun _=>false:=funext fun k=>by rw[VX,Wo];split<;>rfl
  rw[this];exact hI0
 ·rintro listed a' w' ⟨hs,h⟩ i hi;obtain⟨hl,o,ho,hpre⟩:=mem_ready.1 hi;have hiL:i<L+1:=by have:=(VH.1 ho).1;omega
  rcases h with⟨hn,f,rfl,hI⟩|⟨hall,-⟩
  ·by_cases e:i=L
   ·subst e;have hall:∀k,k<i->listed.getD k false=true:=fun k hk=>by
     obtain⟨e,he,rfl,hb⟩:=Cn hlo o ho k hk;exact hpre e he hb
    refine wpOp_mono (fun a'' w'' hq=>⟨by simpa using hs,Or.inr ⟨fun j hj=>?_,hq⟩⟩) (hfin o ho _ f w' hall hI);rw[ko (by simp;omega),aO _ _ _ (by omega)];by_cases e:j=i
    ·simp[e]
    rw[if_neg e];exact hall j (by omega)
   refine wpOp_mono ?_ (hstep i (by omega) o ho _ f w' (by rw[<-ko (by omega)];exact hl) hI (fun e he hb=>hpre e he hb));rintro a'' w'' ⟨v,rfl,hI'⟩;refine⟨by simpa using hs,Or.inl ⟨?_,_,rfl,?_⟩⟩
   ·rw[aO _ _ _ (by omega),if_neg (Ne.symm e)];exact hn
   have:(fun k=>(listed.setIfInBounds i true).getD k false)=fun k=>if k=i then true else listed.getD k false:=funext fun k=>aO _ _ _ (by omega)
   rw[this];exact hI'
  rw[hall i (by omega)]at hl;cases hl
 rintro listed a' w' ⟨hs,h⟩ hr;rcases h with⟨hn,-⟩|⟨-,hq⟩
 ·have:=qo hr hsz (rM XF) hs L (by omega);rw[ko (by omega)]at this;rw[this]at hn;cases hn
 exact hq
end
end Go.Proofs.YtcgdckphpjfmhaaGreatDoor
namespace Go.Proofs.YtcgdckphpjfmhaaGreatDoor.G
set_option linter.unusedVariables false
open ChangeShapes WideShapes ChangeAt RowKit Maps
open Pl
def Back{K:Type}[DecidableEq K](enc:K->Value)(P:Program)(kt t:TypeId)(bp n:Nat)(M:K->Option Value)(y:K)(st:Nat)(w:World):Prop :=
 ∀(w2:World) (val:Value),w2.heap[bp]?=w.heap[bp]?→∃w3,(Instr.entryStore t (.map (some bp)) (goInt st) val).run P w2=.ok () w3/\aN enc P kt w3 bp (n+1) (lq M y (some val))/\w2.grownBy w3 (some bp)
def put(l:Nat->Bool)(i:Nat):Nat->Bool:=fun k=>if k=i then true else l k
structure EA(C:Nat->Value)(NEW:Array Value)(et:TypeId)(W:World)(l:Nat->Bool)(f:Nat->Value)(w:World):Prop where
 late:∀k,7<=k->k<=10->l k=false
 bel:af W w
 val:∀k,k<=5->l k=true->f k=C k
 row:l 6=true->∃g,f 6=.slice (some ⟨g,0,none⟩) 1 1/\W.heap.size<=g/\w.heap[g]?=some (.cells NEW et (0,0))
structure EB(C:Nat->Value)(NEW:Array Value)(et:TypeId)(W:World)(bp:Nat)(row0:Value)(BK:Nat->World->Prop)(l:Nat->Bool)(f:Nat->Value)(w:World):Prop where
 low:∀k,k<=7->l k=true
 l9:l 9=false
 val:∀k,k<=5->f k=C k
 mid:∃(W0:World) (st g:Nat),af W W0/\f 6=.slice (some ⟨g,0,none⟩) 1 1/\W.heap.size<=g/\W0.heap[g]?=some (.cells NEW et (0,0))/\W0.grownBy w (some bp)/\f 7=.tuple #[row0,goInt st]/\BK st w/\(l 8=true->f 8=row0)/\(l 10=true->f 10=goInt st)
structure EC(C:Nat->Value)(NEW:Array Value)(et:TypeId)(sz:Nat)(W:World)(bp:Nat)(row0:Value)(nn:Nat)(xs:Q03)(BK:Nat->World->Prop)(l:Nat->Bool)(f:Nat->Value)(w:World):Prop where
 low:∀k,k<=9->l k=true
 val:∀k,k<=5->f k=C k
 mid:∃(W0 w1:World) (st:Nat),af W W0/\W0.grownBy w1 (some bp)/\w1.grownBy w row0.ownBlock/\w.ownsRow (bp+1) et sz (f 9) (nn+1) (xs++NEW.toList)/\((f 9).ownBlock=row0.ownBlock\/(f 9).ownBlock=some w1.heap.size)/\BK st w1/\f 7=.tuple #[row0,goInt st]/\(l 10=true->f 10=goInt st)
def EI(C:Nat->Value)(NEW:Array Value)(et:TypeId)(sz:Nat)(W:World)(bp:Nat)(row0:Value)(nn:Nat)(xs:Q03)(BK:Nat->World->Prop)(l:Nat->Bool)(f:Nat->Value)(w:World):Prop :=
 EA C NEW et W l f w\/EB C NEW et W bp row0 BK l f w\/EC C NEW et sz W bp row0 nn xs BK l f w
section
variable  {C:Nat->Value}{NEW:Array Value}{et:TypeId}{sz:Nat}{W:World}{bp:Nat}{row0:Value}{nn:Nat}{xs:Q03}{BK:Nat->World->Prop}{l:Nat->Bool}{f:Nat->Value}{w:World}
theorem ei_start(W:ae):EI C NEW et sz W bp row0 nn xs BK (fun _=>false) f W.drew:=.inl ⟨fun _ _ _=>rfl,(VD _ _).drew,fun _ _ h=>(by cases h),fun h=>(by cases h)⟩
theorem EI.early(h:EI C NEW et sz W bp row0 nn xs BK l f w){i:Nat}(hi:i<=7)(hl:l i=false):EA C NEW et W l f w:=by
 rcases h with h|h|h
 ·exact h
 ·rw[h.low i hi]at hl;cases hl
 rw[h.low i (by omega)]at hl;cases hl
theorem EA.put{i:Nat}(h:EA C NEW et W l f w)(hi:i<=5){v:Value}(hv:v=C i):EI C NEW et sz W bp row0 nn xs BK (fun k=>if k=i then true else l k) (upd f i v) w:=by
 refine .inl ⟨fun k h7 h10=>?_,h.bel,fun k hk hl=>?_,fun hl=>?_⟩
 ·show(if _=_ then true else _)=_;rw[if_neg (by omega)];exact h.late k h7 h10
 ·by_cases e:k=i
  ·subst e;simp[upd,hv]
  simp only[if_neg e]at hl;simp only[upd,if_neg e];exact h.val k hk hl
 replace hl:(if _=_ then true else _)=true:=hl;rw[if_neg (by omega)]at hl;simp only[upd];rw[if_neg (by omega)];exact h.row hl
theorem EA.lay(h:EA C NEW et W l f w):EI C NEW et sz W bp row0 nn xs BK (fun k=>if k=6 then true else l k) (upd f 6 (.slice (some ⟨w.heap.size,0,none⟩) 1 1)) (w.alloc (.cells NEW et)):=by
 refine .inl ⟨fun k h7 h10=>?_,h.bel.alloc h.bel.size _,fun k hk hl=>?_,fun _=>⟨w.heap.size,by simp[upd],h.bel.size,heap_alloc_new w _⟩⟩
 ·show(if _=_ then true else _)=_;rw[if_neg (by omega)];exact h.late k h7 h10
 replace hl:(if _=_ then true else _)=true:=hl;rw[if_neg (by omega)]at hl;simp only[upd];rw[if_neg (by omega)];exact h.val k hk hl
theorem EA.took(h:EA C NEW et W l f w)(hall:∀k,k<=6->l k=true){st:Nat}{w1:ae}(hg:w.grownBy w1 (some bp))(hb:BK st w1):EI C NEW et sz W bp row0 nn xs BK (fun k=>if k=7 then true else l k) (upd f 7 (.tuple #[row0,goInt st])) w1:=by
 obtain⟨g,e6,Y4,hc⟩:=h.row (hall 6 (by omega));refine .inr (.inl ⟨fun k hk=>?_,?_,fun k hk=>?_,w,st,g,h.bel,?_,Y4,hc,hg,?_,hb,fun h8=>?_,fun h10=>?_⟩)
 ·by_cases e:k=7
  ·simp[e]
  simp only[if_neg e];exact hall k (by omega)
 ·show(if (9:Nat)=7 then true else l 9)=false;rw[if_neg (by omega)];exact h.late 9 (by omega) (by omega)
 ·simp only[upd];rw[if_neg (by omega)];exact h.val k hk (hall k (by omega))
 ·simp only[upd];rw[if_neg (by omega)];exact e6
 ·simp[upd]
 ·have:(if (8:Nat)=7 then true else l 8)=true:=h8;rw[if_neg (by omega),h.late 8 (by omega) (by omega)]at this;cases this
 have:(if (10:Nat)=7 then true else l 10)=true:=h10;rw[if_neg (by omega),h.late 10 (by omega) (by omega)]at this;cases this
theorem EI.midB(h:EI C NEW et sz W bp row0 nn xs BK l f w)(h7:l 7=true){i:Nat}(hi:i<=9)(hl:l i=false):EB C NEW et W bp row0 BK l f w:=by
 rcases h with h|h|h
 ·rw[h.late 7 (by omega) (by omega)]at h7;cases h7
 ·exact h
 rw[h.low i hi]at hl;cases hl
theorem EI.seven(h:EI C NEW et sz W bp row0 nn xs BK l f w)(h7:l 7=true):∃st:Nat,f 7=.tuple #[row0,goInt st]:=by
 rcases h with h|h|h
 ·rw[h.late 7 (by omega) (by omega)]at h7;cases h7
 ·obtain⟨_,st,_,_,_,_,_,_,e,_⟩:=h.mid;exact⟨st,e⟩
 obtain⟨_,_,st,_,_,_,_,_,_,e,_⟩:=h.mid;exact⟨st,e⟩
theorem EB.first(h:EB C NEW et W bp row0 BK l f w):EI C NEW et sz W bp row0 nn xs BK (fun k=>if k=8 then true else l k) (upd f 8 row0) w:=by
 obtain⟨W0,st,g,h1,h2,h3,h4,h5,h6,h7,h8,h9⟩:=h.mid;refine .inr (.inl ⟨fun k hk=>?_,?_,fun k hk=>?_,W0,st,g,h1,?_,h3,h4,h5,?_,h7,fun _=>?_,fun h10=>?_⟩)
 ·show(if _=_ then true else _)=_;rw[if_neg (by omega)];exact h.low k hk
 ·show(if (9:Nat)=8 then true else l 9)=false;rw[if_neg (by omega)];exact h.l9
 ·simp only[upd];rw[if_neg (by omega)];exact h.val k hk
 ·simp only[upd];rw[if_neg (by omega)];exact h2
 ·simp only[upd];rw[if_neg (by omega)];exact h6
 ·simp[upd]
 have h10':(if (10:Nat)=8 then true else l 10)=true:=h10;rw[if_neg (by omega)]at h10';simp only[upd];rw[if_neg (by omega)];exact h9 h10'
theorem EI.second(h:EI C NEW et sz W bp row0 nn xs BK l f w)(h7:l 7=true){st:Nat}(e:f 7=.tuple #[row0,goInt st]):EI C NEW et sz W bp row0 nn xs BK (fun k=>if k=10 then true else l k) (upd f 10 (goInt st)) w:=by
 have same:∀st':Nat,.tuple #[row0,goInt st']=Value.tuple #[row0,goInt st]->goInt st'=goInt st:=fun st' e=>by
  injection e with e;have:=congrArg Array.toList e;simp only[List.cons.injEq]at this;exact this.2.1
 rcases h with h|h|h
 ·rw[h.late 7 (by omega) (by omega)]at h7;cases h7
 ·obtain⟨W0,st',g,h1,h2,h3,h4,h5,h6,hb,h8,h9⟩:=h.mid;have es:=same st' (h6.symm.trans e);refine .inr (.inl ⟨fun k hk=>?_,?_,fun k hk=>?_,W0,st',g,h1,?_,h3,h4,h5,?_,hb,fun h8'=>?_,fun _=>?_⟩)
  ·show(if _=_ then true else _)=_;rw[if_neg (by omega)];exact h.low k hk
  ·show(if (9:Nat)=10 then true else l 9)=false;rw[if_neg (by omega)];exact h.l9
  ·simp only[upd];rw[if_neg (by omega)];exact h.val k hk
  ·simp only[upd];rw[if_neg (by omega)];exact h2
  ·simp only[upd];rw[if_neg (by omega)];exact h6
  ·have h8'':(if (8:Nat)=10 then true else l 8)=true:=h8';rw[if_neg (by omega)]at h8'';simp only[upd];rw[if_neg (by omega)];exact h8 h8''
  simp[upd,es]
 obtain⟨W0,w1,st',h1,h2,h3,h4,h5,hb,h6,h9⟩:=h.mid;have es:=same st' (h6.symm.trans e);refine .inr (.inr ⟨fun k hk=>?_,fun k hk=>?_,W0,w1,st',h1,h2,h3,?_,?_,hb,?_,fun _=>?_⟩)
 ·show(if _=_ then true else _)=_;rw[if_neg (by omega)];exact h.low k hk
 ·simp only[upd];rw[if_neg (by omega)];exact h.val k hk
 ·simp only[upd];rw[if_neg (by omega)];exact h4
 ·simp only[upd];rw[if_neg (by omega)];exact h5
 ·simp only[upd];rw[if_neg (by omega)];exact h6
 simp[upd,es]
theorem EB.app(h:EB C NEW et W bp row0 BK l f w)(h8:l 8=true){v':Value}{w':ae}(hg:w.grownBy w' row0.ownBlock)(ho:w'.ownsRow (bp+1) et sz v' (nn+1) (xs++NEW.toList))(hloc:v'.ownBlock=row0.ownBlock\/v'.ownBlock=some w.heap.size):EI C NEW et sz W bp row0 nn xs BK (fun k=>if k=9 then true else l k) (upd f 9 v') w':=by
 obtain⟨W0,st,g,h1,h2,h3,h4,h5,h6,hb,_,h9⟩:=h.mid;refine .inr (.inr ⟨fun k hk=>?_,fun k hk=>?_,W0,w,st,h1,h5,hg,?_,?_,hb,?_,fun h10=>?_⟩)
 ·by_cases e:k=9
  ·simp[e]
  by_cases e8:k=8
  ·simp only[if_neg e];rw[e8];exact h8
  simp only[if_neg e];exact h.low k (by omega)
 ·simp only[upd];rw[if_neg (by omega)];exact h.val k hk
 ·simp only[upd,if_true];exact ho
 ·simp only[upd,if_true];exact hloc
 ·simp only[upd];rw[if_neg (by omega)];exact h6
 have h10':(if (10:Nat)=9 then true else l 10)=true:=h10;rw[if_neg (by omega)]at h10';simp only[upd];rw[if_neg (by omega)];exact h9 h10'
theorem EI.last(h:EI C NEW et sz W bp row0 nn xs BK l f w)(hall:∀k,k<11->l k=true):EC C NEW et sz W bp row0 nn xs BK l f w:=by
 rcases h with h|h|h
 ·have:=hall 7 (by omega);rw[h.late 7 (by omega) (by omega)]at this;cases this
 ·have:=hall 9 (by omega);rw[h.l9]at this;cases this
 exact h
end
end Go.Proofs.YtcgdckphpjfmhaaGreatDoor.G
namespace Go.Proofs.YtcgdckphpjfmhaaGreatDoor
open ChangeShapes WideShapes ChangeAt RowKit Maps
abbrev K3:=ByteArray×ByteArray×ByteArray
def qz(k:K3):Value:=.agg #[.string k.1,.string k.2.1,.string k.2.2]
theorem N7(x y:K3)(h:qz x=qz y):x=y:=by
 unfold qz at h;injection h with h;have h1:=congrArg Array.toList h;simp at h1;exact Prod.ext h1.1 (Prod.ext h1.2.1 h1.2.2)
theorem UO:(226:TypeId)<prog.types.size:=of_decide_eq_true (by kernel_rfl)
theorem TD:(match prog.underlying 226 with|some (.array _ _)|some (.struct _)=>true|_=>false)=true:=by rw[underlying226]
set_option maxRecDepth 100000 in
theorem N8:WideMaps.KeyLaw prog 226:=deep_law_laid zq (m:=3) (by omega) UO (by kernel_rfl) TD
theorem SC:Keyed prog 226:=Keyed.of_law N8
theorem TE:prog.keyType 226=true:=by kernel_rfl
theorem KD:prog.cellsOf 226=3:=by kernel_rfl
theorem Ll:prog.cellsOf 27=2:=by kernel_rfl
theorem Lm:2<=prog.types.size:=of_decide_eq_true (by kernel_rfl)
theorem zB:∃n,prog.types.size=n+2:=⟨prog.types.size-2,by have:=Lm;omega⟩
set_option maxRecDepth 100000 in
theorem Ea(k:K3)(h0:k.1.size<=maxLen)(h1:k.2.1.size<=maxLen)(h2:k.2.2.size<=maxLen):∃kl,keyOf prog 226 (qz k)=some kl:=by
 obtain⟨n,hn⟩:=zB;refine⟨.string (keyBytes [.string k.1.data.toList,.string k.2.1.data.toList,.string k.2.2.data.toList]),?_⟩;unfold keyOf;rw[underlying226];simp only[TE,qz,Value.formed,underlying226,KD,hn,Value.cells];simp +decide [Program.keyLits,underlying226,underlying27,underlying9,KD,Ll,strCells,h0,h1,h2]
abbrev KL:=ByteArray×Int
def FM(k:KL):Value:=.agg #[.string k.1,.int .i64 k.2]
theorem N9(x y:KL)(h:FM x=FM y):x=y:=by
 unfold FM at h;injection h with h;have h1:=congrArg Array.toList h;simp at h1;exact Prod.ext h1.1 h1.2
theorem UQ:(153:TypeId)<prog.types.size:=of_decide_eq_true (by kernel_rfl)
theorem TF:(match prog.underlying 153 with|some (.array _ _)|some (.struct _)=>true|_=>false)=true:=by rw[underlying153]
set_option maxRecDepth 100000 in
theorem Oa:WideMaps.KeyLaw prog 153:=deep_law_laid zq (m:=2) (by omega) UQ (by kernel_rfl) TF
theorem UR:Keyed prog 153:=Keyed.of_law Oa
theorem TG:prog.keyType 153=true:=by kernel_rfl
theorem KE:prog.cellsOf 153=2:=by kernel_rfl
theorem Oc:prog.cellsOf 2=1:=by kernel_rfl
set_option maxRecDepth 100000 in
theorem KF(k:KL)(h0:k.1.size<=maxLen)(h1:0<=k.2)(h2:k.2<=1000000):∃kl,keyOf prog 153 (FM k)=some kl:=by
 have hw:(Lit.int .i64 k.2).wf=true:=WalkArith.wf_i64 ⟨by omega,by omega⟩;obtain⟨n,hn⟩:=zB;refine⟨.string (keyBytes [.string k.1.data.toList,.int .i64 k.2]),?_⟩;unfold keyOf;rw[underlying153];simp only[TG,FM,Value.formed,underlying153,KE,hn,Value.cells];simp +decide [Program.keyLits,underlying153,underlying2,underlying9,KE,Oc,strCells,h0,hw]
section
variable  {P:Program}{ops:Array Oper}{Q:Exit->Act->World->Prop}
theorem jS{id:Nat}{a:Act}{w:ae}(L:Nat)(f0:Nat->Value)(F:(Nat->Value)->Act)(I:(Nat->Bool)->(Nat->Value)->World->Prop)
  (hm:P.follows .mixedOrders=true) (hsz:ops.size=L+1) (XF:zo ops=true)
  (hcl:∀o,ops[L]?=some o->∀(l:Nat->Bool) f w',I l f w'->(∀e∈o.after,Region.binds .any e=true->l e.on=true)->∀k,k<L->l k=true)
  (h0:a=F f0) (hI0:I (fun _=>false) f0 w.drew)
  (hstep:∀ i,i<L->∀ o,ops[i]?=some o->∀ (l:Nat->Bool) f w',l i=false->I l f w'->(∀ e∈o.after,Region.binds .any e=true->l e.on=true) ->
   wpOp P ops Q i (fun a' w''=>∃v,a'=F (upd f i v)/\I (fun k=>if k=i then true else l k) (upd f i v) w'') (F f) w')
  (hfin:∀o,ops[L]?=some o->∀(l:Nat->Bool) f w',(∀k,k<L->l k=true)->I l f w'->wpOp P ops Q L (fun a' w''=>Q .normal a' w'') (F f) w') :
  (Code.region id ops true).wp P Q a w:=by
 refine gM (fun listed a' w'=>listed.size=L+1/\((listed.getD L false=false/\∃f,a'=F f/\I (fun k=>listed.getD k false) f w')\/((∀j,j<=L->listed.getD j true=true)/\Q .normal a' w'))) hm ?_ ?_ ?_
 ·refine⟨by simpa using hsz,Or.inl ⟨?_,_,h0,?_⟩⟩
  ·rw[VX,Wo];split<;>rfl
  have:(fun k=>(Array.replicate ops.size false).getD k false)=fun _=>false:=funext fun k=>by rw[VX,Wo];split<;>rfl
  rw[this];exact hI0
 ·rintro listed a' w' ⟨hs,h⟩ i hi;obtain⟨hl,o,ho,hpre⟩:=mem_ready.1 hi;have hiL:i<L+1:=by have:=(VH.1 ho).1;omega
  rcases h with⟨hn,f,rfl,hI⟩|⟨hall,-⟩
  ·by_cases e:i=L
   ·subst e;have hall:∀k,k<i->listed.getD k false=true:=hcl o ho _ f w' hI (fun e he hb=>hpre e he hb);refine wpOp_mono (fun a'' w'' hq=>⟨by simpa using hs,Or.inr ⟨fun j hj=>?_,hq⟩⟩) (hfin o ho _ f w' hall hI);rw[ko (by simp;omega),aO _ _ _ (by omega)];by_cases e:j=i
    ·simp[e]
    rw[if_neg e];exact hall j (by omega)
   refine wpOp_mono ?_ (hstep i (by omega) o ho _ f w' (by rw[<-ko (by omega)];exact hl) hI (fun e he hb=>hpre e he hb));rintro a'' w'' ⟨v,rfl,hI'⟩;refine⟨by simpa using hs,Or.inl ⟨?_,_,rfl,?_⟩⟩
   ·rw[aO _ _ _ (by omega),if_neg (Ne.symm e)];exact hn
   have:(fun k=>(listed.setIfInBounds i true).getD k false)=fun k=>if k=i then true else listed.getD k false:=funext fun k=>aO _ _ _ (by omega)
   rw[this];exact hI'
  rw[hall i (by omega)]at hl;cases hl
 rintro listed a' w' ⟨hs,h⟩ hr;rcases h with⟨hn,-⟩|⟨-,hq⟩
 ·have:=qo hr hsz (rM XF) hs L (by omega);rw[ko (by omega)]at this;rw[this]at hn;cases hn
 exact hq
end
end Go.Proofs.YtcgdckphpjfmhaaGreatDoor
namespace Go.Proofs.YtcgdckphpjfmhaaGreatDoor.G
set_option linter.unusedVariables false
open ChangeShapes WideShapes ChangeAt RowKit
structure WI(C:Nat->Value)(W:World)(CD:Value->World->Prop)(l:Nat->Bool)(f:Nat->Value)(w:World):Prop where
 val:∀k,k<=9->k≠7->l k=true->f k=C k
 seq:l 7=true->l 4=true/\l 6=true
 nin:l 9=true->l 8=true
 mid:(l 7=false/\af W w)\/(l 7=true/\CD (f 7) w)
section
variable  {C:Nat->Value}{W:World}{CD:Value->World->Prop}{l:Nat->Bool}{f:Nat->Value}{w:World}
theorem wi_start(W:ae):WI C W CD (fun _=>false) f W.drew:=⟨fun _ _ _ h=>(by cases h),fun h=>(by cases h),fun h=>(by cases h),.inl ⟨rfl,(VD _ _).drew⟩⟩
theorem WI.put(h:WI C W CD l f w){i:Nat}(hi:i≠7)(h9:i=9->l 8=true){v:Value}(hv:v=C i):WI C W CD (fun k=>if k=i then true else l k) (upd f i v) w:=by
 refine⟨fun k hk h7 hl=>?_,fun hl=>?_,fun hl=>?_,?_⟩
 ·by_cases e:k=i
  ·subst e;simp[upd,hv]
  simp only[if_neg e]at hl;simp only[upd,if_neg e];exact h.val k hk h7 hl
 ·have hl':(if (7:Nat)=i then true else l 7)=true:=hl;rw[if_neg (Ne.symm hi)]at hl';have:=h.seq hl';constructor
  ·show(if (4:Nat)=i then true else l 4)=true;rw[this.1];split<;>rfl
  show(if (6:Nat)=i then true else l 6)=true;rw[this.2];split<;>rfl
 ·have hl':(if (9:Nat)=i then true else l 9)=true:=hl;show(if (8:Nat)=i then true else l 8)=true;by_cases e:(9:Nat)=i
  ·rw[h9 e.symm];split<;>rfl
  rw[if_neg e]at hl';rw[h.nin hl'];split<;>rfl
 have e7:(if (7:Nat)=i then true else l 7)=l 7:=if_neg (Ne.symm hi);have f7:upd f i v 7=f 7:=by simp only[upd];rw[if_neg (Ne.symm hi)]
 rcases h.mid with⟨h1,h2⟩|⟨h1,h2⟩
 ·exact .inl ⟨e7.trans h1,h2⟩
 exact .inr ⟨e7.trans h1,by rw[f7];exact h2⟩
theorem WI.before(h:WI C W CD l f w)(hl:l 7=false):af W w:=by
 rcases h.mid with⟨_,h2⟩|⟨h1,_⟩
 ·exact h2
 rw[h1]at hl;cases hl
theorem WI.early(h:WI C W CD l f w)(hl:l 4=false\/l 6=false):af W w:=by
 refine h.before ?_;cases h7:l 7;case false=>rfl
 obtain⟨h4,h6⟩:=h.seq h7;rcases hl with e|e
 ·rw[h4]at e;cases e
 rw[h6]at e;cases e
theorem WI.call(h:WI C W CD l f w)(h4:l 4=true)(h6:l 6=true){v:Value}{w':ae}(hc:CD v w'):WI C W CD (fun k=>if k=7 then true else l k) (upd f 7 v) w':=by
 refine⟨fun k hk h7 hl=>?_,fun _=>⟨by simp[h4],by simp[h6]⟩,fun hl=>h.nin hl,.inr ⟨by simp,by simp only[upd,if_true];exact hc⟩⟩;simp only[if_neg h7]at hl;simp only[upd,if_neg h7];exact h.val k hk h7 hl
theorem WI.last(h:WI C W CD l f w)(hall:∀k,k<10->l k=true):(∀k,k<=9->k≠7->f k=C k)/\CD (f 7) w:=by
 refine⟨fun k hk h7=>h.val k hk h7 (hall k (by omega)),?_⟩;rcases h.mid with⟨h1,_⟩|⟨_,h2⟩
 ·rw[hall 7 (by omega)]at h1;cases h1
 exact h2
end
end Go.Proofs.YtcgdckphpjfmhaaGreatDoor.G
namespace Go.Proofs.YtcgdckphpjfmhaaGreatDoor
set_option linter.unusedVariables false
structure Few{φ υ:Type}(us:φ->υ)(H:List φ->φ->Bool)(qs:List φ)(users:List υ)(out:List φ):Prop where
 set:∀f∈qs,us f ∉ users->f∈out\/H out f=false
theorem Few.start{φ υ:Type}{us:φ->υ}{H:List φ->φ->Bool}{qs:List φ}{users:List υ}{out:List φ}(h:∀f∈qs,us f∈users):Few us H qs users out:=⟨fun f hf hn=>absurd (h f hf) hn⟩
section
variable  {φ υ:Type}[DecidableEq φ]{us:φ->υ}{H:List φ->φ->Bool}
def Loc(us:φ->υ)(H:List φ->φ->Bool):Prop:=∀(a b:List φ) (f:φ),(∀g,us g=us f->(g∈a↔g∈b))->H a f=H b f
def fO(H:List φ->φ->Bool)(out:List φ)(f:φ):List φ:=if f∈out\/H out f=false then out else out++[f]
def bY(H:List φ->φ->Bool)(qs:List φ)(out:List φ):List φ:=qs.foldl (fO H) out
theorem Od(out:List φ):bY H [] out=out:=rfl
theorem rP(q:φ)(qs out:List φ):bY H (q::qs) out=bY H qs (fO H out q):=rfl
theorem FN(zas bs out:List φ):bY H (zas++bs) out=bY H bs (bY H zas out):=by unfold bY;rw[List.foldl_append]
theorem wF(out:List φ)(f:φ):∃new,fO H out f=out++new/\∀g∈new,g=f/\g ∉ out/\H out f=true:=by
 unfold fO;split
 ·exact⟨[],by simp,fun g hg=>by cases hg⟩
 rename_i h;refine⟨[f],rfl,fun g hg=>?_⟩;rw[VK]at hg;subst hg;refine⟨rfl,fun e=>h (.inl e),?_⟩;cases e:H out g;case true=>rfl
 exact absurd (.inr e) h
theorem kw:∀(qs out:List φ),∃new,bY H qs out=out++new/\∀g∈new,g∈qs/\g ∉ out
 | [],out=>⟨[],by simp[Od],fun g hg=>by cases hg⟩
 | q::qs,out=>by
  obtain⟨n1,e1,h1⟩:=wF (H:=H) out q;obtain⟨n2,e2,h2⟩:=kw qs (fO H out q);refine⟨n1++n2,by rw[rP,e2,e1,V8],fun g hg=>?_⟩;rcases VL.1 hg with hg|hg
  ·exact⟨by rw[(h1 g hg).1];exact WB ..,(h1 g hg).2.1⟩
  obtain⟨h3,h4⟩:=h2 g hg;exact⟨Wv _ h3,fun e=>h4 (by rw[e1];exact WQ _ e)⟩
theorem qA{qs out:List φ}{g:φ}(h:g∈out):g∈bY H qs out:=by
 obtain⟨n,e,-⟩:=kw (H:=H) qs out;rw[e];exact WQ _ h
theorem wG{out:List φ}{f g:φ}(h:g∈out):g∈fO H out f:=by
 obtain⟨n,e,-⟩:=wF (H:=H) out f;rw[e];exact WQ _ h
theorem IG{out:List φ}(h:out.Nodup)(f:φ):(fO H out f).Nodup:=by
 unfold fO;split
 ·exact h
 rename_i hn;refine List.nodup_append.2 ⟨h,by simp,fun a ha b hb e=>?_⟩;rw[VK]at hb;subst hb;subst e;exact hn (.inl ha)
theorem wH:∀(qs:List φ) {out:List φ},out.Nodup->(bY H qs out).Nodup
 | [],_,h=>h
 | q::qs,_,h=>wH qs (IG h q)
theorem Lp{qs out:List φ}(h:∀f∈qs,f∈out\/H out f=false):bY H qs out=out:=by
 induction qs with
 | nil=>rfl
 | cons q qs ih =>
  have e:fO H out q=out:=if_pos (h q (WB ..));rw[rP,e];exact ih fun f hf=>h f (Wv _ hf)
theorem ni(hL:Loc us H)(P:υ->Bool):∀(qs out:List φ),(∀f∈qs,P (us f)=false->f∈out\/H out f=false)->bY H qs out=bY H (qs.filter fun f=>P (us f)) out
 | [],_,_=>rfl
 | q::qs,out,h=>by
  rw[rP,List.filter_cons];cases hp:P (us q);case false=>
   have e:fO H out q=out:=if_pos (h q (WB ..) hp);rw[e];exact ni hL P qs out fun f hf=>h f (Wv _ hf)
  rw[if_pos rfl,rP];refine ni hL P qs _ fun f hf hpf=>?_;have hne:us f≠us q:=fun e=>by rw[e,hp]at hpf;cases hpf
  obtain⟨n,e,hn⟩:=wF (H:=H) out q;have hm:∀g,us g=us f->(g∈out↔g∈fO H out q):=fun g hg=>by
   rw[e];refine⟨fun h=>WQ _ h,fun h=>?_⟩;rcases VL.1 h with h|h
   ·exact h
   exact absurd (by rw[(hn g h).1]at hg;exact hg.symm) hne
  rcases h f (Wv _ hf) hpf with h1|h1
  ·exact .inl ((hm f rfl).1 h1)
  exact .inr (by rw[<-hL out _ f hm];exact h1)
theorem uL(hL:Loc us H)(u:υ):∀(qs out:List φ),(∀g∈bY H qs out,us g=u->g∈out)->∀f∈qs,us f=u->f∈bY H qs out\/H (bY H qs out) f=false
 | [],_,_,f,hf,_=>by cases hf
 | q::qs,out,h,f,hf,hu=>by
  have hsame:∀g,us g=u->(g∈fO H out q↔g∈bY H qs (fO H out q)):=fun g hg=>⟨fun h1=>qA h1,fun h1=>wG (h g h1 hg)⟩;have hrest:∀g∈bY H qs (fO H out q),us g=u->g∈fO H out q:=fun g h1 h2=>(hsame g h2).2 h1;rcases VU.1 hf with rfl|hf
  ·show f∈bY H qs (fO H out f)\/H (bY H qs (fO H out f)) f=false;by_cases hq:f∈out\/H out f=false
   ·rcases hq with h1|h1
    ·exact .inl (qA (wG h1))
    refine .inr ?_;rw[<-hL out _ f fun g hg=>?_]
    ·exact h1
    exact⟨fun h2=>qA (wG h2),fun h2=>h g h2 (hg.trans hu)⟩
   have e:fO H out f=out++[f]:=if_neg hq;exact .inl (qA (by rw[e];simp))
  exact uL hL u qs _ hrest f hf hu
def nk(H:List φ->φ->Bool)(qs:List φ):Nat->List φ->List φ
 | 0,out=>out
 | k+1,out=>if bY H qs out=out then out else nk H qs k (bY H qs out)
def nu(qs out:List φ):Nat:=(qs.filter fun f=>decide (f ∉ out)).length
theorem Oe(qs:List φ){a b:List φ}(h:∀g∈a,g∈b):nu qs b<=nu qs a:=by
 unfold nu
 induction qs with
 | nil=>simp
 | cons q qs ih =>
  simp only[List.filter_cons];by_cases hb:q∈b
  ·by_cases ha:q∈a
   ·simp[ha,hb];simpa using ih
   simp[ha,hb];have:=ih;simp at this;omega
  have ha:q ∉ a:=fun e=>hb (h q e);simp[ha,hb];simpa using ih
theorem Og(qs:List φ){a b:List φ}(h:∀g∈a,g∈b){x:φ}(hx:x∈qs)(ha:x ∉ a)(hb:x∈b):nu qs b<nu qs a:=by
 induction qs with
 | nil=>cases hx
 | cons q qs ih =>
  have hle:=Oe qs h;unfold nu at ih hle⊢;simp only[List.filter_cons];rcases VU.1 hx with rfl|hx
  ·simp[ha,hb];simp at hle;omega
  have:=ih hx;by_cases h1:q∈b
  ·by_cases h2:q∈a
   ·simp[h1,h2];simpa using this
   simp[h1,h2];simp at this;omega
  have h2:q ∉ a:=fun e=>h1 (h q e);simp[h1,h2];simpa using this
theorem Cv{qs out:List φ}(h:bY H qs out≠out):nu qs (bY H qs out)<nu qs out:=by
 obtain⟨n,e,hn⟩:=kw (H:=H) qs out;cases n with
 | nil=>exact absurd (by simpa using e) h
 | cons x n =>
  obtain⟨h1,h2⟩:=hn x (WB ..);exact Og qs (fun g hg=>qA hg) h1 h2 (by rw[e];simp)
theorem zC(qs:List φ):∀(k j:Nat) (out:List φ),nu qs out<k->nu qs out<j->nk H qs k out=nk H qs j out
 | 0,_,_,h,_=>absurd h (WJ _)
 | _+1,0,_,_,h=>absurd h (WJ _)
 | k+1,j+1,out,h1,h2=>by
  unfold nk;by_cases e:bY H qs out=out
  ·rw[if_pos e,if_pos e]
  rw[if_neg e,if_neg e];have:=Cv (H:=H) e;exact zC qs k j _ (by omega) (by omega)
def oW(H:List φ->φ->Bool)(qs out:List φ):List φ:=nk H qs (nu qs out+1) out
theorem wI{qs out:List φ}(h:bY H qs out=out):oW H qs out=out:=by
 unfold oW nk;rw[if_pos h]
theorem Cw(qs out:List φ):oW H qs (bY H qs out)=oW H qs out:=by
 by_cases h:bY H qs out=out
 ·rw[h]
 have hlt:=Cv (H:=H) h;have e:oW H qs out=nk H qs (nu qs out) (bY H qs out):=by
  show nk H qs (nu qs out+1) out=_;rw[nk,if_neg h]
 rw[e];unfold oW;exact zC qs _ _ _ (Nat.lt_succ_self _) hlt
theorem Oh(out:List φ):oW H [] out=out:=wI rfl
theorem Cx(qs:List φ):∀(k:Nat) (out:List φ),∃new,nk H qs k out=out++new/\∀g∈new,g∈qs
 | 0,out=>⟨[],by simp[nk],fun g hg=>by cases hg⟩
 | k+1,out=>by
  unfold nk;split
  ·exact⟨[],by simp,fun g hg=>by cases hg⟩
  obtain⟨n1,e1,h1⟩:=kw (H:=H) qs out;obtain⟨n2,e2,h2⟩:=Cx qs k (bY H qs out);refine⟨n1++n2,by rw[e2,e1,V8],fun g hg=>?_⟩;rcases VL.1 hg with hg|hg
  ·exact(h1 g hg).1
  exact h2 g hg
theorem zD(qs:List φ):∀(k:Nat) {out:List φ},out.Nodup->(nk H qs k out).Nodup
 | 0,_,h=>h
 | k+1,out,h=>by
  unfold nk;split
  ·exact h
  exact zD qs k (wH qs h)
theorem Lr(qs:List φ){out:List φ}(h:out.Nodup):(oW H qs out).Nodup:=zD qs _ h
theorem Few.round[DecidableEq υ](hL:Loc us H){qs:List φ}{users:List υ}{out:List φ}(h:Few us H qs users out):bY H (qs.filter fun f=>decide (us f∈users)) out=bY H qs out :=
 (ni hL (fun u=>decide (u∈users)) qs out fun f hf hp=>h.set f hf (by simpa using hp)).symm
theorem Few.next[DecidableEq υ](hL:Loc us H){qs:List φ}{users users':List υ}{out new:List φ}(h:Few us H qs users out)(hn:bY H qs out=out++new)(hu:∀u,u∈users'↔u∈users/\∃g∈new,us g=u):Few us H qs users' (out++new):=by
 refine⟨fun f hf hnf=>?_⟩;have key:∀g∈bY H qs out,us g=us f->g∈out:=fun g hg hgu=>by
  rw[hn]at hg;rcases VL.1 hg with hg|hg
  ·exact hg
  by_cases hin:us f∈users
  ·exact absurd ((hu _).2 ⟨hin,g,hg,hgu⟩) hnf
  -- a user that was left out before finds none
  have e:=h.round hL;obtain⟨n2,e2,h2⟩:=kw (H:=H) (qs.filter fun f=>decide (us f∈users)) out;rw[e,hn]at e2;have e3:new=n2:=List.append_cancel_left e2;rw[e3]at hg;have h3:=(h2 g hg).1;rw[WE]at h3;have h4:us g∈users:=by simpa using h3.2
  rw[hgu]at h4;exact absurd h4 hin
 have:=uL hL (us f) qs out key f hf rfl;rw[hn]at this;exact this
theorem Few.done{qs:List φ}{out:List φ}(h:Few us H qs [] out):oW H qs out=out:=wI (Lp fun f hf=>h.set f hf List.not_mem_nil)
end
end Go.Proofs.YtcgdckphpjfmhaaGreatDoor
