/- A region that draws its order, by what holds whichever operations have come up: each operation is run once, from what those that it waits for have left. -/
import Derived.Test.YtajkkeikihhejaaGreatSq
import Derived.Deep.RegionWith
import Derived.Test.YtajkkeikihhejaaGreatJ1
import Derived.Deep.QuietTactic
import Derived.BigQuiet
import Derived.WalkSmall
import Derived.WalkSpells
import Derived.OwnWalk
import Derived.Maps.AppendAt
import Derived.RegionTactic
import Derived.Lib.QuietBelow
import Derived.Deep.AppendLies
open Go.Proofs.Tryz
set_option maxHeartbeats 80000000
namespace Go.Proofs.YtajkkeikihhejaaGreat
open RowKit
theorem Oc{α:Type}(p q:α->Bool)(l:List α)(h:∀x∈l,q x=true->p x=true)(y:α)(hy:y∈l)(hp:p y=true)(hq:q y=false):l.countP q<l.countP p:=by
 induction l with
 | nil=>cases hy
 | cons a l ih =>
  rw[List.countP_cons,List.countP_cons];rcases Vq.1 hy with rfl|hy
  ·have:=List.countP_mono_left (p:=q) (q:=p) (l:=l) (fun x hx=>h x (VQ _ hx));simp[hp,hq];omega
  have h1:=ih (fun x hx=>h x (VQ _ hx)) hy;have h2:=h a (VT ..);cases hqa:q a;case true=>simp[h2 hqa];omega
  simp;omega
section
variable  {P:Program}{ops:Array Oper}{Q:Exit->Act->World->Prop}{md:Region.Mode}
theorem aa{i:Nat}{o:Oper}{K:Act->World->Prop}{a:Act}{w:af}(ho:ops[i]?=some o)
  (h:∀K':Act->World->Prop,Hid (∀a w,K a w->K' a w)->if Region.wanted o (yielded ops a.tmps)=true then Oper.wp P o a w K' Q else K' (a.put o.dst undef) w):wpOp P ops Q i K a w:=wpOp_step ho h
def left(ops:Array Oper)(listed:Array Bool):Nat:=(List.range ops.size).countP (fun i=>!(listed.getD i true))
theorem Ga(listed:Array Bool)(i j:Nat):(listed.setIfInBounds i true).getD j true=if j=i then true else listed.getD j true:=by
 rw[Vy,Vy,Array.getElem?_setIfInBounds];by_cases e:i=j
 ·subst e;by_cases h:i<listed.size<;>simp[h]
 simp[e,Ne.symm e]
theorem Gb{listed:Array Bool}{i:Nat}(hi:i<ops.size)(hl:listed.getD i true=false):left ops (listed.setIfInBounds i true)<left ops listed:=by
 refine Oc _ _ _ ?_ i (by simpa using hi) (by simp[hl]) (by rw[Ga];simp);intro x _ hx;simp only[Ga,Bool.not_eq_true']at hx ⊢;by_cases e:x=i
 ·simp[e]at hx
 simpa[e] using hx
theorem LJ(Inv:Array Bool->Act->World->Prop)
  (hstep:∀listed a w,Inv listed a w->∀i∈Region.ready md ops listed,wpOp P ops Q i (Inv (listed.setIfInBounds i true)) a w)
  (hend:∀listed a w,Inv listed a w->Region.ready md ops listed=[]->Q .normal a w) :
  ∀(fuel:Nat) (listed:Array Bool) (a:Act) (w:World),left ops listed<=fuel->Inv listed a w->wpAny P md ops Q fuel listed a w:=by
 intro fuel
 induction fuel with
 | zero =>
  intro listed a w hc hI;have hr:Region.ready md ops listed=[]:=by
   rw[List.eq_nil_iff_forall_not_mem];intro i hi;obtain⟨h1,o,h2,-⟩:=mem_ready.1 hi;have:=Gb (ops:=ops) (Vi.1 h2).1 h1;omega
  exact⟨hr,hend _ _ _ hI hr⟩
 | succ n ih =>
  intro listed a w hc hI;refine⟨fun hr=>hend _ _ _ hI hr,fun i hi=>wpOp_mono (fun a' w' h=>ih _ _ _ ?_ h) (hstep _ _ _ hI i hi)⟩;obtain⟨h1,o,h2,-⟩:=mem_ready.1 hi;have:=Gb (ops:=ops) (Vi.1 h2).1 h1;omega
theorem Re(ops:Array Oper)(listed:Array Bool):left ops listed<=ops.size:=by
 unfold left;exact Vj List.countP_le_length (by simp)
theorem ig{id:Nat}{a:Act}{w:af}(Inv:Array Bool->Act->World->Prop)(hm:P.follows .mixedOrders=true)
  (h0:Inv (Array.replicate ops.size false) a w.drew)
  (hstep:∀listed a w,Inv listed a w->∀i∈Region.ready .any ops listed,wpOp P ops Q i (Inv (listed.setIfInBounds i true)) a w)
  (hend:∀listed a w,Inv listed a w->Region.ready .any ops listed=[]->Q .normal a w):(Code.region id ops true).wp P Q a w :=
 wp_region_any hm (LJ Inv hstep hend _ _ _ _ (Re _ _) h0)
theorem tY{listed:Array Bool}{n:Nat}(hr:Region.ready md ops listed=[])(hs:ops.size=n)(Xr:∀(i:Nat) (o:Oper),ops[i]?=some o->∀e∈o.after,e.on<i)(hsz:listed.size=n):∀i,i<n->listed.getD i true=true:=by
 intro i
 induction i using Nat.strongRecOn with
 | ind i ih =>
  intro hi;cases hl:listed.getD i true;case true=>rfl
  exfalso;have hmem:i∈Region.ready md ops listed:=by
   refine mem_ready.2 ⟨hl,ops[i]'(by omega),VY (by omega),fun e he _=>?_⟩;have hlt:=Xr i _ (VY (by omega)) e he;have:=ih e.on hlt (by omega);rw[Vy,VY (by omega)]at this ⊢;simpa using this
  rw[hr]at hmem;cases hmem
end
def upd(f:Nat->Value)(i:Nat)(v:Value):Nat->Value:=fun k=>if k=i then v else f k
section
variable  {P:Program}{ops:Array Oper}{Q:Exit->Act->World->Prop}
theorem aV(listed:Array Bool)(i j:Nat)(hi:i<listed.size):(listed.setIfInBounds i true).getD j false=if j=i then true else listed.getD j false:=by
 rw[Vy,Vy,Array.getElem?_setIfInBounds];by_cases e:i=j
 ·subst e;simp[hi]
 simp[e,Ne.symm e]
theorem kK{listed:Array Bool}{i:Nat}(hi:i<listed.size):listed.getD i true=listed.getD i false:=by
 rw[Vy,Vy,VY hi];rfl
def CX(ops:Array Oper):Bool:=(List.range ops.size).all (fun i=>(ops[i]?.map (fun o=>o.after.all (fun e=>decide (e.on<i)))).getD true)
def zI(ops:Array Oper)(L:Nat):Bool:=(List.range L).all (fun j=>(ops[L]?.map (fun o=>o.after.any (fun e=>e.on==j&&Region.binds .any e))).getD false)
theorem qA{ops:Array Oper}(h:CX ops=true):∀(i:Nat) (o:Oper),ops[i]?=some o->∀e∈o.after,e.on<i:=by
 intro i o ho e he;rw[CX,Vm]at h;have h1:=h i (by simpa using (Vi.1 ho).1);rw[ho]at h1;simp only[Option.map_some,VO,Array.all_eq_true_iff_forall_mem]at h1;simpa using h1 e he
theorem CY{ops:Array Oper}{L:Nat}(h:zI ops L=true):∀(o:Oper),ops[L]?=some o->∀j,j<L->∃e∈o.after,e.on=j/\Region.binds .any e=true:=by
 intro o ho j hj;rw[zI,Vm]at h;have h1:=h j (by simpa using hj);rw[ho]at h1;simp only[Option.map_some,VO]at h1;rw[Array.any_eq_true']at h1;obtain⟨e,he,h2⟩:=h1;simp only[Vd,beq_iff_eq]at h2;exact⟨e,he,h2.1,h2.2⟩
theorem mo{id:Nat}{a:Act}{w:af}(L:Nat)(f0:Nat->Value)(F:(Nat->Value)->Act)(V:Nat->Value->World->Prop)(G:World->Prop)
  (hm:P.follows .mixedOrders=true) (hsz:ops.size=L+1) (Xr:CX ops=true) (hlo:zI ops L=true)
  (h0:a=F f0) (hG0:G w.drew)
  (hstep:∀ i,i<L->∀ o,ops[i]?=some o->∀ f w',G w'->(∀ e∈o.after,Region.binds .any e=true->V e.on (f e.on) w') ->
   wpOp P ops Q i (fun a' w''=>∃v,a'=F (upd f i v)/\G w''/\V i v w''/\∀k u,V k u w'->V k u w'') (F f) w')
  (hfin:∀o,ops[L]?=some o->∀f w',G w'->(∀k,k<L->V k (f k) w')->wpOp P ops Q L (fun a' w''=>Q .normal a' w'') (F f) w') :
  (Code.region id ops true).wp P Q a w:=by
 refine ig (fun listed a' w'=>listed.size=L+1/\((listed.getD L false=false/\∃f,a'=F f/\G w'/\∀k,k<L->listed.getD k false=true->V k (f k) w')\/((∀j,j<=L->listed.getD j true=true)/\Q .normal a' w'))) hm ?_ ?_ ?_
 ·refine⟨by simpa using hsz,Or.inl ⟨?_,_,h0,hG0,fun k _ h=>?_⟩⟩
  ·rw[Vy,VR];split<;>rfl
  rw[Vy,VR]at h;split at h<;>cases h
 ·rintro listed a' w' ⟨hs,h⟩ i hi;obtain⟨hl,o,ho,hpre⟩:=mem_ready.1 hi;have hiL:i<L+1:=by have:=(Vi.1 ho).1;omega
  rcases h with⟨hn,f,rfl,hG,hV⟩|⟨hall,-⟩
  ·by_cases e:i=L
   ·subst e;have hall:∀k,k<i->listed.getD k false=true:=fun k hk=>by
     obtain⟨e,he,rfl,hb⟩:=CY hlo o ho k hk;exact hpre e he hb
    refine wpOp_mono (fun a'' w'' hq=>⟨by simpa using hs,Or.inr ⟨fun j hj=>?_,hq⟩⟩) (hfin o ho f w' hG (fun k hk=>hV k hk (hall k hk)));rw[kK (by simp;omega),aV _ _ _ (by omega)];by_cases e:j=i
    ·simp[e]
    rw[if_neg e];exact hall j (by omega)
   refine wpOp_mono ?_ (hstep i (by omega) o ho f w' hG (fun e he hb=>hV e.on (by have:=qA Xr i o ho e he;omega) (hpre e he hb)));rintro a'' w'' ⟨v,rfl,hG',hv,hmono⟩;refine⟨by simpa using hs,Or.inl ⟨?_,_,rfl,hG',fun k hk hkl=>?_⟩⟩
   ·rw[aV _ _ _ (by omega),if_neg (Ne.symm e)];exact hn
   rw[aV _ _ _ (by omega)]at hkl;by_cases ek:k=i
   ·subst ek;simpa[upd] using hv
   rw[if_neg ek]at hkl;simp only[upd,if_neg ek];exact hmono _ _ (hV k hk hkl)
  rw[hall i (by omega)]at hl;cases hl
 rintro listed a' w' ⟨hs,h⟩ hr;rcases h with⟨hn,-⟩|⟨-,hq⟩
 ·have:=tY hr hsz (qA Xr) hs L (by omega);rw[kK (by omega)]at this;rw[this]at hn;cases hn
 exact hq
theorem fI{id:Nat}{a:Act}{w:af}(L:Nat)(F:(Nat->Value)->Act)(V:Nat->Value->World->Prop)(G:World->Prop)
  (hm:P.follows .mixedOrders=true) (hsz:ops.size=L+1) (Xr:CX ops=true) (hlo:zI ops L=true)
  (h0:a=F (fun _=>undef)) (hG0:G w.drew)
  (hstep:∀ i,i<L->∀ o,ops[i]?=some o->∀ f w',G w'->(∀ e∈o.after,Region.binds .any e=true->V e.on (f e.on) w') ->
   wpOp P ops Q i (fun a' w''=>∃v,a'=F (upd f i v)/\G w''/\V i v w''/\∀k u,V k u w'->V k u w'') (F f) w')
  (hfin:∀o,ops[L]?=some o->∀f w',G w'->(∀k,k<L->V k (f k) w')->wpOp P ops Q L (fun a' w''=>Q .normal a' w'') (F f) w') :
  (Code.region id ops true).wp P Q a w :=
 mo L (fun _=>undef) F V G hm hsz Xr hlo h0 hG0 hstep hfin
theorem kG{id:Nat}{a:Act}{w:af}(N:Nat)(f0:Nat->Value)(F:(Nat->Value)->Act)(V:Nat->Value->World->Prop)(G:World->Prop)
  (hm:P.follows .mixedOrders=true) (hsz:ops.size=N) (Xr:CX ops=true)
  (h0:a=F f0) (hG0:G w.drew)
  (hstep:∀ i,i<N->∀ o,ops[i]?=some o->∀ f w',G w'->(∀ e∈o.after,Region.binds .any e=true->V e.on (f e.on) w') ->
   wpOp P ops Q i (fun a' w''=>∃v,a'=F (upd f i v)/\G w''/\V i v w''/\∀k u,V k u w'->V k u w'') (F f) w')
  (hend:∀f w',G w'->(∀k,k<N->V k (f k) w')->Q .normal (F f) w') :
  (Code.region id ops true).wp P Q a w:=by
 refine ig (fun listed a' w'=>listed.size=N/\∃f,a'=F f/\G w'/\∀k,k<N->listed.getD k false=true->V k (f k) w') hm ?_ ?_ ?_
 ·refine⟨by simpa using hsz,_,h0,hG0,fun k _ h=>?_⟩;rw[Vy,VR]at h;split at h<;>cases h
 ·rintro listed a' w' ⟨hs,f,rfl,hG,hV⟩ i hi;obtain⟨hl,o,ho,hpre⟩:=mem_ready.1 hi;have hiN:i<N:=by have:=(Vi.1 ho).1;omega
  refine wpOp_mono ?_ (hstep i hiN o ho f w' hG (fun e he hb=>hV e.on (by have:=qA Xr i o ho e he;omega) (hpre e he hb)));rintro a'' w'' ⟨v,rfl,hG',hv,hmono⟩;refine⟨by simpa using hs,_,rfl,hG',fun k hk hkl=>?_⟩;rw[aV _ _ _ (by omega)]at hkl;by_cases ek:k=i
  ·subst ek;simpa[upd] using hv
  rw[if_neg ek]at hkl;simp only[upd,if_neg ek];exact hmono _ _ (hV k hk hkl)
 rintro listed a' w' ⟨hs,f,rfl,hG,hV⟩ hr;refine hend f w' hG fun k hk=>hV k hk ?_;have:=tY hr hsz (qA Xr) hs k hk;rwa [kK (by omega)]at this
end
open ChangeAt ChangeShapes WideShapes Pl
theorem ER.new.mono{B B':Nat}{r:ER}(h:r.new B)(hB:B'<=B):r.new B':=by
 obtain⟨gA,gK,e1,e2,h1,h2,h3⟩:=h;exact⟨gA,gK,e1,e2,by omega,by omega,h3⟩
structure Rl where
 name:ByteArray
 expr:List Ex
structure RR where
 name:ByteArray
 rows:List ER
 ad:Option Addr
 cap:Nat
abbrev Q07:=List RR
def RR.p(r:RR):Rl:=⟨r.name,ak r.rows⟩
def RR.val(r:RR):Value:=.agg #[.string r.name,.slice r.ad r.rows.length r.cap]
def RR.ok(w:World)(r:RR):Prop:=ik w r.ad r.rows
def RR.fits(r:RR):Prop:=r.name.size<=maxLen/\r.rows.length<=maxLen/\∀q∈r.rows,q.e.fits
def RR.light(r:RR):Prop:=r.rows.length<=1048576/\∀q∈r.rows,q.e.light
def RR.caps(r:RR):Prop:=r.rows.length<=r.cap/\∀q∈r.rows,q.e.allow.length<=q.capA
def RR.new(B:Nat)(r:RR):Prop:=(∃g:Nat,r.ad=some ⟨g,0,none⟩/\B<g)/\∀q∈r.rows,q.new B
theorem RR.ok.below{w w':af}{r:RR}(h:r.ok w)(hB:ae w w'):r.ok w':=ik.below h hB
def AtR(w:World)(b off:Nat)(r:RR):Prop:=w.cell? ⟨b,off,none⟩=some (.string r.name)/\w.cell? ⟨b,off+1,none⟩=some (.slice r.ad r.rows.length r.cap)
theorem AtR.same{w w':af}{b off:Nat}{r:RR}(h:AtR w b off r)(hc:∀o,w'.cell? ⟨b,o,none⟩=w.cell? ⟨b,o,none⟩):AtR w' b off r:=⟨(hc _).trans h.1,(hc _).trans h.2⟩
theorem AtR.later{w w':af}{b off:Nat}{r:RR}(h:AtR w b off r)(hb:b<w.heap.size)(hB:ae w w'):AtR w' b off r:=h.same fun o=>hB.cell (p:=⟨b,o,none⟩) hb
def Od(w:World)(ad:Q02)(rs:Q07):Prop:=rs=[] \/ ∃b off,ad=some ⟨b,off,none⟩/\b<w.heap.size/\(∀(i:Nat) (h:i<rs.length),AtR w b (off+i*2) rs[i])/\∀r∈rs,r.ok w
theorem Od.below{w w':af}{ad:Q02}{rs:Q07}(h:Od w ad rs)(hB:ae w w'):Od w' ad rs:=by
 rcases h with h|⟨b,off,e,hb,hr,hk⟩
 ·exact .inl h
 exact .inr ⟨b,off,e,U9 hb hB.size,fun i hi=>(hr i hi).same fun o=>hB.cell (p:=⟨b,o,none⟩) hb,fun r hr=>(hk r hr).below hB⟩
def eT(rs:Q07):List Rl:=rs.map RR.p
theorem rQ(rs:Q07):(eT rs).length=rs.length:=by simp[eT]
theorem RR.ok.set{w:af}{r:RR}{g o:Nat}{v:Value}(h:r.ok w)(hn:r.new g):r.ok (w.setCell ⟨g,o,none⟩ v):=by
 obtain⟨⟨gE,e1,h1⟩,h2⟩:=hn;rcases h with h|⟨b,off,e,hb,hr,hk⟩
 ·exact .inl h
 refine .inr ⟨b,off,e,by simpa using hb,fun i hi=>(hr i hi).same fun o=>yh ?_,fun q hq=>(hk q hq).set (h2 q hq)⟩;rw[e1]at e;injection e with e;injection e with e3 e4;omega
theorem RR.new.mono{B B':Nat}{r:RR}(h:r.new B)(hB:B'<=B):r.new B':=by
 obtain⟨⟨g,e,hg⟩,h2⟩:=h;exact⟨⟨g,e,by omega⟩,fun q hq=>(h2 q hq).mono hB⟩
structure Ty where
 name:ByteArray
 rels:List Rl
abbrev Q0b:=List Ty
structure TR where
 name:ByteArray
 rows:List RR
 ad:Option Addr
 cap:Nat
abbrev Q06:=List TR
def TR.p(r:TR):Ty:=⟨r.name,eT r.rows⟩
def TR.val(r:TR):Value:=.agg #[.string r.name,.slice r.ad r.rows.length r.cap]
def TR.ok(w:World)(r:TR):Prop:=Od w r.ad r.rows
def TR.fits(r:TR):Prop:=r.name.size<=maxLen/\r.rows.length<=maxLen/\∀q∈r.rows,q.fits
def TR.light(r:TR):Prop:=r.rows.length<=1048576/\∀q∈r.rows,q.light
def TR.caps(r:TR):Prop:=r.rows.length<=r.cap/\∀q∈r.rows,q.caps
def TR.new(B:Nat)(r:TR):Prop:=(∃g:Nat,r.ad=some ⟨g,0,none⟩/\B<g)/\∀q∈r.rows,q.new B
theorem TR.ok.below{w w':af}{r:TR}(h:r.ok w)(hB:ae w w'):r.ok w':=Od.below h hB
def Tw(w:World)(b off:Nat)(r:TR):Prop:=w.cell? ⟨b,off,none⟩=some (.string r.name)/\w.cell? ⟨b,off+1,none⟩=some (.slice r.ad r.rows.length r.cap)
theorem Tw.same{w w':af}{b off:Nat}{r:TR}(h:Tw w b off r)(hc:∀o,w'.cell? ⟨b,o,none⟩=w.cell? ⟨b,o,none⟩):Tw w' b off r:=⟨(hc _).trans h.1,(hc _).trans h.2⟩
theorem Tw.later{w w':af}{b off:Nat}{r:TR}(h:Tw w b off r)(hb:b<w.heap.size)(hB:ae w w'):Tw w' b off r:=h.same fun o=>hB.cell (p:=⟨b,o,none⟩) hb
def j5(w:World)(ad:Q02)(rs:Q06):Prop:=rs=[] \/ ∃b off,ad=some ⟨b,off,none⟩/\b<w.heap.size/\(∀(i:Nat) (h:i<rs.length),Tw w b (off+i*2) rs[i])/\∀r∈rs,r.ok w
theorem j5.below{w w':af}{ad:Q02}{rs:Q06}(h:j5 w ad rs)(hB:ae w w'):j5 w' ad rs:=by
 rcases h with h|⟨b,off,e,hb,hr,hk⟩
 ·exact .inl h
 exact .inr ⟨b,off,e,U9 hb hB.size,fun i hi=>(hr i hi).same fun o=>hB.cell (p:=⟨b,o,none⟩) hb,fun r hr=>(hk r hr).below hB⟩
def ag(rs:Q06):List Ty:=rs.map TR.p
theorem lN(rs:Q06):(ag rs).length=rs.length:=by simp[ag]
theorem TR.ok.set{w:af}{r:TR}{g o:Nat}{v:Value}(h:r.ok w)(hn:r.new g):r.ok (w.setCell ⟨g,o,none⟩ v):=by
 obtain⟨⟨gE,e1,h1⟩,h2⟩:=hn;rcases h with h|⟨b,off,e,hb,hr,hk⟩
 ·exact .inl h
 refine .inr ⟨b,off,e,by simpa using hb,fun i hi=>(hr i hi).same fun o=>yh ?_,fun q hq=>(hk q hq).set (h2 q hq)⟩;rw[e1]at e;injection e with e;injection e with e3 e4;omega
theorem TR.new.mono{B B':Nat}{r:TR}(h:r.new B)(hB:B'<=B):r.new B':=by
 obtain⟨⟨g,e,hg⟩,h2⟩:=h;exact⟨⟨g,e,by omega⟩,fun q hq=>(h2 q hq).mono hB⟩
theorem lh{P:Program}{ops:Array Oper}{Q:Exit->Act->World->Prop}{k:Nat}{o:Oper}{K:Act->World->Prop}{a:Act}(w:af)(hop:ops[k]?=some o)(hgd:o.guard=none)(s x:Operand)(t:TypeId)
  (ho:o.op=.call { callee:=.builtin .append,args:=#[s,x],argTypes:=#[t,t] })
  (base:Nat) (e:TypeId) (i:TypeInfo) (z:Value) (size bytes:Nat) (ht:P.underlying t=some (.slice e)) (hi:P.info? e=some i) (hz:i.zero=some z)
  (hsize:i.size=size) (hby:i.bytes=bytes) (hzs:z.cells.size=size) (hsz:0<size)
  (v:Value) (n:Nat) (xs:Q03) (hs:a.eval s=v) (hown:w.ownsRow base e size v n xs)
  (ad:Addr) (m c:Nat) (news:Q03) (hx:a.eval x=.slice (some ad) m c) (hl:news.length=m*size) (hnews:∀j u,news[j]?=some u->w.cell? (ad.add j)=some u) (h1:∀u∈news,u.oneCell'=true)
  (h63:n+m<=maxLen) (hbytes:(n+m)*bytes<=140737488355328) (hbase:base<=w.heap.size)
  (h:∀v' w',w'.ownsRow base e size v' (n+m) (xs++news)->w.grownBy w' v.ownBlock->(v'.ownBlock=v.ownBlock\/v'.ownBlock=some w.heap.size)->K (a.put o.dst v') w') :
  wpOp P ops Q k K a w:=by
 refine wpOp_step hop (fun K' hK=>?_);have hw:Region.wanted o (yielded ops a.tmps)=true:=by simp[Region.wanted,hgd]
 rw[if_pos hw];obtain⟨v',w',hr,h2,h3,h4,h5⟩:=run_append_own_at (P:=P) w base t o.type e i z size bytes ht hi hz hsize hby hzs hsz v n xs hown ad m c news hl hnews h1 h63 hbytes hbase;unfold Oper.wp execOp;simp only[ho,resolve,invoke,builtin,Sem.run_bind,Sem.run_pure,Result.andThen_ok,List.map_toArray,Wn,List.map_nil,hs,hx,hr];exact hK _ _ (h v' w' h2 h3 h5)
structure Aside(w:World)(v:Value)(w':World)(v':Value):Prop where
 size:w.heap.size<=w'.heap.size
 block:∀k,k<w.heap.size->v.ownBlock≠some k->w'.heap[k]?=w.heap[k]?
 own:v'.ownBlock=v.ownBlock \/ ∃g,v'.ownBlock=some g/\w.heap.size<=g
theorem Aside.refl(w:af)(v:Value):Aside w v w v:=⟨Va _,fun _ _ _=>rfl,.inl rfl⟩
theorem Aside.apart{w w':af}{v v':Value}{k:Nat}(h:Aside w v w' v')(hk:k<w.heap.size)(hv:v.ownBlock≠some k):v'.ownBlock≠some k:=by
 rcases h.own with e|⟨g,e,hg⟩
 ·rw[e];exact hv
 rw[e];intro h2;injection h2 with h2;omega
theorem Aside.trans{w w1 w2:af}{v v1 v2:Value}(h:Aside w v w1 v1)(h2:Aside w1 v1 w2 v2):Aside w v w2 v2 where
 size:=Vj h.size h2.size
 block k hk hv:=(h2.block k (U9 hk h.size) (h.apart hk hv)).trans (h.block k hk hv)
 own:=by
  rcases h2.own with e|⟨g,e,hg⟩
  ·rw[e];exact h.own
  exact .inr ⟨g,e,Vj h.size hg⟩
theorem Aside.below{w w':af}{v:Value}(h:ae w w'):Aside w v w' v:=⟨h.size,fun k hk _=>h.block k hk,.inl rfl⟩
theorem Aside.app{w w':af}{v v':Value}(hg:w.grownBy w' v.ownBlock)(h5:v'.ownBlock=v.ownBlock\/v'.ownBlock=some w.heap.size):Aside w v w' v' where
 size:=hg.size
 block k hk hv:=hg.block k hk (fun e=>hv e.symm)
 own:=by
  rcases h5 with e|e
  ·exact .inl e
  exact .inr ⟨_,e,Va _⟩
theorem Aside.cell{w w':af}{v v':Value}(h:Aside w v w' v'){p:Addr}(hp:p.block<w.heap.size)(hv:v.ownBlock≠some p.block):w'.cell? p=w.cell? p:=Vx (w:=w) (h.block p.block hp hv)
def jX:List Rl->ByteArray->Option (List Ex)
 | [],_=>none
 | r::rs,n=>if r.name.toList==n.toList then some r.expr else jX rs n
def eD:List Ty->ByteArray->ByteArray->Option (List Ex)
 | [],_,_=>none
 | t::ts,ty,n=>if t.name.toList==ty.toList then (jX t.rels n).or (eD ts ty n) else eD ts ty n
def lQ:List Ty->ByteArray->Bool
 | [],_=>false
 | t::ts,ty=>(t.name.toList==ty.toList) || lQ ts ty
theorem nX(rs:Q06)(k:Nat)(h:k<rs.length):ag (rs.drop k)=⟨rs[k].name,eT rs[k].rows⟩::ag (rs.drop (k+1)):=by
 rw[VG h];rfl
theorem Gc(rs:Q07)(k:Nat)(h:k<rs.length):eT (rs.drop k)=⟨rs[k].name,ak rs[k].rows⟩::eT (rs.drop (k+1)):=by
 rw[VG h];rfl
theorem IZ(ad:Q02)(cap:Nat)(rs:Q06)(typ:bW)(w:af)(hlen:rs.length<=1048576)(hs:j5 w ad rs):
  Calls prog 192 #[.slice ad rs.length cap,.string typ] w fun e w'=>e=.returned (.bool (lQ (ag rs) typ))/\w'=w:=by
 go_enter func192,ntmps192;go_wp2;go_loopw[5] (fun i wr=>∃k:Nat,k<=rs.length/\i=.int .i64 k/\Hid (lQ (ag (rs.drop k)) typ=lQ (ag rs) typ)/\wr=w) (fun i _=>rs.length-(intOf i).toNat);case atStart=>exact⟨0,Vf _,rfl,rfl,rfl⟩
 obtain⟨k,hk,rfl,HP,rfl⟩:=hrel;by_cases hlt:k<rs.length
 ·rcases hs with rfl|⟨b,off,rfl,hb,hr,hok⟩
  ·simp at hlt
  obtain⟨t0,t1⟩:=hr k hlt;have hk1:=bC k;have hk2:(k:Int)<(rs.length:Int):=by omega
  clear hr hok;cases hq:(rs[k].name.toList==typ.toList);case true=>
   have HN:Hid (lQ (ag rs) typ=true):=by show _=_;rw[<-HP.out,nX _ _ hlt];simp[lQ,hq]
   go_wp2;go_ret;exact⟨by rw[HN.out];rfl,rfl⟩
  have WB:Hid (lQ (ag (rs.drop (k+1))) typ=lQ (ag rs) typ):=by show _=_;rw[<-HP.out,nX _ _ hlt];simp[lQ,hq]
  go_wp2;go_roundw;case rel=>exact⟨k+1,by omega,by go_num,WB,by first|rfl|trivial⟩
  simp[intOf]<;>omega
 have HN:Hid (lQ (ag rs) typ=false):=by show _=_;rw[<-HP.out,Vt (by omega)];rfl
 go_wp2;go_ret;exact⟨by rw[HN.out];rfl,rfl⟩
def nY(rs:Q06)(ad:Q02)(rows:Q08):Prop:=rows=[] \/ ∃t∈rs,∃q∈t.rows,rows=q.rows/\ad=q.ad
theorem Od.mem{w:af}{ad:Q02}{rs:Q07}(h:Od w ad rs){q:RR}(hq:q∈rs):q.ok w:=by
 rcases h with rfl|⟨b,off,e,hb,hr,hk⟩
 ·cases hq
 exact hk q hq
theorem j5.mem{w:af}{ad:Q02}{rs:Q06}(h:j5 w ad rs){q:TR}(hq:q∈rs):q.ok w:=by
 rcases h with rfl|⟨b,off,e,hb,hr,hk⟩
 ·cases hq
 exact hk q hq
theorem nY.sl{rs:Q06}{ad ad0:Q02}{rows:Q08}{w:af}(h:nY rs ad rows)(hs:j5 w ad0 rs):ik w ad rows:=by
 rcases h with rfl|⟨t,ht,q,hq,rfl,rfl⟩
 ·exact .inl rfl
 exact Od.mem (hs.mem ht) hq
theorem iM(ad:Q02)(cap:Nat)(rs:Q06)(typ rel:bW)(w:af)(hlen:rs.length<=1048576)(hs:j5 w ad rs)(hl:∀r∈rs,r.light):
  Calls prog 97 #[.slice ad rs.length cap,.string typ,.string rel] w fun e w'=>(∃(rows:Q08) (Wv:Q02) (cap':Nat),e=.returned (.slice Wv rows.length cap')/\ak rows=(eD (ag rs) typ rel).getD []/\ik w Wv rows/\nY rs Wv rows)/\w'=w:=by
 have HS:=aD hs;have HL:=aD hl;clear hs hl;go_enter func97,ntmps97;go_wp2;go_loopw[7] (fun i wr=>∃k:Nat,k<=rs.length/\i=.int .i64 k/\Hid (eD (ag (rs.drop k)) typ rel=eD (ag rs) typ rel)/\wr=w) (fun i _=>rs.length-(intOf i).toNat);case atStart=>exact⟨0,Vf _,rfl,rfl,rfl⟩
 obtain⟨k,hk,rfl,HP,rfl⟩:=hrel;by_cases hlt:k<rs.length
 ·rcases HS.out with rfl|⟨b,off,rfl,hb,hr,hok⟩
  ·simp at hlt
  obtain⟨t0,t1⟩:=hr k hlt;have ok:=hok rs[k] (U8 hlt);have lg:=(HL.out rs[k] (U8 hlt)).1;have X0:=aD ok;have hk1:=bC k;have hk2:(k:Int)<(rs.length:Int):=by omega
  clear hr hok ok;cases hq:(rs[k].name.toList==typ.toList);case false=>
   have WB:Hid (eD (ag (rs.drop (k+1))) typ rel=eD (ag rs) typ rel):=by show _=_;rw[<-HP.out,nX _ _ hlt];simp[eD,hq]
   go_wp2_with fail;go_loopw[8] (fun i w2=>i=.int .i64 0/\w2=wr) (fun i _=>(intOf i).toNat);case atStart=>exact⟨rfl,rfl⟩
   obtain⟨rfl,rfl⟩:=hrel;go_wp2;go_roundw;case rel=>exact⟨k+1,by omega,by go_num,WB,by first|rfl|trivial⟩
   simp[intOf]<;>omega
  go_wp2_with fail;go_loopw[8] (fun i w2=>∃j:Nat,j<=rs[k].rows.length/\i=.int .i64 j/\Hid (jX (eT (rs[k].rows.drop j)) rel=jX (eT rs[k].rows) rel)/\w2=wr) (fun i _=>rs[k].rows.length-(intOf i).toNat);case atStart=>exact⟨0,Vf _,rfl,rfl,rfl⟩
  obtain⟨j,hj,rfl,HI,rfl⟩:=hrel;by_cases hjl:j<rs[k].rows.length
  ·rcases X0.out with hnil|⟨b2,WW,had,hb2,hr2,hok2⟩
   ·rw[hnil]at hjl;simp at hjl
   have t1':=t1;rw[had]at t1';obtain⟨q0,q1⟩:=hr2 j hjl;have HOQ:Hid (rs[k].rows[j].ok _):=hok2 rs[k].rows[j] (U8 hjl);have hj1:=bC j;have hj2:(j:Int)<(rs[k].rows.length:Int):=by omega
   clear hr2 hok2 had t1;cases hn:(rs[k].rows[j].name.toList==rel.toList);case true=>
    have HN:Hid (ak rs[k].rows[j].rows=(eD (ag rs) typ rel).getD []):=by
     have h1:jX (eT rs[k].rows) rel=some (ak rs[k].rows[j].rows):=by rw[<-HI.out,Gc _ _ hjl];simp[jX,hn]
     show _=_;rw[<-HP.out,nX _ _ hlt];simp[eD,hq,h1]
    have HFS:Hid (nY rs rs[k].rows[j].ad rs[k].rows[j].rows):=.inr ⟨rs[k],U8 hlt,rs[k].rows[j],U8 hjl,rfl,rfl⟩;go_wp2;go_ret;exact⟨⟨rs[k].rows[j].rows,_,_,rfl,HN.out,HOQ.out,HFS.out⟩,rfl⟩
   have HI2:Hid (jX (eT (rs[k].rows.drop (j+1))) rel=jX (eT rs[k].rows) rel):=by show _=_;rw[<-HI.out,Gc _ _ hjl];simp[jX,hn]
   go_wp2;go_roundw;case rel=>exact⟨j+1,by omega,by go_num,HI2,by first|rfl|trivial⟩
   simp[intOf]<;>omega
  have WB:Hid (eD (ag (rs.drop (k+1))) typ rel=eD (ag rs) typ rel):=by
   have h1:jX (eT rs[k].rows) rel=none:=by rw[<-HI.out,Vt (by omega)];rfl
   show _=_;rw[<-HP.out,nX _ _ hlt];simp[eD,hq,h1]
  go_wp2;go_roundw;case rel=>exact⟨k+1,by omega,by go_num,WB,by first|rfl|trivial⟩
  simp[intOf]<;>omega
 have HN:Hid (ak []=(eD (ag rs) typ rel).getD []):=by show _=_;rw[<-HP.out,Vt (by omega)];rfl
 go_wp2;go_ret;exact⟨⟨[],none,0,rfl,HN.out,.inl rfl,.inl rfl⟩,rfl⟩
def aY:List Ex->List Al
 | []=>[]
 | e::es=>if e.kind=1 then e.allow else aY es
theorem gW(rs:Q08)(k:Nat)(h:k<rs.length):ak (rs.drop k)=rs[k].e::ak (rs.drop (k+1)):=by
 rw[VG h];rfl
def Oe(rs:Q08)(ad:Q02)(xs:Q0a):Prop:=xs=[] \/ ∃r∈rs,xs=r.e.allow/\ad=r.adA
theorem ik.mem{w:af}{ad:Q02}{rs:Q08}(h:ik w ad rs){q:ER}(hq:q∈rs):q.ok w:=by
 rcases h with rfl|⟨b,off,e,hb,hr,hk⟩
 ·cases hq
 exact hk q hq
theorem Oe.sl{rs:Q08}{ad ad0:Q02}{xs:Q0a}{w:af}(h:Oe rs ad xs)(hs:ik w ad0 rs):lK w ad xs:=by
 rcases h with rfl|⟨r,hr,rfl,rfl⟩
 ·exact .inl rfl
 exact(hs.mem hr).1
theorem yj(ad:Q02)(cap:Nat)(rs:Q08)(w:af)(hlen:rs.length<=1048576)(hs:ik w ad rs):
  Calls prog 138 #[.slice ad rs.length cap] w fun e w'=>(∃(Wv:Q02) (cap':Nat),e=.returned (.slice Wv (aY (ak rs)).length cap')/\lK w Wv (aY (ak rs))/\Oe rs Wv (aY (ak rs)))/\w'=w:=by
 have HS:=aD hs;clear hs;go_enter func138,ntmps138;go_wp2;go_loopw[3] (fun i wr=>∃k:Nat,k<=rs.length/\i=.int .i64 k/\Hid (aY (ak (rs.drop k))=aY (ak rs))/\wr=w) (fun i _=>rs.length-(intOf i).toNat);case atStart=>exact⟨0,Vf _,rfl,rfl,rfl⟩
 obtain⟨k,hk,rfl,HP,rfl⟩:=hrel;by_cases hlt:k<rs.length
 ·rcases HS.out with rfl|⟨b,off,rfl,hb,hr,hok⟩
  ·simp at hlt
  obtain⟨t0,t1,t2,t3,t4⟩:=hr k hlt;have X0:Hid (rs[k].ok _):=hok rs[k] (U8 hlt);have hk1:=bC k;have hk2:(k:Int)<(rs.length:Int):=by omega
  clear hr hok;by_cases hq:rs[k].e.kind=1
  ·have HN:Hid (aY (ak rs)=rs[k].e.allow):=by show _=_;rw[<-HP.out,gW _ _ hlt];simp[aY,hq]
   go_wp2;go_ret;exact⟨⟨rs[k].adA,rs[k].capA,by rw[HN.out];rfl,by rw[HN.out];exact X0.out.1,.inr ⟨rs[k],U8 hlt,HN.out,rfl⟩⟩,rfl⟩
  have WB:Hid (aY (ak (rs.drop (k+1)))=aY (ak rs)):=by show _=_;rw[<-HP.out,gW _ _ hlt];simp[aY,hq]
  have hqb:(rs[k].e.kind==1)=false:=by simpa using hq
  go_wp2;go_roundw;case rel=>exact⟨k+1,by omega,by go_num,WB,by first|rfl|trivial⟩
  simp[intOf]<;>omega
 have HN:Hid (aY (ak rs)=[]):=by show _=_;rw[<-HP.out,Vt (by omega)];rfl
 go_wp2;go_ret;exact⟨⟨none,0,by rw[HN.out];rfl,by rw[HN.out];exact .inl rfl,.inl HN.out⟩,rfl⟩
def bH:List Ex->Bool
 | [e]=>decide (e.kind=1)&&e.allow.all fun a=>a.s.toList.isEmpty
 | _=>false
def zJ(xs:Q0a)(k:Nat):Bool:=(xs.take k).all fun a=>a.s.toList.isEmpty
theorem I1(xs:Q0a)(k:Nat)(h:k<xs.length):zJ xs (k+1)=(zJ xs k&&xs[k].s.toList.isEmpty):=by
 unfold zJ;rw[Ve h,Wl];simp
theorem LM(xs:Q0a)(k:Nat)(h:k<xs.length)(hb:xs[k].s.toList.isEmpty=false):(xs.all fun a=>a.s.toList.isEmpty)=false:=by
 rw[Bool.eq_false_iff];intro h2;rw[Vm]at h2;have:=h2 xs[k] (U8 h);rw[hb]at this;cases this
theorem EG(ad:Q02)(cap:Nat)(rs:Q08)(w:af)(hlen:rs.length<=1048576)(hs:ik w ad rs)(hl:∀r∈rs,r.e.light):
  Calls prog 193 #[.slice ad rs.length cap] w fun e w'=>e=.returned (.bool (bH (ak rs)))/\w'=w:=by
 by_cases h1:rs.length=1
 ·obtain⟨r,rfl⟩:∃r,rs=[r]:=List.length_eq_one_iff.1 h1;rcases hs with h|⟨b,off,rfl,hb,hr,hok⟩
  ·cases h
  obtain⟨t0,t1,t2,t3,t4⟩:=hr 0 (by simp);simp only[Nat.zero_mul,Nat.add_zero,List.getElem_cons_zero]at t0 t1 t2 t3 t4;have X0:Hid (r.ok w):=hok r (by simp);obtain⟨lg,-⟩:=hl r (by simp);clear hr hok h1;simp only[VI,Wj,VC];by_cases hq:r.e.kind=1
  ·have HD:Hid (bH (ak [r])=r.e.allow.all fun a=>a.s.toList.isEmpty):=by show _=_;simp[bH,ak,hq]
   go_enter func193,ntmps193;go_wp2;go_loopw[3] (fun i wr=>∃k:Nat,k<=r.e.allow.length/\i=.int .i64 k/\Hid (zJ r.e.allow k=true)/\wr=w) (fun i _=>r.e.allow.length-(intOf i).toNat);case atStart=>exact⟨0,Vf _,rfl,(by show _=_;simp[zJ]),rfl⟩
   obtain⟨k,hk,rfl,HP,rfl⟩:=hrel;by_cases hlt:k<r.e.allow.length
   ·rcases X0.out.1 with hnil|⟨ba,Yz,YA,hba,hra⟩
    ·rw[hnil]at hlt;simp at hlt
    have t1':=t1;rw[YA]at t1';obtain⟨q0,q1⟩:=hra k hlt;have hk1:=bC k;have hk2:(k:Int)<(r.e.allow.length:Int):=by omega
    clear hra YA t1;cases he:r.e.allow[k].s.toList.isEmpty;case true=>
     have WB:Hid (zJ r.e.allow (k+1)=true):=by show _=_;rw[I1 _ _ hlt,HP.out,he];rfl
     go_wp2;go_roundw;case rel=>exact⟨k+1,by omega,by go_num,WB,by first|rfl|trivial⟩
     simp[intOf]<;>omega
    have HN:Hid (bH (ak [r])=false):=by show _=_;rw[HD.out];exact LM _ k hlt he
    go_wp2;go_ret;exact⟨by rw[HN.out];rfl,rfl⟩
   have HN:Hid (bH (ak [r])=true):=by
    show _=_;rw[HD.out];have:=HP.out;unfold zJ at this;rwa [VE (by omega)]at this
   go_wp2;go_ret;exact⟨by rw[HN.out];rfl,rfl⟩
  have HN:Hid (bH (ak [r])=false):=by show _=_;simp[bH,ak,hq]
  have hqb:(r.e.kind != 1)=true:=by simpa using hq
  go_enter func193,ntmps193;go_wp2;go_ret;exact⟨by rw[HN.out];rfl,rfl⟩
 have HN:Hid (bH (ak rs)=false):=by
  show _=_
  match rs,h1 with
  | [],_=>rfl
  | [r],h=>exact absurd rfl h
  | a::b::r,_=>rfl
 have h1':((rs.length:Int) != 1)=true:=by simp;omega
 go_enter func193,ntmps193;go_wp2;go_ret;exact⟨by rw[HN.out];rfl,rfl⟩
def aB(ts:Q0b)(ty n:ByteArray):List Ex:=(eD ts ty n).getD []
def gl(ts:Q0b)(rel:ByteArray):List Al->List ByteArray
 | []=>[]
 | a::xs=>if (aB ts a.t rel).isEmpty then gl ts rel xs else a.t::gl ts rel xs
def iC(ts:Q0b)(ty over rel:ByteArray):List ByteArray:=gl ts rel (aY (aB ts ty over))
theorem CZ(ts:Q0b)(rel:bW)(xs ys:Q0a):gl ts rel (xs++ys)=gl ts rel xs++gl ts rel ys:=by
 induction xs with
 | nil=>rfl
 | cons a xs ih=>simp only[VS,gl,ih];split<;>simp
theorem SN(ts:Q0b)(rel:bW)(xs:Q0a)(k:Nat)(h:k<xs.length)(he:aB ts xs[k].t rel=[]):gl ts rel (xs.take (k+1))=gl ts rel (xs.take k):=by
 rw[Ve h,CZ];simp[gl,he]
theorem Og(ts:Q0b)(rel:bW)(xs:Q0a)(k:Nat)(h:k<xs.length)(he:aB ts xs[k].t rel≠[]):gl ts rel (xs.take (k+1))=gl ts rel (xs.take k)++[xs[k].t]:=by
 rw[Ve h,CZ];simp[gl,he]
theorem I4(ts:Q0b)(rel:bW)(xs:Q0a):(gl ts rel xs).length<=xs.length:=by
 induction xs with
 | nil=>simp[gl]
 | cons a xs ih=>simp only[gl];split<;>simp<;>omega
theorem LP:(prog.info? 9).map (fun i=>(i.zero,i.size,i.bytes))=some (some (.string ⟨#[]⟩),1,16):=by kernel_rfl
def qB(xs:List ByteArray):List Value:=xs.map Value.string
def Tx(w:World)(ad:Q02)(xs:List ByteArray):Prop:=xs=[] \/ ∃b off,ad=some ⟨b,off,none⟩/\b<w.heap.size/\∀(i:Nat) (h:i<xs.length),w.cell? ⟨b,off+i,none⟩=some (.string xs[i])
theorem Tx.below{w w':af}{ad:Q02}{xs:List ByteArray}(h:Tx w ad xs)(hB:ae w w'):Tx w' ad xs:=by
 rcases h with h|⟨b,off,e,hb,hr⟩
 ·exact .inl h
 exact .inr ⟨b,off,e,U9 hb hB.size,fun i hi=>(hB.cell (p:=⟨b,off+i,none⟩) hb).trans (hr i hi)⟩
theorem Oh{w:af}{base k:Nat}{v:Value}{xs:List ByteArray}(h:w.ownsRow base 9 1 v k (qB xs)):∃ad cp,v=.slice ad xs.length cp/\Tx w ad xs/\∀p,ad=some p->base<=p.block:=by
 have hl:xs.length=k:=by have:=h.1;simpa[qB] using this
 have h2:=h;rcases h.2 with⟨rfl,h0⟩|⟨g,cp,cur,rfl,hbg,hg,hnc,-⟩
 ·refine⟨none,0,?_,.inl (Vr.1 (by omega)),fun p hp=>by cases hp⟩;rw[hl,h0]
 have hlt:=h2.lt g rfl;refine⟨_,cp,by rw[hl],.inr ⟨g,0,rfl,hlt.2,fun j hj=>?_⟩,fun p hp=>by injection hp with hp;rw[<-hp];exact hlt.1⟩;have:=h2.cells (g:=g) rfl j (.string xs[j]) (by simp[qB,hj]);rw[VC];have e:(⟨g,0,none⟩:Addr).add j=⟨g,j,none⟩:=by
  unfold Addr.add;by_cases hj:j=0
  ·subst hj;simp
  simp[hj]
 rwa [e]at this
theorem nY.light{rs:Q06}{ad:Q02}{rows:Q08}(h:nY rs ad rows)(hl:∀r∈rs,r.light):rows.length<=1048576/\∀q∈rows,q.e.light:=by
 rcases h with rfl|⟨t,ht,q,hq,rfl,-⟩
 ·exact⟨by simp,by simp⟩
 exact(hl t ht).2 q hq
theorem zL(rows:Q08)(hl:∀q∈rows,q.e.light):(aY (ak rows)).length<=1048576:=by
 induction rows with
 | nil=>simp[ak,aY]
 | cons r rows ih =>
  have e:ak (r::rows)=r.e::ak rows:=rfl;rw[e];simp only[aY];split
  ·exact(hl r (by simp)).1
  exact ih fun q hq=>hl q (by simp[hq])
set_option maxRecDepth 100000 in
theorem ym(ad:Q02)(cap:Nat)(rs:Q06)(typ over rel:bW)(w:af)(hlen:rs.length<=1048576)(hs:j5 w ad rs)(hl:∀r∈rs,r.light):
  Calls prog 194 #[.slice ad rs.length cap,.string typ,.string over,.string rel] w fun e w'=>(∃(Wv:Q02) (cap':Nat),e=.returned (.slice Wv (iC (ag rs) typ over rel).length cap')/\Tx w' Wv (iC (ag rs) typ over rel)/\∀p,Wv=some p->w.heap.size<=p.block)/\ae w w':=by
 have HS:=aD hs;have HL:=aD hl;clear hs hl;obtain⟨i0,hi,hz0,hz1,hz2⟩:=info_parts LP;go_enter func194,ntmps194;go_wp2_with fail;have hbA:ae w (w.alloc (.cells #[] 9)):=(Vb _ _).alloc (Va _) _;have hown1:(w.alloc (.cells #[] 9)).ownsRow w.heap.size 9 1 (.slice (some ⟨w.heap.size,0,none⟩) 0 0) 0 []:=World.ownsRow_made w #[] 0 (Va _) (by decide) rfl;refine(iM ad cap rs typ over _ hlen (HS.out.below hbA) HL.out).mono ?_;rintro e w1 ⟨⟨rows,ad1,cap1,rfl,hx1,hs1,hf1⟩,rfl⟩;have hl1:=hf1.light HL.out;have hal:=zL rows hl1.2;go_wp2_with fail;refine(yj ad1 cap1 rows _ hl1.1 hs1).mono ?_;rintro e w1 ⟨⟨ad2,cap2,rfl,-,hf2⟩,rfl⟩;have HG:Hid (iC (ag rs) typ over rel=gl (ag rs) rel (aY (ak rows))):=by show _=_;rw[hx1];rfl
 have HA:Hid (lK w ad2 (aY (ak rows))):=hf2.sl (hf1.sl HS.out);generalize aY (ak rows)=xs at *
 clear hs1 hx1 hf1 hl1 hf2;have HBA:=aD hbA;have WK:=aD hown1;clear hbA hown1;obtain⟨wA,hwA⟩:∃wA,wA=w.alloc (.cells #[] 9):=⟨_,rfl⟩;rw[<-hwA]at HBA WK ⊢;clear hwA;go_wp2_with fail;go_loopw[9,11] (fun v i wr=>∃k:Nat,k<=xs.length/\i=.int .i64 k/\wr.ownsRow w.heap.size 9 1 v (gl (ag rs) rel (xs.take k)).length (qB (gl (ag rs) rel (xs.take k)))/\ae w wr) (fun _ i _=>xs.length-(intOf i).toNat);case atStart=>exact⟨0,Vf _,rfl,by simpa[qB,gl] using WK.out,HBA.out⟩
 obtain⟨k,hk,rfl,hown,hB⟩:=hrel;by_cases hlt:k<xs.length
 ·have HST:Hid (j5 _ ad rs):=HS.out.below hB;rcases HA.out.below hB with rfl|⟨b,off,rfl,hb,hr⟩
  ·simp at hlt
  obtain⟨t0,t1⟩:=hr k hlt;have hBs:=hB.size;have hgl:=I4 (ag rs) rel (xs.take k);rw[Vz]at hgl;have HBH:=aD hB;have HOW:Hid (wr.ownsRow w.heap.size 9 1 _ _ _):=hown;clear hr hB hown;go_wp2_with fail;refine(iM ad cap rs xs[k].t rel _ hlen HST.out HL.out).mono ?_;rintro e w1 ⟨⟨XJ,ad3,cap3,rfl,hx3,-,-⟩,rfl⟩;by_cases hz:XJ.length=0
  ·have HE:Hid (gl (ag rs) rel (xs.take (k+1))=gl (ag rs) rel (xs.take k)):=by
    refine SN _ _ _ _ hlt ?_;show _=_;unfold aB;rw[<-hx3,Vr.1 hz];rfl
   rw[hz];clear hx3;go_wp2;go_roundw;case rel=>exact⟨k+1,by omega,by go_num,by rw[HE.out];exact HOW.out,HBH.out⟩
   simp[intOf]<;>omega
  have HX:Hid (gl (ag rs) rel (xs.take (k+1))=gl (ag rs) rel (xs.take k)++[xs[k].t]):=by
   refine Og _ _ _ _ hlt ?_;show ¬_=_;unfold aB;rw[<-hx3];intro h2;apply hz;rw[<-aR,h2];rfl
  have hzz:(0:Int)<(XJ.length:Int):=by omega
  clear hx3;go_wp2_with(at_builtin;refine wpList_append_own _ rfl _ _ 142 rfl w.heap.size 9 i0 (.string ⟨#[]⟩) 1 16 underlying142 hi hz0 hz1 hz2 rfl (by decide) _ _ _ rfl (HOW.out.alloc _) ⟨w1.heap.size,0,none⟩ 1 1 [.string xs[k].t] rfl rfl (cell_one_new _ _ _) (by intro u hu;simp at hu;subst hu;rfl) (by unfold maxLen;omega) (by omega) (by simp;omega) ?_);intro v' w3 hown3 hgrow _;have hb3:ae w w3:=(HBH.out.alloc HBH.out.size _).grown hgrow (by simp;omega) (fun i hi=>(HOW.out.lt i hi).1);have WO:Hid (w3.ownsRow w.heap.size 9 1 v' (gl (ag rs) rel (xs.take (k+1))).length (qB (gl (ag rs) rel (xs.take (k+1))))):=by
   show World.ownsRow _ _ _ _ _ _ _;rw[HX.out];simpa[qB] using hown3
  clear hown3 hgrow HOW;go_wp2;go_roundw;case rel=>exact⟨k+1,by omega,by go_num,WO.out,hb3⟩
  simp[intOf]<;>omega
 obtain rfl:k=xs.length:=by omega
 have HE:Hid (xs.take xs.length=xs):=by show _=_;rw[Vs]
 rw[HE.out,<-HG.out]at hown;obtain⟨Wv,cp,rfl,hsl,hnew⟩:=Oh hown;have Yd:Hid (∀p,Wv=some p->w.heap.size<=p.block):=hnew;have YQ:Hid (Tx _ Wv (iC (ag rs) typ over rel)):=hsl;have HBH:Hid (ae w _):=hB;clear hsl hB hown hnew;go_wp2;go_ret;exact⟨⟨Wv,cp,rfl,YQ.out,Yd.out⟩,HBH.out⟩
def qg(ts:Q0b)(a:Al):Bool:=lQ ts a.t&&(a.s.toList.isEmpty || !(aB ts a.t a.s).isEmpty)
def oU(ts:Q0b)(xs:Q0a):Bool:=xs.all (qg ts)
def lT(ts:Q0b)(typ:ByteArray)(e:Ex):Bool :=
 if e.kind=2 then !(aB ts typ e.name).isEmpty
 else if e.kind=3 then bH (aB ts typ e.over) && !(iC ts typ e.over e.name).isEmpty
 else true
def aX(ts:Q0b)(typ:ByteArray):List Ex->Bool
 | []=>true
 | e::es=>if oU ts e.allow&&lT ts typ e then aX ts typ es else false
def nZ(ts:Q0b)(xs:Q0a)(k:Nat):Bool:=oU ts (xs.take k)
theorem zM(ts:Q0b)(xs:Q0a):nZ ts xs 0=true:=by simp[nZ,oU]
theorem oV(ts:Q0b)(xs:Q0a)(k:Nat)(h:k<xs.length):nZ ts xs (k+1)=(nZ ts xs k&&qg ts xs[k]):=by
 unfold nZ oU;rw[Ve h,Wl];simp
theorem uW(ts:Q0b)(xs:Q0a)(k:Nat)(h:k<xs.length)(hb:qg ts xs[k]=false):oU ts xs=false:=by
 unfold oU;rw[Bool.eq_false_iff];intro h2;rw[Vm]at h2;have:=h2 xs[k] (U8 h);rw[hb]at this;cases this
theorem aJ{w w':af}{g o:Nat}{v:Value}(hB:ae w w')(hg:g<w.heap.size)(h:w.cell? ⟨g,o,none⟩=some v):w'.cell? ⟨g,o,none⟩=some v:=(hB.cell (p:=⟨g,o,none⟩) hg).trans h
set_option maxRecDepth 8000 in
theorem I5(ad Ws:Q02)(cap capE:Nat)(rs:Q06)(typ:bW)(rows:Q08)(w:af)(hlen:rs.length<=1048576)(hs:j5 w ad rs)(hl:∀r∈rs,r.light)(hle:rows.length<=1048576)(hse:ik w Ws rows)(hlE:∀q∈rows,q.e.light):
  Calls prog 136 #[.slice ad rs.length cap,.string typ,.slice Ws rows.length capE] w fun e w'=>e=.returned (.bool (aX (ag rs) typ (ak rows)))/\ae w w':=by
 have HS:=aD hs;have HL:=aD hl;have HE:=aD hse;have Xl:=aD hlE;clear hs hl hse hlE;go_enter func136,ntmps136;go_wp2_with fail;go_loopw[7] (fun i wr=>∃k:Nat,k<=rows.length/\i=.int .i64 k/\Hid (aX (ag rs) typ (ak (rows.drop k))=aX (ag rs) typ (ak rows))/\Hid (ae w wr)) (fun i _=>rows.length-(intOf i).toNat);case atStart=>exact⟨0,Vf _,rfl,rfl,Vb _ _⟩
 obtain⟨k,hk,rfl,HP,HB⟩:=hrel;by_cases hlt:k<rows.length
 ·have HS1:Hid (j5 _ ad rs):=HS.out.below HB.out;rcases HE.out.below HB.out with rfl|⟨b,off,rfl,hb,hr,hok⟩
  ·simp at hlt
  obtain⟨t0,t1,t2,t3,t4⟩:=hr k hlt;have X0:Hid (rows[k].ok wr):=hok rows[k] (U8 hlt);have lg:=(Xl.out rows[k] (U8 hlt)).1;have hk1:=bC k;have hk2:(k:Int)<(rows.length:Int):=by omega
  clear hr hok;obtain⟨W1,hW1⟩:∃W1,W1=wr.alloc (.cells #[.int .i64 rows[k].e.kind,.slice rows[k].adA rows[k].e.allow.length rows[k].capA,.string rows[k].e.over,.string rows[k].e.name,.slice rows[k].adK rows[k].e.kids.length rows[k].capK] 39):=⟨_,rfl⟩;have hal:ae wr W1:=by rw[hW1];exact(Vb _ _).alloc (Va _) _
  have WM:=aD hal;have Wx:=jF HB hal;have hgl:wr.heap.size<W1.heap.size:=by rw[hW1];simp
  have g0:W1.cell? ⟨wr.heap.size,0,none⟩=some (.int .i64 rows[k].e.kind):=by rw[hW1];simp
  have g1:W1.cell? ⟨wr.heap.size,1,none⟩=some (.slice rows[k].adA rows[k].e.allow.length rows[k].capA):=by rw[hW1];simp
  have g2:W1.cell? ⟨wr.heap.size,2,none⟩=some (.string rows[k].e.over):=by rw[hW1];simp
  have g3:W1.cell? ⟨wr.heap.size,3,none⟩=some (.string rows[k].e.name):=by rw[hW1];simp
  clear hal;go_wp2_with fail;rw[<-hW1];clear hW1;go_loopw[9] (fun i w2=>∃j:Nat,j<=rows[k].e.allow.length/\i=.int .i64 j/\Hid (nZ (ag rs) rows[k].e.allow j=true)/\Hid (ae W1 w2)) (fun i _=>rows[k].e.allow.length-(intOf i).toNat);case atStart=>exact⟨0,Vf _,rfl,zM _ _,Vb _ _⟩
  obtain⟨j,hj,rfl,HJ,HB2⟩:=hrel;have d0:=aJ HB2.out hgl g0;have d1:=aJ HB2.out hgl g1;have d2:=aJ HB2.out hgl g2;have d3:=aJ HB2.out hgl g3;clear g0 g1 g2 g3 t0 t1 t2 t3 t4;have Zw:Hid (ae w _):=Wx.out.trans (HB2.out.mono Wx.out.size);have HS2:Hid (j5 _ ad rs):=HS.out.below Zw.out;by_cases hjl:j<rows[k].e.allow.length
  ·have hA2:lK _ rows[k].adA rows[k].e.allow:=((X0.out.1).below WM.out).below HB2.out;rcases hA2 with hnil|⟨ba,Yz,YA,hba,hra⟩
   ·rw[hnil]at hjl;simp at hjl
   rw[YA]at d1;obtain⟨q0,q1⟩:=hra j hjl;have hj1:=bC j;have hj2:(j:Int)<(rows[k].e.allow.length:Int):=by omega
   clear hra YA;go_wp2_with fail;refine(IZ ad cap rs _ _ hlen (HS2.out.below ((Vb _ _).alloc (Va _) _))).mono ?_;rintro e w3 ⟨rfl,rfl⟩;cases hty:lQ (ag rs) rows[k].e.allow[j].t;case false=>
    have HN:Hid (aX (ag rs) typ (ak rows)=false):=by
     show _=_;rw[<-HP.out,gW _ _ hlt];simp[aX,uW (ag rs) _ j hjl (by simp[qg,hty])]
    go_wp2;go_ret;exact⟨by rw[HN.out];rfl,Zw.out.alloc Zw.out.size _⟩
   cases he:rows[k].e.allow[j].s.toList.isEmpty;case true=>
    have HJ2:Hid (nZ (ag rs) rows[k].e.allow (j+1)=true):=by show _=_;rw[oV _ _ _ hjl,HJ.out];simp[qg,hty,he]
    go_wp2;go_roundw;case rel=>exact⟨j+1,by omega,by go_num,HJ2,HB2.out.alloc HB2.out.size _⟩
    simp[intOf]<;>omega
   go_wp2_with fail;refine(iM ad cap rs _ _ _ hlen (HS2.out.below ((Vb _ _).alloc (Va _) _)) HL.out).mono ?_;rintro e w3 ⟨⟨XJ,ad3,cap3,rfl,hx3,-,-⟩,rfl⟩;by_cases hz:XJ.length=0
   ·have HN:Hid (aX (ag rs) typ (ak rows)=false):=by
     have h1:aB (ag rs) rows[k].e.allow[j].t rows[k].e.allow[j].s=[]:=by unfold aB;rw[<-hx3,Vr.1 hz];rfl
     show _=_;rw[<-HP.out,gW _ _ hlt];simp[aX,uW (ag rs) _ j hjl (by simp[qg,he,h1])]
    rw[hz];clear hx3;go_wp2;go_ret;exact⟨by rw[HN.out];rfl,Zw.out.alloc Zw.out.size _⟩
   have HJ2:Hid (nZ (ag rs) rows[k].e.allow (j+1)=true):=by
    have h1:aB (ag rs) rows[k].e.allow[j].t rows[k].e.allow[j].s≠[]:=by
     unfold aB;rw[<-hx3];intro h2;apply hz;rw[<-aR,h2];rfl
    show _=_;rw[oV _ _ _ hjl,HJ.out];simp[qg,hty,h1]
   have hzb:((XJ.length:Int)==0)=false:=by simp;intro h;apply hz;rw[h];rfl
   clear hx3;go_wp2;go_roundw;case rel=>exact⟨j+1,by omega,by go_num,HJ2,HB2.out.alloc HB2.out.size _⟩
   simp[intOf]<;>omega
  have Zq:Hid (oU (ag rs) rows[k].e.allow=true):=by
   have:=HJ.out;unfold nZ at this;rwa [VE (by omega)]at this
  by_cases h2:rows[k].e.kind=2
  ·go_wp2_with fail;refine(iM ad cap rs _ _ _ hlen HS2.out HL.out).mono ?_;rintro e w3 ⟨⟨XJ,ad3,cap3,rfl,hx3,-,-⟩,rfl⟩;by_cases hz:XJ.length=0
   ·have HN:Hid (aX (ag rs) typ (ak rows)=false):=by
     have h1:aB (ag rs) typ rows[k].e.name=[]:=by unfold aB;rw[<-hx3,Vr.1 hz];rfl
     show _=_;rw[<-HP.out,gW _ _ hlt];simp[aX,lT,h2,h1]
    rw[hz];clear hx3;go_wp2;go_ret;exact⟨by rw[HN.out];rfl,Zw.out⟩
   have WB:Hid (aX (ag rs) typ (ak (rows.drop (k+1)))=aX (ag rs) typ (ak rows)):=by
    have h1:aB (ag rs) typ rows[k].e.name≠[]:=by
     unfold aB;rw[<-hx3];intro h2;apply hz;rw[<-aR,h2];rfl
    show _=_;rw[<-HP.out,gW _ _ hlt];simp[aX,lT,h2,h1,Zq.out]
   have hzb:((XJ.length:Int)==0)=false:=by simp;intro h;apply hz;rw[h];rfl
   clear hx3;go_wp2;go_roundw;case rel=>exact⟨k+1,by omega,by go_num,WB,Zw⟩
   simp[intOf]<;>omega
  by_cases h3:rows[k].e.kind=3
  ·go_wp2_with fail;refine(iM ad cap rs _ _ _ hlen HS2.out HL.out).mono ?_;rintro e w3 ⟨⟨XJ,ad3,cap3,rfl,hx3,hs3,hf3⟩,rfl⟩;have hl3:=hf3.light HL.out;go_wp2_with fail;refine(EG ad3 cap3 XJ _ hl3.1 hs3 hl3.2).mono ?_;rintro e w3 ⟨rfl,rfl⟩;have HX:Hid (ak XJ=aB (ag rs) typ rows[k].e.over):=hx3;clear hx3 hs3 hf3 hl3;rw[HX.out];cases hd:bH (aB (ag rs) typ rows[k].e.over);case false=>
    have HN:Hid (aX (ag rs) typ (ak rows)=false):=by
     show _=_;rw[<-HP.out,gW _ _ hlt];simp[aX,lT,h3,hd]
    go_wp2;go_ret;exact⟨by rw[HN.out];rfl,Zw.out⟩
   go_wp2_with fail;refine(ym ad cap rs _ _ _ _ hlen HS2.out HL.out).mono ?_;rintro e w4 ⟨⟨ad4,cap4,rfl,-⟩,hb4⟩;have Xu:=jF Zw hb4;clear hb4;by_cases hz:(iC (ag rs) typ rows[k].e.over rows[k].e.name).length=0
   ·have HN:Hid (aX (ag rs) typ (ak rows)=false):=by
     show _=_;rw[<-HP.out,gW _ _ hlt];simp[aX,lT,h3,Vr.1 hz]
    rw[hz];go_wp2;go_ret;exact⟨by rw[HN.out];rfl,Xu.out⟩
   have WB:Hid (aX (ag rs) typ (ak (rows.drop (k+1)))=aX (ag rs) typ (ak rows)):=by
    have h1:iC (ag rs) typ rows[k].e.over rows[k].e.name≠[]:=by intro h;apply hz;rw[h];rfl
    show _=_;rw[<-HP.out,gW _ _ hlt];simp[aX,lT,h3,h1,hd,Zq.out]
   have hzb:(((iC (ag rs) typ rows[k].e.over rows[k].e.name).length:Int)==0)=false:=by simp;intro h;apply hz;rw[h];rfl
   go_wp2;go_roundw;case rel=>exact⟨k+1,by omega,by go_num,WB,Xu⟩
   simp[intOf]<;>omega
  have WB:Hid (aX (ag rs) typ (ak (rows.drop (k+1)))=aX (ag rs) typ (ak rows)):=by
   show _=_;rw[<-HP.out,gW _ _ hlt];simp[aX,lT,h2,h3,Zq.out]
  have hb2:(rows[k].e.kind==2)=false:=by simpa using h2
  have hb3:(rows[k].e.kind==3)=false:=by simpa using h3
  go_wp2;go_roundw;case rel=>exact⟨k+1,by omega,by go_num,WB,Zw⟩
  simp[intOf]<;>omega
 have HN:Hid (aX (ag rs) typ (ak rows)=true):=by show _=_;rw[<-HP.out,Vt (by omega)];rfl
 go_wp2;go_ret;exact⟨by rw[HN.out];rfl,HB.out⟩
open Go.Sort
theorem qC{p:Prop}(h:p):Hid p:=h
theorem j6{P:Program}{f:FuncId}{args:Array Value}{W:af}{v:Value}(h:∀W',Calls P f args W' fun e w'=>e=.returned v/\w'=W'):∀d os,Calls P f args (grow (redrawn W d) os) fun e w''=>e=.returned v/\∃p:Regrown,w''=grow (redrawn W p.d) p.os:=fun d os=>(h _).mono fun _ _ ⟨he,hw⟩=>⟨he,⟨d,os⟩,hw⟩
theorem dA{P:Program}{f:FuncId}{args:Array Value}{W:af}{v:Value}(h:∀W',ae W W'->Calls P f args W' fun e w'=>e=.returned v/\ae W' w'):∀d os,Calls P f args (grow (redrawn W d) os) fun e w''=>e=.returned v/\∃p:Regrown,w''=grow (redrawn W p.d) p.os:=fun d os=>Calls.regrown_of (h _ (below_regrown W d os))
def lV(ops:Array Oper)(m k:Nat):Bool:=(ops[m]?.map fun o=>o.after.any fun e=>e.on==k&&Region.binds .any e).getD false
def UB(ops:Array Oper)(i:Nat):List Nat:=(List.range i).reverse.foldl (fun acc k=>if acc.any (fun m=>lV ops m k) then k::acc else acc) [i]
def KX(ops:Array Oper)(L N:Nat):Bool:=(List.range N).all fun i=>decide (i<L) || (List.range i).all fun j=>(UB ops i).contains j
def Rf(l:List Oper)(L:Nat):Bool:=l.all fun o=>match o.guard with|some (g,_)=>decide (g<L)|none=>true
def og(P:Program)(ops:Array Oper)(Q:Exit->Act->World->Prop):Nat->Nat->Act->World->Prop
 | 0,_,a,w=>Q .normal a w
 | n+1,i,a,w=>wpOp P ops Q i (og P ops Q n (i+1)) a w
theorem yn{ops:Array Oper}{m k:Nat}(h:lV ops m k=true):∃o,ops[m]?=some o/\∃e∈o.after,e.on=k/\Region.binds .any e=true:=by
 unfold lV at h;cases ho:ops[m]? with
 | none=>rw[ho]at h;cases h
 | some o =>
  rw[ho]at h;simp only[Option.map_some,VO]at h;rw[Array.any_eq_true']at h;obtain⟨e,he,h2⟩:=h;simp only[Vd,beq_iff_eq]at h2;exact⟨o,rfl,e,he,h2.1,h2.2⟩
theorem Gd{ops:Array Oper}{i:Nat}{lst:Nat->Prop}(hcl:∀m k,m=i\/lst m->lV ops m k=true->lst k):∀m∈UB ops i,m=i\/lst m:=by
 have key:∀(ks acc:List Nat),(∀m∈acc,m=i\/lst m)->∀m∈ks.foldl (fun acc k=>if acc.any (fun m=>lV ops m k) then k::acc else acc) acc,m=i\/lst m:=by
  intro ks
  induction ks with
  | nil=>intro acc h;exact h
  | cons k ks ih =>
   intro acc h;refine ih _ ?_;dsimp only;split
   ·rename_i ha;obtain⟨m,hm,hb⟩:=VF.1 ha;intro x hx;rcases Vq.1 hx with rfl|hx
    ·exact .inr (hcl m _ (h m hm) hb)
    exact h x hx
   exact h
 exact key _ _ fun m hm=>.inl (by simpa using hm)
theorem C8{ops:Array Oper}{L N i:Nat}(h:KX ops L N=true)(hi:i<N)(hL:L<=i){lst:Nat->Prop}(hcl:∀m k,m=i\/lst m->lV ops m k=true->lst k):∀j,j<i->lst j:=fun j hj=>by
 have h1:=Vm.1 h i (by simpa using hi);simp only[Bool.or_eq_true,Vk]at h1;have h2:=Vm.1 (h1.resolve_left (by omega)) j (by simpa using hj);exact(Gd hcl j (by simpa using h2)).resolve_left (by omega)
theorem qx{P:Program}{id:Nat}{Q:Exit->Act->World->Prop}{a:Act}{w:af}{l:List Oper}(L n:Nat)(hm:P.follows .mixedOrders=true)(hlen:l.length=L+n)
  (hB:(Region.noSelect (l.take L).toArray&&Region.lexFrom .any (l.take L).toArray L 0 (Array.replicate (L+n) false)&&Rf (l.take L) L&&CX l.toArray&&KX l.toArray L (L+n))=true)
  (h:wpQuiet P (l.take L).toArray (fun w'=>∃p:Regrown,w'=grow (redrawn w p.d) p.os) (fun a'=>∀w',(∃p:Regrown,w'=grow (redrawn w p.d) p.os)->og P l.toArray Q n L a' w') (l.take L) a):(Code.region id l.toArray true).wp P Q a w:=by
 obtain⟨C,hC⟩:∃C:World->Prop,C=fun w'=>∃p:Regrown,w'=grow (redrawn w p.d) p.os:=⟨_,rfl⟩;have h':wpQuiet P (l.take L).toArray C (fun a'=>∀w',C w'->og P l.toArray Q n L a' w') (l.take L) a:=by simpa[hC] using h
 clear h;have hC0:C w.drew:=by rw[hC];exact⟨⟨w.drawn+1,#[]⟩,by rw[grow_empty];rfl⟩
 clear hC;simp only[Vd]at hB;obtain⟨⟨⟨⟨hns,hlx⟩,hgd⟩,Xr⟩,hch⟩:=hB;have htl:(l.take L).length=L:=by rw[Vz];omega
 have hat:∀i,i<L->(l.take L).toArray[i]?=l.toArray[i]?:=fun i hi=>by simp[hi]
 have hsz:l.toArray.size=L+n:=by simpa using hlen
 have hwant:∀(i:Nat) (o:Oper) (a':Act),i<L->l.toArray[i]?=some o->Region.wanted o (yielded (l.take L).toArray a'.tmps)=Region.wanted o (yielded l.toArray a'.tmps):=by
  intro i o a' hi ho;have hmem:o∈l.take L:=by
   rw[<-hat i hi]at ho;exact We (by simpa using ho)
  have:=Vm.1 hgd o hmem;unfold Region.wanted;cases hg:o.guard with
  | none=>rfl
  | some x =>
   obtain⟨g,bw⟩:=x;rw[hg]at this;have hgl:g<L:=by simpa using this
   simp only[yielded,hat g hgl]
 have h1:=wpAnyQ_lex (C:=C) (md:=.any) hns (l.take L) 0 (Array.replicate (L+n) false) a (fun j=>by simp) (by rw[htl];exact hlx) h';rw[htl]at h1;refine ig (fun listed a' w'=>listed.size=L+n/\(∀m k,listed.getD m false=true->lV l.toArray m k=true->listed.getD k false=true)/\(((∀j,L<=j->listed.getD j false=false)/\C w'/\∃fuel,wpAnyQ P .any (l.take L).toArray C (fun a'=>∀w',C w'->og P l.toArray Q n L a' w') fuel listed a') \/ ∃d,d<=n/\(∀j,j<L+d->listed.getD j false=true)/\(∀j,L+d<=j->listed.getD j false=false)/\og P l.toArray Q (n-d) (L+d) a' w')) hm ?_ ?_ ?_
 ·have hf:∀j,(Array.replicate l.toArray.size false).getD j false=false:=fun j=>by
   rw[Vy,VR];split<;>rfl
  exact⟨by simpa using hsz,fun m k hm=>absurd hm (by rw[hf];decide),Or.inl ⟨fun j _=>hf j,hC0,L,by rw[hsz];exact h1⟩⟩
 ·rintro listed a' w' ⟨hs,hcl,hh⟩ i hi;obtain⟨hl,o,ho,hpre⟩:=mem_ready.1 hi;have hiL:i<L+n:=by have:=(Vi.1 ho).1;omega
  have hcl2:∀m k,(listed.setIfInBounds i true).getD m false=true->lV l.toArray m k=true->(listed.setIfInBounds i true).getD k false=true:=fun m k hm hb=>by
   rw[aV _ _ _ (by omega)]at hm ⊢;by_cases hk:k=i
   ·rw[if_pos hk]
   rw[if_neg hk];by_cases e:m=i
   ·subst e;obtain⟨o',ho',e,he,rfl,hbe⟩:=yn hb;rw[ho]at ho';obtain rfl:=Option.some.inj ho';exact hpre e he hbe
   rw[if_neg e]at hm;exact hcl m k hm hb
  have hup:L<=i->∀j,j<i->listed.getD j false=true:=fun hLi=>C8 hch hiL hLi fun m k hm hb=>by
   rcases hm with rfl|hm
   ·obtain⟨o',ho',e,he,rfl,hbe⟩:=yn hb;rw[ho]at ho';obtain rfl:=Option.some.inj ho';exact hpre e he hbe
   exact hcl m k hm hb
  have hsq:∀d,L+d=i->og P l.toArray Q (n-d) (L+d) a' w'->wpOp P l.toArray Q i (fun a'' w''=>(listed.setIfInBounds i true).size=L+n/\(∀m k,(listed.setIfInBounds i true).getD m false=true->lV l.toArray m k=true->(listed.setIfInBounds i true).getD k false=true)/\(((∀j,L<=j->(listed.setIfInBounds i true).getD j false=false)/\C w''/\∃fuel,wpAnyQ P .any (l.take L).toArray C (fun a'=>∀w',C w'->og P l.toArray Q n L a' w') fuel (listed.setIfInBounds i true) a'') \/ ∃d,d<=n/\(∀j,j<L+d->(listed.setIfInBounds i true).getD j false=true)/\(∀j,L+d<=j->(listed.setIfInBounds i true).getD j false=false)/\og P l.toArray Q (n-d) (L+d) a'' w'')) a' w':=fun d hd hw=>by
   obtain⟨r,hr⟩:∃r,n-d=r+1:=⟨n-d-1,by omega⟩;rw[hr,hd]at hw;have Zx:∀j,i<j->listed.getD j false=false:=fun j hj=>by
    cases hlj:listed.getD j false;case false=>rfl
    have hjn:j<L+n:=by
     rcases Nat.lt_or_ge j (L+n) with h|h
     ·exact h
     rw[Vy,Array.getElem?_eq_none (by omega)]at hlj;cases hlj
    have:=C8 hch hjn (by omega) (lst:=fun k=>listed.getD k false=true) (fun m k hm hb=>by
     rcases hm with rfl|hm
     ·exact hcl _ k hlj hb
     exact hcl m k hm hb) i hj
    rw[kK (by omega)]at hl;rw[hl]at this;cases this
   refine wpOp_mono (fun a'' w'' hq=>⟨by simpa using hs,hcl2,.inr ⟨d+1,by omega,fun j hj=>?_,fun j hj=>?_,?_⟩⟩) hw
   ·rw[aV _ _ _ (by omega)];by_cases e:j=i
    ·rw[if_pos e]
    rw[if_neg e];exact hup (by omega) j (by omega)
   ·rw[aV _ _ _ (by omega),if_neg (by omega)];exact Zx j (by omega)
   have e1:n-(d+1)=r:=by omega
   have e2:L+(d+1)=i+1:=by omega
   rw[e1,e2];exact hq
  rcases hh with⟨hn,hCw,fuel,hq⟩|⟨d,hdn,hlow,hhigh,hw⟩
  ·by_cases e:i<L
   ·have hr:i∈Region.ready .any (l.take L).toArray listed:=mem_ready.2 ⟨hl,o,by rw[hat i e];exact ho,hpre⟩;cases fuel with
    | zero=>have:=hq.1;rw[this]at hr;cases hr
    | succ nn =>
     have hk:=hq.2 i hr;have:=wpOp_of_qOp (K':=fun a'' w''=>C w''/\wpAnyQ P .any (l.take L).toArray C (fun a'=>∀w',C w'->og P l.toArray Q n L a' w') nn (listed.setIfInBounds i true) a'') (Q':=Q) hCw (fun _ _ h1 h2=>⟨h1,h2⟩) hk;have h3:wpOp P l.toArray Q i (fun a'' w''=>C w''/\wpAnyQ P .any (l.take L).toArray C (fun a'=>∀w',C w'->og P l.toArray Q n L a' w') nn (listed.setIfInBounds i true) a'') a' w':=by
      unfold wpOp at this⊢;rw[hat i e,ho]at this;rw[ho];simp only[hwant i o a' e ho]at this;exact this
     refine wpOp_mono (fun a'' w'' hh=>⟨by simpa using hs,hcl2,Or.inl ⟨fun j hj=>?_,hh.1,nn,hh.2⟩⟩) h3;rw[aV _ _ _ (by omega),if_neg (by omega)];exact hn j hj
   have hiE:i=L:=by
    rcases Nat.lt_or_ge L i with h|h
    ·have:=hup (by omega) L h;rw[hn L (Va _)]at this;cases this
    omega
   have hnr:Region.ready .any (l.take L).toArray listed=[]:=by
    rw[List.eq_nil_iff_forall_not_mem];intro j hj;obtain⟨g1,oj,g2,-⟩:=mem_ready.1 hj;have hji:j<L:=by have:=(Vi.1 g2).1;simp at this;omega
    rw[kK (by omega),hup (by omega) j (by omega)]at g1;cases g1
   have hQ:og P l.toArray Q n L a' w':=by
    cases fuel with
    | zero=>exact hq.2 _ hCw
    | succ n=>exact hq.1 hnr _ hCw
   exact hsq 0 (by omega) (by simpa using hQ)
  have hid:L+d=i:=by
   rcases Nat.lt_or_ge i (L+d) with h|h
   ·have:=hlow i h;rw[kK (by omega)]at hl;rw[hl]at this;cases this
   rcases Nat.lt_or_ge (L+d) i with h2|h2
   ·have:=hup (by omega) (L+d) h2;rw[hhigh _ (Va _)]at this;cases this
   omega
  exact hsq d hid hw
 rintro listed a' w' ⟨hs,hcl,hh⟩ hr;have hall:=tY hr hsz (qA Xr) hs;rcases hh with⟨hn,hCw,fuel,hq⟩|⟨d,hdn,hlow,hhigh,hw⟩
 ·have hn0:n=0:=by
   rcases Nat.eq_zero_or_pos n with h|h
   ·exact h
   have:=hall L (by omega);rw[kK (by omega),hn L (Va _)]at this;cases this
  subst hn0;have hnr:Region.ready .any (l.take L).toArray listed=[]:=by
   rw[List.eq_nil_iff_forall_not_mem];intro j hj;obtain⟨g1,oj,g2,-⟩:=mem_ready.1 hj;have hji:j<L:=by have:=(Vi.1 g2).1;simp at this;omega
   rw[hall j (by omega)]at g1;cases g1
  have hQ:og P l.toArray Q 0 L a' w':=by
   cases fuel with
   | zero=>exact hq.2 _ hCw
   | succ n=>exact hq.1 hnr _ hCw
  exact hQ
 have hd:d=n:=by
  rcases Nat.lt_or_ge d n with h|h
  ·have:=hall (L+d) (by omega);rw[kK (by omega),hhigh _ (Va _)]at this;cases this
  omega
 subst hd;rw[Nat.sub_self]at hw;exact hw
def bF(i:Nat)(kind:Int):List Int->Nat->List Bool->List Bool
 | [],_,out=>out
 | x::xs,k,out=>bF i kind xs (k+1) (out.set x.toNat (out.getD i false || (kind==6&&k==1)))
def dW(es:Q09):Nat->List Bool->List Bool
 | 0,out=>out
 | i+1,out=>dW es i (match es[i]? with|none=>out|some e=>bF i e.kind e.kids 0 out)
def dC(es:Q09):List Bool:=dW es es.length (List.replicate es.length false)
theorem yo(i:Nat)(kind:Int)(xs:List Int)(k:Nat)(out:List Bool):(bF i kind xs k out).length=out.length:=by
 induction xs generalizing k out with
 | nil=>rfl
 | cons x xs ih=>simp[bF,ih]
def bools(xs:List Bool):List Value:=xs.map Value.bool
theorem Fil.set{w wr:af}{g n o:Nat}{xs:Q03}(h:Fil w wr g n xs)(v:Value)(ho:o<xs.length)(hn:o<n):Fil w (wr.setCell ⟨g,o,none⟩ v) g n (xs.set o v) where
 below:=h.below.setCell (p:=⟨g,o,none⟩) h.ge v
 ge:=h.ge
 lt:=by simpa using h.lt
 done j hj:=by
  by_cases e:j=o
  ·subst e;obtain⟨u,hu⟩:=Option.isSome_iff_exists.mp (h.there j hn);rw[zG hu];simp
  have hj':j<xs.length:=by simpa using hj
  rw[qz (Ne.symm e),h.done j hj',List.getElem_set_ne (Ne.symm e)]
 there j hj:=by
  by_cases e:j=o
  ·subst e;obtain⟨u,hu⟩:=Option.isSome_iff_exists.mp (h.there j hn);rw[zG hu];rfl
  rw[qz (Ne.symm e)];exact h.there j hj
 free j:=by simpa using h.free j
theorem Fil.drew{w wr:af}{g n:Nat}{xs:Q03}(h:Fil w wr g n xs):Fil w wr.drew g n xs:=⟨h.below.drew,h.ge,h.lt,h.done,h.there,h.free⟩
theorem C9{w w0:af}{n:Nat}{base:Nat}{e:TypeId}{v:Value}(h:w0.ownsRow base e 1 (.slice (some ⟨w.heap.size,0,none⟩) n n) n (madeCells #[v] (n*1)).toList)(hg:w.grownBy w0 none):Fil w w0 w.heap.size n (List.replicate n v) where
 below:=(Vb _ _).grown hg (Va _) (fun k hk=>by cases hk)
 ge:=Va _
 lt:=(h.lt w.heap.size rfl).2
 done j hj:=by
  have hj':j<n:=by simpa using hj
  rw[h.cellAt j (by omega),toList_madeCells_one];simp[hj']
 there j hj:=by
  rw[h.cellAt j (by omega),Vg (by rw[h.1];omega)];rfl
 free j:=h.frozenAt j
theorem zP:(prog.info? 4).map (fun i=>(i.zero,i.size,i.bytes))=some (some (.bool false),1,1):=by kernel_rfl
theorem zQ(es:Q09)(m:Nat)(out:List Bool)(h:m<es.length):dW es (m+1) out=dW es m (bF m es[m].kind es[m].kids 0 out):=by
 simp[dW,h]
theorem jG(i:Nat)(kind:Int)(ks:List Int)(j:Nat)(out:List Bool)(h:j<ks.length):bF i kind (ks.drop j) j out=bF i kind (ks.drop (j+1)) (j+1) (out.set ks[j].toNat (out.getD i false || (kind==6&&j==1))):=by
 rw[VG h];rfl
theorem oh(out:List Bool)(o:Nat)(v:Bool):bools (out.set o v)=(bools out).set o (.bool v):=by simp[bools,List.map_set]
def eZ(n:Nat)(ks:List Int):Prop:=∀x∈ks,0<=x/\x<(n:Int)
theorem LQ(ad:Q02)(cap:Nat)(rs:Q08)(w:af)(hlen:rs.length<=1048576)(hs:ik w ad rs)(hl:∀r∈rs,r.e.light)(hk:∀r∈rs,eZ rs.length r.e.kids):
  Calls prog 196 #[.slice ad rs.length cap] w fun e w'=>e=.returned (.slice (some ⟨w.heap.size,0,none⟩) rs.length rs.length)/\Fil w w' w.heap.size rs.length (bools (dC (ak rs))):=by
 have HS:=aD hs;have HL:=aD hl;have HK:=aD hk;clear hs hl hk;obtain⟨inf,hi,hz0,hz1,hz2⟩:=info_parts zP;go_enter func196,ntmps196;go_wp2_with(at_make;refine wpList_make_full _ rfl _ _ 275 rfl w.heap.size 4 inf (.bool false) 1 underlying275 hi hz0 hz1 .i64 .i64 _ _ rs.length rfl rfl rfl rfl (by rw[hz2];omega) (by unfold maxLen;omega) (Va _) ?_;intro w0 hown0 YB);have HF0:Hid (Fil w w0 w.heap.size rs.length (bools (List.replicate rs.length false))):=by
  have:=C9 (v:=.bool false) hown0 YB;show Fil _ _ _ _ _;simpa[bools] using this
 clear hown0 YB hi hz0 hz1 hz2;go_loopw[4] (fun i wr=>∃(m:Nat) (out:List Bool),m<=rs.length/\i=.int .i64 ((m:Int)-1)/\out.length=rs.length/\Hid (dW (ak rs) m out=dC (ak rs))/\Hid (Fil w wr w.heap.size rs.length (bools out))) (fun i _=>(intOf i+1).toNat);case atStart=>exact⟨rs.length,List.replicate rs.length false,Va _,by go_num,by simp,(by show _=_;unfold dC;rw[aR]),HF0⟩
 obtain⟨m,out,hm,rfl,hol,HN,HF⟩:=hrel;by_cases hm0:0<m
 ·obtain⟨m,rfl⟩:∃m',m=m'+1:=⟨m-1,by omega⟩;have hmi:(((m+1:Nat):Int)-1)=(m:Int):=by omega
  rw[hmi];have hlt:m<rs.length:=by omega
  rcases HS.out.below HF.out.below with rfl|⟨b,off,rfl,hb,hr,hok⟩
  ·simp at hlt
  obtain⟨t0,t1,t2,t3,t4⟩:=hr m hlt;have X0:Hid (rs[m].ok _):=hok rs[m] (U8 hlt);have lg:=(HL.out rs[m] (U8 hlt)).2;have HKI:Hid (eZ rs.length rs[m].e.kids):=HK.out rs[m] (U8 hlt);have hk1:=bC m;have hk2:(m:Int)<(rs.length:Int):=by omega
  have hbw:b<w.heap.size:=by
   rcases HS.out with h|⟨b',off',h1,h2,-⟩
   ·rw[h]at hlt;simp at hlt
   injection h1 with h1;injection h1 with h1;omega
  have HR:Hid (yT wr b (off+m*5) rs[m]):=hr m hlt;have HNX:Hid (dW (ak rs) m (bF m rs[m].e.kind rs[m].e.kids 0 out)=dC (ak rs)):=by
   show _=_;rw[<-HN.out,zQ _ _ _ (by rw[aR];exact hlt)];simp[ak]
  clear hr hok t0 t1 t2 t3 t4;go_wp2_with fail;go_loopw[5] (fun i w2=>∃(j:Nat) (Wy:List Bool),j<=rs[m].e.kids.length/\i=.int .i64 j/\Wy.length=rs.length/\Hid (bF m rs[m].e.kind (rs[m].e.kids.drop j) j Wy=bF m rs[m].e.kind rs[m].e.kids 0 out)/\Hid (Fil w w2 w.heap.size rs.length (bools Wy))) (fun i _=>rs[m].e.kids.length-(intOf i).toNat);case atStart=>exact⟨0,out,Vf _,rfl,hol,rfl,HF⟩
  obtain⟨j,Wy,hj,rfl,ho2,HJ,X9⟩:=hrel;have hE2:ik wr _ rs:=HS.out.below X9.out.below;have ht:yT wr b (off+m*5) rs[m]:=by
   rcases hE2 with h|⟨b',off',h1,h2,h3,-⟩
   ·exact absurd hlt (by rw[h];simp)
   injection h1 with h1;injection h1 with h1 h1';subst h1;subst h1';exact h3 m hlt
  obtain⟨t0,t1,t2,t3,t4⟩:=ht;by_cases hjl:j<rs[m].e.kids.length
  ·have hK2:sZ wr rs[m].adK rs[m].e.kids:=(hE2.mem (U8 hlt)).2;rcases hK2 with hnil|⟨ba,Yz,WX,hba,hra⟩
   ·rw[hnil]at hjl;simp at hjl
   rw[WX]at t4;have q0:=hra j hjl;have hj1:=bC j;have hj2:(j:Int)<(rs[m].e.kids.length:Int):=by omega
   obtain⟨x0,x1⟩:=HKI.out _ (U8 hjl);obtain⟨x,hx⟩:∃x:Nat,rs[m].e.kids[j]=(x:Int):=⟨rs[m].e.kids[j].toNat,by omega⟩;rw[hx]at q0 x0 x1;have c0:=X9.out.done m (by simp[bools];omega);have fz:=X9.out.free;obtain⟨v0,u0⟩:=Option.isSome_iff_exists.mp (X9.out.there x (by omega));have hbr:b<wr.heap.size:=U9 hbw X9.out.below.size;obtain⟨bo,hbo⟩:∃bo,bo=(bools Wy)[m]'(by simp[bools];omega):=⟨_,rfl⟩;rw[<-hbo]at c0;clear hra WX hE2 t1 t2 t3;have hm2:m<Wy.length:=by omega
   have hbo1:bo=.bool Wy[m]:=by rw[hbo];simp[bools]
   have hbo':Wy[m]?.getD false=Wy[m]:=by simp[hm2]
   rw[hbo1]at c0;clear hbo hbo1;have HJ3:Hid (∀bv,(Wy[m] || (rs[m].e.kind==6&&j==1))=bv->bF m rs[m].e.kind (rs[m].e.kids.drop (j+1)) (j+1) (Wy.set x bv)=bF m rs[m].e.kind rs[m].e.kids 0 out):=by
    rintro _ rfl;rw[<-HJ.out,jG _ _ _ _ _ hjl,hx];simp[hbo']
   have YC:Hid (∀bv d os,Fil w ((grow (redrawn wr d) os).setCell ⟨w.heap.size,x,none⟩ (.bool bv)) w.heap.size rs.length (bools (Wy.set x bv))):=by
    intro bv d os;rw[oh];exact(X9.out.later (below_regrown wr d os)).set _ (by simp[bools];omega) (by omega)
   go_wp2_with fail;replace fz:=fun d os=>(X9.out.later (below_regrown wr d os)).free;replace t0:=cell_regrown t0;replace t4:=cell_regrown t4;replace q0:=cell_regrown q0;replace c0:=cell_regrown c0;replace u0:=cell_regrown u0;clear hbo';cases hb0:Wy[m]<;>cases hkb:(rs[m].e.kind==6)<;>cases hjb:((j:Int)==1)
   all_goals
    have hjn:(j==1)=_:=(by rw[Vu];simp;omega:(j==1)=((j:Int)==1)).trans hjb;rw[hb0]at c0;have HJ4:=qC (HJ3.out _ (by rw[hb0,hkb,hjn]));refine qx 26 1 (by kernel_rfl) (by rfl) (by kernel_rfl) ?_;simp only[List.take_succ_cons,List.take_zero]
    repeat(go_big_quiet_step (fail))
    refine wpQuiet_nil ?_;rintro _ ⟨⟨dq,osq⟩,rfl⟩;refine wpOp_step rfl (fun K hK=>?_);replace hK:=qC hK;go_simp;refine hK.out _ _ ?_;clear hK;unfold og;go_wp2;go_roundw;case rel=>exact⟨j+1,_,by omega,by go_num,by simp[ho2],HJ4,YC.out _ _ _⟩
    simp[intOf]<;>omega
  have Zy:Hid (dW (ak rs) m Wy=dC (ak rs)):=by
   show _=_;rw[<-HNX.out,<-HJ.out,Vt (by omega)];rfl
  go_wp2;go_roundw;case rel=>exact⟨m,Wy,by omega,by go_num,ho2,Zy,X9⟩
  simp[intOf]<;>omega
 obtain rfl:m=0:=by omega
 have Y5:Hid (Fil w wr w.heap.size rs.length (bools (dC (ak rs)))):=by
  show Fil _ _ _ _ _;rw[<-HN.out];exact HF.out
 go_wp2;go_ret;exact⟨rfl,Y5.out⟩
structure St where
 typ:ByteArray
 rel:ByteArray
 n:Int
def Ur(w:World)(b off:Nat)(s:St):Prop:=w.cell? ⟨b,off,none⟩=some (.string s.typ)/\w.cell? ⟨b,off+1,none⟩=some (.string s.rel)/\w.cell? ⟨b,off+2,none⟩=some (.int .i64 s.n)
def I6(w:World)(ad:Q02)(xs:List St):Prop:=xs=[] \/ ∃b off,ad=some ⟨b,off,none⟩/\b<w.heap.size/\∀(i:Nat) (h:i<xs.length),Ur w b (off+i*3) xs[i]
theorem I6.below{w w':af}{ad:Q02}{xs:List St}(h:I6 w ad xs)(hB:ae w w'):I6 w' ad xs:=by
 rcases h with h|⟨b,off,e,hb,hr⟩
 ·exact .inl h
 refine .inr ⟨b,off,e,U9 hb hB.size,fun i hi=>?_⟩;obtain⟨h0,h1,h2⟩:=hr i hi;exact⟨aJ hB hb h0,aJ hB hb h1,aJ hB hb h2⟩
def zR(s:St)(typ rel:ByteArray):Bool:=(s.typ.toList==typ.toList)&&(s.rel.toList==rel.toList)
def il(typ rel:ByteArray):List St->Nat->Int
 | [],_=>-1
 | s::xs,k=>if zR s typ rel then (k:Int) else il typ rel xs (k+1)
theorem qD(typ rel:bW)(xs:List St)(k:Nat)(h:k<xs.length):il typ rel (xs.drop k) k=if zR xs[k] typ rel then (k:Int) else il typ rel (xs.drop (k+1)) (k+1):=by
 rw[VG h];rfl
theorem Oi(ad:Q02)(cap:Nat)(xs:List St)(typ rel:bW)(w:af)(hlen:xs.length<=1048576)(hs:I6 w ad xs):
  Calls prog 140 #[.slice ad xs.length cap,.string typ,.string rel] w fun e w'=>e=.returned (.int .i64 (il typ rel xs 0))/\w'=w:=by
 go_enter func140,ntmps140;go_wp2;go_loopw[7] (fun i wr=>∃k:Nat,k<=xs.length/\i=.int .i64 k/\Hid (il typ rel (xs.drop k) k=il typ rel xs 0)/\wr=w) (fun i _=>xs.length-(intOf i).toNat);case atStart=>exact⟨0,Vf _,rfl,rfl,rfl⟩
 obtain⟨k,hk,rfl,HP,rfl⟩:=hrel;by_cases hlt:k<xs.length
 ·rcases hs with rfl|⟨b,off,rfl,hb,hr⟩
  ·simp at hlt
  obtain⟨t0,t1,t2⟩:=hr k hlt;have hk1:=bC k;have hk2:(k:Int)<(xs.length:Int):=by omega
  clear hr;cases hq:(xs[k].typ.toList==typ.toList);case true=>
   cases hp:(xs[k].rel.toList==rel.toList);case true=>
    have HN:Hid (il typ rel xs 0=(k:Int)):=by show _=_;rw[<-HP.out,qD _ _ _ _ hlt];simp[zR,hq,hp]
    go_wp2;go_ret;exact⟨by rw[HN.out];rfl,rfl⟩
   have WB:Hid (il typ rel (xs.drop (k+1)) (k+1)=il typ rel xs 0):=by show _=_;rw[<-HP.out,qD _ _ _ _ hlt];simp[zR,hq,hp]
   go_wp2;go_roundw;case rel=>exact⟨k+1,by omega,by go_num,WB,by first|rfl|trivial⟩
   simp[intOf]<;>omega
  have WB:Hid (il typ rel (xs.drop (k+1)) (k+1)=il typ rel xs 0):=by show _=_;rw[<-HP.out,qD _ _ _ _ hlt];simp[zR,hq]
  go_wp2;go_roundw;case rel=>exact⟨k+1,by omega,by go_num,WB,by first|rfl|trivial⟩
  simp[intOf]<;>omega
 have HN:Hid (il typ rel xs 0=-1):=by show _=_;rw[<-HP.out,Vt (by omega)];rfl
 go_wp2;go_ret;exact⟨by rw[HN.out];rfl,rfl⟩
structure Dp where
 typ:ByteArray
 rel:ByteArray
 neg:Bool
def Dp.cells(d:Dp):List Value:=[.string d.typ,.string d.rel,.bool d.neg]
def eF:List Dp->List Value
 | []=>[]
 | d::ds=>d.cells++eF ds
theorem EH(xs ys:List Dp):eF (xs++ys)=eF xs++eF ys:=by
 induction xs with
 | nil=>rfl
 | cons d ds ih=>simp[eF,ih]
theorem tZ(xs:List Dp)(d:Dp):eF (xs++[d])=eF xs++d.cells:=by rw[EH];simp[eF]
def dw(neg:Bool):List Al->List Dp
 | []=>[]
 | a::xs=>if a.s.toList.isEmpty then dw neg xs else ⟨a.t,a.s,neg⟩::dw neg xs
def lw(ts:Q0b)(typ:ByteArray)(neg:Bool)(e:Ex):List Dp :=
 if e.kind=2 then [⟨typ,e.name,neg⟩] else if e.kind=3 then (iC ts typ e.over e.name).map fun g=>⟨g,e.name,neg⟩ else []
def iD(ts:Q0b)(typ:ByteArray)(es:Q09)(k:Nat):List Dp :=
 match es[k]? with
 | none=>[]
 | some e=>dw ((dC es).getD k false) e.allow++lw ts typ ((dC es).getD k false) e
def aS(ts:Q0b)(typ:ByteArray)(es:Q09):Nat->List Dp
 | 0=>[]
 | k+1=>aS ts typ es k++iD ts typ es k
def qh(ts:Q0b)(typ:ByteArray)(es:Q09):List Dp:=aS ts typ es es.length
theorem uX(neg:Bool)(xs ys:Q0a):dw neg (xs++ys)=dw neg xs++dw neg ys:=by
 induction xs with
 | nil=>rfl
 | cons a xs ih=>simp only[VS,dw,ih];split<;>simp
theorem Oj(neg:Bool)(xs:Q0a)(k:Nat)(h:k<xs.length)(he:xs[k].s.toList.isEmpty=true):dw neg (xs.take (k+1))=dw neg (xs.take k):=by
 rw[Ve h,uX];simp[dw]at he ⊢;simp[he]
theorem LU(neg:Bool)(xs:Q0a)(k:Nat)(h:k<xs.length)(he:xs[k].s.toList.isEmpty=false):dw neg (xs.take (k+1))=dw neg (xs.take k)++[⟨xs[k].t,xs[k].s,neg⟩]:=by
 rw[Ve h,uX];simp[dw,he]
theorem Da(neg:Bool)(xs:Q0a):(dw neg xs).length<=xs.length:=by
 induction xs with
 | nil=>simp[dw]
 | cons a xs ih=>simp only[dw];split<;>simp<;>omega
theorem Ol:(prog.info? 220).map (fun i=>(i.zero,i.size,i.bytes))=some (some (.agg #[.string ⟨#[]⟩,.string ⟨#[]⟩,.bool false]),3,40):=by kernel_rfl
end Go.Proofs.YtajkkeikihhejaaGreat
