/- The text of the drawing's last resort can be read, and says a right schema. -/
import Derived.Test.YtojjoblnpldniaaGreatSq
import Derived.Test.YtojjoblnpldniaaGreatJ12
import Derived.RangeFuncLeaves
import Derived.OwnWalkIn
import Derived.TacticsInMore
import Derived.LoopNIn
import Derived.LoopIn
open Go.Proofs.Tryz
set_option maxHeartbeats 80000000
set_option linter.defProp false
namespace Go.Proofs.YtojjoblnpldniaaGreat
open Pl
def lastT:ByteArray:=⟨#[116,121,112,101,32,100,111,99,10,118,105,101,119,101,114,32,61,32,116,104,105,115,40,117,115,101,114,41,10,116,121,112,101,32,117,115,101,114,10]⟩
def Jj:List Ty:=[⟨⟨#[100,111,99]⟩,[⟨⟨#[118,105,101,119,101,114]⟩,[⟨1,[⟨⟨#[117,115,101,114]⟩,⟨#[]⟩⟩],⟨#[]⟩,⟨#[]⟩,[]⟩]⟩]⟩,⟨⟨#[117,115,101,114]⟩,[]⟩]
def LY:eu (lastT.size+1) lastT []=some Jj:=cw
def LZ:aG Jj=true:=by
 refine aM.2 ⟨cw,cw,fun _=>0,⟨fun _=>Int.le_refl _,fun k hk d hd=>?_⟩⟩;have h:((ay Jj).all fun k=>(iW Jj k).isEmpty)=true:=cw
 have h2:=WT.1 h k hk;rw[List.isEmpty_iff.1 h2]at hd;cases hd
def Pre(t:ByteArray):Prop:=∃x y z c tl,t.data.toList=116::121::112::101::32::x::y::z::10::c::tl/\x≠10/\y≠10/\z≠10/\c≠116
def Pre.app{t:ByteArray}(h:Pre t)(u:bN):Pre (t++u):=by
 obtain⟨x,y,z,c,tl,e,h1⟩:=h;exact⟨x,y,z,c,tl++u.data.toList,by rw[XI,Array.toList_append,e];rfl,h1⟩
def RZ{n:ByteArray}(h:aS n=true):∀b∈n.data.toList,b≠10:=by
 intro b hb e;unfold aS dZ uf at h;simp only[WM]at h;have:=WT.1 h.1.2 b hb;rw[e]at this
 revert this
 decide
def OX{rs:Q06}(hd:aG (ae rs)=true)(h:Pre<|bP<|ae rs):∃t ts q qs x xs,rs=t::ts/\t.rows=q::qs/\q.rows=x::xs:=by
 have hS:=aM.1 hd;obtain⟨x,y,z,c,tl,e,hx,hy,hz,hc⟩:=h;cases rs with
 | nil=>simp[ae,bP]at e
 | cons t ts =>
  have hn:=RZ (mq hS.1 0 ct).1;simp only[List.getElem_cons_zero]at hn;have e2:(116::121::112::101::32::(t.name.data.toList++10::((di<|df t.rows).data.toList++(bP<|ae ts).data.toList)))=116::121::112::101::32::x::y::z::10::c::tl:=by
   rw[<-e];show _=(bP (⟨t.name,df t.rows⟩::ae ts)).data.toList;simp[bP,gZ,ByteArray.data_append]
  simp only[List.cons.injEq,true_and]at e2;have key:(di<|df t.rows).data.toList++(bP<|ae ts).data.toList=c::tl:=by
   generalize (di<|df t.rows).data.toList++(bP<|ae ts).data.toList=rest at e2;generalize t.name.data.toList=nm at e2 hn
   match nm,e2,hn with
   | [],e2,_=>simp at e2;exact absurd e2.1.symm hx
   | [a],e2,_=>simp at e2;exact absurd e2.2.1.symm hy
   | [a,b],e2,_=>simp at e2;exact absurd e2.2.2.1.symm hz
   | [a,b,d],e2,_=>simp at e2;exact e2.2.2.2
   | a::b::d::f::nm,e2,hn=>simp at e2;exact absurd e2.2.2.2.1<|hn f ct
  cases hr:t.rows with
  | nil =>
   rw[hr]at key;cases ts with
   | nil=>simp[df,di,ae,bP]at key
   | cons u us =>
    have:(bP<|ae (u::us)).data.toList.head?=some 116:=by
     show(bP (⟨u.name,df u.rows⟩::ae us)).data.toList.head?=_;simp[bP,gZ,ByteArray.data_append]
    simp only[df,List.map_nil,di]at key;rw[show((⟨#[]⟩:ByteArray).data.toList++(bP<|ae (u::us)).data.toList)=(bP<|ae (u::us)).data.toList from rfl]at key;rw[key]at this;simp at this;exact absurd this hc
  | cons q qs =>
   obtain⟨h1,-⟩:=(aW hS.1).2.2 t ct q (by rw[hr];simp);have h2:=(kL h1).1;rw[au]at h2;cases hq:q.rows with
   | nil=>rw[hq]at h2;simp at h2
   | cons x xs=>exact⟨t,ts,q,qs,x,xs,rfl,hr,hq⟩
open ChangeAt ChangeShapes RowKit WideShapes
set_option linter.unusedVariables false
set_option maxRecDepth 100000
section
variable  {α:Type}{T:TypeId}{size:Nat}{cells:α->List Value}{K:World->Nat->α->Prop}{I:α->Nat->Prop}{w w':World}{base:Nat}{v:Value}
def Cx{q q':α}{rs:List α}(hI:∀g,I q' g->I q g)(h:∀(x y:Nat) (hx:x<(q::rs).length) (hy:y<(q::rs).length),x≠y->∀g,I (q::rs)[x] g->¬I (q::rs)[y] g):
  ∀(x y:Nat) (hx:x<(q'::rs).length) (hy:y<(q'::rs).length),x≠y->∀g,I (q'::rs)[x] g->¬I (q'::rs)[y] g:=by
 intro x y hx hy hxy g h1 h2;cases x with
 | zero =>
  cases y with
  | zero=>exact hxy rfl
  | succ y=>exact h 0 (y+1) ct (by simpa using hy) cq g (hI g h1) h2
 | succ x =>
  cases y with
  | zero=>exact h (x+1) 0 (by simpa using hx) ct cq g h1 (hI g h2)
  | succ y=>exact h (x+1) (y+1) (by simpa using hx) (by simpa using hy) hxy g h1 h2
def X8.first(kd:Kid K I){q q':α}{rs:List α}{b n cap j:Nat}{u:Value}(h:X8 T size cells K I w base (.slice (some<|am b) n cap) (q::rs))(hn:n=rs.length+1)
  (hq':∀w,K w base q->K w base q') (hI:∀g,I q' g->I q g) (hset:((q::rs).flatMap cells).set j u=(q'::rs).flatMap cells) :
  X8 T size cells K I (w.setCell (aq b j) u) base (.slice (some<|am b) n cap) (q'::rs):=by
 have own1:w.ownsRow base T size (.slice (some<|am b) n cap) n ((q::rs).flatMap cells):=by have:=h.own;rwa [show(q::rs).length=n by simp[hn]]at this
 obtain⟨ZX,hg2⟩:=own1.stored j u;rw[hset]at ZX;have hne:∀p∈q::rs,∀g,I p g->g≠b:=fun p hp g hi e=>h.head p hp g hi (by rw[e];rfl);have keep:∀p∈q::rs,K (w.setCell (aq b j) u) base p:=fun p hp=>kd.heap w _ base p (h.kid p hp) hg2.size fun g hi=>Below.heap_setCell w _ u g<|hne p hp g hi;refine⟨by simpa[hn] using ZX,fun p hp=>?_,fun p hp g hi=>?_,Cx hI h.two⟩
 ·rcases Xc.1 hp with rfl|hp
  ·exact hq' _<|keep q ct
  exact keep p (by simp[hp])
 rcases Xc.1 hp with rfl|hp
 ·exact h.head q ct g<|hI g hi
 exact h.head p (by simp[hp]) g hi
def X8.firstIn(kd:Kid K I){q q':α}{rs:List α}(h:X8 T size cells K I w base v (q::rs))(hs:cV w w')(hh:∀g,¬I q g->w'.heap[g]?=w.heap[g]?)(hc:cells q'=cells q)(hk:K w' base q')(hI:∀g,I q' g->I q g):
  X8 T size cells K I w' base v (q'::rs):=by
 refine⟨?_,fun p hp=>?_,fun p hp g hi=>?_,Cx hI h.two⟩
 ·have h1:=dJ (w':=w') h.own fun g hg=>hh g fun hi=>h.head q ct g hi hg;simpa[List.flatMap_cons,hc] using h1
 ·rcases Xc.1 hp with rfl|hp
  ·exact hk
  refine kd.heap w w' base p (h.kid p<|by simp[hp]) hs fun g hi=>hh g fun hq=>?_;obtain⟨i,hi2,rfl⟩:=Xt hp;exact h.two 0 (i+1) ct (by simp;omega) cq g hq hi
 rcases Xc.1 hp with rfl|hp
 ·exact h.head q ct g<|hI g hi
 exact h.head p (by simp[hp]) g hi
end
def ER.asK(x:ER)(k:Int):ER:={ x with e:={ x.e with kind:=k } }
def NodM.kind{w:af}{base b n cap:Nat}{x:ER}{xs:Q08}(k:Int)(h:NodM w base (.slice (some<|am b) n cap) (x::xs))(hn:n=xs.length+1):NodM (w.setCell (am b)<|.int .i64 k) base (.slice (some<|am b) n cap) (x.asK k::xs):=by
 have own1:w.ownsRow base 43 5 (.slice (some<|am b) n cap) n (dV (x::xs)):=by have:=h.own;rwa [show(x::xs).length=n by simp[hn]]at this
 obtain⟨ZX,hg2⟩:=own1.stored 0<|.int .i64 k;have hset:(dV (x::xs)).set 0 (.int .i64 k)=dV (x.asK k::xs):=by simp[dV,ER.row,ER.asK]
 rw[hset]at ZX;have hb:∀q∈x::xs,∀g,mr q g->g≠b:=fun q hq g hg e=>(h.lie q hq g hg).2.2.2 (by rw[e];rfl);have hsame:∀g,g≠b->(w.setCell (am b)<|.int .i64 k).heap[g]?=w.heap[g]?:=fun g hg=>Below.heap_setCell w _ _ g hg;have hall:∀{P:ER->Prop},(∀q∈x::xs,P q)->(P x->P (x.asK k))->∀q∈x.asK k::xs,P q:=fun hP hx q hq=>by
  rcases Xc.1 hq with rfl|hq
  ·exact hx<|hP x ct
  exact hP q (by simp[hq])
 refine ⟨by simpa [hn] using ZX,hall h.zA id,hall h.zK id,hall (P:=fun q=>q.ok _) (fun q hq=>qw (h.ok q hq) hg2.size (h.zA q hq) (h.zK q hq) fun g hg=>hsame g<|hb q hq g hg) id,hall (P:=fun q=>∀ g,mr q g->base<=g/\g<(w.setCell (am b)<|.int .i64 k).heap.size/\jV (w.setCell (am b)<|.int .i64 k) g/\_) (fun q hq g hg=>by
  obtain⟨a1,a2,a3,a4⟩:=h.lie q hq g hg;exact⟨a1,WJ a2 hg2.size,cz a3<|hsame g<|hb q hq g hg,a4⟩) id,hall h.one id,?_,hall h.cA id⟩
 exact Cx (I:=mr) (q:=x) (q':=x.asK k) (fun g hg=>hg) h.two
def dA.named{w:af}{base b n cap:Nat}{t:TR}{ts:Q06}(nm:bN)(h:dA w base (.slice (some<|am b) n cap) (t::ts))(hn:n=ts.length+1):dA (w.setCell (am b)<|.string nm) base (.slice (some<|am b) n cap) (({ t with name:=nm }:TR)::ts) :=
 X8.first jW h hn (fun w hk=>hk) (fun g hg=>hg) (by simp[TR.cells,TR.vs])
def TR.asK(t:TR)(q:RR)(qs:Q07)(x:ER)(xs:Q08)(k:Int):TR:={ t with rows:={ q with rows:=x.asK k::xs }::qs }
def dA.kind{w:af}{base b:Nat}{v:Value}{t:TR}{ts:Q06}{q:RR}{qs:Q07}{x:ER}{xs:Q08}(k:Int)(h:dA w base v (t::ts))(ht:t.rows=q::qs)(hq:q.rows=x::xs)(hb:q.ad=some (am b)):
  dA (w.setCell (am b)<|.int .i64 k) base v (t.asK q qs x xs k::ts):=by
 have hkt:=h.kid t ct;have hR:jJ w base t.vs (q::qs):=by have:=hkt;unfold kT at this;rwa [ht]at this
 have hkq:=hR.kid q ct;have hN:NodM w base q.vs (x::xs):=by have:=hkq;unfold kR at this;rwa [hq]at this
 have hvq:q.vs=.slice (some<|am b) (xs.length+1) q.cap:=by unfold RR.vs;rw[hb,hq];rfl
 rw[hvq]at hN;have hN2:=hN.kind k rfl;have hsz:w.heap.size<=(w.setCell (am b)<|.int .i64 k).heap.size:=ct;have hsame:∀g,g≠b->(w.setCell (am b)<|.int .i64 k).heap[g]?=w.heap[g]?:=fun g hg=>Below.heap_setCell w _ _ g hg;have hib:iR q b:=.inl (by rw[hvq];rfl);have hvq2:({ q with rows:=x.asK k::xs }:RR).vs=q.vs:=by unfold RR.vs;rw[hq];rfl
 have hiR:∀g,iR { q with rows:=x.asK k::xs } g->iR q g:=fun g hg=>by
  rcases hg with hg|⟨y,hy,hg⟩
  ·exact .inl (by rw[<-hvq2];exact hg)
  rcases Xc.1 hy with rfl|hy
  ·exact .inr ⟨x,by rw[hq];simp,hg⟩
  exact .inr ⟨y,by rw[hq];simp[hy],hg⟩
 have hR2:jJ (w.setCell (am b)<|.int .i64 k) base t.vs ({ q with rows:=x.asK k::xs }::qs):=X8.firstIn oG hR hsz (fun g hg=>hsame g fun e=>hg<|by rw[e];exact hib) (by unfold RR.cells;rw[hvq2]) (by show NodM _ _ _ _;rw[hvq2,hvq];exact hN2) hiR;have hvt:(t.asK q qs x xs k).vs=t.vs:=by unfold TR.vs TR.asK;rw[ht];rfl
 have hit:iT t b:=.inr ⟨q,by rw[ht];simp,hib⟩;refine X8.firstIn jW h hsz (fun g hg=>hsame g fun e=>hg<|by rw[e];exact hit) (by unfold TR.cells;rw[hvt];rfl) (by show jJ _ _ _ _;rw[hvt];exact hR2) fun g hg=>?_;rcases hg with hg|⟨y,hy,hg⟩
 ·exact .inl (by rw[<-hvt];exact hg)
 rcases Xc.1 hy with rfl|hy
 ·exact .inr ⟨q,by rw[ht];simp,hiR g hg⟩
 exact .inr ⟨y,by rw[ht];simp[hy],hg⟩
open Maps
set_option maxRecDepth 8000 in
def OY(b off cap:Nat)(ts:Q05)(t:Tp)(w:af)(hlen:ts.length<=1000)(hcap:ts.length<=cap)(hs:lQ w b off ts)(hb:cU b w)(hf:∀x∈ts,x.fits)(ht:t.fits):
  Calls prog 132 #[.slice (some<|aq b off) ts.length cap,.agg<|cg t] w fun e w'=>∃v:Value,e=.returned v/\cD w w' 29 6 v (kD ts t).length (bn<|kD ts t)/\ag w w':=by
 obtain⟨iT,hiT,zT0,zT1,zT2⟩:=info_parts (P:=prog) (e:=29) (z:=.agg ar) (size:=6) (bytes:=96) cw;have HIT:O (prog.info? 29=some iT/\iT.zero=some (.agg ar)/\iT.size=6/\iT.bytes=96):=⟨hiT,zT0,zT1,zT2⟩;have HS:=aB hs;have HF:=aB hf;have HT:O t.fits:=ht;clear hs hf ht hiT zT0 zT1 zT2;obtain⟨W0,hW0⟩:=eQx<|w.alloc<|.cells (cg t) 29;have HB0:=tZ hW0;have HX0:O (wZ W0 w.heap.size t):=by show wZ _ _ _;rw[hW0];exact Am w t _
 go_enter func132,ntmps132;go_wp2;rw[<-hW0];clear hW0;go_loopw[5] (fun i wr=>∃k:Nat,k<=ts.length/\i=.int .i64 k/\O (∀i (h:i<ts.length),i<k->ts[i].ahead t=true)/\O (ag w wr)/\O (wZ wr w.heap.size t)) (fun i _=>ts.length-(intOf i).toNat);case atStart=>exact⟨0,WO _,rfl,fun i h hi=>cq,HB0,HX0⟩
 clear HX0 HB0;obtain⟨k,hk,rfl,HU,HB,HX⟩:=hrel;have hk1:=bY k;by_cases hlt:k<ts.length
 ·have hk2:(k:Int)<(ts.length:Int):=cq;obtain⟨t0,t1,t2,t3,t4,t5⟩:=(HS.below HB hb) k hlt;obtain⟨x0,x1,x2,x3,x4,x5,xl⟩:=HX.out;have hbr:cU b wr:=WJ hb HB.size;obtain⟨f0,f1,f2,f3,f4,f5⟩:=HF _<|WH hlt;obtain⟨e0,e1,e2,e3,e4,e5⟩:=HT.out;have HA:O (∀W,Calls prog 199 #[.agg (cg ts[k]),.agg<|cg t] W<|bj W<|.bool<|ts[k].ahead t):=fun W=>ul _ _ _ _ _ _ _ _ _ _ _ _ W f0 f1 f2 f3 f4 f5 e0 e1 e2 e3 e4 e5;clear f0 f1 f2 f3 f4 f5 e0 e1 e2 e3 e4 e5;have H0:wr.drew.cell? (aq b<|off+k*6)=some (.string ts[k].a)/\wr.drew.cell? (aq b<|off+k*6+1)=some (.string ts[k].b)/\wr.drew.cell? (aq b<|off+k*6+2)=some (.string ts[k].r)/\wr.drew.cell? (aq b<|off+k*6+3)=some (.string ts[k].c)/\wr.drew.cell? (aq b<|off+k*6+4)=some (.string ts[k].d)/\wr.drew.cell? (aq b<|off+k*6+5)=some (.string ts[k].s)/\wr.drew.cell? (a7 w)=some (.string t.a)/\wr.drew.cell? (a8 w 1)=some (.string t.b)/\wr.drew.cell? (a8 w 2)=some (.string t.r)/\wr.drew.cell? (a8 w 3)=some (.string t.c)/\wr.drew.cell? (a8 w 4)=some (.string t.d)/\wr.drew.cell? (a8 w 5)=some (.string t.s)/\b<wr.drew.heap.size/\w.heap.size<wr.drew.heap.size/\ag w wr.drew:=⟨t0,t1,t2,t3,t4,t5,x0,x1,x2,x3,x4,x5,hbr,xl,HB.drew⟩;clear t0 t1 t2 t3 t4 t5 x0 x1 x2 x3 x4 x5;generalize hq:ts[k].ahead t=q at HA;cases q;case true=>
   have HQ:O (ts[k].ahead t=true):=hq;clear hq;go_wp2_with fail
   go_region_held3 (fun w'=>w'.cell? (aq b<|off+k*6)=some (.string ts[k].a)/\w'.cell? (aq b<|off+k*6+1)=some (.string ts[k].b)/\w'.cell? (aq b<|off+k*6+2)=some (.string ts[k].r)/\w'.cell? (aq b<|off+k*6+3)=some (.string ts[k].c)/\w'.cell? (aq b<|off+k*6+4)=some (.string ts[k].d)/\w'.cell? (aq b<|off+k*6+5)=some (.string ts[k].s)/\w'.cell? (a7 w)=some (.string t.a)/\w'.cell? (a8 w 1)=some (.string t.b)/\w'.cell? (a8 w 2)=some (.string t.r)/\w'.cell? (a8 w 3)=some (.string t.c)/\w'.cell? (a8 w 4)=some (.string t.d)/\w'.cell? (a8 w 5)=some (.string t.s)/\b<w'.heap.size/\w.heap.size<w'.heap.size/\ag w w')
    (first|assumption|exact MV cE hbx|exact H0)
    (first|(go_at_call 199;refine(HA _).mono ?_;rintro e w' ⟨rfl,hbx⟩))
   rename_i hH;obtain⟨-,-,-,-,-,-,x0,x1,x2,x3,x4,x5,-,xl,gB⟩:=hH;have HB2:=cZ gB;have HX2:=cZ<|Q9 x0 x1 x2 x3 x4 x5 xl;have HU2:O (∀i (h:i<ts.length),i<k+1->ts[i].ahead t=true):=fun i h hi=>by
    by_cases e:i=k
    ·subst e;exact HQ
    exact HU i h cq
   clear x0 x1 x2 x3 x4 x5 gB hbx H0 HA HQ HU HB HX;go_wp2;go_roundw;case rel=>exact⟨k+1,cq,cx,HU2,HB2,HX2⟩
   simp[intOf]<;>omega
  have HQ:O (ts[k].ahead t=false):=hq;clear hq;go_wp2_with fail
  go_region_held3 (fun w'=>w'.cell? (aq b<|off+k*6)=some (.string ts[k].a)/\w'.cell? (aq b<|off+k*6+1)=some (.string ts[k].b)/\w'.cell? (aq b<|off+k*6+2)=some (.string ts[k].r)/\w'.cell? (aq b<|off+k*6+3)=some (.string ts[k].c)/\w'.cell? (aq b<|off+k*6+4)=some (.string ts[k].d)/\w'.cell? (aq b<|off+k*6+5)=some (.string ts[k].s)/\w'.cell? (a7 w)=some (.string t.a)/\w'.cell? (a8 w 1)=some (.string t.b)/\w'.cell? (a8 w 2)=some (.string t.r)/\w'.cell? (a8 w 3)=some (.string t.c)/\w'.cell? (a8 w 4)=some (.string t.d)/\w'.cell? (a8 w 5)=some (.string t.s)/\b<w'.heap.size/\w.heap.size<w'.heap.size/\ag w w')
   (first|assumption|exact MV cE hbx|exact H0)
   (first|(go_at_call 199;refine(HA _).mono ?_;rintro e w' ⟨rfl,hbx⟩))
  rename_i hH;obtain⟨-,-,-,-,-,-,x0,x1,x2,x3,x4,x5,-,xl,gB⟩:=hH;have HP:=cZ<|MU ts t k hk HU fun _=>HQ;have Yg:=cZ gB;have HXW:=cZ<|Q9 x0 x1 x2 x3 x4 x5 xl;clear hbx H0 HA HQ HU HB HX gB x0 x1 x2 x3 x4 x5;obtain⟨W1,hW1⟩:=eQx<|w'.alloc<|.cells #[] 29;have HLIT:O (cD w' W1 29 6 (.slice (some<|a7 w') 0 0) 0 []):=by
   show World.ownsRow _ _ _ _ _ _ _;rw[hW1];exact World.ownsRow_lit w' #[] 0 (WK _) cy ct
  have aaa:=tZ hW1;have HR1:O (lQ W1 b off ts):=(HS.below Yg hb).below aaa<|WJ hb Yg.size;have Zv:=aB<|HXW.below aaa;have HB1:O (ag w W1):=Yg.trans<|aaa.mono Yg.size;have hWs:cW w w':=HXW.2.2.2.2.2.2;have hb1:cU b W1:=WJ hb HB1.size;have hkc:k<=cap:=cq;have hz1:cV w' W1:=aaa.size;clear Yg HXW aaa;go_wp2_with(at_builtin;rw[<-hW1];clear hW1;refine wpList_append_own_at _ rfl _ _ 25 rfl w'.heap.size 29 iT (.agg ar) 6 96 underlying25 HIT.1 HIT.2.1 HIT.2.2.1 HIT.2.2.2 rfl cv _ 0 [] rfl HLIT ⟨b,off,none⟩ k cap (bn<|ts.take k) rfl (by rw[jP,XC];congr 1;omega) (vk<|EK HR1 k) (tu _) cy cq hz1 ?_);intro v2 w2 hown2 Yl _ _;have Yk:O (cD w' w2 29 6 v2 k<|bn<|ts.take k):=by
   show World.ownsRow _ _ _ _ _ _ _
   first|exact hown2|(rw[Xl,XR]at hown2;exact hown2)
  have hne:some w.heap.size≠Value.ownBlock (.slice (some<|a7 w') 0 0):=fun e=>by simp[Value.ownBlock]at e;omega
  have hnb:some b≠Value.ownBlock (.slice (some<|a7 w') 0 0):=fun e=>by simp[Value.ownBlock]at e;omega
  have HX2:O (wZ w2 w.heap.size t):=Zv.grown Yl hne;have HR2:O (lQ w2 b off ts):=qC HR1 Yl hb1 hnb;have HB2:O (ag w w2):=HB1.grown Yl HB1.size (fun g hg=>by simp[Value.ownBlock]at hg;omega);have hz2:cV w' w2:=WR hz1 Yl.size;clear hown2 Yl HLIT Zv HR1 HB1 hne hnb;obtain⟨x0,x1,x2,x3,x4,x5,xl2⟩:=HX2.out;obtain⟨W3,hW3⟩:=eQx<|w2.alloc<|.cells (cg t) 29;have YK:O (cD w' W3 29 6 v2 k<|bn<|ts.take k):=by show World.ownsRow _ _ _ _ _ _ _;rw[hW3];exact Yk.alloc _
  have YX:O (∀j u,t.row[j]?=some u->W3.cell? ((⟨w2.heap.size,0,none⟩:Addr).add j)=some u):=by show ∀j u,_;rw[hW3];exact sU w2 t
  have HB23:=tZ hW3;have HB3:O (ag w W3):=HB2.trans<|HB23.mono HB2.size;have HR3:O (lQ W3 b off ts):=HR2.below HB23<|WJ hb HB2.size;have hz3:cV w' W3:=WR hz2 HB23.size;have hb3:cU b W3:=WJ hb HB3.size;clear HB23 HB2 HR2 HX2 hb1 hz1 hz2;go_wp2_with(at_builtin;rw[<-hW3];clear hW3;refine wpList_append_own_at _ rfl _ _ 25 rfl w'.heap.size 29 iT (.agg ar) 6 96 underlying25 HIT.1 HIT.2.1 HIT.2.2.1 HIT.2.2.2 rfl cv v2 k (bn<|ts.take k) rfl YK ⟨w2.heap.size,0,none⟩ 1 1 t.row rfl rfl YX (rU _) cy cq hz3 ?_);intro v4 w4 YB YM _ _;have hnb:some b≠v2.ownBlock:=fun e=>by have:=(Yk.lt b e.symm).1;omega
  have HR4:O (lQ w4 b off ts):=qC HR3 YM hb3 hnb;have YF:O (ag w w4):=HB3.grown YM HB3.size (fun g hg=>by have:=(Yk.lt g hg).1;omega);have YG:=aB YB;have hz4:cV w' w4:=WR hz3 YM.size;clear YB YM YK Yk YX HB3 HR3 hb3 hz3 hnb x0 x1 x2 x3 x4 x5 xl2;have hdl:(ts.drop k).length=ts.length-k:=XT;clear hdl;go_wp2_with(at_builtin;refine wpList_append_own_at _ rfl _ _ 25 rfl w'.heap.size 29 iT (.agg ar) 6 96 underlying25 HIT.1 HIT.2.1 HIT.2.2.1 HIT.2.2.2 rfl cv v4 (k+1) (bn (ts.take k)++t.row) rfl YG ⟨b,off+k*6,none⟩ (ts.length-k) (cap-k) (bn<|ts.drop k) rfl (by rw[jP,XT]) (vk<|Oq HR4 k) (tu _) cy cq hz4 ?_);intro v5 w5 hown5 hgr5 _ _;have Yo:O (ag w w5):=YF.grown hgr5 YF.size (fun g hg=>by have:=(YG.lt g hg).1;omega);have hlp:(kD ts t).length=k+1+(ts.length-k):=by rw[HP];simp;omega
  have hown6:cD w' w5 29 6 v5 (kD ts t).length (bn<|kD ts t):=by
   rw[hlp,HP,show ts.take k++t::ts.drop k=(ts.take k++[t])++ts.drop k by simp,wY,qy];first|exact hown5|(rw[Xg];exact hown5)
  have Zt:=cZ<|fV hown6<|XW hWs;clear hown5 hown6 hgr5 hlp;go_wp2;go_ret;exact⟨v5,rfl,Zt,Yo⟩
 have hd:decide ((k:Int)<(ts.length:Int))=false:=by simp;omega
 go_wp2_with fail;go_quiet (fail);have HP:=cZ<|MU ts t k hk HU fun h=>absurd h hlt;obtain⟨W9,Z4⟩:∃W9,wr.drewN nq=W9:=⟨_,rfl⟩;have Yg:O (ag w W9):=by show Below _ _ _;rw[<-Z4];exact⟨HB.os,HB.tape,HB.output,HB.size,HB.block⟩
 have HXW:O (wZ W9 w.heap.size t):=by show wZ _ _ _;rw[<-Z4];exact HX
 rw[Z4];clear Z4 HU HB HX hd;obtain⟨W1,hW1⟩:=eQx<|W9.alloc<|.cells #[] 29;have HLIT:O (cD W9 W1 29 6 (.slice (some<|a7 W9) 0 0) 0 []):=by
  show World.ownsRow _ _ _ _ _ _ _;rw[hW1];exact World.ownsRow_lit W9 #[] 0 (WK _) cy ct
 have aaa:=tZ hW1;have HR1:O (lQ W1 b off ts):=(HS.below Yg hb).below aaa<|WJ hb Yg.size;have Zv:=aB<|HXW.below aaa;have HB1:O (ag w W1):=Yg.trans<|aaa.mono Yg.size;have hWs:cW w W9:=HXW.2.2.2.2.2.2;have hb1:cU b W1:=WJ hb HB1.size;have hkc:k<=cap:=cq;have hz1:cV W9 W1:=aaa.size;clear Yg HXW aaa;go_wp2_with(at_builtin;rw[<-hW1];clear hW1;refine wpList_append_own_at _ rfl _ _ 25 rfl W9.heap.size 29 iT (.agg ar) 6 96 underlying25 HIT.1 HIT.2.1 HIT.2.2.1 HIT.2.2.2 rfl cv _ 0 [] rfl HLIT ⟨b,off,none⟩ k cap (bn<|ts.take k) rfl (by rw[jP,XC];congr 1;omega) (vk<|EK HR1 k) (tu _) cy cq hz1 ?_);intro v2 w2 hown2 Yl _ _;have Yk:O (cD W9 w2 29 6 v2 k<|bn<|ts.take k):=by
  show World.ownsRow _ _ _ _ _ _ _
  first|exact hown2|(rw[Xl,XR]at hown2;exact hown2)
 have hne:some w.heap.size≠Value.ownBlock (.slice (some<|a7 W9) 0 0):=fun e=>by simp[Value.ownBlock]at e;omega
 have hnb:some b≠Value.ownBlock (.slice (some<|a7 W9) 0 0):=fun e=>by simp[Value.ownBlock]at e;omega
 have HX2:O (wZ w2 w.heap.size t):=Zv.grown Yl hne;have HR2:O (lQ w2 b off ts):=qC HR1 Yl hb1 hnb;have HB2:O (ag w w2):=HB1.grown Yl HB1.size (fun g hg=>by simp[Value.ownBlock]at hg;omega);have hz2:cV W9 w2:=WR hz1 Yl.size;clear hown2 Yl HLIT Zv HR1 HB1 hne hnb;obtain⟨x0,x1,x2,x3,x4,x5,xl2⟩:=HX2.out;obtain⟨W3,hW3⟩:=eQx<|w2.alloc<|.cells (cg t) 29;have YK:O (cD W9 W3 29 6 v2 k<|bn<|ts.take k):=by show World.ownsRow _ _ _ _ _ _ _;rw[hW3];exact Yk.alloc _
 have YX:O (∀j u,t.row[j]?=some u->W3.cell? ((⟨w2.heap.size,0,none⟩:Addr).add j)=some u):=by show ∀j u,_;rw[hW3];exact sU w2 t
 have HB23:=tZ hW3;have HB3:O (ag w W3):=HB2.trans<|HB23.mono HB2.size;have HR3:O (lQ W3 b off ts):=HR2.below HB23<|WJ hb HB2.size;have hz3:cV W9 W3:=WR hz2 HB23.size;have hb3:cU b W3:=WJ hb HB3.size;clear HB23 HB2 HR2 HX2 hb1 hz1 hz2;go_wp2_with(at_builtin;rw[<-hW3];clear hW3;refine wpList_append_own_at _ rfl _ _ 25 rfl W9.heap.size 29 iT (.agg ar) 6 96 underlying25 HIT.1 HIT.2.1 HIT.2.2.1 HIT.2.2.2 rfl cv v2 k (bn<|ts.take k) rfl YK ⟨w2.heap.size,0,none⟩ 1 1 t.row rfl rfl YX (rU _) cy cq hz3 ?_);intro v4 w4 YB YM _ _;have hnb:some b≠v2.ownBlock:=fun e=>by have:=(Yk.lt b e.symm).1;omega
 have HR4:O (lQ w4 b off ts):=qC HR3 YM hb3 hnb;have YF:O (ag w w4):=HB3.grown YM HB3.size (fun g hg=>by have:=(Yk.lt g hg).1;omega);have YG:=aB YB;have hz4:cV W9 w4:=WR hz3 YM.size;clear YB YM YK Yk YX HB3 HR3 hb3 hz3 hnb x0 x1 x2 x3 x4 x5 xl2;have hdl:(ts.drop k).length=ts.length-k:=XT;clear hdl;by_cases hce:cap=k
 all_goals
  go_wp2_with(at_builtin;refine wpList_append_own_at _ rfl _ _ 25 rfl W9.heap.size 29 iT (.agg ar) 6 96 underlying25 HIT.1 HIT.2.1 HIT.2.2.1 HIT.2.2.2 rfl cv v4 (k+1) (bn (ts.take k)++t.row) rfl YG _ (ts.length-k) _ (bn<|ts.drop k) rfl (by rw[jP,XT]) (Ot cq _ _) (tu _) cy cq hz4 ?_);intro v5 w5 hown5 hgr5 _ _;have Yo:O (ag w w5):=YF.grown hgr5 YF.size (fun g hg=>by have:=(YG.lt g hg).1;omega);have hlp:(kD ts t).length=k+1+(ts.length-k):=by rw[HP];simp;omega
  have hown6:cD W9 w5 29 6 v5 (kD ts t).length (bn<|kD ts t):=by
   rw[hlp,HP,show ts.take k++t::ts.drop k=(ts.take k++[t])++ts.drop k by simp,wY,qy];first|exact hown5|(rw[Xg];exact hown5)
  have Zt:=cZ<|fV hown6<|XW hWs;clear hown5 hown6 hgr5 hlp;go_wp2;go_ret;exact⟨v5,rfl,Zt,Yo⟩
set_option maxRecDepth 8000 in
def OZ(ad:Q02)(cap:Nat)(ts:Q05)(t:Tp)(w:af)(hlen:bh ts)(hs:Sl w ad ts):
  Calls prog 131 #[.slice ad ts.length cap,.agg<|cg t] w (bj w<|.bool<|ym ts t):=by
 have HS:=aB hs;clear hs;obtain⟨W0,hW0⟩:=eQx<|w.alloc<|.cells (cg t) 29;have HB0:=tZ hW0;have HX0:O (W0.cell? (a7 w)=some (.string t.a)/\W0.cell? (a8 w 1)=some (.string t.b)/\W0.cell? (a8 w 2)=some (.string t.r)/\W0.cell? (a8 w 3)=some (.string t.c)/\W0.cell? (a8 w 4)=some (.string t.d)/\W0.cell? (a8 w 5)=some (.string t.s)/\w.heap.size<W0.heap.size):=by show _/\_;rw[hW0];refine⟨?_,?_,?_,?_,?_,?_,?_⟩<;>simp
 go_enter func131,ntmps131;go_wp2;rw[<-hW0];clear hW0;go_loopw[5] (fun i wr=>∃k:Nat,k<=ts.length/\i=.int .i64 k/\O (ym (ts.drop k) t=ym ts t)/\O (ag W0 wr)) (fun i _=>ts.length-(intOf i).toNat);case atStart=>exact⟨0,WO _,rfl,rfl,WL _ _⟩
 obtain⟨k,hk,rfl,HP,HB⟩:=hrel;have Yg:O (ag w wr):=HB0.trans<|HB.mono HB0.size;by_cases hlt:k<ts.length
 ·rcases HS.out.below Yg.out with hnil|⟨b,off,rfl,hb,hr⟩
  ·rw[hnil]at hlt;simp at hlt
  obtain⟨t0,t1,t2,t3,t4,t5⟩:=hr k hlt;have x0:=mK HB HX0.2.2.2.2.2.2 HX0.1;have x1:=mK HB HX0.2.2.2.2.2.2 HX0.2.1;have x2:=mK HB HX0.2.2.2.2.2.2 HX0.2.2.1;have x3:=mK HB HX0.2.2.2.2.2.2 HX0.2.2.2.1;have x4:=mK HB HX0.2.2.2.2.2.2 HX0.2.2.2.2.1;have x5:=mK HB HX0.2.2.2.2.2.2 HX0.2.2.2.2.2.1;have hk1:=bY k;have hk2:(k:Int)<(ts.length:Int):=cq;have HD:O (ym ts t=(NW ts[k] t || ym (ts.drop<|k+1) t)):=by show _=_;rw[<-HP];exact NY hlt
  clear hr;cases hq:NW ts[k] t;case true=>
   have heq:=QT ts[k] t hq;have HN:O (ym ts t=true):=by show _=_;rw[HD,hq];rfl
   clear hq;go_wp2_with fail;go_region_held3 (fun w'=>w'.cell? (aq b<|off+k*6)=some (.string ts[k].a)/\w'.cell? (aq b<|off+k*6+1)=some (.string ts[k].b)/\w'.cell? (aq b<|off+k*6+2)=some (.string ts[k].r)/\w'.cell? (aq b<|off+k*6+3)=some (.string ts[k].c)/\w'.cell? (aq b<|off+k*6+4)=some (.string ts[k].d)/\w'.cell? (aq b<|off+k*6+5)=some (.string ts[k].s)/\w'.cell? (a7 w)=some (.string t.a)/\w'.cell? (a8 w 1)=some (.string t.b)/\w'.cell? (a8 w 2)=some (.string t.r)/\w'.cell? (a8 w 3)=some (.string t.c)/\w'.cell? (a8 w 4)=some (.string t.d)/\w'.cell? (a8 w 5)=some (.string t.s)/\ag wr w') (first|assumption|exact⟨t0,t1,t2,t3,t4,t5,x0,x1,x2,x3,x4,x5,(WL _ _).drew⟩) (fail);rename_i hH;have HG:O (ag wr _):=hH.2.2.2.2.2.2.2.2.2.2.2.2;clear hH t0 t1 t2 t3 t4 t5 x0 x1 x2 x3 x4 x5 heq;go_wp2;go_ret;exact⟨by rw[HN];rfl,Yg.trans<|HG.mono Yg.size⟩
  have heq:=QT ts[k] t hq;have Ye:O (ym (ts.drop<|k+1) t=ym ts t):=by show _=_;rw[HD,hq];rfl
  clear hq;go_wp2_with fail;go_region_held3 (fun w'=>w'.cell? (aq b<|off+k*6)=some (.string ts[k].a)/\w'.cell? (aq b<|off+k*6+1)=some (.string ts[k].b)/\w'.cell? (aq b<|off+k*6+2)=some (.string ts[k].r)/\w'.cell? (aq b<|off+k*6+3)=some (.string ts[k].c)/\w'.cell? (aq b<|off+k*6+4)=some (.string ts[k].d)/\w'.cell? (aq b<|off+k*6+5)=some (.string ts[k].s)/\w'.cell? (a7 w)=some (.string t.a)/\w'.cell? (a8 w 1)=some (.string t.b)/\w'.cell? (a8 w 2)=some (.string t.r)/\w'.cell? (a8 w 3)=some (.string t.c)/\w'.cell? (a8 w 4)=some (.string t.d)/\w'.cell? (a8 w 5)=some (.string t.s)/\ag wr w') (first|assumption|exact⟨t0,t1,t2,t3,t4,t5,x0,x1,x2,x3,x4,x5,(WL _ _).drew⟩) (fail);rename_i hH;have HG:O (ag W0 _):=HB.trans<|hH.2.2.2.2.2.2.2.2.2.2.2.2.mono HB.size;clear hH t0 t1 t2 t3 t4 t5 x0 x1 x2 x3 x4 x5 heq;go_wp2;go_roundw;case rel=>exact⟨k+1,cq,cx,Ye,HG⟩
  simp[intOf]<;>omega
 have HN:O (ym ts t=false):=by show _=_;rw[<-HP,Xm cq];rfl
 go_wp2;go_ret;exact⟨by rw[HN];rfl,Yg⟩
def uj(ts:Q05)(t:Tp):Bool:=dX ts&&t.ok && !ym ts t && !(ts.length==40)
def Dy(ts:Q05)(t:Tp):List Tp:=if uj ts t then kD ts t else []
def Cy{ts:Q05}{t:Tp}(h:uj ts t=true):Dy ts t=kD ts t:=by simp[Dy,h]
def tO{ts:Q05}{t:Tp}(h:uj ts t=false):Dy ts t=[]:=by simp[Dy,h]
def Vt(w w':World)(e:Ending)(L:Q05)(f:Bool):Prop:=∃v:Value,e=.returned (.tuple #[v,.bool f])/\w'.ownsRow w.heap.size 29 6 v L.length (bn L)/\ag w w'
def uC(b off cap:Nat)(ts:Q05)(t:Tp)(w:af)(hlen:bh ts)(hcap:ts.length<=cap)(hs:lQ w b off ts)(hb:cU b w)(hf:∀x∈ts,x.fits)(ht:t.fits):
  Calls prog 183 #[.slice (some<|aq b off) ts.length cap,.agg<|cg t] w fun e w'=>Vt w w' e (Dy ts t) (uj ts t):=by
 have HF:=cZ hf;have Yc:=cZ ht;obtain⟨W0,hW0⟩:=eQx<|w.alloc<|.cells (cg t) 29;have HB0:=tZ hW0;have HX0:O (wZ W0 w.heap.size t):=by show wZ _ _ _;rw[hW0];exact Am w t _
 have HS:=cZ hs;have SL:O (∀W:World,ag w W->Sl W (some<|aq b off) ts):=fun W hB=>.inr ⟨b,off,rfl,WJ hb hB.size,HS.below hB hb⟩;have Yv:ts.length<=maxLen:=cy
 have HT:=cZ<|yC (some<|aq b off) cap ts W0 Yv (SL _ HB0) hf;clear hs hf Yv ht;go_enter func183,ntmps183;go_wp2_with fail;rw[<-hW0];clear hW0;refine HT.mono ?_;rintro e w1 ⟨he,hb1⟩;have HB1:=iD HB0 hb1;have Zv:=aB<|HX0.below hb1;clear HT HX0 HB0 hb1;cases h1:dX ts;case false=>
  rw[h1]at he;subst he;have HR:O (uj ts t=false):=by show _=_;simp[uj,h1]
  have HL:O (Dy ts t=[]):=tO HR;clear h1;go_wp2
  go_ret2
  exact⟨.slice none 0 0,by rw[HR];rfl,by rw[HL];exact World.ownsRow_nil _ _ _ _,HB1⟩
 rw[h1]at he;subst he;obtain⟨x0,x1,x2,x3,x4,x5,xl⟩:=Zv.out;have H1:=cZ h1;obtain⟨e0,e1,e2,e3,e4,e5⟩:=Yc.out;have HH:=cZ<|fe t.a t.b t.r t.c t.d t.s w1 e0 e1 e2 e3 e4 e5;clear h1 e0 e1 e2 e3 e4 e5;go_wp2_with fail;refine HH.mono ?_;rintro e w2 ⟨he,hb2⟩;have HB2:=iD HB1 hb2;have HX2:=aB<|Zv.below hb2;clear HH Zv HB1 hb2 x0 x1 x2 x3 x4 x5 xl;cases h2:t.ok;case false=>
  have h2':bW t.a t.b t.r t.c t.d t.s=false:=h2;rw[h2']at he;subst he;have HR:O (uj ts t=false):=by show _=_;simp[uj,H1.out,h2]
  have HL:O (Dy ts t=[]):=tO HR;clear h2 h2';go_wp2
  go_ret2
  exact⟨.slice none 0 0,by rw[HR];rfl,by rw[HL];exact World.ownsRow_nil _ _ _ _,HB2⟩
 have h2':bW t.a t.b t.r t.c t.d t.s=true:=h2;rw[h2']at he;subst he;have H2:=cZ h2;obtain⟨x0,x1,x2,x3,x4,x5,xl⟩:=HX2.out;have HH:=cZ<|OZ (some<|aq b off) cap ts t w2 hlen<|SL _ HB2;clear h2 h2';go_wp2_with fail;refine HH.mono ?_;rintro e w3 ⟨he,hb3⟩;have HB3:=iD HB2 hb3;have HX3:=aB<|HX2.below hb3;clear HH HX2 HB2 hb3 x0 x1 x2 x3 x4 x5 xl;cases h3:ym ts t;case true=>
  rw[h3]at he;subst he;have HR:O (uj ts t=false):=by show _=_;simp[uj,H1.out,H2.out,h3]
  have HL:O (Dy ts t=[]):=tO HR;clear h3;go_wp2
  go_ret2
  exact⟨.slice none 0 0,by rw[HR];rfl,by rw[HL];exact World.ownsRow_nil _ _ _ _,HB3⟩
 rw[h3]at he;subst he;have H3:=cZ h3;clear h3;by_cases h4:ts.length=40
 ·have HR:O (uj ts t=false):=by show _=_;simp[uj,H1.out,H2.out,H3.out,h4]
  have HL:O (Dy ts t=[]):=tO HR;have h5:((ts.length:Int)==40)=true:=by simp;omega
  have H4:=cZ h4;clear h4;go_wp2
  go_ret2
  exact⟨.slice none 0 0,by rw[HR];rfl,by rw[HL];exact World.ownsRow_nil _ _ _ _,HB3⟩
 have HR:O (uj ts t=true):=by show _=_;simp[uj,H1.out,H2.out,H3.out,h4]
 have HL:O (Dy ts t=kD ts t):=Cy HR;have h5:((ts.length:Int)==40)=false:=by simp;omega
 have h40:=Oo H1;obtain⟨x0,x1,x2,x3,x4,x5,xl⟩:=HX3.out;have HP:=cZ<|OY b off cap ts t w3 cq hcap (HS.below HB3 hb) (WJ hb HB3.size) HF Yc;clear HX3;go_wp2_with fail;refine HP.mono ?_;rintro e w4 ⟨v4,rfl,hs4,hb4⟩;have HS4:=cZ hs4;clear hs4 HP x0 x1 x2 x3 x4 x5 xl;go_wp2
 go_ret2
 exact⟨v4,by rw[HR];rfl,by rw[HL];exact fV HS4 HB3.size,HB3.trans<|hb4.mono HB3.size⟩
def Tp.short(t:Tp):Prop:=t.a.size<=20/\t.b.size<=20/\t.r.size<=20/\t.c.size<=20/\t.d.size<=20/\t.s.size<=20
def Tp.short.fits{t:Tp}(h:t.short):t.fits:=by unfold Tp.short at h;unfold Tp.fits maxLen;omega
def su(ts:Q05):Prop:=∀t∈ts,t.short
def su.fits{ts:Q05}(h:su ts):∀t∈ts,t.fits:=fun t ht=>(h t ht).fits
def O0:su []:=fun t ht=>by cases ht
def tQ(ts:Q05)(t:Tp):(kD ts t).length=ts.length+1:=by
 induction ts with
 | nil=>rfl
 | cons x xs ih =>
  unfold kD;split
  ·simp[ih]
  simp
def su.put{ts:Q05}{t:Tp}(h:su ts)(ht:t.short):su (kD ts t):=fun x hx=>by
 rcases (Q8 ts t x).1 hx with rfl|k
 ·exact ht
 exact h x k
def Cz{w w':af}{R base n:Nat}{v:Value}{xs:Q03}(h:w.ownsRow base 29 6 v n xs)(hR:R<base)(hO:Only R w w'):w'.ownsRow base 29 6 v n xs :=
 h.kept hO (.inr fun e=>by have:=(h.lt R e).1;omega)
def qJ{w:af}{base g n c:Nat}{ts:Q05}(h:w.ownsRow base 29 6 (.slice (some<|am g) n c) n<|bn ts)(hn:n=ts.length):lQ w g 0 ts/\g<w.heap.size/\n<=c/\base<=g:=by
 have hlt:=h.lt g rfl;refine⟨?_,hlt.2,?_,hlt.1⟩
 ·subst hn;intro i hi;have key:∀j,j<6->w.cell? (aq g<|0+i*6+j)=(ts[i]).row[j]?:=fun j hj=>by
   rw[h.cellAt (0+i*6+j) (by have:=jP ts;omega),<-wM ts i hi j hj,Xl]
  exact⟨key 0 cq,key 1 cq,key 2 cq,key 3 cq,key 4 cq,key 5 cq⟩
 rcases h.2 with⟨e,-⟩|⟨g',cap',cur,e,-,-,hle,-⟩
 ·cases e
 injection e with e1 e2 e3;omega
def uD{W:af}{base:Nat}{e:TypeId}{size:Nat}{v:Value}{k:Nat}{xs:Q03}(h:W.ownsRow base e size v (k+1) xs):∃g cap,v=.slice (some<|am g) (k+1) cap:=by
 rcases h.2 with⟨_,h0⟩|⟨g,cap,_,rfl,_⟩
 ·omega
 exact⟨g,cap,rfl⟩
def Rd.grown{w w':af}{R:Nat}{ad:Q02}{len cap:Nat}{row:Option Nat}(h:Rd w R ad len cap)(hg:w.grownBy w' row)(hR:some R≠row)(hb:0<len->∀b off,ad=some (aq b off)->some b≠row):Rd w' R ad len cap where
 lt:=WJ h.lt hg.size
 code:=hg.cell h.code hR
 place:=by obtain⟨p,hp,hl⟩:=h.place;exact⟨p,hg.cell hp hR,hl⟩
 free:=(World.frozen?_of_block (w:=w) (a:=⟨R,1,none⟩)<|hg.block R h.lt hR).trans h.free
 bytes h0:=by
  obtain⟨b,off,e,hne,hbl,hc⟩:=h.bytes h0;refine⟨b,off,e,hne,WJ hbl hg.size,fun i hi=>?_⟩;obtain⟨c,c0,c1,hcc⟩:=hc i hi;exact⟨c,c0,c1,hg.cell hcc<|hb h0 b off e⟩
 small:=h.small
def aA(g:Nat->Nat->List Ex):List Int->Nat->List Ex×List Int
 | [],_=>([],[])
 | k::ks,o=>(g k.toNat o++(aA g ks<|o+(g k.toNat o).length).1,(((o+(g k.toNat o).length:Nat):Int)-1)::(aA g ks<|o+(g k.toNat o).length).2)
def jg(sub:Ex->Option (List Ex))(es:Q09):Nat->Nat->Nat->List Ex
 | 0,_,_=>[]
 | fuel+1,n,o =>
  match es[n]? with
  | none=>[]
  | some e =>
   match sub e with
   | some bs=>bs.map<|eT fun k=>(o:Int)+k
   | none=>(aA (jg sub es fuel) e.kids o).1++[{ e with kids:=(aA (jg sub es fuel) e.kids o).2 }]
def xD{sub:Ex->Option (List Ex)}{es:Q09}{fuel n o:Nat}(hn:n<es.length){bs:Q09}(hs:sub es[n]=some bs):jg sub es (fuel+1) n o=bs.map (eT fun k=>(o:Int)+k):=by
 rw[jg,WS hn];simp only[hs]
def tT{sub:Ex->Option (List Ex)}{es:Q09}{fuel n o:Nat}(hn:n<es.length)(hs:sub es[n]=none):jg sub es (fuel+1) n o=(aA (jg sub es fuel) es[n].kids o).1++[{ es[n] with kids:=(aA (jg sub es fuel) es[n].kids o).2 }]:=by
 rw[jg,WS hn];simp only[hs]
def oI(g:Nat->Nat->List Ex)(k:Int):∀(ks:List Int) (o:Nat),aA g (ks++[k]) o=((aA g ks o).1++g k.toNat (o+(aA g ks o).1.length),(aA g ks o).2++[((o+(aA g ks o).1.length+(g k.toNat<|o+(aA g ks o).1.length).length:Nat):Int)-1])
 | [],o=>by simp[aA]
 | x::ks,o=>by
  rw[XB];simp only[aA];rw[oI g k ks];simp only[WP,Xg,XB,Nat.add_assoc]
def xE(g:Nat->Nat->List Ex)(ys:List Int):∀(xs:List Int) (o:Nat),(aA g (xs++ys) o).1=(aA g xs o).1++(aA g ys<|o+(aA g xs o).1.length).1
 | [],o=>by simp[aA]
 | x::xs,o=>by
  rw[XB];simp only[aA];rw[xE g ys xs];simp only[WP,Xg,Nat.add_assoc]
def Jk(g:Nat->Nat->List Ex)(ks:List Int)(j o:Nat):(aA g (ks.take j) o).1.length<=(aA g ks o).1.length:=by
 conv=>rhs;rw[<-List.take_append_drop j ks,xE]
 rw[WP];omega
def xG(g:Nat->Nat->List Ex):∀(ks:List Int) (o:Nat),(aA g ks o).2.length=ks.length
 | [],o=>rfl
 | k::ks,o=>by simp only[aA,Xq];rw[xG g ks]
def CB(f:Ex->List Ex)(es:Q09):∀k,k<=es.length->∀i,i<k->(aI f es k).2.getD i 0=((aI f es<|i+1).1.length:Int)-1
 | 0,_,i,hi=>absurd hi<|XE _
 | k+1,hk,i,hi=>by
  have hl:=tC f es k cq;have hl1:=tC f es (k+1) hk;by_cases e:i=k
  ·subst e;rw[fD f es i cq];unfold gY;split
   ·simp only[Xh];rw[Xx cq,hl];simp
   simp only[Xh];rw[Xx cq,hl];simp
  have ih:=CB f es k cq i cq;rw[<-ih,fD f es k cq];unfold gY;split
  ·simp only[Xh];rw[XD cq]
  simp only[Xh];rw[XD cq]
section
variable  {sub:Ex->Option (List Ex)}{f:Ex->List Ex}{es:Q09}
structure SubOk(sub:Ex->Option (List Ex))(f:Ex->List Ex)(es:Q09):Prop where
 no:∀e∈es,sub e=none->f e=[e]
 yes:∀e∈es,∀bs,sub e=some bs->e.kids=[]/\f e=bs
def Jl{n:Nat}{k:Int}{rv:List Int}{a s:Int}(h:bG (cO es n) (k::rv) a=s)(hs:0<=s)(ha:a<n):k=a/\0<=a/\cO es n a=av es a.toNat/\0<=av es a.toNat/\bG (cO es n) rv (av es a.toNat-1)=s:=by
 unfold bG at h;split at h
 ·omega
 rename_i c;split at h
 ·omega
 rename_i c2;have h0:0<=a:=cq;have hF:cO es n a=av es a.toNat:=by unfold cO;rw[if_pos ⟨h0,cq⟩]
 rw[hF]at h c2;exact⟨cq,h0,hF,cq,h⟩
def Ua{n fuel:Nat}(hn:n<=es.length)(ih:∀m,m<n->∀s:Nat,av es m=s->(aI f es<|m+1).1=(aI f es s).1++jg sub es fuel m (aI f es s).1.length)(rv:List Int):
  ∀(a:Int) (s:Nat),a<n→-1<=a->bG (cO es n) rv a=s->(aI f es (a+1).toNat).1=(aI f es s).1++(aA (jg sub es fuel) rv.reverse (aI f es s).1.length).1/\(aA (jg sub es fuel) rv.reverse (aI f es s).1.length).2=rv.reverse.map fun k=>(aI f es n).2.getD k.toNat 0:=by
 induction rv with
 | nil =>
  intro a s ha h1 h;simp only[bG]at h;have e:(a+1).toNat=s:=cq;rw[e];simp[aA]
 | cons k rv ihk =>
  intro a s ha h1 h;obtain⟨rfl,h0,hF,hp,h2⟩:=Jl h cq ha;obtain⟨p,hpe⟩:∃p:Nat,av es k.toNat=p:=⟨(av es k.toNat).toNat,cq⟩;have hple:=iq es k.toNat;obtain⟨i1,i2⟩:=ihk (av es k.toNat-1) s cq cq h2;have e1:(av es k.toNat-1+1).toNat=p:=cq;rw[e1]at i1;have e2:=ih k.toNat cq p hpe;have e3:(k+1).toNat=k.toNat+1:=cq;have e4:(aI f es s).1.length+(aA (jg sub es fuel) rv.reverse (aI f es s).1.length).1.length=(aI f es p).1.length:=by rw[i1,WP]
  rw[List.reverse_cons,oI,e4,e3,e2];refine⟨by rw[i1,Xg],?_⟩;rw[Xy,i2];have e5:=CB f es n hn k.toNat cq;rw[e2,WP]at e5;simp only[XN,List.map_nil,e5]
def R3(hso:SubOk sub f es)(hg:∀j,j<es.length->0<=av es j):∀(fuel n:Nat),n<es.length->n<fuel->∀s:Nat,av es n=s->(aI f es<|n+1).1=(aI f es s).1++jg sub es fuel n (aI f es s).1.length
 | 0,n,_,h,_,_=>absurd h<|XE _
 | fuel+1,n,hn,hf,s,hs=>by
  have ih:∀m,m<n->∀s:Nat,av es m=s->(aI f es<|m+1).1=(aI f es s).1++jg sub es fuel m (aI f es s).1.length:=fun m hm s hs=>R3 hso hg fuel m cq cq s hs;have hmem:es[n]∈es:=WH hn;have hk:dD es n=es[n].kids:=by unfold dD;rw[WS hn];rfl
  have ht:=jc es n;rw[hs,hk]at ht;rw[fD f es n hn];cases hsb:sub es[n];case some bs=>
   obtain⟨h1,h2⟩:=hso.yes _ hmem bs hsb;rw[h1]at ht;simp only[List.reverse_nil,bG]at ht;have e:s=n:=cq;subst e;rw[xD hn hsb];unfold gY;rw[if_pos (by rw[h1];rfl),h2]
  have h2:=hso.no _ hmem hsb;rw[tT hn hsb];by_cases hz:es[n].kids=[]
  ·rw[hz]at ht;simp only[List.reverse_nil,bG]at ht;have e:s=n:=cq;subst e;unfold gY;rw[if_pos (by rw[hz];rfl),h2];simp only[XN,List.map_nil,hz,aA,XR];have:∀(x:Ex) (g:Int->Int),x.kids=[]->eT g x={ x with kids:=[] }:=fun x g hx=>by unfold eT;rw[hx];rfl
   rw[this _ _ hz]
  obtain⟨i1,i2⟩:=Ua (XW hn) ih es[n].kids.reverse ((n:Int)-1) s cq cq ht.symm;rw[List.reverse_reverse]at i1 i2;have e1:((n:Int)-1+1).toNat=n:=cq;rw[e1]at i1;unfold gY;rw[if_neg (by simpa using hz)];simp only;rw[i2,i1,Xg];rfl
end
def O1(p o:Nat)(x:Ex):eT (fun k=>(o:Int)+k) (eT (fun k=>(p:Int)+k) x)=eT (fun k=>((o+p:Nat):Int)+k) x:=by
 unfold eT;simp only[List.map_map,Ex.mk.injEq,true_and];refine List.map_congr_left fun k _=>?_;simp only[Function.comp];omega
def CE{g:Nat->Nat->List Ex}(o:Nat)(hg:∀n p,g n (o+p)=(g n p).map (eT fun k=>(o:Int)+k)):∀(ks:List Int) (p:Nat),aA g ks (o+p)=((aA g ks p).1.map<|eT fun k=>(o:Int)+k,(aA g ks p).2.map fun k=>(o:Int)+k)
 | [],p=>by simp[aA]
 | k::ks,p=>by
  simp only[aA];rw[hg,Xv,Nat.add_assoc,CE o hg ks];simp only[Xy,XN,Prod.mk.injEq,List.cons.injEq,true_and,and_true];omega
def Fe(sub:Ex->Option (List Ex))(es:Q09)(o:Nat):∀(fuel n p:Nat),jg sub es fuel n (o+p)=(jg sub es fuel n p).map (eT fun k=>(o:Int)+k)
 | 0,n,p=>by simp[jg]
 | fuel+1,n,p=>by
  by_cases hn:n<es.length
  ·cases hs:sub es[n];case some bs=>
    rw[xD hn hs,xD hn hs,List.map_map];exact List.map_congr_left fun x _=>(O1 p o x).symm
   rw[tT hn hs,tT hn hs,CE o<|Fe sub es o fuel];simp[eT]
  have:es[n]?=none:=List.getElem?_eq_none cq;simp[jg,this]
def zG{es:Q09}(h:aK es=true):(∀j,j<es.length->0<=av es j)/\av es (es.length-1)=0/\0<es.length:=by
 rw[oU]at h;unfold kG jq at h;simp only[WM,WW,WT]at h;exact⟨fun j hj=>by simpa using h.2.1 j (by simpa using hj),h.2.2,cq⟩
def Aq{sub:Ex->Option (List Ex)}{f:Ex->List Ex}{es:Q09}(h:aK es=true)(hso:SubOk sub f es):jg sub es es.length (es.length-1) 0=dB f es:=by
 obtain⟨h1,h2,h3⟩:=zG h;have:=R3 hso h1 es.length (es.length-1) cq cq 0 h2;rw[iZ,show es.length-1+1=es.length by omega]at this;unfold dB;rw[this];rfl
def Jm{es:Q09}(h:aK es=true)(o:Nat):jg (fun _=>none) es es.length (es.length-1) o=es.map (eT fun k=>(o:Int)+k):=by
 have h1:=Fe (fun _=>none) es o es.length (es.length-1) 0;rw[Nat.add_zero]at h1;rw[h1,Aq h (f:=fun e=>[e]) ⟨fun _ _ _=>rfl,fun _ _ _ h=>by cases h⟩,EL<|iY h]
structure KpO(b l:Nat)(W W':World):Prop where
 size:W.heap.size<=W'.heap.size
 cells:∀(g:Nat) (cs:Array Value) (T:TypeId) (m:Nat×Nat),W.heap[g]?=some (.cells cs T m)->T≠52->T≠44->W'.heap[g]?=some (.cells cs T m)
 other:∀(g:Nat) (o:Obj),W.heap[g]?=some o->o.isCells=false->g≠l->g≠b->W'.heap[g]?=some o
structure KpI(W W':World):Prop where
 size:W.heap.size<=W'.heap.size
 cells:∀(g:Nat) (cs:Array Value) (T:TypeId) (m:Nat×Nat),W.heap[g]?=some (.cells cs T m)->T=27\/T=39->W'.heap[g]?=some (.cells cs T m)
def KpO.trans{b l:Nat}{X Y Z:af}(h:KpO b l X Y)(k:KpO b l Y Z):KpO b l X Z :=
 ⟨WR h.size k.size,fun g cs T m hg h1 h2=>k.cells g cs T m (h.cells g cs T m hg h1 h2) h1 h2,fun g o hg hc h1 h2=>k.other g o (h.other g o hg hc h1 h2) hc h1 h2⟩
def KpI.trans{X Y Z:af}(h:KpI X Y)(k:KpI Y Z):KpI X Z :=
 ⟨WR h.size k.size,fun g cs T m hg h1=>k.cells g cs T m (h.cells g cs T m hg h1) h1⟩
def pM{W:af}{l g:Nat}{o':Obj}(h:g≠l):(W.putObj l o').heap[g]?=W.heap[g]?:=World.putObj_heap_other h
def KpO.put{b l:Nat}{W:af}{o o':Obj}(h:W.heap[l]?=some o)(hc:o.isCells=false):KpO b l W (W.putObj l o') where
 size:=ct;cells g cs T m hg _ _:=by
  have:g≠l:=fun e=>by subst e;rw[h]at hg;injection hg with hg;subst hg;cases hc
  rw[pM this];exact hg
 other g x hg _ h1 _:=by rw[pM h1];exact hg
def KpI.put{l:Nat}{W:af}{o o':Obj}(h:W.heap[l]?=some o)(hc:o.isCells=false):KpI W (W.putObj l o') where
 size:=ct;cells g cs T m hg _:=by
  have:g≠l:=fun e=>by subst e;rw[h]at hg;injection hg with hg;subst hg;cases hc
  rw[pM this];exact hg
def KpO.below{b l:Nat}{W W':af}(h:ag W W'):KpO b l W W' :=
 ⟨h.size,fun g cs T m hg _ _=>(h.block g (WQ.1 hg).1).trans hg,fun g o hg _ _ _=>(h.block g (WQ.1 hg).1).trans hg⟩
def KpI.below{W W':af}(h:ag W W'):KpI W W' :=
 ⟨h.size,fun g cs T m hg _=>(h.block g (WQ.1 hg).1).trans hg⟩
def KpO.toI{b l:Nat}{W W':af}(h:KpO b l W W'):KpI W W' :=
 ⟨h.size,fun g cs T m hg hT=>h.cells g cs T m hg (by rcases hT with e|e<;>(rw[e];decide)) (by rcases hT with e|e<;>(rw[e];decide))⟩
def CF{W W':af}(h:ag W W'):W.grownBy W' none:=⟨h.os,h.tape,h.output,h.size,fun k hk _=>h.block k hk⟩
def oo{β:Type}{B:Nat}{I:β->World->Prop}(h:OwnFrom B I){s:β}{W W':af}(hs:I s W)(hb:ag W W'):I s W':=h s W W' none hs (CF hb) (fun r e=>by cases e)
end Go.Proofs.YtojjoblnpldniaaGreat
namespace Go.Proofs.YtojjoblnpldniaaGreat
set_option linter.unusedVariables false
set_option maxRecDepth 100000
open ChangeShapes WideShapes ChangeAt RowKit Maps Go.Shelf
open Pl
attribute [local go_sem] Oper.semAt_some
structure InM(W:World)(D br nr:Nat)(Mr:KL->Option Value)(Er:List<|KL×RR)(Zn:Q02)(Yp:Nat)(xo:Q0a)(gD gS gU:Nat)(sn:Int)(YT:Q02)(Yj:Nat)(us:Q0a):Prop where
 d2:W.cell? ⟨D,2,none⟩=some (.map<|some br)
 d4:W.cell? ⟨D,4,none⟩=some (.slice Zn xo.length Yp)
 objs:kV W Zn xo
 rel:Gj W br nr Mr Er
 bD:W.cell? ⟨gD,0,none⟩=some (.pointer<|some ⟨D,0,none⟩)
 bS:W.cell? ⟨gS,0,none⟩=some (.int .i64 sn)
 bU:W.cell? ⟨gU,0,none⟩=some (.slice YT us.length Yj)
 users:kV W YT us
def Ff(x:Fc):Array Value:=#[.agg #[.string x.a,.string x.b,.string x.r,.string x.c,.string x.d]]
def CG:∀(rs:Q07) (i:Nat) (h:i<rs.length) (j:Nat),j<2->(G.flatG IQ rs)[i*2+j]?=(IQ rs[i])[j]?
 | [],i,h,_,_=>by simp at h
 | r::rs,0,_,j,hj=>by
  simp only[G.flatG,Xr,Nat.zero_mul,Xl,List.getElem_cons_zero];rw[XD (by simp[IQ];omega)]
 | r::rs,i+1,h,j,hj=>by
  have ih:=CG rs i (by simpa using h) j hj;simp only[G.flatG,Xr,List.getElem_cons_succ]at ih ⊢;rw[Xx (by simp[IQ];omega)];have:(i+1)*2+j-(IQ r).length=i*2+j:=by simp[IQ];omega
  rw[this];exact ih
def M5{W:af}{br nr:Nat}{Mr:KL->Option Value}{Er:List<|KL×RR}(h:Gj W br nr Mr Er)(k:KL):∃ad cap,(Mr k).getD (.slice none 0 0)=.slice ad (G.lookL Er k).length cap/\(∀i (hi:i<(G.lookL Er k).length),∃g,ad=some (am g)/\g<W.heap.size/\W.cell? (aq g<|i*2)=some (.string (G.lookL Er k)[i].name)/\W.cell? (aq g<|i*2+1)=some (G.lookL Er k)[i].sl):=by
 have ho:=E5 h k;rcases ho.2 with⟨e,h0⟩|⟨g,cap,cur,e,hbg,hg,hnc,-⟩
 ·exact⟨none,0,by rw[e,h0],fun i hi=>cq⟩
 refine⟨_,cap,e,fun i hi=>⟨g,rfl,(ho.lt g<|by rw[e];rfl).2,?_,?_⟩⟩
 ·rw[e]at ho;rw[ho.cellAt (i*2) cq];exact CG _ i hi 0 cq
 rw[e]at ho;rw[ho.cellAt (i*2+1) cq];exact CG _ i hi 1 cq
def Gv(W:World)(g:Nat)(o:Al):Prop:=W.heap[g]?=some (.cells #[.string o.t,.string o.s] 27 (0,0))
def Jn(W:World)(g:Nat)(r:RR):Prop:=W.heap[g]?=some (.cells #[.string r.name,r.sl] 39 (0,0))
def Gv.c{W:af}{g:Nat}{o:Al}(h:Gv W g o):W.cell? (am g)=some (.string o.t)/\W.cell? (aq g 1)=some (.string o.s)/\g<W.heap.size:=by
 have hl:=(WQ.1 h).1;unfold Gv at h;exact⟨by simp[World.cell?,h],by simp[World.cell?,h],hl⟩
def Jn.c{W:af}{g:Nat}{r:RR}(h:Jn W g r):W.cell? (am g)=some (.string r.name)/\W.cell? (aq g 1)=some r.sl/\g<W.heap.size:=by
 have hl:=(WQ.1 h).1;unfold Jn at h;exact⟨by simp[World.cell?,h],by simp[World.cell?,h],hl⟩
def Gv.kp{W W':af}{g:Nat}{o:Al}(h:Gv W g o)(hk:KpI W W'):Gv W' g o:=hk.cells g _ _ _ h<|.inl rfl
def Jn.kp{W W':af}{g:Nat}{r:RR}(h:Jn W g r)(hk:KpI W W'):Jn W' g r:=hk.cells g _ _ _ h<|.inr rfl
def iQ(rs:Q06)(st:Q00)(us:Q0a)(sn:Int)(xo:Q0a)(q:Nat):List Fc:=(xo.take q).flatMap<|yE (ae rs) st us sn
def kQ(R:Q07)(us:Q0a)(o:Al)(k:Nat):List Fc:=(R.take k).flatMap fun r=>ui o r.name us
def Ub{rs:Q06}{st:Q00}{us:Q0a}{sn:Int}{xo:Q0a}{q:Nat}(h:q<xo.length):iQ rs st us sn xo (q+1)=iQ rs st us sn xo q++kQ (G.lookL (fK st rs) (xo[q].t,sn)) us xo[q] (G.lookL (fK st rs) (xo[q].t,sn)).length:=by
 unfold iQ kQ;rw[WN h,XP,Xa];congr 1;simp only[Xr,List.flatMap_nil,XL];unfold yE;rw[Jc,List.flatMap_map]
def Uc{R:Q07}{us:Q0a}{o:Al}{k:Nat}(h:k<R.length):kQ R us o (k+1)=kQ R us o k++ui o R[k].name us:=by
 unfold kQ;rw[WN h,XP];simp
def O3(o:Al)(rel:bN){xu:Q0a}{j:Nat}(h:j<xu.length):ui o rel (xu.take<|j+1)=ui o rel (xu.take j)++[⟨o.t,o.s,rel,xu[j].t,xu[j].s⟩]:=by
 unfold ui;rw[WN h,Xy];rfl
def O4{rs:Q06}{st:Q00}{xo us:Q0a}{sn:Int}{o:Al}{r:RR}{u:Al}(ho:o∈xo)(hr:r∈G.lookL (fK st rs) (o.t,sn))(hu:u∈us):(⟨o.t,o.s,r.name,u.t,u.s⟩:Fc)∈cu (ae rs) st xo us sn:=by
 unfold cu yE;refine Xd.2 ⟨o,ho,Xd.2 ⟨(o.t,r.name),?_,WV.2 ⟨u,hu,rfl⟩⟩⟩;rw[Jc];exact WV.2 ⟨r,hr,rfl⟩
def R4(n:Nat)(hn:1<=n)(D br nr:Nat)(Mr:KL->Option Value)(st:Q00)(rs:Q06)(Zn:Q02)(Yp:Nat)(xo:Q0a)(gD gS gU:Nat)(sn:Int)(YT:Q02)(Yj:Nat)(us:Q0a)(w0:af)(hs0:0<=sn)(hs1:sn<=1000)(hol:xo.length<=1000)(hul:us.length<=1000)(hrl:∀k,(G.lookL (fK st rs) k).length<=1000)(hof:∀o∈xo,o.t.size<=maxLen):
  F6 Fence.wide n prog 269 #[.pointer (some<|am gD),.pointer<|some<|am gS,.pointer<|some<|am gU] Ff (fun _=>KpI) (fun _ W=>InM W D br nr Mr (fK st rs) Zn Yp xo gD gS gU sn YT Yj us) (fun _ x=>x∈cu (ae rs) st xo us sn) (fun xs=>xs=cu (ae rs) st xo us sn) w0:=by
 intro l J W _ _ _ hJ hT hY h0;have HJ:=bu hJ;have HT:=bu hT;have HY:=bu hY;have H0:=bu h0;have HOF:=bu hof;have hM:=hT _ _ h0;have HRL:=bu hrl;have bD:=hM.bD;have d4:=hM.d4;have lD:=bQ bD;have lDD:=bQ d4;clear hJ hT hY h0 hof hM hrl;refine callsIn_of_wp func269 rfl trivial ?_ rfl;simp only[ntmps269,List.size_toArray,Xq,XQ,Nat.reduceAdd,Nat.reduceSub,Array.replicate_succ,Array.replicate_zero,List.push_toArray,List.append_toArray,XR,XB];gi_wp2;clear bD d4 lD lDD
 gi_loopw [16] (fun i wr=>∃q:Nat,q<=xo.length/\i=.int .i64 q/\O (J (iQ rs st us sn xo q) wr)) (fun i _=>xo.length-(intOf i).toNat)
 case atStart=>exact⟨0,WO _,rfl,H0⟩
 clear H0;obtain⟨q,hq,rfl,HJ1⟩:=hrel;by_cases hlq:q<xo.length
 ·have hM:=HT _ _ HJ1;obtain⟨bO,YS,hadO,⟨o0,o1⟩,hbO⟩:=kV.at0 hM.objs hlq;have HSQ:=bu<|Ub (rs:=rs) (st:=st) (us:=us) (sn:=sn) hlq;have HOS:=bu<|HOF _<|WH hlq;have HOM:O (xo[q]∈xo):=WH hlq;obtain⟨o,ho⟩:=eQx<|xo[q];rw[<-ho]at o0 o1 HSQ HOS HOM;clear ho;have hq1:=bY q;have hq2:(q:Int)<(xo.length:Int):=cq;obtain⟨W1,hW1⟩:=eQx<|wr.alloc<|.cells #[.string o.t,.string o.s] 27;have HB1:=tZ hW1;have HJ2:=bu<|oo HJ HJ1 HB1;have YY:O (Gv W1 wr.heap.size o):=by rw[hW1];exact World.alloc_heap_new wr _
  have hM2:=HT _ _ HJ2;have bD:=hM2.bD;have bS:=hM2.bS;have d2:=hM2.d2;obtain⟨c0,c1,cl⟩:=YY.c;obtain⟨adR,capR,hgd,-⟩:=M5 hM2.rel (o.t,sn);obtain⟨kl,hkl⟩:=MJ (o.t,sn) HOS hs0 (by show sn<=_;omega);obtain⟨R,hR⟩:=eQx<|G.lookL (fK st rs) (o.t,sn);have hRl:R.length<=1000:=by rw[hR];exact HRL _
  rw[<-hR]at hgd HSQ;have HRE:=bu hR;have HGD:=bu hgd;have hlk:∀m,(Instr.lookup 190 (.map<|some br) (.agg #[.string o.t,.int .i64 sn]) false).run prog (W1.drewN m)=.ok (.slice adR R.length capR) (W1.drewN m):=fun m=>by
   have h:=(hM2.rel.map.below<|below_drewN (WL _ _) m).look (t:=190) (e:=34) VY underlying190 (RU _) (x:=(o.t,sn)) hkl;rw[hgd]at h;exact h
  subst hadO;clear hM hM2 hR hgd hkl;gi_wp2;rw[<-hW1];clear hW1;refine wpIn_wide.2 ?_;go_quiet (fail);obtain⟨W2,hW2⟩:=eQx<|W1.drewN nq;have HB2:O (ag W1 W2):=by show Below _ _ _;rw[hW2];exact below_drewN (WL _ _) _
  have HJ3:=bu<|oo HJ HJ2 HB2;have HBX2:=bu<|YY.kp<|KpI.below HB2;obtain⟨gO,hgO⟩:∃g,g=wr.heap.size:=⟨_,rfl⟩;rw[<-hgO]at HBX2 ⊢;rw[<-hW2];clear hW2 hgO c0 c1 cl bD bS d2 hlk HB1 HJ2 YY HJ1 o0 o1 hbO;gi_wp2
  gi_loopw [30] (fun i w2=>∃k:Nat,k<=R.length/\i=.int .i64 k/\O (J (iQ rs st us sn xo q++kQ R us o k) w2)/\O (Gv w2 gO o)) (fun i _=>R.length-(intOf i).toNat)
  case atStart=>exact⟨0,WO _,rfl,by show J (_++[]) _;rw[XL];exact HJ3,HBX2⟩
  clear HJ3 HBX2 HB2;obtain⟨k,hk,rfl,HJ4,YY⟩:=hrel;by_cases hlk:k<R.length
  ·have hM:=HT _ _ HJ4;obtain⟨adR',capR',hgd',hrows⟩:=M5 hM.rel (o.t,sn);rw[<-HRE,HGD]at hgd';injection hgd' with ea eb ec;subst ea;clear eb ec;obtain⟨gq,hadR,hgl,r0,r1⟩:=hrows k (by rw[<-HRE];exact hlk);have HKS:=bu<|Uc (us:=us) (o:=o) hlk;have hrr:(G.lookL (fK st rs) (o.t,sn))[k]'(by rw[<-HRE];exact hlk)=R[k]:=by simp only[HRE.out]
   rw[hrr]at r0 r1;have HRM:O (R[k]∈R):=WH hlk;obtain⟨r,hr⟩:=eQx<|R[k];rw[<-hr]at r0 r1 HKS HRM;have hk1:=bY k;have hk2:(k:Int)<(R.length:Int):=cq;obtain⟨W3,hW3⟩:=eQx<|wr.alloc<|.cells #[.string r.name,r.sl] 39;have HB3:=tZ hW3;have HJ5:=bu<|oo HJ HJ4 HB3;have Zm:=bu<|YY.kp<|KpI.below HB3;have HBR:O (Jn W3 wr.heap.size r):=by rw[hW3];exact World.alloc_heap_new wr _
   have hM3:=HT _ _ HJ5;have bU:=hM3.bU;have lU:=bQ bU;have bU0:=hM.bU;have lU0:=bQ bU0;unfold RR.sl at r1 hW3;obtain⟨gR,hgR⟩:∃g,g=wr.heap.size:=⟨_,rfl⟩;subst hadR;clear hM hM3 hr hrr hrows;gi_wp2;rw[<-hW3,<-hgR];rw[<-hgR]at HBR;clear hW3 hgR bU lU bU0 lU0 r0 r1 hgl HB3 HJ4 YY
   gi_loopw [36] (fun i w2=>∃j:Nat,j<=us.length/\i=.int .i64 j/\O (J (iQ rs st us sn xo q++kQ R us o k++ui o r.name (us.take j)) w2)/\O (Gv w2 gO o)/\O (Jn w2 gR r)) (fun i _=>us.length-(intOf i).toNat)
   case atStart=>exact⟨0,WO _,rfl,by show J (_++[]) _;rw[XL];exact HJ5,Zm,HBR⟩
   clear HJ5 Zm HBR;obtain⟨j,hj,rfl,HJ6,Zm,HBR⟩:=hrel;by_cases hlj:j<us.length
   ·have hM:=HT _ _ HJ6;obtain⟨bV,offV,hadU,⟨y0,y1⟩,hbV⟩:=kV.at0 hM.users hlj;have HAS:=bu<|O3 o r.name hlj;obtain⟨u,hu⟩:=eQx<|us[j];rw[<-hu]at y0 y1 HAS;have hj1:=bY j;have hj2:(j:Int)<(us.length:Int):=cq;obtain⟨W4,YR⟩:=eQx<|wr.alloc<|.cells #[.string u.t,.string u.s] 27;have YF:=tZ YR;have HJ7:=oo HJ HJ6 YF;have HBO2:=bu<|Zm.kp<|KpI.below YF;have HBR2:=bu<|HBR.kp<|KpI.below YF;obtain⟨fn,tmps,assign,body,hy,hR⟩:=HY _ ⟨o.t,o.s,r.name,u.t,u.s⟩ W4 HJ7 (O4 HOM (by rw[<-HRE];exact HRM) (by rw[hu];exact WH hlj));obtain⟨c0,c1,cl⟩:=Zm.c;obtain⟨e0,e1,el⟩:=HBR.c;have HRR:=bu hR;unfold Ff at hy;subst hadU;subst YR;clear hM hu HJ7 hR;gi_wp2;refine HRR.mono ?_;rintro e W5 ⟨rfl,hJ8,hK8⟩;have HJ8:O (J (iQ rs st us sn xo q++kQ R us o k++ui o r.name (us.take<|j+1)) W5):=by show J _ _;rw[HAS,<-Xg];exact hJ8
    have HBO3:=bu<|HBO2.kp hK8;have HBR3:=bu<|HBR2.kp hK8;clear hJ8 hK8 hy y0 y1 c0 c1 cl e0 e1 el;gi_wp2;go_roundw;case rel=>exact⟨j+1,cq,cx,HJ8,HBO3,HBR3⟩
    simp[intOf]<;>omega
   have HJ7:O (J (iQ rs st us sn xo q++kQ R us o (k+1)) wr):=by
    have h1:=HJ6.out;rw[Xn cq,Xg,<-HKS]at h1;exact h1
   gi_wp2;go_roundw;case rel=>exact⟨k+1,cq,cx,HJ7,Zm⟩
   simp[intOf]<;>omega
  have HE2:O (iQ rs st us sn xo q++kQ R us o k=iQ rs st us sn xo (q+1)):=by show _=_;rw[HSQ,show k=R.length by omega]
  have HJ5:O (J (iQ rs st us sn xo<|q+1) wr):=by show J _ _;rw[<-HE2];exact HJ4
  gi_wp2;go_roundw;case rel=>exact⟨q+1,cq,cx,HJ5⟩
  simp[intOf]<;>omega
 have HE:O (iQ rs st us sn xo q=cu (ae rs) st xo us sn):=by show _=_;unfold iQ cu;rw[Xn cq]
 have HJ2:O (J (cu (ae rs) st xo us sn) wr):=by show J _ _;rw[<-HE];exact HJ1
 gi_wp2
 go_end0
 exact⟨⟨_,rfl⟩,_,rfl,HJ2⟩
end Go.Proofs.YtojjoblnpldniaaGreat
namespace Go.Proofs.YtojjoblnpldniaaGreat
set_option linter.unusedVariables false
set_option maxRecDepth 100000
open ChangeShapes WideShapes ChangeAt RowKit Maps
open Pl
section
variable  {w:World}{rs:Q06}{D br bp bt bK nK:Nat}{n1:Int}{nr:Nat}{Mr:KL->Option Value}{Er:List (KL×RR)}{ts:Q05}{xo xu:Q0a}{np:Nat}{Mp:K3->Option Value}{vo vu:Value}{out:Q04}{f:Fc}{X9:Q02}{capE:Nat}{rows:Q08}{n:Nat}
def O5(hn:n<rows.length)(hD:DatA w rs D br bp bt n1 nr Mr Er (dY ts) xo xu np Mp vo vu)(hK:aN oH prog 52 w bK nK<|De out)(hf:f.fits)(hts:∀t∈ts,t.fits)(htl:ts.length<=1000)(hex:iw w X9 rows)(hre:rows.length<=1000)(hk:rows[n].e.kind=1):
  Calls prog 232 #[.pointer (some<|am D),.slice X9 rows.length capE,.int .i64 (n:Int),.agg<|cf f,.map<|some bK] w (bj w<|.bool<|pJ ts out f):=by
 obtain⟨b,off,Yb,⟨t0,t1,t2,t3,t4⟩,hbl,hok⟩:=iw.at0 hex hn;obtain⟨W0,hW0⟩:=eQx<|JW w D (.slice X9 rows.length capE) f bK rows[n];have HB0:O (ag w W0):=by show Below _ _ _;rw[hW0];exact mD _ _ _ _ _ _
 have HN0:O (NdB W0 w.heap.size D (.slice X9 rows.length capE) f bK rows[n]):=by show NdB _ _ _ _ _ _ _;rw[hW0];exact mE _ _ _ _ _ _
 have hk1:(rows[n].e.kind==1)=true:=by rw[hk];rfl
 have hbl1:b<w.heap.size+1:=cq;have Zz:b<w.heap.size+1+1:=cq;have hbl3:b<w.heap.size+1+1+1:=cq;have hn1:=bY n;have hn2:(n:Int)<(rows.length:Int):=cq;unfold JW zW at hW0;have HC:=bu<|Dw (hD.below HB0) (hK.below HB0) hf hts htl;clear hD hK hts hex hk hok;subst Yb;go_enter func232,ntmps232;go_wp2_with fail;rw[<-hW0];clear hW0 t0 t1 t2 t3 t4;refine(HC).mono ?_;rintro e w1 ⟨rfl,hb1⟩;have HB1:=bu<|HB0.trans<|hb1.mono HB0.size;clear hb1;go_wp2;go_ret;exact⟨rfl,HB1⟩
def R5(hn:n<rows.length)(hK:aN oH prog 52 w bK nK<|De out)(hf:f.fits)(hnm:rows[n].e.name.size<=maxLen)(hex:iw w X9 rows)(hre:rows.length<=1000)(hk:rows[n].e.kind=2):
  Calls prog 232 #[.pointer (some<|am D),.slice X9 rows.length capE,.int .i64 (n:Int),.agg<|cf f,.map<|some bK] w (bj w<|.bool<|gJ out ⟨f.a,f.b,rows[n].e.name,f.c,f.d⟩):=by
 obtain⟨b,off,Yb,⟨t0,t1,t2,t3,t4⟩,hbl,hok⟩:=iw.at0 hex hn;obtain⟨W0,hW0⟩:=eQx<|JW w D (.slice X9 rows.length capE) f bK rows[n];have HB0:O (ag w W0):=by show Below _ _ _;rw[hW0];exact mD _ _ _ _ _ _
 have HN0:O (NdB W0 w.heap.size D (.slice X9 rows.length capE) f bK rows[n]):=by show NdB _ _ _ _ _ _ _;rw[hW0];exact mE _ _ _ _ _ _
 have hk1:(rows[n].e.kind==1)=false:=by rw[hk];rfl
 have hk2:(rows[n].e.kind==2)=true:=by rw[hk];rfl
 have hbl1:b<w.heap.size+1:=cq;have Zz:b<w.heap.size+1+1:=cq;have hbl3:b<w.heap.size+1+1+1:=cq;have hn1:=bY n;have hn2:(n:Int)<(rows.length:Int):=cq;unfold JW zW at hW0;have HC:=bu<|xB bK nK out ⟨f.a,f.b,rows[n].e.name,f.c,f.d⟩ W0 ⟨hf.1,hf.2.1,hnm,hf.2.2.2.1,hf.2.2.2.2⟩<|hK.below HB0;clear hK hex hk hok hf;subst Yb;go_enter func232,ntmps232;go_wp2_with fail;rw[<-hW0];clear hW0 t0 t1 t2 t3 t4;refine(HC).mono ?_;rintro e w1 ⟨rfl,hb1⟩;have HB1:=bu<|HB0.trans<|hb1.mono HB0.size;clear hb1;go_wp2;go_ret;exact⟨rfl,HB1⟩
def O6(hn:n<rows.length)(hD:DatA w rs D br bp bt n1 nr Mr Er (dY ts) xo xu np Mp vo vu)(hK:aN oH prog 52 w bK nK<|De out)(hf:f.fits)(hxf:rows[n].e.over.size<=maxLen/\rows[n].e.name.size<=maxLen)(hts:∀t∈ts,t.fits)(htl:ts.length<=1000)(hex:iw w X9 rows)(hre:rows.length<=1000)(hk:rows[n].e.kind=3):
  Calls prog 232 #[.pointer (some<|am D),.slice X9 rows.length capE,.int .i64 (n:Int),.agg<|cf f,.map<|some bK] w (bj w<|.bool<|ny ts out rows[n].e.over rows[n].e.name f):=by
 obtain⟨b,off,Yb,⟨t0,t1,t2,t3,t4⟩,hbl,hok⟩:=iw.at0 hex hn;obtain⟨W0,hW0⟩:=eQx<|JW w D (.slice X9 rows.length capE) f bK rows[n];have HB0:O (ag w W0):=by show Below _ _ _;rw[hW0];exact mD _ _ _ _ _ _
 have HN0:O (NdB W0 w.heap.size D (.slice X9 rows.length capE) f bK rows[n]):=by show NdB _ _ _ _ _ _ _;rw[hW0];exact mE _ _ _ _ _ _
 have hk1:(rows[n].e.kind==1)=false:=by rw[hk];rfl
 have hk2:(rows[n].e.kind==2)=false:=by rw[hk];rfl
 have hk3:(rows[n].e.kind==3)=true:=by rw[hk];rfl
 have hbl1:b<w.heap.size+1:=cq;have Zz:b<w.heap.size+1+1:=cq;have hbl3:b<w.heap.size+1+1+1:=cq;have hn1:=bY n;have hn2:(n:Int)<(rows.length:Int):=cq;unfold JW zW at hW0;have HC:=bu<|Dx (hD.below HB0) (hK.below HB0) rows[n] hxf hf hts htl;clear hD hK hts hex hk hok hxf hf;subst Yb;go_enter func232,ntmps232;go_wp2_with fail;rw[<-hW0];clear hW0 t0 t1 t2 t3 t4;refine(HC).mono ?_;rintro e w1 ⟨rfl,hb1⟩;have HB1:=bu<|HB0.trans<|hb1.mono HB0.size;clear hb1;go_wp2;go_ret;exact⟨rfl,HB1⟩
def L6(hn:n<rows.length)(H:Int->Bool)(hkl:rows[n].e.kids.length<=1000)(hIH:∀i∈rows[n].e.kids,LV D (.slice X9 rows.length capE) f bK w i<|H i)(hex:iw w X9 rows)(hre:rows.length<=1000)(hk:rows[n].e.kind=4):
  Calls prog 232 #[.pointer (some<|am D),.slice X9 rows.length capE,.int .i64 (n:Int),.agg<|cf f,.map<|some bK] w (bj w<|.bool<|rows[n].e.kids.any H):=by
 obtain⟨b,off,Yb,⟨t0,t1,t2,t3,t4⟩,hbl,hok⟩:=iw.at0 hex hn;obtain⟨W0,hW0⟩:=eQx<|JW w D (.slice X9 rows.length capE) f bK rows[n];have HB0:O (ag w W0):=by show Below _ _ _;rw[hW0];exact mD _ _ _ _ _ _
 have HN0:O (NdB W0 w.heap.size D (.slice X9 rows.length capE) f bK rows[n]):=by show NdB _ _ _ _ _ _ _;rw[hW0];exact mE _ _ _ _ _ _
 have hk1:(rows[n].e.kind==1)=false:=by rw[hk];rfl
 have hk2:(rows[n].e.kind==2)=false:=by rw[hk];rfl
 have hk3:(rows[n].e.kind==3)=false:=by rw[hk];rfl
 have hk4:(rows[n].e.kind==4)=true:=by rw[hk];rfl
 have hbl1:b<w.heap.size+1:=cq;have Zz:b<w.heap.size+1+1:=cq;have hbl3:b<w.heap.size+1+1+1:=cq;have hn1:=bY n;have hn2:(n:Int)<(rows.length:Int):=cq;unfold JW zW at hW0;have HC:=bu<|uA 282 #[] #[.pointer (some<|a7 w),.pointer<|some<|am<|w.heap.size+1,.pointer<|some<|am<|w.heap.size+1+1,.pointer<|some<|am<|w.heap.size+1+1+1] H rows[n].adK rows[n].capK rows[n].e.kids W0 cq (hok.2.below HB0) Vq fun i hi w1 hb=>qI (hIH i hi) (HB0.trans<|hb.mono HB0.size)<|HN0.below hb;clear hIH hex hk hok;subst Yb;go_enter func232,ntmps232;go_wp2_with fail;rw[<-hW0];clear hW0 t0 t1 t2 t3 t4;refine(HC).mono ?_;rintro e w1 ⟨rfl,hb1⟩;have HB1:=bu<|HB0.trans<|hb1.mono HB0.size;clear hb1;go_wp2;go_ret;exact⟨rfl,HB1⟩
def O7(hn:n<rows.length)(H:Int->Bool)(hkl:rows[n].e.kids.length<=1000)(hIH:∀i∈rows[n].e.kids,LV D (.slice X9 rows.length capE) f bK w i<|H i)(hex:iw w X9 rows)(hre:rows.length<=1000)(hk:rows[n].e.kind=5):
  Calls prog 232 #[.pointer (some<|am D),.slice X9 rows.length capE,.int .i64 (n:Int),.agg<|cf f,.map<|some bK] w (bj w<|.bool<|rows[n].e.kids.all H):=by
 obtain⟨b,off,Yb,⟨t0,t1,t2,t3,t4⟩,hbl,hok⟩:=iw.at0 hex hn;obtain⟨W0,hW0⟩:=eQx<|JW w D (.slice X9 rows.length capE) f bK rows[n];have HB0:O (ag w W0):=by show Below _ _ _;rw[hW0];exact mD _ _ _ _ _ _
 have HN0:O (NdB W0 w.heap.size D (.slice X9 rows.length capE) f bK rows[n]):=by show NdB _ _ _ _ _ _ _;rw[hW0];exact mE _ _ _ _ _ _
 have hk1:(rows[n].e.kind==1)=false:=by rw[hk];rfl
 have hk2:(rows[n].e.kind==2)=false:=by rw[hk];rfl
 have hk3:(rows[n].e.kind==3)=false:=by rw[hk];rfl
 have hk4:(rows[n].e.kind==4)=false:=by rw[hk];rfl
 have hk5:(rows[n].e.kind==5)=true:=by rw[hk];rfl
 have hbl1:b<w.heap.size+1:=cq;have Zz:b<w.heap.size+1+1:=cq;have hbl3:b<w.heap.size+1+1+1:=cq;have hn1:=bY n;have hn2:(n:Int)<(rows.length:Int):=cq;unfold JW zW at hW0;have HC:=bu<|uA 283 #[] #[.pointer (some<|am<|w.heap.size+1+1+1+1+1)] (fun i=>!H i) rows[n].adK rows[n].capK rows[n].e.kids W0 cq (hok.2.below HB0) Vr (fun i hi w1 hb=>xC (hIH i hi) (HB0.trans<|hb.mono HB0.size)<|HN0.below hb);have Yq:O ((rows[n].e.kids.any fun i=>!H i)=!rows[n].e.kids.all H):=by show _=_;rw[List.not_all_eq_any_not]
 clear hIH hex hk hok;subst Yb;go_enter func232,ntmps232;go_wp2_with fail;rw[<-hW0];clear hW0 t0 t1 t2 t3 t4;refine(HC).mono ?_;rintro e w1 ⟨he,hb1⟩;rw[Yq]at he;subst he;have HB1:=bu<|HB0.trans<|hb1.mono HB0.size;clear hb1;go_wp2;go_ret;exact⟨ct,HB1⟩
end
open Go.Sort
section
variable  {w:World}{rs:Q06}{D br bp bt bK nK:Nat}{n1:Int}{nr:Nat}{Mr:KL->Option Value}{Er:List (KL×RR)}{ts:Q05}{xo xu:Q0a}{np:Nat}{Mp:K3->Option Value}{vo vu:Value}{out:Q04}{f:Fc}{X9:Q02}{capE:Nat}{rows:Q08}{n:Nat}
def R6(hn:n<rows.length)(b0 b1:Bool)(hkl:rows[n].e.kids.length<=1000)(hk2l:2<=rows[n].e.kids.length)(hA:LV D (.slice X9 rows.length capE) f bK w (rows[n].e.kids.getD 0 0) b0)(hB:LV D (.slice X9 rows.length capE) f bK w (rows[n].e.kids.getD 1 0) b1)(hex:iw w X9 rows)(hre:rows.length<=1000)(hk:rows[n].e.kind=6):
  Calls prog 232 #[.pointer (some<|am D),.slice X9 rows.length capE,.int .i64 (n:Int),.agg<|cf f,.map<|some bK] w (bj w<|.bool<|b0 && !b1):=by
 obtain⟨b,off,Yb,⟨t0,t1,t2,t3,t4⟩,hbl,hok⟩:=iw.at0 hex hn;obtain⟨W0,hW0⟩:=eQx<|JW w D (.slice X9 rows.length capE) f bK rows[n];have HB0:O (ag w W0):=by show Below _ _ _;rw[hW0];exact mD _ _ _ _ _ _
 have HN0:O (NdB W0 w.heap.size D (.slice X9 rows.length capE) f bK rows[n]):=by show NdB _ _ _ _ _ _ _;rw[hW0];exact mE _ _ _ _ _ _
 have hk1:(rows[n].e.kind==1)=false:=by rw[hk];rfl
 have hk2:(rows[n].e.kind==2)=false:=by rw[hk];rfl
 have hk3:(rows[n].e.kind==3)=false:=by rw[hk];rfl
 have hk4:(rows[n].e.kind==4)=false:=by rw[hk];rfl
 have hk5:(rows[n].e.kind==5)=false:=by rw[hk];rfl
 have hbl1:b<w.heap.size+1:=cq;have Zz:b<w.heap.size+1+1:=cq;have hbl3:b<w.heap.size+1+1+1:=cq;have hn1:=bY n;have hn2:(n:Int)<(rows.length:Int):=cq;unfold JW zW at hW0;have h0k:0<rows[n].e.kids.length:=cq;have h1k:1<rows[n].e.kids.length:=cq;obtain⟨bJ,offJ,Ze,z0,hbK⟩:=sK.at0 hok.2 h0k;have z1:w.cell? (aq bJ<|offJ+1)=some (.int .i64 rows[n].e.kids[1]):=by
  obtain⟨b',off',hadK',z1,-⟩:=sK.at0 hok.2 h1k;rw[Ze]at hadK';injection hadK' with e;injection e with e1 e2;rw[e1,e2];exact z1
 obtain⟨i0,hi0⟩:∃i,i=rows[n].e.kids[0]:=⟨_,rfl⟩;obtain⟨i1,hi1⟩:∃i,i=rows[n].e.kids[1]:=⟨_,rfl⟩;have g0:rows[n].e.kids.getD 0 0=i0:=by rw[hi0,Xh,WS h0k];rfl
 have g1:rows[n].e.kids.getD 1 0=i1:=by rw[hi1,Xh,WS h1k];rfl
 rw[g0]at hA;rw[g1]at hB;rw[<-hi0,Nat.add_zero]at z0;rw[<-hi1]at z1;obtain⟨kl,hkl'⟩:∃kl,kl=rows[n].e.kids.length:=⟨_,rfl⟩;obtain⟨cK,hcK⟩:∃c,c=rows[n].capK:=⟨_,rfl⟩;have hl0:(0:Int)<(kl:Int):=cq;have hl1:(1:Int)<(kl:Int):=cq;have h0k':0<kl:=cq;have h1k':1<kl:=cq;have HA:O (∀w1,ag W0 w1->_):=fun w1 hb=>qI hA (HB0.trans<|hb.mono HB0.size)<|HN0.below hb;have HBB:O (∀w1,ag W0 w1->_):=fun w1 hb=>xC hB (HB0.trans<|hb.mono HB0.size)<|HN0.below hb;have HZ:O (ac W0 bJ offJ (.int .i64 i0)/\ac W0 bJ (offJ+1) (.int .i64 i1)/\bJ<W0.heap.size):=⟨(HB0.cell (p:=⟨bJ,offJ,none⟩) hbK).trans z0,(HB0.cell (p:=⟨bJ,offJ+1,none⟩) hbK).trans z1,WJ hbK HB0.size⟩;have HX4:O (W0.cell? (aq (w.heap.size+1+1+1+1) 4)=some (.slice (some<|aq bJ offJ) kl cK)):=by show _=_;rw[HN0.x4,Ze,<-hkl',<-hcK]
 have HV5:O (ab W0 (w.heap.size+1+1+1+1+1)<|.func (Fn.func 282) #[] #[.pointer (some<|a7 w),.pointer<|some<|am<|w.heap.size+1,.pointer<|some<|am<|w.heap.size+1+1,.pointer<|some<|am<|w.heap.size+1+1+1]):=HN0.v;clear hA hB hex hk hok z0 z1 Ze h0k h1k g0 g1 hi0 hi1;subst Yb;go_enter func232,ntmps232;go_wp2_with fail;rw[<-hW0];clear hW0 t0 t1 t2 t3 t4;clear hk1 hk2 hk3 hk4 hk5 hkl' hcK;have HAA:O (∀d os,Calls prog 282 #[.int .i64 i0,.pointer<|some<|a7 w,.pointer<|some<|am<|w.heap.size+1,.pointer<|some<|am<|w.heap.size+1+1,.pointer<|some<|am<|w.heap.size+1+1+1] (grow (redrawn W0 d) os) fun e w''=>e=.returned (.bool b0)/\∃p:Regrown,w''=grow (redrawn W0 p.d) p.os):=by
  refine gm fun W' hb=>?_;exact HA _ hb
 have HBQ:O (∀d os,Calls prog 283 #[.int .i64 i1,.pointer<|some<|am<|w.heap.size+1+1+1+1+1] (grow (redrawn W0 d) os) fun e w''=>e=.returned (.bool<|!b1)/\∃p:Regrown,w''=grow (redrawn W0 p.d) p.os):=by
  refine gm fun W' hb=>?_;exact HBB _ hb
 have x4:=cell_regrown HX4;have v5:=cell_regrown HV5;have z0:=cell_regrown HZ.1;have z1:=cell_regrown HZ.2.1;clear HA HBB HN0;cases b0
 case' true =>
  skip
 case' false =>
  skip
 all_goals
  refine wp_region_quiet_below cw cw ?_
  repeat(go_big_quiet_step (first|exact HAA _ _|exact HBQ _ _))
  refine wpQuiet_nil ?_;rintro _ ⟨⟨dq,osq⟩,rfl⟩;go_wp2;go_ret;exact⟨rfl,HB0.trans<|(below_regrown W0 dq osq).mono HB0.size⟩
end
def L8{e:Ex}(h:ax e=true):(e.kind=2->e.name.size<=maxLen)/\(e.kind=3->e.over.size<=maxLen/\e.name.size<=maxLen)/\(e.kind=1\/e.kind=2\/e.kind=3\/e.kind=4\/e.kind=5\/e.kind=6):=by
 unfold ax at h;have hle:∀s:ByteArray,aS s=true->s.size<=maxLen:=fun s hs=>by have:=(o6 hs).2;unfold maxLen;omega
 by_cases k1:e.kind=1
 ·exact⟨fun h2=>cq,fun h3=>cq,.inl k1⟩
 by_cases k2:e.kind=2
 ·rw[if_neg k1,if_pos k2]at h;simp only[WM]at h;exact⟨fun _=>hle _ h.1.1.1,fun h3=>cq,.inr<|.inl k2⟩
 by_cases k3:e.kind=3
 ·rw[if_neg k1,if_neg k2,if_pos k3]at h;simp only[WM]at h;exact⟨fun h2=>cq,fun _=>⟨hle _ h.1.1.1,hle _ h.1.1.2⟩,.inr<|.inr<|.inl k3⟩
 refine⟨fun h2=>absurd h2 k2,fun h3=>absurd h3 k3,?_⟩;by_cases k4:e.kind=4\/e.kind=5
 ·rcases k4 with k4|k4
  ·exact .inr<|.inr<|.inr<|.inl k4
  exact .inr<|.inr<|.inr<|.inr<|.inl k4
 by_cases k6:e.kind=6
 ·exact .inr<|.inr<|.inr<|.inr<|.inr k6
 rw[if_neg k1,if_neg k2,if_neg k3,if_neg k4,if_neg k6]at h;cases h
section
variable  {rs:Q06}{D br bp bt bK nK:Nat}{n1:Int}{nr:Nat}{Mr:KL->Option Value}{Er:List (KL×RR)}{ts:Q05}{xo xu:Q0a}{np:Nat}{Mp:K3->Option Value}{vo vu:Value}{out:Q04}{f:Fc}{X9:Q02}{capE:Nat}{rows:Q08}
def uE(hN:NodOk rows)(hnb:∀e∈ai rows,ax e=true)(hf:f.fits)(hts:∀t∈ts,t.fits)(htl:ts.length<=1000):
  ∀(k n:Nat) (w:World),n<k->n<rows.length->DatA w rs D br bp bt n1 nr Mr Er (dY ts) xo xu np Mp vo vu->aN oH prog 52 w bK nK (De out)->iw w X9 rows ->
  Calls prog 232 #[.pointer (some<|am D),.slice X9 rows.length capE,.int .i64 (n:Int),.agg<|cf f,.map<|some bK] w fun e w'=>e=.returned (.bool<|aJ ts (ai rows) out f k out n)/\ag w w'
 | 0,_,_,h,_,_,_,_=>absurd h<|XE _
 | k+1,n,w,hk,hn,hD,hK,hex=>by
  have e:(ai rows)[n]?=some rows[n].e:=by simp[ai,hn]
  have Yy:∀i∈rows[n].e.kids,LV D (.slice X9 rows.length capE) f bK w i (aJ ts (ai rows) out f k out i.toNat):=fun i hi w1 hb1=>by
   have h1:=hN.kid hn hi;have h2:=uE hN hnb hf hts htl k i.toNat w1 cq cq (hD.below hb1) (hK.below hb1)<|hex.below hb1;have e2:((i.toNat:Nat):Int)=i:=cq;rw[e2]at h2;exact h2
  have hm:rows[n]∈rows:=WH hn;have hme:rows[n].e∈ai rows:=WV.2 ⟨_,hm,rfl⟩;obtain⟨hn2,hn3,hkd⟩:=L8<|hnb _ hme;unfold aJ;rw[e];by_cases k1:rows[n].e.kind=1
  ·simp only[if_pos k1];exact O5 hn hD hK hf hts htl hex hN.len k1
  by_cases k2:rows[n].e.kind=2
  ·simp only[if_neg k1,if_pos k2];exact R5 hn hK hf (hn2 k2) hex hN.len k2
  by_cases k3:rows[n].e.kind=3
  ·simp only[if_neg k1,if_neg k2,if_pos k3];exact O6 hn hD hK hf (hn3 k3) hts htl hex hN.len k3
  by_cases k4:rows[n].e.kind=4
  ·simp only[if_neg k1,if_neg k2,if_neg k3,if_pos k4];exact L6 hn (fun i=>aJ ts (ai rows) out f k out i.toNat) (hN.kids _ hm) Yy hex hN.len k4
  by_cases k5:rows[n].e.kind=5
  ·simp only[if_neg k1,if_neg k2,if_neg k3,if_neg k4,if_pos k5];exact O7 hn (fun i=>aJ ts (ai rows) out f k out i.toNat) (hN.kids _ hm) Yy hex hN.len k5
  have k6:rows[n].e.kind=6:=cq;simp only[if_neg k1,if_neg k2,if_neg k3,if_neg k4,if_neg k5,if_pos k6];have h2:=hN.two _ hme k6;have hg:∀q,q<2->rows[n].e.kids.getD q 0∈rows[n].e.kids:=fun q hq=>by
   rw[Xh,WS cq];exact WH _
  exact R6 hn _ _ (hN.kids _ hm) h2 (Yy _<|hg 0 cq) (Yy _<|hg 1 cq) hex hN.len k6
def Ud{rs:Q06}(h:bB (ae rs)=true){k:Q01}(hk:k∈ay (ae rs)):∃t∈rs,∃q∈t.rows,lN rs k=some q.sl/\ai q.rows=aj (ae rs) k.1 k.2/\aK (ai q.rows)=true:=by
 have hk':=hk;unfold ay at hk;obtain⟨T,hT,hk⟩:=Xd.1 hk;obtain⟨t,ht,rfl⟩:=WV.1 hT;unfold kH at hk;obtain⟨r,hr,rfl⟩:=WV.1 hk;obtain⟨q,hq,rfl⟩:=WV.1 hr;have hrel:=nu h ht hq;cases e:lN rs (t.p.name,q.p.name) with
 | none =>
  have h1:=(rM h).no _ e;have h2:fB (ae rs) t.name q.name=none:=h1;rw[hrel]at h2;cases h2
 | some v =>
  obtain⟨t',ht',q',hq',-,rfl,e1,-⟩:=(rM h).yes _ v e;refine⟨t',ht',q',hq',rfl,?_,((aW h).2.2 t' ht' q' hq').1⟩;unfold aj;rw[e1];rfl
def O8{w:af}{ad:Q02}(hD:DatA w rs D br bp bt n1 nr Mr Er (dY ts) xo xu np Mp vo vu)(hK:aN oH prog 52 w bK nK<|De out)(hf:f.fits)(hts:∀t∈ts,t.fits)(htl:ts.length<=1000)(hsh:bB (ae rs)=true)(hkey:(f.a,f.r)∈ay (ae rs))(hs:jX w ad rs):
  Calls prog 203 #[.pointer (some<|am D),.agg<|cf f,.map<|some bK] w (bj w<|.bool<|eH (ae rs) ts out f):=by
 obtain⟨t,htm,q,hq,htab,hrx,hsp⟩:=Ud hsh hkey;obtain⟨hN,hr1⟩:=TY hsp;have hnb:=dR hsp;have ZJ:qP rs q.ad q.rows:=.inr ⟨t,htm,q,hq,rfl,rfl⟩;obtain⟨kl,hkl⟩:=j3 (f.a,f.r) hf.1 hf.2.2.1;obtain⟨W0,hW0⟩:=eQx<|w.alloc<|.cells (cf f) 52;have HB0:=tZ hW0;have c0:W0.cell? (a7 w)=some (.string f.a):=by rw[hW0];simp
 have c1:W0.cell? (a8 w 1)=some (.string f.b):=by rw[hW0];simp
 have c2:W0.cell? (a8 w 2)=some (.string f.r):=by rw[hW0];simp
 have c3:W0.cell? (a8 w 3)=some (.string f.c):=by rw[hW0];simp
 have c4:W0.cell? (a8 w 4)=some (.string f.d):=by rw[hW0];simp
 have d0:=HB0.cell (p:=⟨D,0,none⟩) hD.dat.lt |>.trans hD.dat.c0;obtain⟨X9,hadE⟩:∃a,a=q.ad:=⟨_,rfl⟩;obtain⟨capE,hcapE⟩:∃a,a=q.cap:=⟨_,rfl⟩;obtain⟨rows,hrows⟩:∃a,a=q.rows:=⟨_,rfl⟩;have hsl:q.sl=.slice X9 rows.length capE:=by rw[hadE,hcapE,hrows];rfl
 rw[<-hrows]at hN hnb hr1 hrx;rw[<-hrows,<-hadE]at ZJ;have hlk:∀m,(Instr.lookup 102 (.map<|some bt) (.agg #[.string f.a,.string f.r]) false).run prog (W0.drewN m)=.ok (.slice X9 rows.length capE) (W0.drewN m):=fun m=>by
  have h:=((hD.tab.below HB0).below<|below_drewN (WL _ _) m).look (t:=102) (e:=37) jl underlying102 (o8 _) (x:=(f.a,f.r)) hkl;rw[htab,hsl]at h;exact h
 have hr1000:=hN.len;have hwr:IntKind.i64.wrap ((rows.length:Int)-1)=((rows.length-1:Nat):Int):=by rw[IntKind.wrap_i64];omega
 have HC:O (∀nq,Calls prog 232 #[.pointer (some<|am D),.slice X9 rows.length capE,.int .i64 ((rows.length-1:Nat):Int),.agg<|cf f,.map<|some bK] (W0.drewN nq) fun e w'=>e=.returned (.bool<|eH (ae rs) ts out f)/\Below (W0.drewN nq).heap.size (W0.drewN nq) w'):=fun nq=>by
  have hb:ag w (W0.drewN nq):=below_drewN HB0 nq;have h:=uE (capE:=capE) hN hnb hf hts htl rows.length (rows.length-1) (W0.drewN nq) cq cq (hD.below hb) (hK.below hb)<|ZJ.sl<|hs.below hb;unfold eH;rw[<-hrx,au];exact h
 clear hD hK hs hsp hkl htab hsl hN hnb hf hadE hcapE hrows ZJ hrx hkey;go_enter func203,ntmps203;go_wp2_with fail;rw[<-hW0];clear hW0;go_quiet (fail);clear d0 hlk;go_wp2_with fail;refine(HC _).mono ?_;rintro e w1 ⟨rfl,hb1⟩;have HB1:=bu<|(below_drewN HB0 _).trans<|hb1.mono HB0.size;clear hb1 c0 c1 c2 c3 c4;go_wp2;go_ret;exact⟨rfl,HB1⟩
end
def O9(w:World)(S:Nat->Prop)(P:Value->Ru->Prop)(ad:Q02)(Gs:List Ru):Prop:=Gs=[] \/ ∃g,ad=some ⟨g,0,none⟩/\S g/\g<w.heap.size/\∀(i:Nat) (h:i<Gs.length),∃u,w.cell? ⟨g,i,none⟩=some u/\P u Gs[i]
def jk(w:World)(S:Nat->Prop):Nat->Value->Ru->Prop
 | 0,_,_=>False
 | n+1,v,G =>
  (∃b:Bool,v=.iface 239 (.agg #[.bool b])/\G=fun _=>b) \/
  (∃(ad:Q02) (cap:Nat) (fs:Q04),v=.iface 301 (.agg #[.slice ad fs.length cap])/\(fs=[] \/ ∃g,ad=some ⟨g,0,none⟩/\S g)/\Ao w ad fs/\(fs.length<=40/\(ad=none->cap=0))/\(∀x∈fs,x.fits)/\G=fun K=>fs.any K) \/
  (∃(ad:Q02) (cap:Nat) (Gs:List Ru),v=.iface 304 (.agg #[.slice ad Gs.length cap])/\Gs.length<=5/\O9 w S (jk w S n) ad Gs/\G=fun K=>Gs.any fun H=>H K) \/
  (∃(ad:Q02) (cap:Nat) (Gs:List Ru),v=.iface 306 (.agg #[.slice ad Gs.length cap])/\Gs.length<=5/\O9 w S (jk w S n) ad Gs/\G=fun K=>Gs.all fun H=>H K)
def Ao.blockF{w w':af}{ad:Q02}{fs:Q04}(h:Ao w ad fs)(hs:cV w w')(hz:fs≠[]->∃g,ad=some (am g)/\(g<w.heap.size->w'.heap[g]?=w.heap[g]?)):Ao w' ad fs:=by
 by_cases hx:fs=[]
 ·exact .inl hx
 rcases h with h|⟨b,off,e,hb,hr⟩
 ·exact absurd h hx
 obtain⟨g,e2,hg⟩:=hz hx;rw[e]at e2;injection e2 with e2;injection e2 with e2 e3;subst e2;exact .inr ⟨b,off,e,WJ hb hs,fun i hi=>(hr i hi).same fun o=>WX (w:=w) (a:=⟨b,o,none⟩)<|hg hb⟩
def jk.keep{w w':af}{S T:Nat->Prop}(hs:cV w w')(hk:∀g,S g->g<w.heap.size->T g/\w'.heap[g]?=w.heap[g]?):∀(n:Nat) (v:Value) (G:Ru),jk w S n v G->jk w' T n v G
 | 0,_,_,h=>h
 | n+1,v,G,h=>by
  have row:∀{ad:Q02} {Gs:List Ru},O9 w S (jk w S n) ad Gs->O9 w' T (jk w' T n) ad Gs:=fun {ad Gs} h=>by
   rcases h with h|⟨g,e,h1,h2,h3⟩
   ·exact .inl h
   obtain⟨k1,k2⟩:=hk g h1 h2;refine .inr ⟨g,e,k1,WJ h2 hs,fun i hi=>?_⟩;obtain⟨u,hu,hp⟩:=h3 i hi;exact⟨u,(WX (w:=w) (a:=⟨g,i,none⟩) k2).trans hu,jk.keep hs hk n u _ hp⟩
  rcases h with h|⟨ad,cap,fs,e,hz,h1,h2,h3,h4⟩|⟨ad,cap,Gs,e,h1,h2,h3⟩|⟨ad,cap,Gs,e,h1,h2,h3⟩
  ·exact .inl h
  ·refine .inr<|.inl ⟨ad,cap,fs,e,?_,?_,h2,h3,h4⟩
   ·rcases hz with hz|⟨g,e1,hg⟩
    ·exact .inl hz
    by_cases hx:fs=[]
    ·exact .inl hx
    rcases h1 with h1|⟨b,off,e2,hb,-⟩
    ·exact absurd h1 hx
    rw[e1]at e2;injection e2 with e2;injection e2 with e2 e3;exact .inr ⟨g,e1,(hk g hg cq).1⟩
   refine h1.blockF hs fun hne=>?_;rcases hz with hz|⟨g,e1,hg⟩
   ·exact absurd hz hne
   exact⟨g,e1,fun hl=>(hk g hg hl).2⟩
  ·exact .inr<|.inr<|.inl ⟨ad,cap,Gs,e,h1,row h2,h3⟩
  exact .inr<|.inr<|.inr ⟨ad,cap,Gs,e,h1,row h2,h3⟩
def jk.below{w w':af}{S:Nat->Prop}{n:Nat}{v:Value}{G:Ru}(h:jk w S n v G)(hb:ag w w'):jk w' S n v G:=jk.keep hb.size (fun g h1 h2=>⟨h1,hb.block g h2⟩) n v G h
def jk.more{w:af}{S:Nat->Prop}:∀(n:Nat) (v:Value) (G:Ru),jk w S n v G->jk w S (n+1) v G
 | 0,_,_,h=>h.elim
 | n+1,v,G,h=>by
  have row:∀{ad:Q02} {Gs:List Ru},O9 w S (jk w S n) ad Gs->O9 w S (jk w S<|n+1) ad Gs:=fun {ad Gs} h=>by
   rcases h with h|⟨g,e,h1,h2,h3⟩
   ·exact .inl h
   refine .inr ⟨g,e,h1,h2,fun i hi=>?_⟩;obtain⟨u,hu,hp⟩:=h3 i hi;exact⟨u,hu,jk.more n u _ hp⟩
  rcases h with h|h|⟨ad,cap,Gs,e,h1,h2,h3⟩|⟨ad,cap,Gs,e,h1,h2,h3⟩
  ·exact .inl h
  ·exact .inr<|.inl h
  ·exact .inr<|.inr<|.inl ⟨ad,cap,Gs,e,h1,row h2,h3⟩
  exact .inr<|.inr<|.inr ⟨ad,cap,Gs,e,h1,row h2,h3⟩
def jk.up{w:af}{S:Nat->Prop}{v:Value}{G:Ru}{n m:Nat}(h:jk w S n v G)(hm:n<=m):jk w S m v G:=by
 induction m with
 | zero =>
  have e:n=0:=cq;rw[e]at h;exact h
 | succ m ih =>
  by_cases e:n=m+1
  ·rw[<-e];exact h
  exact jk.more m v G<|ih cq
structure PrM(w:World)(P D:Nat)(adF:Q02)(YJ:Nat)(out:Q04)(bK nK:Nat):Prop where
 lt:P<w.heap.size
 c0:w.cell? ⟨P,0,none⟩=some (.pointer<|some ⟨D,0,none⟩)
 c1:w.cell? ⟨P,1,none⟩=some (.slice adF out.length YJ)
 c2:w.cell? ⟨P,2,none⟩=some (.map<|some bK)
 found:Ao w adF out
 set:aN oH prog 52 w bK nK (De out)
def PrM.below{w w':af}{P D:Nat}{adF:Q02}{YJ:Nat}{out:Q04}{bK nK:Nat}(h:PrM w P D adF YJ out bK nK)(hb:ag w w'):PrM w' P D adF YJ out bK nK :=
 ⟨WJ h.lt hb.size,iH hb h.lt h.c0,iH hb h.lt h.c1,iH hb h.lt h.c2,h.found.below hb,h.set.below hb⟩
section
variable  {w:World}{rs:Q06}{P D br bp bt bK nK:Nat}{n1:Int}{nr:Nat}{Mr:KL->Option Value}{Er:List (KL×RR)}{ts:Q05}{xo xu:Q0a}{np:Nat}{Mp:K3->Option Value}{vo vu:Value}{out:Q04}{f:Fc}{adF:Q02}{YJ:Nat}
end
end Go.Proofs.YtojjoblnpldniaaGreat
