/- The text of the drawing's last resort can be read, and says a right schema. -/
import Derived.Test.YtojjoblnpldniaaGreatSq
import Derived.Test.YtojjoblnpldniaaGreatJ12
import Derived.RangeFuncLeaves
import Derived.OwnWalkIn
import Derived.TacticsInMore
import Derived.LoopNIn
import Derived.LoopIn
open Go.Proofs.Tryz
set_option maxHeartbeats 80000000
namespace Go.Proofs.YtojjoblnpldniaaGreat
open Pl
def lastT:ByteArray:=⟨#[116,121,112,101,32,100,111,99,10,118,105,101,119,101,114,32,61,32,116,104,105,115,40,117,115,101,114,41,10,116,121,112,101,32,117,115,101,114,10]⟩
def Jj:List Ty:=[⟨⟨#[100,111,99]⟩,[⟨⟨#[118,105,101,119,101,114]⟩,[⟨1,[⟨⟨#[117,115,101,114]⟩,⟨#[]⟩⟩],⟨#[]⟩,⟨#[]⟩,[]⟩]⟩]⟩,⟨⟨#[117,115,101,114]⟩,[]⟩]
theorem LY:eu (lastT.size+1) lastT []=some Jj:=by kernel_rfl
theorem LZ:aG Jj=true:=by
 refine aM.2 ⟨by kernel_rfl,by kernel_rfl,fun _=>0,⟨fun _=>Int.le_refl _,fun k hk d hd=>?_⟩⟩;have h:((ay Jj).all fun k=>(iW Jj k).isEmpty)=true:=by kernel_rfl
 have h2:=WT.1 h k hk;rw[List.isEmpty_iff.1 h2]at hd;cases hd
def Pre(t:ByteArray):Prop:=∃x y z c tl,t.data.toList=116::121::112::101::32::x::y::z::10::c::tl/\x≠10/\y≠10/\z≠10/\c≠116
theorem Pre.app{t:ByteArray}(h:Pre t)(u:bN):Pre (t++u):=by
 obtain⟨x,y,z,c,tl,e,h1⟩:=h;exact⟨x,y,z,c,tl++u.data.toList,by rw[XI,Array.toList_append,e];rfl,h1⟩
theorem RZ{n:ByteArray}(h:aS n=true):∀b∈n.data.toList,b≠10:=by
 intro b hb e;unfold aS dZ uf at h;simp only[WM]at h;have:=WT.1 h.1.2 b hb;rw[e]at this
 revert this
 decide
theorem OX{rs:Q06}(hd:aG (ae rs)=true)(h:Pre (bP (ae rs))):∃t ts q qs x xs,rs=t::ts/\t.rows=q::qs/\q.rows=x::xs:=by
 have hS:=aM.1 hd;obtain⟨x,y,z,c,tl,e,hx,hy,hz,hc⟩:=h;cases rs with
 | nil=>simp[ae,bP]at e
 | cons t ts =>
  have hn:=RZ (mq hS.1 0 (by simp)).1;simp only[List.getElem_cons_zero]at hn;have e2:(116::121::112::101::32::(t.name.data.toList++10::((di (df t.rows)).data.toList++(bP (ae ts)).data.toList)))=116::121::112::101::32::x::y::z::10::c::tl:=by
   rw[<-e];show _=(bP (⟨t.name,df t.rows⟩::ae ts)).data.toList;simp[bP,gZ,ByteArray.data_append]
  simp only[List.cons.injEq,true_and]at e2;have key:(di (df t.rows)).data.toList++(bP (ae ts)).data.toList=c::tl:=by
   generalize (di (df t.rows)).data.toList++(bP (ae ts)).data.toList=rest at e2;generalize t.name.data.toList=nm at e2 hn
   match nm,e2,hn with
   | [],e2,_=>simp at e2;exact absurd e2.1.symm hx
   | [a],e2,_=>simp at e2;exact absurd e2.2.1.symm hy
   | [a,b],e2,_=>simp at e2;exact absurd e2.2.2.1.symm hz
   | [a,b,d],e2,_=>simp at e2;exact e2.2.2.2
   | a::b::d::f::nm,e2,hn=>simp at e2;exact absurd e2.2.2.2.1 (hn f (by simp))
  cases hr:t.rows with
  | nil =>
   rw[hr]at key;cases ts with
   | nil=>simp[df,di,ae,bP]at key
   | cons u us =>
    have:(bP (ae (u::us))).data.toList.head?=some 116:=by
     show(bP (⟨u.name,df u.rows⟩::ae us)).data.toList.head?=_;simp[bP,gZ,ByteArray.data_append]
    simp only[df,List.map_nil,di]at key;rw[show((⟨#[]⟩:ByteArray).data.toList++(bP (ae (u::us))).data.toList)=(bP (ae (u::us))).data.toList from rfl]at key;rw[key]at this;simp at this;exact absurd this hc
  | cons q qs =>
   obtain⟨h1,-⟩:=(aW hS.1).2.2 t (by simp) q (by rw[hr];simp);have h2:=(kL h1).1;rw[au]at h2;cases hq:q.rows with
   | nil=>rw[hq]at h2;simp at h2
   | cons x xs=>exact⟨t,ts,q,qs,x,xs,rfl,hr,hq⟩
open ChangeAt ChangeShapes RowKit WideShapes
set_option linter.unusedVariables false
set_option maxRecDepth 100000
section
variable  {α:Type}{T:TypeId}{size:Nat}{cells:α->List Value}{K:World->Nat->α->Prop}{I:α->Nat->Prop}{w w':World}{base:Nat}{v:Value}
theorem Cx{q q':α}{rs:List α}(hI:∀g,I q' g->I q g)(h:∀(x y:Nat) (hx:x<(q::rs).length) (hy:y<(q::rs).length),x≠y->∀g,I (q::rs)[x] g->¬I (q::rs)[y] g):
  ∀(x y:Nat) (hx:x<(q'::rs).length) (hy:y<(q'::rs).length),x≠y->∀g,I (q'::rs)[x] g->¬I (q'::rs)[y] g:=by
 intro x y hx hy hxy g h1 h2;cases x with
 | zero =>
  cases y with
  | zero=>exact hxy rfl
  | succ y=>exact h 0 (y+1) (by simp) (by simpa using hy) (by omega) g (hI g h1) h2
 | succ x =>
  cases y with
  | zero=>exact h (x+1) 0 (by simpa using hx) (by simp) (by omega) g h1 (hI g h2)
  | succ y=>exact h (x+1) (y+1) (by simpa using hx) (by simpa using hy) hxy g h1 h2
theorem X8.first(kd:Kid K I){q q':α}{rs:List α}{b n cap j:Nat}{u:Value}(h:X8 T size cells K I w base (.slice (some ⟨b,0,none⟩) n cap) (q::rs))(hn:n=rs.length+1)
  (hq':∀w,K w base q->K w base q') (hI:∀g,I q' g->I q g) (hset:((q::rs).flatMap cells).set j u=(q'::rs).flatMap cells) :
  X8 T size cells K I (w.setCell ⟨b,j,none⟩ u) base (.slice (some ⟨b,0,none⟩) n cap) (q'::rs):=by
 have own1:w.ownsRow base T size (.slice (some ⟨b,0,none⟩) n cap) n ((q::rs).flatMap cells):=by have:=h.own;rwa [show(q::rs).length=n by simp[hn]]at this
 obtain⟨ZX,hg2⟩:=own1.stored j u;rw[hset]at ZX;have hne:∀p∈q::rs,∀g,I p g->g≠b:=fun p hp g hi e=>h.head p hp g hi (by rw[e];rfl);have keep:∀p∈q::rs,K (w.setCell ⟨b,j,none⟩ u) base p:=fun p hp=>kd.heap w _ base p (h.kid p hp) hg2.size fun g hi=>Below.heap_setCell w _ u g (hne p hp g hi);refine⟨by simpa[hn] using ZX,fun p hp=>?_,fun p hp g hi=>?_,Cx hI h.two⟩
 ·rcases Xc.1 hp with rfl|hp
  ·exact hq' _ (keep q (by simp))
  exact keep p (by simp[hp])
 rcases Xc.1 hp with rfl|hp
 ·exact h.head q (by simp) g (hI g hi)
 exact h.head p (by simp[hp]) g hi
theorem X8.firstIn(kd:Kid K I){q q':α}{rs:List α}(h:X8 T size cells K I w base v (q::rs))(hs:w.heap.size<=w'.heap.size)(hh:∀g,¬I q g->w'.heap[g]?=w.heap[g]?)(hc:cells q'=cells q)(hk:K w' base q')(hI:∀g,I q' g->I q g):
  X8 T size cells K I w' base v (q'::rs):=by
 refine⟨?_,fun p hp=>?_,fun p hp g hi=>?_,Cx hI h.two⟩
 ·have h1:=dJ (w':=w') h.own fun g hg=>hh g fun hi=>h.head q (by simp) g hi hg;simpa[List.flatMap_cons,hc] using h1
 ·rcases Xc.1 hp with rfl|hp
  ·exact hk
  refine kd.heap w w' base p (h.kid p (by simp[hp])) hs fun g hi=>hh g fun hq=>?_;obtain⟨i,hi2,rfl⟩:=Xt hp;exact h.two 0 (i+1) (by simp) (by simp;omega) (by omega) g hq hi
 rcases Xc.1 hp with rfl|hp
 ·exact h.head q (by simp) g (hI g hi)
 exact h.head p (by simp[hp]) g hi
end
def ER.asK(x:ER)(k:Int):ER:={ x with e:={ x.e with kind:=k } }
theorem NodM.kind{w:af}{base b n cap:Nat}{x:ER}{xs:Q08}(k:Int)(h:NodM w base (.slice (some ⟨b,0,none⟩) n cap) (x::xs))(hn:n=xs.length+1):NodM (w.setCell ⟨b,0,none⟩ (.int .i64 k)) base (.slice (some ⟨b,0,none⟩) n cap) (x.asK k::xs):=by
 have own1:w.ownsRow base 43 5 (.slice (some ⟨b,0,none⟩) n cap) n (dV (x::xs)):=by have:=h.own;rwa [show(x::xs).length=n by simp[hn]]at this
 obtain⟨ZX,hg2⟩:=own1.stored 0 (.int .i64 k);have hset:(dV (x::xs)).set 0 (.int .i64 k)=dV (x.asK k::xs):=by simp[dV,ER.row,ER.asK]
 rw[hset]at ZX;have hb:∀q∈x::xs,∀g,mr q g->g≠b:=fun q hq g hg e=>(h.lie q hq g hg).2.2.2 (by rw[e];rfl);have hsame:∀g,g≠b->(w.setCell ⟨b,0,none⟩ (.int .i64 k)).heap[g]?=w.heap[g]?:=fun g hg=>Below.heap_setCell w _ _ g hg;have hall:∀{P:ER->Prop},(∀q∈x::xs,P q)->(P x->P (x.asK k))->∀q∈x.asK k::xs,P q:=fun hP hx q hq=>by
  rcases Xc.1 hq with rfl|hq
  ·exact hx (hP x (by simp))
  exact hP q (by simp[hq])
 refine ⟨by simpa [hn] using ZX,hall h.zA id,hall h.zK id,hall (P:=fun q=>q.ok _) (fun q hq=>qw (h.ok q hq) hg2.size (h.zA q hq) (h.zK q hq) fun g hg=>hsame g (hb q hq g hg)) id,hall (P:=fun q=>∀ g,mr q g->base<=g/\g<(w.setCell ⟨b,0,none⟩ (.int .i64 k)).heap.size/\jV (w.setCell ⟨b,0,none⟩ (.int .i64 k)) g/\_) (fun q hq g hg=>by
  obtain⟨a1,a2,a3,a4⟩:=h.lie q hq g hg;exact⟨a1,WJ a2 hg2.size,cz a3 (hsame g (hb q hq g hg)),a4⟩) id,hall h.one id,?_,hall h.cA id⟩
 exact Cx (I:=mr) (q:=x) (q':=x.asK k) (fun g hg=>hg) h.two
theorem dA.named{w:af}{base b n cap:Nat}{t:TR}{ts:Q06}(nm:bN)(h:dA w base (.slice (some ⟨b,0,none⟩) n cap) (t::ts))(hn:n=ts.length+1):dA (w.setCell ⟨b,0,none⟩ (.string nm)) base (.slice (some ⟨b,0,none⟩) n cap) (({ t with name:=nm }:TR)::ts) :=
 X8.first jW h hn (fun w hk=>hk) (fun g hg=>hg) (by simp[TR.cells,TR.vs])
def TR.asK(t:TR)(q:RR)(qs:Q07)(x:ER)(xs:Q08)(k:Int):TR:={ t with rows:={ q with rows:=x.asK k::xs }::qs }
theorem dA.kind{w:af}{base b:Nat}{v:Value}{t:TR}{ts:Q06}{q:RR}{qs:Q07}{x:ER}{xs:Q08}(k:Int)(h:dA w base v (t::ts))(ht:t.rows=q::qs)(hq:q.rows=x::xs)(hb:q.ad=some ⟨b,0,none⟩):
  dA (w.setCell ⟨b,0,none⟩ (.int .i64 k)) base v (t.asK q qs x xs k::ts):=by
 have hkt:=h.kid t (by simp);have hR:jJ w base t.vs (q::qs):=by have:=hkt;unfold kT at this;rwa [ht]at this
 have hkq:=hR.kid q (by simp);have hN:NodM w base q.vs (x::xs):=by have:=hkq;unfold kR at this;rwa [hq]at this
 have hvq:q.vs=.slice (some ⟨b,0,none⟩) (xs.length+1) q.cap:=by unfold RR.vs;rw[hb,hq];rfl
 rw[hvq]at hN;have hN2:=hN.kind k rfl;have hsz:w.heap.size<=(w.setCell ⟨b,0,none⟩ (.int .i64 k)).heap.size:=by simp
 have hsame:∀g,g≠b->(w.setCell ⟨b,0,none⟩ (.int .i64 k)).heap[g]?=w.heap[g]?:=fun g hg=>Below.heap_setCell w _ _ g hg;have hib:iR q b:=.inl (by rw[hvq];rfl);have hvq2:({ q with rows:=x.asK k::xs }:RR).vs=q.vs:=by unfold RR.vs;rw[hq];rfl
 have hiR:∀g,iR { q with rows:=x.asK k::xs } g->iR q g:=fun g hg=>by
  rcases hg with hg|⟨y,hy,hg⟩
  ·exact .inl (by rw[<-hvq2];exact hg)
  rcases Xc.1 hy with rfl|hy
  ·exact .inr ⟨x,by rw[hq];simp,hg⟩
  exact .inr ⟨y,by rw[hq];simp[hy],hg⟩
 have hR2:jJ (w.setCell ⟨b,0,none⟩ (.int .i64 k)) base t.vs ({ q with rows:=x.asK k::xs }::qs):=X8.firstIn oG hR hsz (fun g hg=>hsame g fun e=>hg (by rw[e];exact hib)) (by unfold RR.cells;rw[hvq2]) (by show NodM _ _ _ _;rw[hvq2,hvq];exact hN2) hiR;have hvt:(t.asK q qs x xs k).vs=t.vs:=by unfold TR.vs TR.asK;rw[ht];rfl
 have hit:iT t b:=.inr ⟨q,by rw[ht];simp,hib⟩;refine X8.firstIn jW h hsz (fun g hg=>hsame g fun e=>hg (by rw[e];exact hit)) (by unfold TR.cells;rw[hvt];rfl) (by show jJ _ _ _ _;rw[hvt];exact hR2) fun g hg=>?_;rcases hg with hg|⟨y,hy,hg⟩
 ·exact .inl (by rw[<-hvt];exact hg)
 rcases Xc.1 hy with rfl|hy
 ·exact .inr ⟨q,by rw[ht];simp,hiR g hg⟩
 exact .inr ⟨y,by rw[ht];simp[hy],hg⟩
open Maps
set_option maxRecDepth 8000 in
theorem OY(b off cap:Nat)(ts:Q05)(t:Tp)(w:af)(hlen:ts.length<=1000)(hcap:ts.length<=cap)(hs:lQ w b off ts)(hb:b<w.heap.size)(hf:∀x∈ts,x.fits)(ht:t.fits):
  Calls prog 132 #[.slice (some ⟨b,off,none⟩) ts.length cap,.agg #[.string t.a,.string t.b,.string t.r,.string t.c,.string t.d,.string t.s]] w fun e w'=>∃v:Value,e=.returned v/\w'.ownsRow w.heap.size 29 6 v (kD ts t).length (bn (kD ts t))/\ag w w':=by
 obtain⟨iT,hiT,zT0,zT1,zT2⟩:=info_parts (P:=prog) (e:=29) (z:=.agg #[.string ⟨#[]⟩,.string ⟨#[]⟩,.string ⟨#[]⟩,.string ⟨#[]⟩,.string ⟨#[]⟩,.string ⟨#[]⟩]) (size:=6) (bytes:=96) (by kernel_rfl);have HIT:Hid (prog.info? 29=some iT/\iT.zero=some (.agg #[.string ⟨#[]⟩,.string ⟨#[]⟩,.string ⟨#[]⟩,.string ⟨#[]⟩,.string ⟨#[]⟩,.string ⟨#[]⟩])/\iT.size=6/\iT.bytes=96):=⟨hiT,zT0,zT1,zT2⟩;have HS:=aB hs;have HF:=aB hf;have HT:Hid t.fits:=ht;clear hs hf ht hiT zT0 zT1 zT2;obtain⟨W0,hW0⟩:=eQx (w.alloc (.cells #[.string t.a,.string t.b,.string t.r,.string t.c,.string t.d,.string t.s] 29));have HB0:=tZ hW0;have HX0:Hid (wZ W0 w.heap.size t):=by show wZ _ _ _;rw[hW0];exact Am w t _
 go_enter func132,ntmps132;go_wp2;rw[<-hW0];clear hW0;go_loopw[5] (fun i wr=>∃k:Nat,k<=ts.length/\i=.int .i64 k/\Hid (∀i (h:i<ts.length),i<k->ts[i].ahead t=true)/\Hid (ag w wr)/\Hid (wZ wr w.heap.size t)) (fun i _=>ts.length-(intOf i).toNat);case atStart=>exact⟨0,WO _,rfl,fun i h hi=>by omega,HB0,HX0⟩
 clear HX0 HB0;obtain⟨k,hk,rfl,HU,HB,HX⟩:=hrel;have hk1:=bY k;by_cases hlt:k<ts.length
 ·have hk2:(k:Int)<(ts.length:Int):=by omega
  obtain⟨t0,t1,t2,t3,t4,t5⟩:=(HS.out.below HB.out hb) k hlt;obtain⟨x0,x1,x2,x3,x4,x5,xl⟩:=HX.out;have hbr:b<wr.heap.size:=WJ hb HB.out.size;obtain⟨f0,f1,f2,f3,f4,f5⟩:=HF.out _ (WH hlt);obtain⟨e0,e1,e2,e3,e4,e5⟩:=HT.out;have HA:Hid (∀W,Calls prog 199 #[.agg #[.string ts[k].a,.string ts[k].b,.string ts[k].r,.string ts[k].c,.string ts[k].d,.string ts[k].s],.agg #[.string t.a,.string t.b,.string t.r,.string t.c,.string t.d,.string t.s]] W fun e w'=>e=.returned (.bool (ts[k].ahead t))/\ag W w'):=fun W=>ul _ _ _ _ _ _ _ _ _ _ _ _ W f0 f1 f2 f3 f4 f5 e0 e1 e2 e3 e4 e5;clear f0 f1 f2 f3 f4 f5 e0 e1 e2 e3 e4 e5;have H0:wr.drew.cell? ⟨b,off+k*6,none⟩=some (.string ts[k].a)/\wr.drew.cell? ⟨b,off+k*6+1,none⟩=some (.string ts[k].b)/\wr.drew.cell? ⟨b,off+k*6+2,none⟩=some (.string ts[k].r)/\wr.drew.cell? ⟨b,off+k*6+3,none⟩=some (.string ts[k].c)/\wr.drew.cell? ⟨b,off+k*6+4,none⟩=some (.string ts[k].d)/\wr.drew.cell? ⟨b,off+k*6+5,none⟩=some (.string ts[k].s)/\wr.drew.cell? ⟨w.heap.size,0,none⟩=some (.string t.a)/\wr.drew.cell? ⟨w.heap.size,1,none⟩=some (.string t.b)/\wr.drew.cell? ⟨w.heap.size,2,none⟩=some (.string t.r)/\wr.drew.cell? ⟨w.heap.size,3,none⟩=some (.string t.c)/\wr.drew.cell? ⟨w.heap.size,4,none⟩=some (.string t.d)/\wr.drew.cell? ⟨w.heap.size,5,none⟩=some (.string t.s)/\b<wr.drew.heap.size/\w.heap.size<wr.drew.heap.size/\ag w wr.drew:=⟨t0,t1,t2,t3,t4,t5,x0,x1,x2,x3,x4,x5,hbr,xl,HB.out.drew⟩;clear t0 t1 t2 t3 t4 t5 x0 x1 x2 x3 x4 x5;generalize hq:ts[k].ahead t=q at HA;cases q;case true=>
   have HQ:Hid (ts[k].ahead t=true):=hq;clear hq;go_wp2_with fail
   go_region_held3 (fun w'=>w'.cell? ⟨b,off+k*6,none⟩=some (.string ts[k].a)/\w'.cell? ⟨b,off+k*6+1,none⟩=some (.string ts[k].b)/\w'.cell? ⟨b,off+k*6+2,none⟩=some (.string ts[k].r)/\w'.cell? ⟨b,off+k*6+3,none⟩=some (.string ts[k].c)/\w'.cell? ⟨b,off+k*6+4,none⟩=some (.string ts[k].d)/\w'.cell? ⟨b,off+k*6+5,none⟩=some (.string ts[k].s)/\w'.cell? ⟨w.heap.size,0,none⟩=some (.string t.a)/\w'.cell? ⟨w.heap.size,1,none⟩=some (.string t.b)/\w'.cell? ⟨w.heap.size,2,none⟩=some (.string t.r)/\w'.cell? ⟨w.heap.size,3,none⟩=some (.string t.c)/\w'.cell? ⟨w.heap.size,4,none⟩=some (.string t.d)/\w'.cell? ⟨w.heap.size,5,none⟩=some (.string t.s)/\b<w'.heap.size/\w.heap.size<w'.heap.size/\ag w w')
    (first|assumption|exact MV (by assumption) hbx|exact H0)
    (first|(go_at_call 199;refine(HA.out _).mono ?_;rintro e w' ⟨rfl,hbx⟩))
   rename_i hH;obtain⟨-,-,-,-,-,-,x0,x1,x2,x3,x4,x5,-,xl,gB⟩:=hH;have HB2:=cZ gB;have HX2:=cZ (Q9 x0 x1 x2 x3 x4 x5 xl);have HU2:Hid (∀i (h:i<ts.length),i<k+1->ts[i].ahead t=true):=fun i h hi=>by
    by_cases e:i=k
    ·subst e;exact HQ.out
    exact HU.out i h (by omega)
   clear x0 x1 x2 x3 x4 x5 gB hbx H0 HA HQ HU HB HX;go_wp2;go_roundw;case rel=>exact⟨k+1,by omega,by go_num,HU2,HB2,HX2⟩
   simp[intOf]<;>omega
  have HQ:Hid (ts[k].ahead t=false):=hq;clear hq;go_wp2_with fail
  go_region_held3 (fun w'=>w'.cell? ⟨b,off+k*6,none⟩=some (.string ts[k].a)/\w'.cell? ⟨b,off+k*6+1,none⟩=some (.string ts[k].b)/\w'.cell? ⟨b,off+k*6+2,none⟩=some (.string ts[k].r)/\w'.cell? ⟨b,off+k*6+3,none⟩=some (.string ts[k].c)/\w'.cell? ⟨b,off+k*6+4,none⟩=some (.string ts[k].d)/\w'.cell? ⟨b,off+k*6+5,none⟩=some (.string ts[k].s)/\w'.cell? ⟨w.heap.size,0,none⟩=some (.string t.a)/\w'.cell? ⟨w.heap.size,1,none⟩=some (.string t.b)/\w'.cell? ⟨w.heap.size,2,none⟩=some (.string t.r)/\w'.cell? ⟨w.heap.size,3,none⟩=some (.string t.c)/\w'.cell? ⟨w.heap.size,4,none⟩=some (.string t.d)/\w'.cell? ⟨w.heap.size,5,none⟩=some (.string t.s)/\b<w'.heap.size/\w.heap.size<w'.heap.size/\ag w w')
   (first|assumption|exact MV (by assumption) hbx|exact H0)
   (first|(go_at_call 199;refine(HA.out _).mono ?_;rintro e w' ⟨rfl,hbx⟩))
  rename_i hH;obtain⟨-,-,-,-,-,-,x0,x1,x2,x3,x4,x5,-,xl,gB⟩:=hH;have HP:=cZ (MU ts t k hk HU.out (fun _=>HQ.out));have Yg:=cZ gB;have HXW:=cZ (Q9 x0 x1 x2 x3 x4 x5 xl);clear hbx H0 HA HQ HU HB HX gB x0 x1 x2 x3 x4 x5;obtain⟨W1,hW1⟩:=eQx (w'.alloc (.cells #[] 29));have HLIT:Hid (W1.ownsRow w'.heap.size 29 6 (.slice (some ⟨w'.heap.size,0,none⟩) 0 0) 0 []):=by
   show World.ownsRow _ _ _ _ _ _ _;rw[hW1];exact World.ownsRow_lit w' #[] 0 (WK _) (by unfold maxLen;omega) (by simp)
  have aaa:=tZ hW1;have HR1:Hid (lQ W1 b off ts):=(HS.out.below Yg.out hb).below aaa.out (WJ hb Yg.out.size);have Zv:=aB (HXW.out.below aaa.out);have HB1:Hid (ag w W1):=Yg.out.trans (aaa.out.mono Yg.out.size);have hWs:w.heap.size<w'.heap.size:=HXW.out.2.2.2.2.2.2;have hb1:b<W1.heap.size:=WJ hb HB1.out.size;have hkc:k<=cap:=by omega
  have hz1:w'.heap.size<=W1.heap.size:=aaa.out.size;clear Yg HXW aaa;go_wp2_with(at_builtin;rw[<-hW1];clear hW1;refine wpList_append_own_at _ rfl _ _ 25 rfl w'.heap.size 29 iT (.agg #[.string ⟨#[]⟩,.string ⟨#[]⟩,.string ⟨#[]⟩,.string ⟨#[]⟩,.string ⟨#[]⟩,.string ⟨#[]⟩]) 6 96 underlying25 HIT.out.1 HIT.out.2.1 HIT.out.2.2.1 HIT.out.2.2.2 rfl (by decide) _ 0 [] rfl HLIT.out ⟨b,off,none⟩ k cap (bn (ts.take k)) rfl (by rw[jP,XC];congr 1;omega) (vk (EK HR1.out k)) (tu _) (by unfold maxLen;omega) (by omega) hz1 ?_);intro v2 w2 hown2 Yl _ _;have Yk:Hid (w2.ownsRow w'.heap.size 29 6 v2 k (bn (ts.take k))):=by
   show World.ownsRow _ _ _ _ _ _ _
   first|exact hown2|(rw[Xl,XR]at hown2;exact hown2)
  have hne:some w.heap.size≠Value.ownBlock (.slice (some ⟨w'.heap.size,0,none⟩) 0 0):=fun e=>by simp[Value.ownBlock]at e;omega
  have hnb:some b≠Value.ownBlock (.slice (some ⟨w'.heap.size,0,none⟩) 0 0):=fun e=>by simp[Value.ownBlock]at e;omega
  have HX2:Hid (wZ w2 w.heap.size t):=Zv.out.grown Yl hne;have HR2:Hid (lQ w2 b off ts):=qC HR1.out Yl hb1 hnb;have HB2:Hid (ag w w2):=HB1.out.grown Yl HB1.out.size (fun g hg=>by simp[Value.ownBlock]at hg;omega);have hz2:w'.heap.size<=w2.heap.size:=WR hz1 Yl.size;clear hown2 Yl HLIT Zv HR1 HB1 hne hnb;obtain⟨x0,x1,x2,x3,x4,x5,xl2⟩:=HX2.out;obtain⟨W3,hW3⟩:=eQx (w2.alloc (.cells #[.string t.a,.string t.b,.string t.r,.string t.c,.string t.d,.string t.s] 29));have YK:Hid (W3.ownsRow w'.heap.size 29 6 v2 k (bn (ts.take k))):=by show World.ownsRow _ _ _ _ _ _ _;rw[hW3];exact Yk.out.alloc _
  have YX:Hid (∀j u,t.row[j]?=some u->W3.cell? ((⟨w2.heap.size,0,none⟩:Addr).add j)=some u):=by show ∀j u,_;rw[hW3];exact sU w2 t
  have HB23:=tZ hW3;have HB3:Hid (ag w W3):=HB2.out.trans (HB23.out.mono HB2.out.size);have HR3:Hid (lQ W3 b off ts):=HR2.out.below HB23.out (WJ hb HB2.out.size);have hz3:w'.heap.size<=W3.heap.size:=WR hz2 HB23.out.size;have hb3:b<W3.heap.size:=WJ hb HB3.out.size;clear HB23 HB2 HR2 HX2 hb1 hz1 hz2;go_wp2_with(at_builtin;rw[<-hW3];clear hW3;refine wpList_append_own_at _ rfl _ _ 25 rfl w'.heap.size 29 iT (.agg #[.string ⟨#[]⟩,.string ⟨#[]⟩,.string ⟨#[]⟩,.string ⟨#[]⟩,.string ⟨#[]⟩,.string ⟨#[]⟩]) 6 96 underlying25 HIT.out.1 HIT.out.2.1 HIT.out.2.2.1 HIT.out.2.2.2 rfl (by decide) v2 k (bn (ts.take k)) rfl YK.out ⟨w2.heap.size,0,none⟩ 1 1 t.row rfl rfl YX.out (rU _) (by unfold maxLen;omega) (by omega) hz3 ?_);intro v4 w4 YB YM _ _;have hnb:some b≠v2.ownBlock:=fun e=>by have:=(Yk.out.lt b e.symm).1;omega
  have HR4:Hid (lQ w4 b off ts):=qC HR3.out YM hb3 hnb;have YF:Hid (ag w w4):=HB3.out.grown YM HB3.out.size (fun g hg=>by have:=(Yk.out.lt g hg).1;omega);have YG:=aB YB;have hz4:w'.heap.size<=w4.heap.size:=WR hz3 YM.size;clear YB YM YK Yk YX HB3 HR3 hb3 hz3 hnb x0 x1 x2 x3 x4 x5 xl2;have hdl:(ts.drop k).length=ts.length-k:=XT;clear hdl;go_wp2_with(at_builtin;refine wpList_append_own_at _ rfl _ _ 25 rfl w'.heap.size 29 iT (.agg #[.string ⟨#[]⟩,.string ⟨#[]⟩,.string ⟨#[]⟩,.string ⟨#[]⟩,.string ⟨#[]⟩,.string ⟨#[]⟩]) 6 96 underlying25 HIT.out.1 HIT.out.2.1 HIT.out.2.2.1 HIT.out.2.2.2 rfl (by decide) v4 (k+1) (bn (ts.take k)++t.row) rfl YG.out ⟨b,off+k*6,none⟩ (ts.length-k) (cap-k) (bn (ts.drop k)) rfl (by rw[jP,XT]) (vk (Oq HR4.out k)) (tu _) (by unfold maxLen;omega) (by omega) hz4 ?_);intro v5 w5 hown5 hgr5 _ _;have Yo:Hid (ag w w5):=YF.out.grown hgr5 YF.out.size (fun g hg=>by have:=(YG.out.lt g hg).1;omega);have hlp:(kD ts t).length=k+1+(ts.length-k):=by rw[HP.out];simp;omega
  have hown6:w5.ownsRow w'.heap.size 29 6 v5 (kD ts t).length (bn (kD ts t)):=by
   rw[hlp,HP.out,show ts.take k++t::ts.drop k=(ts.take k++[t])++ts.drop k by simp,wY,qy];first|exact hown5|(rw[Xg];exact hown5)
  have Zt:=cZ (fV hown6 (XW hWs));clear hown5 hown6 hgr5 hlp;go_wp2;go_ret;exact⟨v5,rfl,Zt.out,Yo.out⟩
 have hd:decide ((k:Int)<(ts.length:Int))=false:=by simp;omega
 go_wp2_with fail;go_quiet (fail);have HP:=cZ (MU ts t k hk HU.out (fun h=>absurd h hlt));obtain⟨W9,Z4⟩:∃W9,wr.drewN nq=W9:=⟨_,rfl⟩;have Yg:Hid (ag w W9):=by show Below _ _ _;rw[<-Z4];exact⟨HB.out.os,HB.out.tape,HB.out.output,HB.out.size,HB.out.block⟩
 have HXW:Hid (wZ W9 w.heap.size t):=by show wZ _ _ _;rw[<-Z4];exact HX.out
 rw[Z4];clear Z4 HU HB HX hd;obtain⟨W1,hW1⟩:=eQx (W9.alloc (.cells #[] 29));have HLIT:Hid (W1.ownsRow W9.heap.size 29 6 (.slice (some ⟨W9.heap.size,0,none⟩) 0 0) 0 []):=by
  show World.ownsRow _ _ _ _ _ _ _;rw[hW1];exact World.ownsRow_lit W9 #[] 0 (WK _) (by unfold maxLen;omega) (by simp)
 have aaa:=tZ hW1;have HR1:Hid (lQ W1 b off ts):=(HS.out.below Yg.out hb).below aaa.out (WJ hb Yg.out.size);have Zv:=aB (HXW.out.below aaa.out);have HB1:Hid (ag w W1):=Yg.out.trans (aaa.out.mono Yg.out.size);have hWs:w.heap.size<W9.heap.size:=HXW.out.2.2.2.2.2.2;have hb1:b<W1.heap.size:=WJ hb HB1.out.size;have hkc:k<=cap:=by omega
 have hz1:W9.heap.size<=W1.heap.size:=aaa.out.size;clear Yg HXW aaa;go_wp2_with(at_builtin;rw[<-hW1];clear hW1;refine wpList_append_own_at _ rfl _ _ 25 rfl W9.heap.size 29 iT (.agg #[.string ⟨#[]⟩,.string ⟨#[]⟩,.string ⟨#[]⟩,.string ⟨#[]⟩,.string ⟨#[]⟩,.string ⟨#[]⟩]) 6 96 underlying25 HIT.out.1 HIT.out.2.1 HIT.out.2.2.1 HIT.out.2.2.2 rfl (by decide) _ 0 [] rfl HLIT.out ⟨b,off,none⟩ k cap (bn (ts.take k)) rfl (by rw[jP,XC];congr 1;omega) (vk (EK HR1.out k)) (tu _) (by unfold maxLen;omega) (by omega) hz1 ?_);intro v2 w2 hown2 Yl _ _;have Yk:Hid (w2.ownsRow W9.heap.size 29 6 v2 k (bn (ts.take k))):=by
  show World.ownsRow _ _ _ _ _ _ _
  first|exact hown2|(rw[Xl,XR]at hown2;exact hown2)
 have hne:some w.heap.size≠Value.ownBlock (.slice (some ⟨W9.heap.size,0,none⟩) 0 0):=fun e=>by simp[Value.ownBlock]at e;omega
 have hnb:some b≠Value.ownBlock (.slice (some ⟨W9.heap.size,0,none⟩) 0 0):=fun e=>by simp[Value.ownBlock]at e;omega
 have HX2:Hid (wZ w2 w.heap.size t):=Zv.out.grown Yl hne;have HR2:Hid (lQ w2 b off ts):=qC HR1.out Yl hb1 hnb;have HB2:Hid (ag w w2):=HB1.out.grown Yl HB1.out.size (fun g hg=>by simp[Value.ownBlock]at hg;omega);have hz2:W9.heap.size<=w2.heap.size:=WR hz1 Yl.size;clear hown2 Yl HLIT Zv HR1 HB1 hne hnb;obtain⟨x0,x1,x2,x3,x4,x5,xl2⟩:=HX2.out;obtain⟨W3,hW3⟩:=eQx (w2.alloc (.cells #[.string t.a,.string t.b,.string t.r,.string t.c,.string t.d,.string t.s] 29));have YK:Hid (W3.ownsRow W9.heap.size 29 6 v2 k (bn (ts.take k))):=by show World.ownsRow _ _ _ _ _ _ _;rw[hW3];exact Yk.out.alloc _
 have YX:Hid (∀j u,t.row[j]?=some u->W3.cell? ((⟨w2.heap.size,0,none⟩:Addr).add j)=some u):=by show ∀j u,_;rw[hW3];exact sU w2 t
 have HB23:=tZ hW3;have HB3:Hid (ag w W3):=HB2.out.trans (HB23.out.mono HB2.out.size);have HR3:Hid (lQ W3 b off ts):=HR2.out.below HB23.out (WJ hb HB2.out.size);have hz3:W9.heap.size<=W3.heap.size:=WR hz2 HB23.out.size;have hb3:b<W3.heap.size:=WJ hb HB3.out.size;clear HB23 HB2 HR2 HX2 hb1 hz1 hz2;go_wp2_with(at_builtin;rw[<-hW3];clear hW3;refine wpList_append_own_at _ rfl _ _ 25 rfl W9.heap.size 29 iT (.agg #[.string ⟨#[]⟩,.string ⟨#[]⟩,.string ⟨#[]⟩,.string ⟨#[]⟩,.string ⟨#[]⟩,.string ⟨#[]⟩]) 6 96 underlying25 HIT.out.1 HIT.out.2.1 HIT.out.2.2.1 HIT.out.2.2.2 rfl (by decide) v2 k (bn (ts.take k)) rfl YK.out ⟨w2.heap.size,0,none⟩ 1 1 t.row rfl rfl YX.out (rU _) (by unfold maxLen;omega) (by omega) hz3 ?_);intro v4 w4 YB YM _ _;have hnb:some b≠v2.ownBlock:=fun e=>by have:=(Yk.out.lt b e.symm).1;omega
 have HR4:Hid (lQ w4 b off ts):=qC HR3.out YM hb3 hnb;have YF:Hid (ag w w4):=HB3.out.grown YM HB3.out.size (fun g hg=>by have:=(Yk.out.lt g hg).1;omega);have YG:=aB YB;have hz4:W9.heap.size<=w4.heap.size:=WR hz3 YM.size;clear YB YM YK Yk YX HB3 HR3 hb3 hz3 hnb x0 x1 x2 x3 x4 x5 xl2;have hdl:(ts.drop k).length=ts.length-k:=XT;clear hdl;by_cases hce:cap=k
 all_goals
  go_wp2_with(at_builtin;refine wpList_append_own_at _ rfl _ _ 25 rfl W9.heap.size 29 iT (.agg #[.string ⟨#[]⟩,.string ⟨#[]⟩,.string ⟨#[]⟩,.string ⟨#[]⟩,.string ⟨#[]⟩,.string ⟨#[]⟩]) 6 96 underlying25 HIT.out.1 HIT.out.2.1 HIT.out.2.2.1 HIT.out.2.2.2 rfl (by decide) v4 (k+1) (bn (ts.take k)++t.row) rfl YG.out _ (ts.length-k) _ (bn (ts.drop k)) rfl (by rw[jP,XT]) (Ot (by omega) _ _) (tu _) (by unfold maxLen;omega) (by omega) hz4 ?_);intro v5 w5 hown5 hgr5 _ _;have Yo:Hid (ag w w5):=YF.out.grown hgr5 YF.out.size (fun g hg=>by have:=(YG.out.lt g hg).1;omega);have hlp:(kD ts t).length=k+1+(ts.length-k):=by rw[HP.out];simp;omega
  have hown6:w5.ownsRow W9.heap.size 29 6 v5 (kD ts t).length (bn (kD ts t)):=by
   rw[hlp,HP.out,show ts.take k++t::ts.drop k=(ts.take k++[t])++ts.drop k by simp,wY,qy];first|exact hown5|(rw[Xg];exact hown5)
  have Zt:=cZ (fV hown6 (XW hWs));clear hown5 hown6 hgr5 hlp;go_wp2;go_ret;exact⟨v5,rfl,Zt.out,Yo.out⟩
set_option maxRecDepth 8000 in
theorem OZ(ad:Q02)(cap:Nat)(ts:Q05)(t:Tp)(w:af)(hlen:ts.length<=1048576)(hs:Sl w ad ts):
  Calls prog 131 #[.slice ad ts.length cap,.agg #[.string t.a,.string t.b,.string t.r,.string t.c,.string t.d,.string t.s]] w fun e w'=>e=.returned (.bool (ym ts t))/\ag w w':=by
 have HS:=aB hs;clear hs;obtain⟨W0,hW0⟩:=eQx (w.alloc (.cells #[.string t.a,.string t.b,.string t.r,.string t.c,.string t.d,.string t.s] 29));have HB0:=tZ hW0;have HX0:Hid (W0.cell? ⟨w.heap.size,0,none⟩=some (.string t.a)/\W0.cell? ⟨w.heap.size,1,none⟩=some (.string t.b)/\W0.cell? ⟨w.heap.size,2,none⟩=some (.string t.r)/\W0.cell? ⟨w.heap.size,3,none⟩=some (.string t.c)/\W0.cell? ⟨w.heap.size,4,none⟩=some (.string t.d)/\W0.cell? ⟨w.heap.size,5,none⟩=some (.string t.s)/\w.heap.size<W0.heap.size):=by show _/\_;rw[hW0];refine⟨?_,?_,?_,?_,?_,?_,?_⟩<;>simp
 go_enter func131,ntmps131;go_wp2;rw[<-hW0];clear hW0;go_loopw[5] (fun i wr=>∃k:Nat,k<=ts.length/\i=.int .i64 k/\Hid (ym (ts.drop k) t=ym ts t)/\Hid (ag W0 wr)) (fun i _=>ts.length-(intOf i).toNat);case atStart=>exact⟨0,WO _,rfl,rfl,WL _ _⟩
 obtain⟨k,hk,rfl,HP,HB⟩:=hrel;have Yg:Hid (ag w wr):=HB0.out.trans (HB.out.mono HB0.out.size);by_cases hlt:k<ts.length
 ·rcases HS.out.below Yg.out with hnil|⟨b,off,rfl,hb,hr⟩
  ·rw[hnil]at hlt;simp at hlt
  obtain⟨t0,t1,t2,t3,t4,t5⟩:=hr k hlt;have x0:=mK HB.out HX0.out.2.2.2.2.2.2 HX0.out.1;have x1:=mK HB.out HX0.out.2.2.2.2.2.2 HX0.out.2.1;have x2:=mK HB.out HX0.out.2.2.2.2.2.2 HX0.out.2.2.1;have x3:=mK HB.out HX0.out.2.2.2.2.2.2 HX0.out.2.2.2.1;have x4:=mK HB.out HX0.out.2.2.2.2.2.2 HX0.out.2.2.2.2.1;have x5:=mK HB.out HX0.out.2.2.2.2.2.2 HX0.out.2.2.2.2.2.1;have hk1:=bY k;have hk2:(k:Int)<(ts.length:Int):=by omega
  have HD:Hid (ym ts t=(NW ts[k] t || ym (ts.drop (k+1)) t)):=by show _=_;rw[<-HP.out];exact NY hlt
  clear hr;cases hq:NW ts[k] t;case true=>
   have heq:=QT ts[k] t hq;have HN:Hid (ym ts t=true):=by show _=_;rw[HD.out,hq];rfl
   clear hq;go_wp2_with fail;go_region_held3 (fun w'=>w'.cell? ⟨b,off+k*6,none⟩=some (.string ts[k].a)/\w'.cell? ⟨b,off+k*6+1,none⟩=some (.string ts[k].b)/\w'.cell? ⟨b,off+k*6+2,none⟩=some (.string ts[k].r)/\w'.cell? ⟨b,off+k*6+3,none⟩=some (.string ts[k].c)/\w'.cell? ⟨b,off+k*6+4,none⟩=some (.string ts[k].d)/\w'.cell? ⟨b,off+k*6+5,none⟩=some (.string ts[k].s)/\w'.cell? ⟨w.heap.size,0,none⟩=some (.string t.a)/\w'.cell? ⟨w.heap.size,1,none⟩=some (.string t.b)/\w'.cell? ⟨w.heap.size,2,none⟩=some (.string t.r)/\w'.cell? ⟨w.heap.size,3,none⟩=some (.string t.c)/\w'.cell? ⟨w.heap.size,4,none⟩=some (.string t.d)/\w'.cell? ⟨w.heap.size,5,none⟩=some (.string t.s)/\ag wr w') (first|assumption|exact⟨t0,t1,t2,t3,t4,t5,x0,x1,x2,x3,x4,x5,(WL _ _).drew⟩) (fail);rename_i hH;have HG:Hid (ag wr _):=hH.2.2.2.2.2.2.2.2.2.2.2.2;clear hH t0 t1 t2 t3 t4 t5 x0 x1 x2 x3 x4 x5 heq;go_wp2;go_ret;exact⟨by rw[HN.out];rfl,Yg.out.trans (HG.out.mono Yg.out.size)⟩
  have heq:=QT ts[k] t hq;have Ye:Hid (ym (ts.drop (k+1)) t=ym ts t):=by show _=_;rw[HD.out,hq];rfl
  clear hq;go_wp2_with fail;go_region_held3 (fun w'=>w'.cell? ⟨b,off+k*6,none⟩=some (.string ts[k].a)/\w'.cell? ⟨b,off+k*6+1,none⟩=some (.string ts[k].b)/\w'.cell? ⟨b,off+k*6+2,none⟩=some (.string ts[k].r)/\w'.cell? ⟨b,off+k*6+3,none⟩=some (.string ts[k].c)/\w'.cell? ⟨b,off+k*6+4,none⟩=some (.string ts[k].d)/\w'.cell? ⟨b,off+k*6+5,none⟩=some (.string ts[k].s)/\w'.cell? ⟨w.heap.size,0,none⟩=some (.string t.a)/\w'.cell? ⟨w.heap.size,1,none⟩=some (.string t.b)/\w'.cell? ⟨w.heap.size,2,none⟩=some (.string t.r)/\w'.cell? ⟨w.heap.size,3,none⟩=some (.string t.c)/\w'.cell? ⟨w.heap.size,4,none⟩=some (.string t.d)/\w'.cell? ⟨w.heap.size,5,none⟩=some (.string t.s)/\ag wr w') (first|assumption|exact⟨t0,t1,t2,t3,t4,t5,x0,x1,x2,x3,x4,x5,(WL _ _).drew⟩) (fail);rename_i hH;have HG:Hid (ag W0 _):=HB.out.trans (hH.2.2.2.2.2.2.2.2.2.2.2.2.mono HB.out.size);clear hH t0 t1 t2 t3 t4 t5 x0 x1 x2 x3 x4 x5 heq;go_wp2;go_roundw;case rel=>exact⟨k+1,by omega,by go_num,Ye,HG⟩
  simp[intOf]<;>omega
 have HN:Hid (ym ts t=false):=by show _=_;rw[<-HP.out,Xm (by omega)];rfl
 go_wp2;go_ret;exact⟨by rw[HN.out];rfl,Yg.out⟩
def uj(ts:Q05)(t:Tp):Bool:=dX ts&&t.ok && !ym ts t && !(ts.length==40)
def Dy(ts:Q05)(t:Tp):List Tp:=if uj ts t then kD ts t else []
theorem Cy{ts:Q05}{t:Tp}(h:uj ts t=true):Dy ts t=kD ts t:=by simp[Dy,h]
theorem tO{ts:Q05}{t:Tp}(h:uj ts t=false):Dy ts t=[]:=by simp[Dy,h]
def Vt(w w':World)(e:Ending)(L:Q05)(f:Bool):Prop:=∃v:Value,e=.returned (.tuple #[v,.bool f])/\w'.ownsRow w.heap.size 29 6 v L.length (bn L)/\ag w w'
theorem uC(b off cap:Nat)(ts:Q05)(t:Tp)(w:af)(hlen:ts.length<=1048576)(hcap:ts.length<=cap)(hs:lQ w b off ts)(hb:b<w.heap.size)(hf:∀x∈ts,x.fits)(ht:t.fits):
  Calls prog 183 #[.slice (some ⟨b,off,none⟩) ts.length cap,.agg #[.string t.a,.string t.b,.string t.r,.string t.c,.string t.d,.string t.s]] w fun e w'=>Vt w w' e (Dy ts t) (uj ts t):=by
 have HF:=cZ hf;have Yc:=cZ ht;obtain⟨W0,hW0⟩:=eQx (w.alloc (.cells #[.string t.a,.string t.b,.string t.r,.string t.c,.string t.d,.string t.s] 29));have HB0:=tZ hW0;have HX0:Hid (wZ W0 w.heap.size t):=by show wZ _ _ _;rw[hW0];exact Am w t _
 have HS:=cZ hs;have SL:Hid (∀W:World,ag w W->Sl W (some ⟨b,off,none⟩) ts):=fun W hB=>.inr ⟨b,off,rfl,WJ hb hB.size,HS.out.below hB hb⟩;have Yv:ts.length<=maxLen:=by unfold maxLen;omega
 have HT:=cZ (yC (some ⟨b,off,none⟩) cap ts W0 Yv (SL.out _ HB0.out) hf);clear hs hf Yv ht;go_enter func183,ntmps183;go_wp2_with fail;rw[<-hW0];clear hW0;refine HT.out.mono ?_;rintro e w1 ⟨he,hb1⟩;have HB1:=iD HB0 hb1;have Zv:=aB (HX0.out.below hb1);clear HT HX0 HB0 hb1;cases h1:dX ts;case false=>
  rw[h1]at he;subst he;have HR:Hid (uj ts t=false):=by show _=_;simp[uj,h1]
  have HL:Hid (Dy ts t=[]):=tO HR.out;clear h1;go_wp2
  go_ret2
  exact⟨.slice none 0 0,by rw[HR.out];rfl,by rw[HL.out];exact World.ownsRow_nil _ _ _ _,HB1.out⟩
 rw[h1]at he;subst he;obtain⟨x0,x1,x2,x3,x4,x5,xl⟩:=Zv.out;have H1:=cZ h1;obtain⟨e0,e1,e2,e3,e4,e5⟩:=Yc.out;have HH:=cZ (fe t.a t.b t.r t.c t.d t.s w1 e0 e1 e2 e3 e4 e5);clear h1 e0 e1 e2 e3 e4 e5;go_wp2_with fail;refine HH.out.mono ?_;rintro e w2 ⟨he,hb2⟩;have HB2:=iD HB1 hb2;have HX2:=aB (Zv.out.below hb2);clear HH Zv HB1 hb2 x0 x1 x2 x3 x4 x5 xl;cases h2:t.ok;case false=>
  have h2':bW t.a t.b t.r t.c t.d t.s=false:=h2;rw[h2']at he;subst he;have HR:Hid (uj ts t=false):=by show _=_;simp[uj,H1.out,h2]
  have HL:Hid (Dy ts t=[]):=tO HR.out;clear h2 h2';go_wp2
  go_ret2
  exact⟨.slice none 0 0,by rw[HR.out];rfl,by rw[HL.out];exact World.ownsRow_nil _ _ _ _,HB2.out⟩
 have h2':bW t.a t.b t.r t.c t.d t.s=true:=h2;rw[h2']at he;subst he;have H2:=cZ h2;obtain⟨x0,x1,x2,x3,x4,x5,xl⟩:=HX2.out;have HH:=cZ (OZ (some ⟨b,off,none⟩) cap ts t w2 hlen (SL.out _ HB2.out));clear h2 h2';go_wp2_with fail;refine HH.out.mono ?_;rintro e w3 ⟨he,hb3⟩;have HB3:=iD HB2 hb3;have HX3:=aB (HX2.out.below hb3);clear HH HX2 HB2 hb3 x0 x1 x2 x3 x4 x5 xl;cases h3:ym ts t;case true=>
  rw[h3]at he;subst he;have HR:Hid (uj ts t=false):=by show _=_;simp[uj,H1.out,H2.out,h3]
  have HL:Hid (Dy ts t=[]):=tO HR.out;clear h3;go_wp2
  go_ret2
  exact⟨.slice none 0 0,by rw[HR.out];rfl,by rw[HL.out];exact World.ownsRow_nil _ _ _ _,HB3.out⟩
 rw[h3]at he;subst he;have H3:=cZ h3;clear h3;by_cases h4:ts.length=40
 ·have HR:Hid (uj ts t=false):=by show _=_;simp[uj,H1.out,H2.out,H3.out,h4]
  have HL:Hid (Dy ts t=[]):=tO HR.out;have h5:((ts.length:Int)==40)=true:=by simp;omega
  have H4:=cZ h4;clear h4;go_wp2
  go_ret2
  exact⟨.slice none 0 0,by rw[HR.out];rfl,by rw[HL.out];exact World.ownsRow_nil _ _ _ _,HB3.out⟩
 have HR:Hid (uj ts t=true):=by show _=_;simp[uj,H1.out,H2.out,H3.out,h4]
 have HL:Hid (Dy ts t=kD ts t):=Cy HR.out;have h5:((ts.length:Int)==40)=false:=by simp;omega
 have h40:=Oo H1.out;obtain⟨x0,x1,x2,x3,x4,x5,xl⟩:=HX3.out;have HP:=cZ (OY b off cap ts t w3 (by omega) hcap (HS.out.below HB3.out hb) (WJ hb HB3.out.size) HF.out Yc.out);clear HX3;go_wp2_with fail;refine HP.out.mono ?_;rintro e w4 ⟨v4,rfl,hs4,hb4⟩;have HS4:=cZ hs4;clear hs4 HP x0 x1 x2 x3 x4 x5 xl;go_wp2
 go_ret2
 exact⟨v4,by rw[HR.out];rfl,by rw[HL.out];exact fV HS4.out HB3.out.size,HB3.out.trans (hb4.mono HB3.out.size)⟩
def Tp.short(t:Tp):Prop:=t.a.size<=20/\t.b.size<=20/\t.r.size<=20/\t.c.size<=20/\t.d.size<=20/\t.s.size<=20
theorem Tp.short.fits{t:Tp}(h:t.short):t.fits:=by unfold Tp.short at h;unfold Tp.fits maxLen;omega
def su(ts:Q05):Prop:=∀t∈ts,t.short
theorem su.fits{ts:Q05}(h:su ts):∀t∈ts,t.fits:=fun t ht=>(h t ht).fits
theorem O0:su []:=fun t ht=>by cases ht
theorem tQ(ts:Q05)(t:Tp):(kD ts t).length=ts.length+1:=by
 induction ts with
 | nil=>rfl
 | cons x xs ih =>
  unfold kD;split
  ·simp[ih]
  simp
theorem su.put{ts:Q05}{t:Tp}(h:su ts)(ht:t.short):su (kD ts t):=fun x hx=>by
 rcases (Q8 ts t x).1 hx with rfl|k
 ·exact ht
 exact h x k
theorem Cz{w w':af}{R base n:Nat}{v:Value}{xs:Q03}(h:w.ownsRow base 29 6 v n xs)(hR:R<base)(hO:Only R w w'):w'.ownsRow base 29 6 v n xs :=
 h.kept hO (.inr fun e=>by have:=(h.lt R e).1;omega)
theorem qJ{w:af}{base g n c:Nat}{ts:Q05}(h:w.ownsRow base 29 6 (.slice (some ⟨g,0,none⟩) n c) n (bn ts))(hn:n=ts.length):lQ w g 0 ts/\g<w.heap.size/\n<=c/\base<=g:=by
 have hlt:=h.lt g rfl;refine⟨?_,hlt.2,?_,hlt.1⟩
 ·subst hn;intro i hi;have key:∀j,j<6->w.cell? ⟨g,0+i*6+j,none⟩=(ts[i]).row[j]?:=fun j hj=>by
   rw[h.cellAt (0+i*6+j) (by have:=jP ts;omega),<-wM ts i hi j hj,Xl]
  exact⟨key 0 (by omega),key 1 (by omega),key 2 (by omega),key 3 (by omega),key 4 (by omega),key 5 (by omega)⟩
 rcases h.2 with⟨e,-⟩|⟨g',cap',cur,e,-,-,hle,-⟩
 ·cases e
 injection e with e1 e2 e3;omega
theorem uD{W:af}{base:Nat}{e:TypeId}{size:Nat}{v:Value}{k:Nat}{xs:Q03}(h:W.ownsRow base e size v (k+1) xs):∃g cap,v=.slice (some ⟨g,0,none⟩) (k+1) cap:=by
 rcases h.2 with⟨_,h0⟩|⟨g,cap,_,rfl,_⟩
 ·omega
 exact⟨g,cap,rfl⟩
theorem Rd.grown{w w':af}{R:Nat}{ad:Q02}{len cap:Nat}{row:Option Nat}(h:Rd w R ad len cap)(hg:w.grownBy w' row)(hR:some R≠row)(hb:0<len->∀b off,ad=some ⟨b,off,none⟩->some b≠row):Rd w' R ad len cap where
 lt:=WJ h.lt hg.size
 code:=hg.cell h.code hR
 place:=by obtain⟨p,hp,hl⟩:=h.place;exact⟨p,hg.cell hp hR,hl⟩
 free:=(World.frozen?_of_block (w:=w) (a:=⟨R,1,none⟩) (hg.block R h.lt hR)).trans h.free
 bytes h0:=by
  obtain⟨b,off,e,hne,hbl,hc⟩:=h.bytes h0;refine⟨b,off,e,hne,WJ hbl hg.size,fun i hi=>?_⟩;obtain⟨c,c0,c1,hcc⟩:=hc i hi;exact⟨c,c0,c1,hg.cell hcc (hb h0 b off e)⟩
 small:=h.small
def aA(g:Nat->Nat->List Ex):List Int->Nat->List Ex×List Int
 | [],_=>([],[])
 | k::ks,o=>(g k.toNat o++(aA g ks (o+(g k.toNat o).length)).1,(((o+(g k.toNat o).length:Nat):Int)-1)::(aA g ks (o+(g k.toNat o).length)).2)
def jg(sub:Ex->Option (List Ex))(es:Q09):Nat->Nat->Nat->List Ex
 | 0,_,_=>[]
 | fuel+1,n,o =>
  match es[n]? with
  | none=>[]
  | some e =>
   match sub e with
   | some bs=>bs.map (eT fun k=>(o:Int)+k)
   | none=>(aA (jg sub es fuel) e.kids o).1++[{ e with kids:=(aA (jg sub es fuel) e.kids o).2 }]
theorem xD{sub:Ex->Option (List Ex)}{es:Q09}{fuel n o:Nat}(hn:n<es.length){bs:Q09}(hs:sub es[n]=some bs):jg sub es (fuel+1) n o=bs.map (eT fun k=>(o:Int)+k):=by
 rw[jg,WS hn];simp only[hs]
theorem tT{sub:Ex->Option (List Ex)}{es:Q09}{fuel n o:Nat}(hn:n<es.length)(hs:sub es[n]=none):jg sub es (fuel+1) n o=(aA (jg sub es fuel) es[n].kids o).1++[{ es[n] with kids:=(aA (jg sub es fuel) es[n].kids o).2 }]:=by
 rw[jg,WS hn];simp only[hs]
theorem oI(g:Nat->Nat->List Ex)(k:Int):∀(ks:List Int) (o:Nat),aA g (ks++[k]) o=((aA g ks o).1++g k.toNat (o+(aA g ks o).1.length),(aA g ks o).2++[((o+(aA g ks o).1.length+(g k.toNat (o+(aA g ks o).1.length)).length:Nat):Int)-1])
 | [],o=>by simp[aA]
 | x::ks,o=>by
  rw[XB];simp only[aA];rw[oI g k ks];simp only[WP,Xg,XB,Nat.add_assoc]
theorem xE(g:Nat->Nat->List Ex)(ys:List Int):∀(xs:List Int) (o:Nat),(aA g (xs++ys) o).1=(aA g xs o).1++(aA g ys (o+(aA g xs o).1.length)).1
 | [],o=>by simp[aA]
 | x::xs,o=>by
  rw[XB];simp only[aA];rw[xE g ys xs];simp only[WP,Xg,Nat.add_assoc]
theorem Jk(g:Nat->Nat->List Ex)(ks:List Int)(j o:Nat):(aA g (ks.take j) o).1.length<=(aA g ks o).1.length:=by
 conv=>rhs;rw[<-List.take_append_drop j ks,xE]
 rw[WP];omega
theorem xG(g:Nat->Nat->List Ex):∀(ks:List Int) (o:Nat),(aA g ks o).2.length=ks.length
 | [],o=>rfl
 | k::ks,o=>by simp only[aA,Xq];rw[xG g ks]
theorem CB(f:Ex->List Ex)(es:Q09):∀k,k<=es.length->∀i,i<k->(aI f es k).2.getD i 0=((aI f es (i+1)).1.length:Int)-1
 | 0,_,i,hi=>absurd hi (XE _)
 | k+1,hk,i,hi=>by
  have hl:=tC f es k (by omega);have hl1:=tC f es (k+1) hk;by_cases e:i=k
  ·subst e;rw[fD f es i (by omega)];unfold gY;split
   ·simp only[Xh];rw[Xx (by omega),hl];simp
   simp only[Xh];rw[Xx (by omega),hl];simp
  have ih:=CB f es k (by omega) i (by omega);rw[<-ih,fD f es k (by omega)];unfold gY;split
  ·simp only[Xh];rw[XD (by omega)]
  simp only[Xh];rw[XD (by omega)]
section
variable  {sub:Ex->Option (List Ex)}{f:Ex->List Ex}{es:Q09}
structure SubOk(sub:Ex->Option (List Ex))(f:Ex->List Ex)(es:Q09):Prop where
 no:∀e∈es,sub e=none->f e=[e]
 yes:∀e∈es,∀bs,sub e=some bs->e.kids=[]/\f e=bs
theorem Jl{n:Nat}{k:Int}{rv:List Int}{a s:Int}(h:bG (cO es n) (k::rv) a=s)(hs:0<=s)(ha:a<n):k=a/\0<=a/\cO es n a=av es a.toNat/\0<=av es a.toNat/\bG (cO es n) rv (av es a.toNat-1)=s:=by
 unfold bG at h;split at h
 ·omega
 rename_i c;split at h
 ·omega
 rename_i c2;have h0:0<=a:=by omega
 have hF:cO es n a=av es a.toNat:=by unfold cO;rw[if_pos ⟨h0,by omega⟩]
 rw[hF]at h c2;exact⟨by omega,h0,hF,by omega,h⟩
theorem Ua{n fuel:Nat}(hn:n<=es.length)(ih:∀m,m<n->∀s:Nat,av es m=s->(aI f es (m+1)).1=(aI f es s).1++jg sub es fuel m (aI f es s).1.length)(rv:List Int):
  ∀(a:Int) (s:Nat),a<n→-1<=a->bG (cO es n) rv a=s->(aI f es (a+1).toNat).1=(aI f es s).1++(aA (jg sub es fuel) rv.reverse (aI f es s).1.length).1/\(aA (jg sub es fuel) rv.reverse (aI f es s).1.length).2=rv.reverse.map fun k=>(aI f es n).2.getD k.toNat 0:=by
 induction rv with
 | nil =>
  intro a s ha h1 h;simp only[bG]at h;have e:(a+1).toNat=s:=by omega
  rw[e];simp[aA]
 | cons k rv ihk =>
  intro a s ha h1 h;obtain⟨rfl,h0,hF,hp,h2⟩:=Jl h (by omega) ha;obtain⟨p,hpe⟩:∃p:Nat,av es k.toNat=p:=⟨(av es k.toNat).toNat,by omega⟩;have hple:=iq es k.toNat;obtain⟨i1,i2⟩:=ihk (av es k.toNat-1) s (by omega) (by omega) h2;have e1:(av es k.toNat-1+1).toNat=p:=by omega
  rw[e1]at i1;have e2:=ih k.toNat (by omega) p hpe;have e3:(k+1).toNat=k.toNat+1:=by omega
  have e4:(aI f es s).1.length+(aA (jg sub es fuel) rv.reverse (aI f es s).1.length).1.length=(aI f es p).1.length:=by rw[i1,WP]
  rw[List.reverse_cons,oI,e4,e3,e2];refine⟨by rw[i1,Xg],?_⟩;rw[Xy,i2];have e5:=CB f es n hn k.toNat (by omega);rw[e2,WP]at e5;simp only[XN,List.map_nil,e5]
theorem R3(hso:SubOk sub f es)(hg:∀j,j<es.length->0<=av es j):∀(fuel n:Nat),n<es.length->n<fuel->∀s:Nat,av es n=s->(aI f es (n+1)).1=(aI f es s).1++jg sub es fuel n (aI f es s).1.length
 | 0,n,_,h,_,_=>absurd h (XE _)
 | fuel+1,n,hn,hf,s,hs=>by
  have ih:∀m,m<n->∀s:Nat,av es m=s->(aI f es (m+1)).1=(aI f es s).1++jg sub es fuel m (aI f es s).1.length:=fun m hm s hs=>R3 hso hg fuel m (by omega) (by omega) s hs;have hmem:es[n]∈es:=WH hn;have hk:dD es n=es[n].kids:=by unfold dD;rw[WS hn];rfl
  have ht:=jc es n;rw[hs,hk]at ht;rw[fD f es n hn];cases hsb:sub es[n];case some bs=>
   obtain⟨h1,h2⟩:=hso.yes _ hmem bs hsb;rw[h1]at ht;simp only[List.reverse_nil,bG]at ht;have e:s=n:=by omega
   subst e;rw[xD hn hsb];unfold gY;rw[if_pos (by rw[h1];rfl),h2]
  have h2:=hso.no _ hmem hsb;rw[tT hn hsb];by_cases hz:es[n].kids=[]
  ·rw[hz]at ht;simp only[List.reverse_nil,bG]at ht;have e:s=n:=by omega
   subst e;unfold gY;rw[if_pos (by rw[hz];rfl),h2];simp only[XN,List.map_nil,hz,aA,XR];have:∀(x:Ex) (g:Int->Int),x.kids=[]->eT g x={ x with kids:=[] }:=fun x g hx=>by unfold eT;rw[hx];rfl
   rw[this _ _ hz]
  obtain⟨i1,i2⟩:=Ua (XW hn) ih es[n].kids.reverse ((n:Int)-1) s (by omega) (by omega) ht.symm;rw[List.reverse_reverse]at i1 i2;have e1:((n:Int)-1+1).toNat=n:=by omega
  rw[e1]at i1;unfold gY;rw[if_neg (by simpa using hz)];simp only;rw[i2,i1,Xg];rfl
end
theorem O1(p o:Nat)(x:Ex):eT (fun k=>(o:Int)+k) (eT (fun k=>(p:Int)+k) x)=eT (fun k=>((o+p:Nat):Int)+k) x:=by
 unfold eT;simp only[List.map_map,Ex.mk.injEq,true_and];refine List.map_congr_left fun k _=>?_;simp only[Function.comp];omega
theorem CE{g:Nat->Nat->List Ex}(o:Nat)(hg:∀n p,g n (o+p)=(g n p).map (eT fun k=>(o:Int)+k)):∀(ks:List Int) (p:Nat),aA g ks (o+p)=((aA g ks p).1.map (eT fun k=>(o:Int)+k),(aA g ks p).2.map fun k=>(o:Int)+k)
 | [],p=>by simp[aA]
 | k::ks,p=>by
  simp only[aA];rw[hg,Xv,Nat.add_assoc,CE o hg ks];simp only[Xy,XN,Prod.mk.injEq,List.cons.injEq,true_and,and_true];omega
theorem Fe(sub:Ex->Option (List Ex))(es:Q09)(o:Nat):∀(fuel n p:Nat),jg sub es fuel n (o+p)=(jg sub es fuel n p).map (eT fun k=>(o:Int)+k)
 | 0,n,p=>by simp[jg]
 | fuel+1,n,p=>by
  by_cases hn:n<es.length
  ·cases hs:sub es[n];case some bs=>
    rw[xD hn hs,xD hn hs,List.map_map];exact List.map_congr_left fun x _=>(O1 p o x).symm
   rw[tT hn hs,tT hn hs,CE o (Fe sub es o fuel)];simp[eT]
  have:es[n]?=none:=List.getElem?_eq_none (by omega);simp[jg,this]
theorem zG{es:Q09}(h:aK es=true):(∀j,j<es.length->0<=av es j)/\av es (es.length-1)=0/\0<es.length:=by
 rw[oU]at h;unfold kG jq at h;simp only[WM,WW,WT]at h;exact⟨fun j hj=>by simpa using h.2.1 j (by simpa using hj),h.2.2,by omega⟩
theorem Aq{sub:Ex->Option (List Ex)}{f:Ex->List Ex}{es:Q09}(h:aK es=true)(hso:SubOk sub f es):jg sub es es.length (es.length-1) 0=dB f es:=by
 obtain⟨h1,h2,h3⟩:=zG h;have:=R3 hso h1 es.length (es.length-1) (by omega) (by omega) 0 h2;rw[iZ,show es.length-1+1=es.length by omega]at this;unfold dB;rw[this];rfl
theorem Jm{es:Q09}(h:aK es=true)(o:Nat):jg (fun _=>none) es es.length (es.length-1) o=es.map (eT fun k=>(o:Int)+k):=by
 have h1:=Fe (fun _=>none) es o es.length (es.length-1) 0;rw[Nat.add_zero]at h1;rw[h1,Aq h (f:=fun e=>[e]) ⟨fun _ _ _=>rfl,fun _ _ _ h=>by cases h⟩,EL (iY h)]
structure KpO(b l:Nat)(W W':World):Prop where
 size:W.heap.size<=W'.heap.size
 cells:∀(g:Nat) (cs:Array Value) (T:TypeId) (m:Nat×Nat),W.heap[g]?=some (.cells cs T m)->T≠52->T≠44->W'.heap[g]?=some (.cells cs T m)
 other:∀(g:Nat) (o:Obj),W.heap[g]?=some o->o.isCells=false->g≠l->g≠b->W'.heap[g]?=some o
structure KpI(W W':World):Prop where
 size:W.heap.size<=W'.heap.size
 cells:∀(g:Nat) (cs:Array Value) (T:TypeId) (m:Nat×Nat),W.heap[g]?=some (.cells cs T m)->T=27\/T=39->W'.heap[g]?=some (.cells cs T m)
theorem KpO.trans{b l:Nat}{X Y Z:af}(h:KpO b l X Y)(k:KpO b l Y Z):KpO b l X Z :=
 ⟨WR h.size k.size,fun g cs T m hg h1 h2=>k.cells g cs T m (h.cells g cs T m hg h1 h2) h1 h2,fun g o hg hc h1 h2=>k.other g o (h.other g o hg hc h1 h2) hc h1 h2⟩
theorem KpI.trans{X Y Z:af}(h:KpI X Y)(k:KpI Y Z):KpI X Z :=
 ⟨WR h.size k.size,fun g cs T m hg h1=>k.cells g cs T m (h.cells g cs T m hg h1) h1⟩
theorem pM{W:af}{l g:Nat}{o':Obj}(h:g≠l):(W.putObj l o').heap[g]?=W.heap[g]?:=World.putObj_heap_other h
theorem KpO.put{b l:Nat}{W:af}{o o':Obj}(h:W.heap[l]?=some o)(hc:o.isCells=false):KpO b l W (W.putObj l o') where
 size:=by simp
 cells g cs T m hg _ _:=by
  have:g≠l:=fun e=>by subst e;rw[h]at hg;injection hg with hg;subst hg;cases hc
  rw[pM this];exact hg
 other g x hg _ h1 _:=by rw[pM h1];exact hg
theorem KpI.put{l:Nat}{W:af}{o o':Obj}(h:W.heap[l]?=some o)(hc:o.isCells=false):KpI W (W.putObj l o') where
 size:=by simp
 cells g cs T m hg _:=by
  have:g≠l:=fun e=>by subst e;rw[h]at hg;injection hg with hg;subst hg;cases hc
  rw[pM this];exact hg
theorem KpO.below{b l:Nat}{W W':af}(h:ag W W'):KpO b l W W' :=
 ⟨h.size,fun g cs T m hg _ _=>(h.block g (WQ.1 hg).1).trans hg,fun g o hg _ _ _=>(h.block g (WQ.1 hg).1).trans hg⟩
theorem KpI.below{W W':af}(h:ag W W'):KpI W W' :=
 ⟨h.size,fun g cs T m hg _=>(h.block g (WQ.1 hg).1).trans hg⟩
theorem KpO.toI{b l:Nat}{W W':af}(h:KpO b l W W'):KpI W W' :=
 ⟨h.size,fun g cs T m hg hT=>h.cells g cs T m hg (by rcases hT with e|e<;>(rw[e];decide)) (by rcases hT with e|e<;>(rw[e];decide))⟩
theorem CF{W W':af}(h:ag W W'):W.grownBy W' none:=⟨h.os,h.tape,h.output,h.size,fun k hk _=>h.block k hk⟩
theorem oo{β:Type}{B:Nat}{I:β->World->Prop}(h:OwnFrom B I){s:β}{W W':af}(hs:I s W)(hb:ag W W'):I s W':=h s W W' none hs (CF hb) (fun r e=>by cases e)
end Go.Proofs.YtojjoblnpldniaaGreat
namespace Go.Proofs.YtojjoblnpldniaaGreat
set_option linter.unusedVariables false
set_option maxRecDepth 100000
open ChangeShapes WideShapes ChangeAt RowKit Maps Go.Shelf
open Pl
attribute [local go_sem] Oper.semAt_some
structure InM(W:World)(D br nr:Nat)(Mr:KL->Option Value)(Er:List (KL×RR))(Zn:Q02)(Yp:Nat)(xo:Q0a)(gD gS gU:Nat)(sn:Int)(YT:Q02)(Yj:Nat)(us:Q0a):Prop where
 d2:W.cell? ⟨D,2,none⟩=some (.map (some br))
 d4:W.cell? ⟨D,4,none⟩=some (.slice Zn xo.length Yp)
 objs:kV W Zn xo
 rel:Gj W br nr Mr Er
 bD:W.cell? ⟨gD,0,none⟩=some (.pointer (some ⟨D,0,none⟩))
 bS:W.cell? ⟨gS,0,none⟩=some (.int .i64 sn)
 bU:W.cell? ⟨gU,0,none⟩=some (.slice YT us.length Yj)
 users:kV W YT us
def Ff(x:Fc):Array Value:=#[.agg #[.string x.a,.string x.b,.string x.r,.string x.c,.string x.d]]
theorem CG:∀(rs:Q07) (i:Nat) (h:i<rs.length) (j:Nat),j<2->(G.flatG IQ rs)[i*2+j]?=(IQ rs[i])[j]?
 | [],i,h,_,_=>by simp at h
 | r::rs,0,_,j,hj=>by
  simp only[G.flatG,Xr,Nat.zero_mul,Xl,List.getElem_cons_zero];rw[XD (by simp[IQ];omega)]
 | r::rs,i+1,h,j,hj=>by
  have ih:=CG rs i (by simpa using h) j hj;simp only[G.flatG,Xr,List.getElem_cons_succ]at ih ⊢;rw[Xx (by simp[IQ];omega)];have:(i+1)*2+j-(IQ r).length=i*2+j:=by simp[IQ];omega
  rw[this];exact ih
theorem M5{W:af}{br nr:Nat}{Mr:KL->Option Value}{Er:List (KL×RR)}(h:Gj W br nr Mr Er)(k:KL):∃ad cap,(Mr k).getD (.slice none 0 0)=.slice ad (G.lookL Er k).length cap/\(∀i (hi:i<(G.lookL Er k).length),∃g,ad=some ⟨g,0,none⟩/\g<W.heap.size/\W.cell? ⟨g,i*2,none⟩=some (.string (G.lookL Er k)[i].name)/\W.cell? ⟨g,i*2+1,none⟩=some (G.lookL Er k)[i].sl):=by
 have ho:=E5 h k;rcases ho.2 with⟨e,h0⟩|⟨g,cap,cur,e,hbg,hg,hnc,-⟩
 ·exact⟨none,0,by rw[e,h0],fun i hi=>by omega⟩
 refine⟨_,cap,e,fun i hi=>⟨g,rfl,(ho.lt g (by rw[e];rfl)).2,?_,?_⟩⟩
 ·rw[e]at ho;rw[ho.cellAt (i*2) (by omega)];exact CG _ i hi 0 (by omega)
 rw[e]at ho;rw[ho.cellAt (i*2+1) (by omega)];exact CG _ i hi 1 (by omega)
def Gv(W:World)(g:Nat)(o:Al):Prop:=W.heap[g]?=some (.cells #[.string o.t,.string o.s] 27 (0,0))
def Jn(W:World)(g:Nat)(r:RR):Prop:=W.heap[g]?=some (.cells #[.string r.name,r.sl] 39 (0,0))
theorem Gv.c{W:af}{g:Nat}{o:Al}(h:Gv W g o):W.cell? ⟨g,0,none⟩=some (.string o.t)/\W.cell? ⟨g,1,none⟩=some (.string o.s)/\g<W.heap.size:=by
 have hl:=(WQ.1 h).1;unfold Gv at h;exact⟨by simp[World.cell?,h],by simp[World.cell?,h],hl⟩
theorem Jn.c{W:af}{g:Nat}{r:RR}(h:Jn W g r):W.cell? ⟨g,0,none⟩=some (.string r.name)/\W.cell? ⟨g,1,none⟩=some r.sl/\g<W.heap.size:=by
 have hl:=(WQ.1 h).1;unfold Jn at h;exact⟨by simp[World.cell?,h],by simp[World.cell?,h],hl⟩
theorem Gv.kp{W W':af}{g:Nat}{o:Al}(h:Gv W g o)(hk:KpI W W'):Gv W' g o:=hk.cells g _ _ _ h (.inl rfl)
theorem Jn.kp{W W':af}{g:Nat}{r:RR}(h:Jn W g r)(hk:KpI W W'):Jn W' g r:=hk.cells g _ _ _ h (.inr rfl)
def iQ(rs:Q06)(st:Q00)(us:Q0a)(sn:Int)(xo:Q0a)(q:Nat):List Fc:=(xo.take q).flatMap (yE (ae rs) st us sn)
def kQ(R:Q07)(us:Q0a)(o:Al)(k:Nat):List Fc:=(R.take k).flatMap fun r=>ui o r.name us
theorem Ub{rs:Q06}{st:Q00}{us:Q0a}{sn:Int}{xo:Q0a}{q:Nat}(h:q<xo.length):iQ rs st us sn xo (q+1)=iQ rs st us sn xo q++kQ (G.lookL (fK st rs) (xo[q].t,sn)) us xo[q] (G.lookL (fK st rs) (xo[q].t,sn)).length:=by
 unfold iQ kQ;rw[WN h,XP,Xa];congr 1;simp only[Xr,List.flatMap_nil,XL];unfold yE;rw[Jc,List.flatMap_map]
theorem Uc{R:Q07}{us:Q0a}{o:Al}{k:Nat}(h:k<R.length):kQ R us o (k+1)=kQ R us o k++ui o R[k].name us:=by
 unfold kQ;rw[WN h,XP];simp
theorem O3(o:Al)(rel:bN){xu:Q0a}{j:Nat}(h:j<xu.length):ui o rel (xu.take (j+1))=ui o rel (xu.take j)++[⟨o.t,o.s,rel,xu[j].t,xu[j].s⟩]:=by
 unfold ui;rw[WN h,Xy];rfl
theorem O4{rs:Q06}{st:Q00}{xo us:Q0a}{sn:Int}{o:Al}{r:RR}{u:Al}(ho:o∈xo)(hr:r∈G.lookL (fK st rs) (o.t,sn))(hu:u∈us):(⟨o.t,o.s,r.name,u.t,u.s⟩:Fc)∈cu (ae rs) st xo us sn:=by
 unfold cu yE;refine Xd.2 ⟨o,ho,Xd.2 ⟨(o.t,r.name),?_,WV.2 ⟨u,hu,rfl⟩⟩⟩;rw[Jc];exact WV.2 ⟨r,hr,rfl⟩
theorem R4(n:Nat)(hn:1<=n)(D br nr:Nat)(Mr:KL->Option Value)(st:Q00)(rs:Q06)(Zn:Q02)(Yp:Nat)(xo:Q0a)(gD gS gU:Nat)(sn:Int)(YT:Q02)(Yj:Nat)(us:Q0a)(w0:af)(hs0:0<=sn)(hs1:sn<=1000)(hol:xo.length<=1000)(hul:us.length<=1000)(hrl:∀k,(G.lookL (fK st rs) k).length<=1000)(hof:∀o∈xo,o.t.size<=maxLen):
  F6 Fence.wide n prog 269 #[.pointer (some ⟨gD,0,none⟩),.pointer (some ⟨gS,0,none⟩),.pointer (some ⟨gU,0,none⟩)] Ff (fun _=>KpI) (fun _ W=>InM W D br nr Mr (fK st rs) Zn Yp xo gD gS gU sn YT Yj us) (fun _ x=>x∈cu (ae rs) st xo us sn) (fun xs=>xs=cu (ae rs) st xo us sn) w0:=by
 intro l J W _ _ _ hJ hT hY h0;have HJ:=bu hJ;have HT:=bu hT;have HY:=bu hY;have H0:=bu h0;have HOF:=bu hof;have hM:=hT _ _ h0;have HRL:=bu hrl;have bD:=hM.bD;have d4:=hM.d4;have lD:=bQ bD;have lDD:=bQ d4;clear hJ hT hY h0 hof hM hrl;refine callsIn_of_wp func269 rfl trivial ?_ rfl;simp only[ntmps269,List.size_toArray,Xq,XQ,Nat.reduceAdd,Nat.reduceSub,Array.replicate_succ,Array.replicate_zero,List.push_toArray,List.append_toArray,XR,XB];gi_wp2;clear bD d4 lD lDD
 gi_loopw [16] (fun i wr=>∃q:Nat,q<=xo.length/\i=.int .i64 q/\Hid (J (iQ rs st us sn xo q) wr)) (fun i _=>xo.length-(intOf i).toNat)
 case atStart=>exact⟨0,WO _,rfl,H0⟩
 clear H0;obtain⟨q,hq,rfl,HJ1⟩:=hrel;by_cases hlq:q<xo.length
 ·have hM:=HT.out _ _ HJ1.out;obtain⟨bO,YS,hadO,⟨o0,o1⟩,hbO⟩:=kV.at0 hM.objs hlq;have HSQ:=bu (Ub (rs:=rs) (st:=st) (us:=us) (sn:=sn) hlq);have HOS:=bu (HOF.out _ (WH hlq));have HOM:Hid (xo[q]∈xo):=WH hlq;obtain⟨o,ho⟩:=eQx (xo[q]);rw[<-ho]at o0 o1 HSQ HOS HOM;clear ho;have hq1:=bY q;have hq2:(q:Int)<(xo.length:Int):=by omega
  obtain⟨W1,hW1⟩:=eQx (wr.alloc (.cells #[.string o.t,.string o.s] 27));have HB1:=tZ hW1;have HJ2:=bu (oo HJ.out HJ1.out HB1.out);have YY:Hid (Gv W1 wr.heap.size o):=by rw[hW1];exact World.alloc_heap_new wr _
  have hM2:=HT.out _ _ HJ2.out;have bD:=hM2.bD;have bS:=hM2.bS;have d2:=hM2.d2;obtain⟨c0,c1,cl⟩:=YY.out.c;obtain⟨adR,capR,hgd,-⟩:=M5 hM2.rel (o.t,sn);obtain⟨kl,hkl⟩:=MJ (o.t,sn) HOS.out hs0 (by show sn<=_;omega);obtain⟨R,hR⟩:=eQx (G.lookL (fK st rs) (o.t,sn));have hRl:R.length<=1000:=by rw[hR];exact HRL.out _
  rw[<-hR]at hgd HSQ;have HRE:=bu hR;have HGD:=bu hgd;have hlk:∀m,(Instr.lookup 190 (.map (some br)) (.agg #[.string o.t,.int .i64 sn]) false).run prog (W1.drewN m)=.ok (.slice adR R.length capR) (W1.drewN m):=fun m=>by
   have h:=(hM2.rel.map.below (below_drewN (WL _ _) m)).look (t:=190) (e:=34) VY underlying190 (RU _) (x:=(o.t,sn)) hkl;rw[hgd]at h;exact h
  subst hadO;clear hM hM2 hR hgd hkl;gi_wp2;rw[<-hW1];clear hW1;refine wpIn_wide.2 ?_;go_quiet (fail);obtain⟨W2,hW2⟩:=eQx (W1.drewN nq);have HB2:Hid (ag W1 W2):=by show Below _ _ _;rw[hW2];exact below_drewN (WL _ _) _
  have HJ3:=bu (oo HJ.out HJ2.out HB2.out);have HBX2:=bu (YY.out.kp (KpI.below HB2.out));obtain⟨gO,hgO⟩:∃g,g=wr.heap.size:=⟨_,rfl⟩;rw[<-hgO]at HBX2 ⊢;rw[<-hW2];clear hW2 hgO c0 c1 cl bD bS d2 hlk HB1 HJ2 YY HJ1 o0 o1 hbO;gi_wp2
  gi_loopw [30] (fun i w2=>∃k:Nat,k<=R.length/\i=.int .i64 k/\Hid (J (iQ rs st us sn xo q++kQ R us o k) w2)/\Hid (Gv w2 gO o)) (fun i _=>R.length-(intOf i).toNat)
  case atStart=>exact⟨0,WO _,rfl,by show J (_++[]) _;rw[XL];exact HJ3.out,HBX2⟩
  clear HJ3 HBX2 HB2;obtain⟨k,hk,rfl,HJ4,YY⟩:=hrel;by_cases hlk:k<R.length
  ·have hM:=HT.out _ _ HJ4.out;obtain⟨adR',capR',hgd',hrows⟩:=M5 hM.rel (o.t,sn);rw[<-HRE.out,HGD.out]at hgd';injection hgd' with ea eb ec;subst ea;clear eb ec;obtain⟨gq,hadR,hgl,r0,r1⟩:=hrows k (by rw[<-HRE.out];exact hlk);have HKS:=bu (Uc (us:=us) (o:=o) hlk);have hrr:(G.lookL (fK st rs) (o.t,sn))[k]'(by rw[<-HRE.out];exact hlk)=R[k]:=by simp only[HRE.out]
   rw[hrr]at r0 r1;have HRM:Hid (R[k]∈R):=WH hlk;obtain⟨r,hr⟩:=eQx (R[k]);rw[<-hr]at r0 r1 HKS HRM;have hk1:=bY k;have hk2:(k:Int)<(R.length:Int):=by omega
   obtain⟨W3,hW3⟩:=eQx (wr.alloc (.cells #[.string r.name,r.sl] 39));have HB3:=tZ hW3;have HJ5:=bu (oo HJ.out HJ4.out HB3.out);have Zm:=bu (YY.out.kp (KpI.below HB3.out));have HBR:Hid (Jn W3 wr.heap.size r):=by rw[hW3];exact World.alloc_heap_new wr _
   have hM3:=HT.out _ _ HJ5.out;have bU:=hM3.bU;have lU:=bQ bU;have bU0:=hM.bU;have lU0:=bQ bU0;unfold RR.sl at r1 hW3;obtain⟨gR,hgR⟩:∃g,g=wr.heap.size:=⟨_,rfl⟩;subst hadR;clear hM hM3 hr hrr hrows;gi_wp2;rw[<-hW3,<-hgR];rw[<-hgR]at HBR;clear hW3 hgR bU lU bU0 lU0 r0 r1 hgl HB3 HJ4 YY
   gi_loopw [36] (fun i w2=>∃j:Nat,j<=us.length/\i=.int .i64 j/\Hid (J (iQ rs st us sn xo q++kQ R us o k++ui o r.name (us.take j)) w2)/\Hid (Gv w2 gO o)/\Hid (Jn w2 gR r)) (fun i _=>us.length-(intOf i).toNat)
   case atStart=>exact⟨0,WO _,rfl,by show J (_++[]) _;rw[XL];exact HJ5.out,Zm,HBR⟩
   clear HJ5 Zm HBR;obtain⟨j,hj,rfl,HJ6,Zm,HBR⟩:=hrel;by_cases hlj:j<us.length
   ·have hM:=HT.out _ _ HJ6.out;obtain⟨bV,offV,hadU,⟨y0,y1⟩,hbV⟩:=kV.at0 hM.users hlj;have HAS:=bu (O3 o r.name hlj);obtain⟨u,hu⟩:=eQx (us[j]);rw[<-hu]at y0 y1 HAS;have hj1:=bY j;have hj2:(j:Int)<(us.length:Int):=by omega
    obtain⟨W4,YR⟩:=eQx (wr.alloc (.cells #[.string u.t,.string u.s] 27));have YF:=tZ YR;have HJ7:=oo HJ.out HJ6.out YF.out;have HBO2:=bu (Zm.out.kp (KpI.below YF.out));have HBR2:=bu (HBR.out.kp (KpI.below YF.out));obtain⟨fn,tmps,assign,body,hy,hR⟩:=HY.out _ ⟨o.t,o.s,r.name,u.t,u.s⟩ W4 HJ7 (O4 HOM.out (by rw[<-HRE.out];exact HRM.out) (by rw[hu];exact WH hlj));obtain⟨c0,c1,cl⟩:=Zm.out.c;obtain⟨e0,e1,el⟩:=HBR.out.c;have HRR:=bu hR;unfold Ff at hy;subst hadU;subst YR;clear hM hu HJ7 hR;gi_wp2;refine HRR.out.mono ?_;rintro e W5 ⟨rfl,hJ8,hK8⟩;have HJ8:Hid (J (iQ rs st us sn xo q++kQ R us o k++ui o r.name (us.take (j+1))) W5):=by show J _ _;rw[HAS.out,<-Xg];exact hJ8
    have HBO3:=bu (HBO2.out.kp hK8);have HBR3:=bu (HBR2.out.kp hK8);clear hJ8 hK8 hy y0 y1 c0 c1 cl e0 e1 el;gi_wp2;go_roundw;case rel=>exact⟨j+1,by omega,by go_num,HJ8,HBO3,HBR3⟩
    simp[intOf]<;>omega
   have HJ7:Hid (J (iQ rs st us sn xo q++kQ R us o (k+1)) wr):=by
    have h1:=HJ6.out;rw[Xn (by omega),Xg,<-HKS.out]at h1;exact h1
   gi_wp2;go_roundw;case rel=>exact⟨k+1,by omega,by go_num,HJ7,Zm⟩
   simp[intOf]<;>omega
  have HE2:Hid (iQ rs st us sn xo q++kQ R us o k=iQ rs st us sn xo (q+1)):=by show _=_;rw[HSQ.out,show k=R.length by omega]
  have HJ5:Hid (J (iQ rs st us sn xo (q+1)) wr):=by show J _ _;rw[<-HE2.out];exact HJ4.out
  gi_wp2;go_roundw;case rel=>exact⟨q+1,by omega,by go_num,HJ5⟩
  simp[intOf]<;>omega
 have HE:Hid (iQ rs st us sn xo q=cu (ae rs) st xo us sn):=by show _=_;unfold iQ cu;rw[Xn (by omega)]
 have HJ2:Hid (J (cu (ae rs) st xo us sn) wr):=by show J _ _;rw[<-HE.out];exact HJ1.out
 gi_wp2
 go_end0
 exact⟨⟨_,rfl⟩,_,rfl,HJ2.out⟩
end Go.Proofs.YtojjoblnpldniaaGreat
namespace Go.Proofs.YtojjoblnpldniaaGreat
set_option linter.unusedVariables false
set_option maxRecDepth 100000
open ChangeShapes WideShapes ChangeAt RowKit Maps
open Pl
section
variable  {w:World}{rs:Q06}{D br bp bt bK nK:Nat}{n1:Int}{nr:Nat}{Mr:KL->Option Value}{Er:List (KL×RR)}{ts:Q05}{xo xu:Q0a}{np:Nat}{Mp:K3->Option Value}{vo vu:Value}{out:Q04}{f:Fc}{X9:Q02}{capE:Nat}{rows:Q08}{n:Nat}
theorem O5(hn:n<rows.length)(hD:DatA w rs D br bp bt n1 nr Mr Er (dY ts) xo xu np Mp vo vu)(hK:aN oH prog 52 w bK nK (De out))(hf:f.fits)(hts:∀t∈ts,t.fits)(htl:ts.length<=1000)(hex:iw w X9 rows)(hre:rows.length<=1000)(hk:rows[n].e.kind=1):
  Calls prog 232 #[.pointer (some ⟨D,0,none⟩),.slice X9 rows.length capE,.int .i64 (n:Int),.agg #[.string f.a,.string f.b,.string f.r,.string f.c,.string f.d],.map (some bK)] w fun e w'=>e=.returned (.bool (pJ ts out f))/\ag w w':=by
 obtain⟨b,off,Yb,⟨t0,t1,t2,t3,t4⟩,hbl,hok⟩:=iw.at0 hex hn;obtain⟨W0,hW0⟩:=eQx (JW w D (.slice X9 rows.length capE) f bK rows[n]);have HB0:Hid (ag w W0):=by show Below _ _ _;rw[hW0];exact mD _ _ _ _ _ _
 have HN0:Hid (NdB W0 w.heap.size D (.slice X9 rows.length capE) f bK rows[n]):=by show NdB _ _ _ _ _ _ _;rw[hW0];exact mE _ _ _ _ _ _
 have hk1:(rows[n].e.kind==1)=true:=by rw[hk];rfl
 have hbl1:b<w.heap.size+1:=by omega
 have Zz:b<w.heap.size+1+1:=by omega
 have hbl3:b<w.heap.size+1+1+1:=by omega
 have hn1:=bY n;have hn2:(n:Int)<(rows.length:Int):=by omega
 unfold JW zW at hW0;have HC:=bu (Dw (hD.below HB0.out) (hK.below HB0.out) hf hts htl);clear hD hK hts hex hk hok;subst Yb;go_enter func232,ntmps232;go_wp2_with fail;rw[<-hW0];clear hW0 t0 t1 t2 t3 t4;refine(HC.out).mono ?_;rintro e w1 ⟨rfl,hb1⟩;have HB1:=bu (HB0.out.trans (hb1.mono HB0.out.size));clear hb1;go_wp2;go_ret;exact⟨rfl,HB1.out⟩
theorem R5(hn:n<rows.length)(hK:aN oH prog 52 w bK nK (De out))(hf:f.fits)(hnm:rows[n].e.name.size<=maxLen)(hex:iw w X9 rows)(hre:rows.length<=1000)(hk:rows[n].e.kind=2):
  Calls prog 232 #[.pointer (some ⟨D,0,none⟩),.slice X9 rows.length capE,.int .i64 (n:Int),.agg #[.string f.a,.string f.b,.string f.r,.string f.c,.string f.d],.map (some bK)] w fun e w'=>e=.returned (.bool (gJ out ⟨f.a,f.b,rows[n].e.name,f.c,f.d⟩))/\ag w w':=by
 obtain⟨b,off,Yb,⟨t0,t1,t2,t3,t4⟩,hbl,hok⟩:=iw.at0 hex hn;obtain⟨W0,hW0⟩:=eQx (JW w D (.slice X9 rows.length capE) f bK rows[n]);have HB0:Hid (ag w W0):=by show Below _ _ _;rw[hW0];exact mD _ _ _ _ _ _
 have HN0:Hid (NdB W0 w.heap.size D (.slice X9 rows.length capE) f bK rows[n]):=by show NdB _ _ _ _ _ _ _;rw[hW0];exact mE _ _ _ _ _ _
 have hk1:(rows[n].e.kind==1)=false:=by rw[hk];rfl
 have hk2:(rows[n].e.kind==2)=true:=by rw[hk];rfl
 have hbl1:b<w.heap.size+1:=by omega
 have Zz:b<w.heap.size+1+1:=by omega
 have hbl3:b<w.heap.size+1+1+1:=by omega
 have hn1:=bY n;have hn2:(n:Int)<(rows.length:Int):=by omega
 unfold JW zW at hW0;have HC:=bu (xB bK nK out ⟨f.a,f.b,rows[n].e.name,f.c,f.d⟩ W0 ⟨hf.1,hf.2.1,hnm,hf.2.2.2.1,hf.2.2.2.2⟩ (hK.below HB0.out));clear hK hex hk hok hf;subst Yb;go_enter func232,ntmps232;go_wp2_with fail;rw[<-hW0];clear hW0 t0 t1 t2 t3 t4;refine(HC.out).mono ?_;rintro e w1 ⟨rfl,hb1⟩;have HB1:=bu (HB0.out.trans (hb1.mono HB0.out.size));clear hb1;go_wp2;go_ret;exact⟨rfl,HB1.out⟩
theorem O6(hn:n<rows.length)(hD:DatA w rs D br bp bt n1 nr Mr Er (dY ts) xo xu np Mp vo vu)(hK:aN oH prog 52 w bK nK (De out))(hf:f.fits)(hxf:rows[n].e.over.size<=maxLen/\rows[n].e.name.size<=maxLen)(hts:∀t∈ts,t.fits)(htl:ts.length<=1000)(hex:iw w X9 rows)(hre:rows.length<=1000)(hk:rows[n].e.kind=3):
  Calls prog 232 #[.pointer (some ⟨D,0,none⟩),.slice X9 rows.length capE,.int .i64 (n:Int),.agg #[.string f.a,.string f.b,.string f.r,.string f.c,.string f.d],.map (some bK)] w fun e w'=>e=.returned (.bool (ny ts out rows[n].e.over rows[n].e.name f))/\ag w w':=by
 obtain⟨b,off,Yb,⟨t0,t1,t2,t3,t4⟩,hbl,hok⟩:=iw.at0 hex hn;obtain⟨W0,hW0⟩:=eQx (JW w D (.slice X9 rows.length capE) f bK rows[n]);have HB0:Hid (ag w W0):=by show Below _ _ _;rw[hW0];exact mD _ _ _ _ _ _
 have HN0:Hid (NdB W0 w.heap.size D (.slice X9 rows.length capE) f bK rows[n]):=by show NdB _ _ _ _ _ _ _;rw[hW0];exact mE _ _ _ _ _ _
 have hk1:(rows[n].e.kind==1)=false:=by rw[hk];rfl
 have hk2:(rows[n].e.kind==2)=false:=by rw[hk];rfl
 have hk3:(rows[n].e.kind==3)=true:=by rw[hk];rfl
 have hbl1:b<w.heap.size+1:=by omega
 have Zz:b<w.heap.size+1+1:=by omega
 have hbl3:b<w.heap.size+1+1+1:=by omega
 have hn1:=bY n;have hn2:(n:Int)<(rows.length:Int):=by omega
 unfold JW zW at hW0;have HC:=bu (Dx (hD.below HB0.out) (hK.below HB0.out) rows[n] hxf hf hts htl);clear hD hK hts hex hk hok hxf hf;subst Yb;go_enter func232,ntmps232;go_wp2_with fail;rw[<-hW0];clear hW0 t0 t1 t2 t3 t4;refine(HC.out).mono ?_;rintro e w1 ⟨rfl,hb1⟩;have HB1:=bu (HB0.out.trans (hb1.mono HB0.out.size));clear hb1;go_wp2;go_ret;exact⟨rfl,HB1.out⟩
theorem L6(hn:n<rows.length)(H:Int->Bool)(hkl:rows[n].e.kids.length<=1000)(hIH:∀i∈rows[n].e.kids,LV D (.slice X9 rows.length capE) f bK w i (H i))(hex:iw w X9 rows)(hre:rows.length<=1000)(hk:rows[n].e.kind=4):
  Calls prog 232 #[.pointer (some ⟨D,0,none⟩),.slice X9 rows.length capE,.int .i64 (n:Int),.agg #[.string f.a,.string f.b,.string f.r,.string f.c,.string f.d],.map (some bK)] w fun e w'=>e=.returned (.bool (rows[n].e.kids.any H))/\ag w w':=by
 obtain⟨b,off,Yb,⟨t0,t1,t2,t3,t4⟩,hbl,hok⟩:=iw.at0 hex hn;obtain⟨W0,hW0⟩:=eQx (JW w D (.slice X9 rows.length capE) f bK rows[n]);have HB0:Hid (ag w W0):=by show Below _ _ _;rw[hW0];exact mD _ _ _ _ _ _
 have HN0:Hid (NdB W0 w.heap.size D (.slice X9 rows.length capE) f bK rows[n]):=by show NdB _ _ _ _ _ _ _;rw[hW0];exact mE _ _ _ _ _ _
 have hk1:(rows[n].e.kind==1)=false:=by rw[hk];rfl
 have hk2:(rows[n].e.kind==2)=false:=by rw[hk];rfl
 have hk3:(rows[n].e.kind==3)=false:=by rw[hk];rfl
 have hk4:(rows[n].e.kind==4)=true:=by rw[hk];rfl
 have hbl1:b<w.heap.size+1:=by omega
 have Zz:b<w.heap.size+1+1:=by omega
 have hbl3:b<w.heap.size+1+1+1:=by omega
 have hn1:=bY n;have hn2:(n:Int)<(rows.length:Int):=by omega
 unfold JW zW at hW0;have HC:=bu (uA 282 #[] #[.pointer (some ⟨w.heap.size,0,none⟩),.pointer (some ⟨w.heap.size+1,0,none⟩),.pointer (some ⟨w.heap.size+1+1,0,none⟩),.pointer (some ⟨w.heap.size+1+1+1,0,none⟩)] H rows[n].adK rows[n].capK rows[n].e.kids W0 (by omega) (hok.2.below HB0.out) Vq (fun i hi w1 hb=>qI (hIH i hi) (HB0.out.trans (hb.mono HB0.out.size)) (HN0.out.below hb)));clear hIH hex hk hok;subst Yb;go_enter func232,ntmps232;go_wp2_with fail;rw[<-hW0];clear hW0 t0 t1 t2 t3 t4;refine(HC.out).mono ?_;rintro e w1 ⟨rfl,hb1⟩;have HB1:=bu (HB0.out.trans (hb1.mono HB0.out.size));clear hb1;go_wp2;go_ret;exact⟨rfl,HB1.out⟩
theorem O7(hn:n<rows.length)(H:Int->Bool)(hkl:rows[n].e.kids.length<=1000)(hIH:∀i∈rows[n].e.kids,LV D (.slice X9 rows.length capE) f bK w i (H i))(hex:iw w X9 rows)(hre:rows.length<=1000)(hk:rows[n].e.kind=5):
  Calls prog 232 #[.pointer (some ⟨D,0,none⟩),.slice X9 rows.length capE,.int .i64 (n:Int),.agg #[.string f.a,.string f.b,.string f.r,.string f.c,.string f.d],.map (some bK)] w fun e w'=>e=.returned (.bool (rows[n].e.kids.all H))/\ag w w':=by
 obtain⟨b,off,Yb,⟨t0,t1,t2,t3,t4⟩,hbl,hok⟩:=iw.at0 hex hn;obtain⟨W0,hW0⟩:=eQx (JW w D (.slice X9 rows.length capE) f bK rows[n]);have HB0:Hid (ag w W0):=by show Below _ _ _;rw[hW0];exact mD _ _ _ _ _ _
 have HN0:Hid (NdB W0 w.heap.size D (.slice X9 rows.length capE) f bK rows[n]):=by show NdB _ _ _ _ _ _ _;rw[hW0];exact mE _ _ _ _ _ _
 have hk1:(rows[n].e.kind==1)=false:=by rw[hk];rfl
 have hk2:(rows[n].e.kind==2)=false:=by rw[hk];rfl
 have hk3:(rows[n].e.kind==3)=false:=by rw[hk];rfl
 have hk4:(rows[n].e.kind==4)=false:=by rw[hk];rfl
 have hk5:(rows[n].e.kind==5)=true:=by rw[hk];rfl
 have hbl1:b<w.heap.size+1:=by omega
 have Zz:b<w.heap.size+1+1:=by omega
 have hbl3:b<w.heap.size+1+1+1:=by omega
 have hn1:=bY n;have hn2:(n:Int)<(rows.length:Int):=by omega
 unfold JW zW at hW0;have HC:=bu (uA 283 #[] #[.pointer (some ⟨w.heap.size+1+1+1+1+1,0,none⟩)] (fun i=>!H i) rows[n].adK rows[n].capK rows[n].e.kids W0 (by omega) (hok.2.below HB0.out) Vr (fun i hi w1 hb=>xC (hIH i hi) (HB0.out.trans (hb.mono HB0.out.size)) (HN0.out.below hb)));have Yq:Hid ((rows[n].e.kids.any fun i=>!H i)=!rows[n].e.kids.all H):=by show _=_;rw[List.not_all_eq_any_not]
 clear hIH hex hk hok;subst Yb;go_enter func232,ntmps232;go_wp2_with fail;rw[<-hW0];clear hW0 t0 t1 t2 t3 t4;refine(HC.out).mono ?_;rintro e w1 ⟨he,hb1⟩;rw[Yq.out]at he;subst he;have HB1:=bu (HB0.out.trans (hb1.mono HB0.out.size));clear hb1;go_wp2;go_ret;exact⟨by simp,HB1.out⟩
end
open Go.Sort
section
variable  {w:World}{rs:Q06}{D br bp bt bK nK:Nat}{n1:Int}{nr:Nat}{Mr:KL->Option Value}{Er:List (KL×RR)}{ts:Q05}{xo xu:Q0a}{np:Nat}{Mp:K3->Option Value}{vo vu:Value}{out:Q04}{f:Fc}{X9:Q02}{capE:Nat}{rows:Q08}{n:Nat}
theorem R6(hn:n<rows.length)(b0 b1:Bool)(hkl:rows[n].e.kids.length<=1000)(hk2l:2<=rows[n].e.kids.length)(hA:LV D (.slice X9 rows.length capE) f bK w (rows[n].e.kids.getD 0 0) b0)(hB:LV D (.slice X9 rows.length capE) f bK w (rows[n].e.kids.getD 1 0) b1)(hex:iw w X9 rows)(hre:rows.length<=1000)(hk:rows[n].e.kind=6):
  Calls prog 232 #[.pointer (some ⟨D,0,none⟩),.slice X9 rows.length capE,.int .i64 (n:Int),.agg #[.string f.a,.string f.b,.string f.r,.string f.c,.string f.d],.map (some bK)] w fun e w'=>e=.returned (.bool (b0 && !b1))/\ag w w':=by
 obtain⟨b,off,Yb,⟨t0,t1,t2,t3,t4⟩,hbl,hok⟩:=iw.at0 hex hn;obtain⟨W0,hW0⟩:=eQx (JW w D (.slice X9 rows.length capE) f bK rows[n]);have HB0:Hid (ag w W0):=by show Below _ _ _;rw[hW0];exact mD _ _ _ _ _ _
 have HN0:Hid (NdB W0 w.heap.size D (.slice X9 rows.length capE) f bK rows[n]):=by show NdB _ _ _ _ _ _ _;rw[hW0];exact mE _ _ _ _ _ _
 have hk1:(rows[n].e.kind==1)=false:=by rw[hk];rfl
 have hk2:(rows[n].e.kind==2)=false:=by rw[hk];rfl
 have hk3:(rows[n].e.kind==3)=false:=by rw[hk];rfl
 have hk4:(rows[n].e.kind==4)=false:=by rw[hk];rfl
 have hk5:(rows[n].e.kind==5)=false:=by rw[hk];rfl
 have hbl1:b<w.heap.size+1:=by omega
 have Zz:b<w.heap.size+1+1:=by omega
 have hbl3:b<w.heap.size+1+1+1:=by omega
 have hn1:=bY n;have hn2:(n:Int)<(rows.length:Int):=by omega
 unfold JW zW at hW0;have h0k:0<rows[n].e.kids.length:=by omega
 have h1k:1<rows[n].e.kids.length:=by omega
 obtain⟨bJ,offJ,Ze,z0,hbK⟩:=sK.at0 hok.2 h0k;have z1:w.cell? ⟨bJ,offJ+1,none⟩=some (.int .i64 rows[n].e.kids[1]):=by
  obtain⟨b',off',hadK',z1,-⟩:=sK.at0 hok.2 h1k;rw[Ze]at hadK';injection hadK' with e;injection e with e1 e2;rw[e1,e2];exact z1
 obtain⟨i0,hi0⟩:∃i,i=rows[n].e.kids[0]:=⟨_,rfl⟩;obtain⟨i1,hi1⟩:∃i,i=rows[n].e.kids[1]:=⟨_,rfl⟩;have g0:rows[n].e.kids.getD 0 0=i0:=by rw[hi0,Xh,WS h0k];rfl
 have g1:rows[n].e.kids.getD 1 0=i1:=by rw[hi1,Xh,WS h1k];rfl
 rw[g0]at hA;rw[g1]at hB;rw[<-hi0,Nat.add_zero]at z0;rw[<-hi1]at z1;obtain⟨kl,hkl'⟩:∃kl,kl=rows[n].e.kids.length:=⟨_,rfl⟩;obtain⟨cK,hcK⟩:∃c,c=rows[n].capK:=⟨_,rfl⟩;have hl0:(0:Int)<(kl:Int):=by omega
 have hl1:(1:Int)<(kl:Int):=by omega
 have h0k':0<kl:=by omega
 have h1k':1<kl:=by omega
 have HA:Hid (∀w1,ag W0 w1->_):=fun w1 hb=>qI hA (HB0.out.trans (hb.mono HB0.out.size)) (HN0.out.below hb);have HBB:Hid (∀w1,ag W0 w1->_):=fun w1 hb=>xC hB (HB0.out.trans (hb.mono HB0.out.size)) (HN0.out.below hb);have HZ:Hid (W0.cell? ⟨bJ,offJ,none⟩=some (.int .i64 i0)/\W0.cell? ⟨bJ,offJ+1,none⟩=some (.int .i64 i1)/\bJ<W0.heap.size):=⟨(HB0.out.cell (p:=⟨bJ,offJ,none⟩) hbK).trans z0,(HB0.out.cell (p:=⟨bJ,offJ+1,none⟩) hbK).trans z1,WJ hbK HB0.out.size⟩;have HX4:Hid (W0.cell? ⟨w.heap.size+1+1+1+1,4,none⟩=some (.slice (some ⟨bJ,offJ,none⟩) kl cK)):=by show _=_;rw[HN0.out.x4,Ze,<-hkl',<-hcK]
 have HV5:Hid (W0.cell? ⟨w.heap.size+1+1+1+1+1,0,none⟩=some (.func (Fn.func 282) #[] #[.pointer (some ⟨w.heap.size,0,none⟩),.pointer (some ⟨w.heap.size+1,0,none⟩),.pointer (some ⟨w.heap.size+1+1,0,none⟩),.pointer (some ⟨w.heap.size+1+1+1,0,none⟩)])):=HN0.out.v;clear hA hB hex hk hok z0 z1 Ze h0k h1k g0 g1 hi0 hi1;subst Yb;go_enter func232,ntmps232;go_wp2_with fail;rw[<-hW0];clear hW0 t0 t1 t2 t3 t4;clear hk1 hk2 hk3 hk4 hk5 hkl' hcK;have HAA:Hid (∀d os,Calls prog 282 #[.int .i64 i0,.pointer (some ⟨w.heap.size,0,none⟩),.pointer (some ⟨w.heap.size+1,0,none⟩),.pointer (some ⟨w.heap.size+1+1,0,none⟩),.pointer (some ⟨w.heap.size+1+1+1,0,none⟩)] (grow (redrawn W0 d) os) fun e w''=>e=.returned (.bool b0)/\∃p:Regrown,w''=grow (redrawn W0 p.d) p.os):=by
  refine gm fun W' hb=>?_;exact HA.out _ hb
 have HBQ:Hid (∀d os,Calls prog 283 #[.int .i64 i1,.pointer (some ⟨w.heap.size+1+1+1+1+1,0,none⟩)] (grow (redrawn W0 d) os) fun e w''=>e=.returned (.bool (!b1))/\∃p:Regrown,w''=grow (redrawn W0 p.d) p.os):=by
  refine gm fun W' hb=>?_;exact HBB.out _ hb
 have x4:=cell_regrown HX4.out;have v5:=cell_regrown HV5.out;have z0:=cell_regrown HZ.out.1;have z1:=cell_regrown HZ.out.2.1;clear HA HBB HN0;cases b0
 case' true =>
  skip
 case' false =>
  skip
 all_goals
  refine wp_region_quiet_below (by kernel_rfl) (by kernel_rfl) ?_
  repeat(go_big_quiet_step (first|exact HAA.out _ _|exact HBQ.out _ _))
  refine wpQuiet_nil ?_;rintro _ ⟨⟨dq,osq⟩,rfl⟩;go_wp2;go_ret;exact⟨rfl,HB0.out.trans ((below_regrown W0 dq osq).mono HB0.out.size)⟩
end
theorem L8{e:Ex}(h:ax e=true):(e.kind=2->e.name.size<=maxLen)/\(e.kind=3->e.over.size<=maxLen/\e.name.size<=maxLen)/\(e.kind=1\/e.kind=2\/e.kind=3\/e.kind=4\/e.kind=5\/e.kind=6):=by
 unfold ax at h;have hle:∀s:ByteArray,aS s=true->s.size<=maxLen:=fun s hs=>by have:=(o6 hs).2;unfold maxLen;omega
 by_cases k1:e.kind=1
 ·exact⟨fun h2=>by omega,fun h3=>by omega,.inl k1⟩
 by_cases k2:e.kind=2
 ·rw[if_neg k1,if_pos k2]at h;simp only[WM]at h;exact⟨fun _=>hle _ h.1.1.1,fun h3=>by omega,.inr (.inl k2)⟩
 by_cases k3:e.kind=3
 ·rw[if_neg k1,if_neg k2,if_pos k3]at h;simp only[WM]at h;exact⟨fun h2=>by omega,fun _=>⟨hle _ h.1.1.1,hle _ h.1.1.2⟩,.inr (.inr (.inl k3))⟩
 refine⟨fun h2=>absurd h2 k2,fun h3=>absurd h3 k3,?_⟩;by_cases k4:e.kind=4\/e.kind=5
 ·rcases k4 with k4|k4
  ·exact .inr (.inr (.inr (.inl k4)))
  exact .inr (.inr (.inr (.inr (.inl k4))))
 by_cases k6:e.kind=6
 ·exact .inr (.inr (.inr (.inr (.inr k6))))
 rw[if_neg k1,if_neg k2,if_neg k3,if_neg k4,if_neg k6]at h;cases h
section
variable  {rs:Q06}{D br bp bt bK nK:Nat}{n1:Int}{nr:Nat}{Mr:KL->Option Value}{Er:List (KL×RR)}{ts:Q05}{xo xu:Q0a}{np:Nat}{Mp:K3->Option Value}{vo vu:Value}{out:Q04}{f:Fc}{X9:Q02}{capE:Nat}{rows:Q08}
theorem uE(hN:NodOk rows)(hnb:∀e∈ai rows,ax e=true)(hf:f.fits)(hts:∀t∈ts,t.fits)(htl:ts.length<=1000):
  ∀(k n:Nat) (w:World),n<k->n<rows.length->DatA w rs D br bp bt n1 nr Mr Er (dY ts) xo xu np Mp vo vu->aN oH prog 52 w bK nK (De out)->iw w X9 rows ->
  Calls prog 232 #[.pointer (some ⟨D,0,none⟩),.slice X9 rows.length capE,.int .i64 (n:Int),.agg #[.string f.a,.string f.b,.string f.r,.string f.c,.string f.d],.map (some bK)] w fun e w'=>e=.returned (.bool (aJ ts (ai rows) out f k out n))/\ag w w'
 | 0,_,_,h,_,_,_,_=>absurd h (XE _)
 | k+1,n,w,hk,hn,hD,hK,hex=>by
  have e:(ai rows)[n]?=some rows[n].e:=by simp[ai,hn]
  have Yy:∀i∈rows[n].e.kids,LV D (.slice X9 rows.length capE) f bK w i (aJ ts (ai rows) out f k out i.toNat):=fun i hi w1 hb1=>by
   have h1:=hN.kid hn hi;have h2:=uE hN hnb hf hts htl k i.toNat w1 (by omega) (by omega) (hD.below hb1) (hK.below hb1) (hex.below hb1);have e2:((i.toNat:Nat):Int)=i:=by omega
   rw[e2]at h2;exact h2
  have hm:rows[n]∈rows:=WH hn;have hme:rows[n].e∈ai rows:=WV.2 ⟨_,hm,rfl⟩;obtain⟨hn2,hn3,hkd⟩:=L8 (hnb _ hme);unfold aJ;rw[e];by_cases k1:rows[n].e.kind=1
  ·simp only[if_pos k1];exact O5 hn hD hK hf hts htl hex hN.len k1
  by_cases k2:rows[n].e.kind=2
  ·simp only[if_neg k1,if_pos k2];exact R5 hn hK hf (hn2 k2) hex hN.len k2
  by_cases k3:rows[n].e.kind=3
  ·simp only[if_neg k1,if_neg k2,if_pos k3];exact O6 hn hD hK hf (hn3 k3) hts htl hex hN.len k3
  by_cases k4:rows[n].e.kind=4
  ·simp only[if_neg k1,if_neg k2,if_neg k3,if_pos k4];exact L6 hn (fun i=>aJ ts (ai rows) out f k out i.toNat) (hN.kids _ hm) Yy hex hN.len k4
  by_cases k5:rows[n].e.kind=5
  ·simp only[if_neg k1,if_neg k2,if_neg k3,if_neg k4,if_pos k5];exact O7 hn (fun i=>aJ ts (ai rows) out f k out i.toNat) (hN.kids _ hm) Yy hex hN.len k5
  have k6:rows[n].e.kind=6:=by omega
  simp only[if_neg k1,if_neg k2,if_neg k3,if_neg k4,if_neg k5,if_pos k6];have h2:=hN.two _ hme k6;have hg:∀q,q<2->rows[n].e.kids.getD q 0∈rows[n].e.kids:=fun q hq=>by
   rw[Xh,WS (by omega)];exact WH _
  exact R6 hn _ _ (hN.kids _ hm) h2 (Yy _ (hg 0 (by omega))) (Yy _ (hg 1 (by omega))) hex hN.len k6
theorem Ud{rs:Q06}(h:bB (ae rs)=true){k:Q01}(hk:k∈ay (ae rs)):∃t∈rs,∃q∈t.rows,lN rs k=some q.sl/\ai q.rows=aj (ae rs) k.1 k.2/\aK (ai q.rows)=true:=by
 have hk':=hk;unfold ay at hk;obtain⟨T,hT,hk⟩:=Xd.1 hk;obtain⟨t,ht,rfl⟩:=WV.1 hT;unfold kH at hk;obtain⟨r,hr,rfl⟩:=WV.1 hk;obtain⟨q,hq,rfl⟩:=WV.1 hr;have hrel:=nu h ht hq;cases e:lN rs (t.p.name,q.p.name) with
 | none =>
  have h1:=(rM h).no _ e;have h2:fB (ae rs) t.name q.name=none:=h1;rw[hrel]at h2;cases h2
 | some v =>
  obtain⟨t',ht',q',hq',-,rfl,e1,-⟩:=(rM h).yes _ v e;refine⟨t',ht',q',hq',rfl,?_,((aW h).2.2 t' ht' q' hq').1⟩;unfold aj;rw[e1];rfl
theorem O8{w:af}{ad:Q02}(hD:DatA w rs D br bp bt n1 nr Mr Er (dY ts) xo xu np Mp vo vu)(hK:aN oH prog 52 w bK nK (De out))(hf:f.fits)(hts:∀t∈ts,t.fits)(htl:ts.length<=1000)(hsh:bB (ae rs)=true)(hkey:(f.a,f.r)∈ay (ae rs))(hs:jX w ad rs):
  Calls prog 203 #[.pointer (some ⟨D,0,none⟩),.agg #[.string f.a,.string f.b,.string f.r,.string f.c,.string f.d],.map (some bK)] w fun e w'=>e=.returned (.bool (eH (ae rs) ts out f))/\ag w w':=by
 obtain⟨t,htm,q,hq,htab,hrx,hsp⟩:=Ud hsh hkey;obtain⟨hN,hr1⟩:=TY hsp;have hnb:=dR hsp;have ZJ:qP rs q.ad q.rows:=.inr ⟨t,htm,q,hq,rfl,rfl⟩;obtain⟨kl,hkl⟩:=j3 (f.a,f.r) hf.1 hf.2.2.1;obtain⟨W0,hW0⟩:=eQx (w.alloc (.cells #[.string f.a,.string f.b,.string f.r,.string f.c,.string f.d] 52));have HB0:=tZ hW0;have c0:W0.cell? ⟨w.heap.size,0,none⟩=some (.string f.a):=by rw[hW0];simp
 have c1:W0.cell? ⟨w.heap.size,1,none⟩=some (.string f.b):=by rw[hW0];simp
 have c2:W0.cell? ⟨w.heap.size,2,none⟩=some (.string f.r):=by rw[hW0];simp
 have c3:W0.cell? ⟨w.heap.size,3,none⟩=some (.string f.c):=by rw[hW0];simp
 have c4:W0.cell? ⟨w.heap.size,4,none⟩=some (.string f.d):=by rw[hW0];simp
 have d0:=HB0.out.cell (p:=⟨D,0,none⟩) hD.dat.lt |>.trans hD.dat.c0;obtain⟨X9,hadE⟩:∃a,a=q.ad:=⟨_,rfl⟩;obtain⟨capE,hcapE⟩:∃a,a=q.cap:=⟨_,rfl⟩;obtain⟨rows,hrows⟩:∃a,a=q.rows:=⟨_,rfl⟩;have hsl:q.sl=.slice X9 rows.length capE:=by rw[hadE,hcapE,hrows];rfl
 rw[<-hrows]at hN hnb hr1 hrx;rw[<-hrows,<-hadE]at ZJ;have hlk:∀m,(Instr.lookup 102 (.map (some bt)) (.agg #[.string f.a,.string f.r]) false).run prog (W0.drewN m)=.ok (.slice X9 rows.length capE) (W0.drewN m):=fun m=>by
  have h:=((hD.tab.below HB0.out).below (below_drewN (WL _ _) m)).look (t:=102) (e:=37) jl underlying102 (o8 _) (x:=(f.a,f.r)) hkl;rw[htab,hsl]at h;exact h
 have hr1000:=hN.len;have hwr:IntKind.i64.wrap ((rows.length:Int)-1)=((rows.length-1:Nat):Int):=by rw[IntKind.wrap_i64];omega
 have HC:Hid (∀nq,Calls prog 232 #[.pointer (some ⟨D,0,none⟩),.slice X9 rows.length capE,.int .i64 ((rows.length-1:Nat):Int),.agg #[.string f.a,.string f.b,.string f.r,.string f.c,.string f.d],.map (some bK)] (W0.drewN nq) fun e w'=>e=.returned (.bool (eH (ae rs) ts out f))/\Below (W0.drewN nq).heap.size (W0.drewN nq) w'):=fun nq=>by
  have hb:ag w (W0.drewN nq):=below_drewN HB0.out nq;have h:=uE (capE:=capE) hN hnb hf hts htl rows.length (rows.length-1) (W0.drewN nq) (by omega) (by omega) (hD.below hb) (hK.below hb) (ZJ.sl (hs.below hb));unfold eH;rw[<-hrx,au];exact h
 clear hD hK hs hsp hkl htab hsl hN hnb hf hadE hcapE hrows ZJ hrx hkey;go_enter func203,ntmps203;go_wp2_with fail;rw[<-hW0];clear hW0;go_quiet (fail);clear d0 hlk;go_wp2_with fail;refine(HC.out _).mono ?_;rintro e w1 ⟨rfl,hb1⟩;have HB1:=bu ((below_drewN HB0.out _).trans (hb1.mono HB0.out.size));clear hb1 c0 c1 c2 c3 c4;go_wp2;go_ret;exact⟨rfl,HB1.out⟩
end
def O9(w:World)(S:Nat->Prop)(P:Value->Ru->Prop)(ad:Q02)(Gs:List Ru):Prop:=Gs=[] \/ ∃g,ad=some ⟨g,0,none⟩/\S g/\g<w.heap.size/\∀(i:Nat) (h:i<Gs.length),∃u,w.cell? ⟨g,i,none⟩=some u/\P u Gs[i]
def jk(w:World)(S:Nat->Prop):Nat->Value->Ru->Prop
 | 0,_,_=>False
 | n+1,v,G =>
  (∃b:Bool,v=.iface 239 (.agg #[.bool b])/\G=fun _=>b) \/
  (∃(ad:Q02) (cap:Nat) (fs:Q04),v=.iface 301 (.agg #[.slice ad fs.length cap])/\(fs=[] \/ ∃g,ad=some ⟨g,0,none⟩/\S g)/\Ao w ad fs/\(fs.length<=40/\(ad=none->cap=0))/\(∀x∈fs,x.fits)/\G=fun K=>fs.any K) \/
  (∃(ad:Q02) (cap:Nat) (Gs:List Ru),v=.iface 304 (.agg #[.slice ad Gs.length cap])/\Gs.length<=5/\O9 w S (jk w S n) ad Gs/\G=fun K=>Gs.any fun H=>H K) \/
  (∃(ad:Q02) (cap:Nat) (Gs:List Ru),v=.iface 306 (.agg #[.slice ad Gs.length cap])/\Gs.length<=5/\O9 w S (jk w S n) ad Gs/\G=fun K=>Gs.all fun H=>H K)
theorem Ao.blockF{w w':af}{ad:Q02}{fs:Q04}(h:Ao w ad fs)(hs:w.heap.size<=w'.heap.size)(hz:fs≠[]->∃g,ad=some ⟨g,0,none⟩/\(g<w.heap.size->w'.heap[g]?=w.heap[g]?)):Ao w' ad fs:=by
 by_cases hx:fs=[]
 ·exact .inl hx
 rcases h with h|⟨b,off,e,hb,hr⟩
 ·exact absurd h hx
 obtain⟨g,e2,hg⟩:=hz hx;rw[e]at e2;injection e2 with e2;injection e2 with e2 e3;subst e2;exact .inr ⟨b,off,e,WJ hb hs,fun i hi=>(hr i hi).same fun o=>WX (w:=w) (a:=⟨b,o,none⟩) (hg hb)⟩
theorem jk.keep{w w':af}{S T:Nat->Prop}(hs:w.heap.size<=w'.heap.size)(hk:∀g,S g->g<w.heap.size->T g/\w'.heap[g]?=w.heap[g]?):∀(n:Nat) (v:Value) (G:Ru),jk w S n v G->jk w' T n v G
 | 0,_,_,h=>h
 | n+1,v,G,h=>by
  have row:∀{ad:Q02} {Gs:List Ru},O9 w S (jk w S n) ad Gs->O9 w' T (jk w' T n) ad Gs:=fun {ad Gs} h=>by
   rcases h with h|⟨g,e,h1,h2,h3⟩
   ·exact .inl h
   obtain⟨k1,k2⟩:=hk g h1 h2;refine .inr ⟨g,e,k1,WJ h2 hs,fun i hi=>?_⟩;obtain⟨u,hu,hp⟩:=h3 i hi;exact⟨u,(WX (w:=w) (a:=⟨g,i,none⟩) k2).trans hu,jk.keep hs hk n u _ hp⟩
  rcases h with h|⟨ad,cap,fs,e,hz,h1,h2,h3,h4⟩|⟨ad,cap,Gs,e,h1,h2,h3⟩|⟨ad,cap,Gs,e,h1,h2,h3⟩
  ·exact .inl h
  ·refine .inr (.inl ⟨ad,cap,fs,e,?_,?_,h2,h3,h4⟩)
   ·rcases hz with hz|⟨g,e1,hg⟩
    ·exact .inl hz
    by_cases hx:fs=[]
    ·exact .inl hx
    rcases h1 with h1|⟨b,off,e2,hb,-⟩
    ·exact absurd h1 hx
    rw[e1]at e2;injection e2 with e2;injection e2 with e2 e3;exact .inr ⟨g,e1,(hk g hg (by omega)).1⟩
   refine h1.blockF hs fun hne=>?_;rcases hz with hz|⟨g,e1,hg⟩
   ·exact absurd hz hne
   exact⟨g,e1,fun hl=>(hk g hg hl).2⟩
  ·exact .inr (.inr (.inl ⟨ad,cap,Gs,e,h1,row h2,h3⟩))
  exact .inr (.inr (.inr ⟨ad,cap,Gs,e,h1,row h2,h3⟩))
theorem jk.below{w w':af}{S:Nat->Prop}{n:Nat}{v:Value}{G:Ru}(h:jk w S n v G)(hb:ag w w'):jk w' S n v G:=jk.keep hb.size (fun g h1 h2=>⟨h1,hb.block g h2⟩) n v G h
theorem jk.more{w:af}{S:Nat->Prop}:∀(n:Nat) (v:Value) (G:Ru),jk w S n v G->jk w S (n+1) v G
 | 0,_,_,h=>h.elim
 | n+1,v,G,h=>by
  have row:∀{ad:Q02} {Gs:List Ru},O9 w S (jk w S n) ad Gs->O9 w S (jk w S (n+1)) ad Gs:=fun {ad Gs} h=>by
   rcases h with h|⟨g,e,h1,h2,h3⟩
   ·exact .inl h
   refine .inr ⟨g,e,h1,h2,fun i hi=>?_⟩;obtain⟨u,hu,hp⟩:=h3 i hi;exact⟨u,hu,jk.more n u _ hp⟩
  rcases h with h|h|⟨ad,cap,Gs,e,h1,h2,h3⟩|⟨ad,cap,Gs,e,h1,h2,h3⟩
  ·exact .inl h
  ·exact .inr (.inl h)
  ·exact .inr (.inr (.inl ⟨ad,cap,Gs,e,h1,row h2,h3⟩))
  exact .inr (.inr (.inr ⟨ad,cap,Gs,e,h1,row h2,h3⟩))
theorem jk.up{w:af}{S:Nat->Prop}{v:Value}{G:Ru}{n m:Nat}(h:jk w S n v G)(hm:n<=m):jk w S m v G:=by
 induction m with
 | zero =>
  have e:n=0:=by omega
  rw[e]at h;exact h
 | succ m ih =>
  by_cases e:n=m+1
  ·rw[<-e];exact h
  exact jk.more m v G (ih (by omega))
structure PrM(w:World)(P D:Nat)(adF:Q02)(YJ:Nat)(out:Q04)(bK nK:Nat):Prop where
 lt:P<w.heap.size
 c0:w.cell? ⟨P,0,none⟩=some (.pointer (some ⟨D,0,none⟩))
 c1:w.cell? ⟨P,1,none⟩=some (.slice adF out.length YJ)
 c2:w.cell? ⟨P,2,none⟩=some (.map (some bK))
 found:Ao w adF out
 set:aN oH prog 52 w bK nK (De out)
theorem PrM.below{w w':af}{P D:Nat}{adF:Q02}{YJ:Nat}{out:Q04}{bK nK:Nat}(h:PrM w P D adF YJ out bK nK)(hb:ag w w'):PrM w' P D adF YJ out bK nK :=
 ⟨WJ h.lt hb.size,iH hb h.lt h.c0,iH hb h.lt h.c1,iH hb h.lt h.c2,h.found.below hb,h.set.below hb⟩
section
variable  {w:World}{rs:Q06}{P D br bp bt bK nK:Nat}{n1:Int}{nr:Nat}{Mr:KL->Option Value}{Er:List (KL×RR)}{ts:Q05}{xo xu:Q0a}{np:Nat}{Mp:K3->Option Value}{vo vu:Value}{out:Q04}{f:Fc}{adF:Q02}{YJ:Nat}
end
end Go.Proofs.YtojjoblnpldniaaGreat
