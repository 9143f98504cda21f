/- Types in memory: another name of the first one; another kind of the first node of its first relation. -/
import Derived.Test.YtojjoblnpldniaaGreatSq
import Derived.Test.YtojjoblnpldniaaGreatJ9
import Derived.Test.YtojjoblnpldniaaGreatJ7
import Derived.Test.YtojjoblnpldniaaGreatJ5
import Derived.Sort.Grow
import Derived.Test.YtojjoblnpldniaaGreatShelfS
open Go.Proofs.Tryz
set_option maxHeartbeats 80000000
namespace Go.Proofs.YtojjoblnpldniaaGreat
set_option maxRecDepth 100000
set_option linter.unusedVariables false
open ChangeShapes WideShapes ChangeAt RowKit
open Pl
section
variable  {α:Type}{T:TypeId}{size:Nat}{cells:α->List Value}{K:World->Nat->α->Prop}{I:α->Nat->Prop}{w w':World}{base:Nat}{v:Value}
theorem Bq{q q':α}{rs:List α}(hI:∀g,I q' g->I q g)(h:∀(x y:Nat) (hx:x<(q::rs).length) (hy:y<(q::rs).length),x≠y->∀g,I (q::rs)[x] g->¬I (q::rs)[y] g):
  ∀(x y:Nat) (hx:x<(q'::rs).length) (hy:y<(q'::rs).length),x≠y->∀g,I (q'::rs)[x] g->¬I (q'::rs)[y] g:=by
 intro x y hx hy hxy g h1 h2;cases x with
 | zero =>
  cases y with
  | zero=>exact hxy rfl
  | succ y=>exact h 0 (y+1) (by simp) (by simpa using hy) (by omega) g (hI g h1) h2
 | succ x =>
  cases y with
  | zero=>exact h (x+1) 0 (by simpa using hx) (by simp) (by omega) g h1 (hI g h2)
  | succ y=>exact h (x+1) (y+1) (by simpa using hx) (by simpa using hy) hxy g h1 h2
theorem WP.first(kd:Kid K I){q q':α}{rs:List α}{b n cap j:Nat}{u:Value}(h:WP T size cells K I w base (.slice (some ⟨b,0,none⟩) n cap) (q::rs))(hn:n=rs.length+1)
  (hq':∀w,K w base q->K w base q') (hI:∀g,I q' g->I q g) (hset:((q::rs).flatMap cells).set j u=(q'::rs).flatMap cells) :
  WP T size cells K I (w.setCell ⟨b,j,none⟩ u) base (.slice (some ⟨b,0,none⟩) n cap) (q'::rs):=by
 have own1:w.ownsRow base T size (.slice (some ⟨b,0,none⟩) n cap) n ((q::rs).flatMap cells):=by have:=h.own;rwa [show(q::rs).length=n by simp[hn]]at this
 obtain⟨ZY,hg2⟩:=own1.stored j u;rw[hset]at ZY;have hne:∀p∈q::rs,∀g,I p g->g≠b:=fun p hp g hi e=>h.head p hp g hi (by rw[e];rfl);have keep:∀p∈q::rs,K (w.setCell ⟨b,j,none⟩ u) base p:=fun p hp=>kd.heap w _ base p (h.kid p hp) hg2.size fun g hi=>Below.heap_setCell w _ u g (hne p hp g hi);refine⟨by simpa[hn] using ZY,fun p hp=>?_,fun p hp g hi=>?_,Bq hI h.two⟩
 ·rcases VL.1 hp with rfl|hp
  ·exact hq' _ (keep q (by simp))
  exact keep p (by simp[hp])
 rcases VL.1 hp with rfl|hp
 ·exact h.head q (by simp) g (hI g hi)
 exact h.head p (by simp[hp]) g hi
theorem WP.firstIn(kd:Kid K I){q q':α}{rs:List α}(h:WP T size cells K I w base v (q::rs))(hs:w.heap.size<=w'.heap.size)(hh:∀g,¬I q g->w'.heap[g]?=w.heap[g]?)(hc:cells q'=cells q)(hk:K w' base q')(hI:∀g,I q' g->I q g):
  WP T size cells K I w' base v (q'::rs):=by
 refine⟨?_,fun p hp=>?_,fun p hp g hi=>?_,Bq hI h.two⟩
 ·have h1:=bF (w':=w') h.own fun g hg=>hh g fun hi=>h.head q (by simp) g hi hg;simpa[List.flatMap_cons,hc] using h1
 ·rcases VL.1 hp with rfl|hp
  ·exact hk
  refine kd.heap w w' base p (h.kid p (by simp[hp])) hs fun g hi=>hh g fun hq=>?_;obtain⟨i,hi2,rfl⟩:=V4 hp;exact h.two 0 (i+1) (by simp) (by simp;omega) (by omega) g hq hi
 rcases VL.1 hp with rfl|hp
 ·exact h.head q (by simp) g (hI g hi)
 exact h.head p (by simp[hp]) g hi
end
def ER.asK(x:ER)(k:Int):ER:={ x with e:={ x.e with kind:=k } }
theorem NodM.kind{w:af}{base b n cap:Nat}{x:ER}{xs:Q08}(k:Int)(h:NodM w base (.slice (some ⟨b,0,none⟩) n cap) (x::xs))(hn:n=xs.length+1):NodM (w.setCell ⟨b,0,none⟩ (.int .i64 k)) base (.slice (some ⟨b,0,none⟩) n cap) (x.asK k::xs):=by
 have own1:w.ownsRow base 43 5 (.slice (some ⟨b,0,none⟩) n cap) n (eD (x::xs)):=by have:=h.own;rwa [show(x::xs).length=n by simp[hn]]at this
 obtain⟨ZY,hg2⟩:=own1.stored 0 (.int .i64 k);have hset:(eD (x::xs)).set 0 (.int .i64 k)=eD (x.asK k::xs):=by simp[eD,ER.row,ER.asK]
 rw[hset]at ZY;have hb:∀q∈x::xs,∀g,pU q g->g≠b:=fun q hq g hg e=>(h.lie q hq g hg).2.2.2 (by rw[e];rfl);have hsame:∀g,g≠b->(w.setCell ⟨b,0,none⟩ (.int .i64 k)).heap[g]?=w.heap[g]?:=fun g hg=>Below.heap_setCell w _ _ g hg;have hall:∀{P:ER->Prop},(∀q∈x::xs,P q)->(P x->P (x.asK k))->∀q∈x.asK k::xs,P q:=fun hP hx q hq=>by
  rcases VL.1 hq with rfl|hq
  ·exact hx (hP x (by simp))
  exact hP q (by simp[hq])
 refine ⟨by simpa [hn] using ZY,hall h.zA id,hall h.zK id,hall (P:=fun q=>q.ok _) (fun q hq=>pV (h.ok q hq) hg2.size (h.zA q hq) (h.zK q hq) fun g hg=>hsame g (hb q hq g hg)) id,hall (P:=fun q=>∀ g,pU q g->base<=g/\g<(w.setCell ⟨b,0,none⟩ (.int .i64 k)).heap.size/\j6 (w.setCell ⟨b,0,none⟩ (.int .i64 k)) g/\_) (fun q hq g hg=>by
  obtain⟨a1,a2,a3,a4⟩:=h.lie q hq g hg;exact⟨a1,Vt a2 hg2.size,bR a3 (hsame g (hb q hq g hg)),a4⟩) id,hall h.one id,?_,hall h.cA id⟩
 exact Bq (I:=pU) (q:=x) (q':=x.asK k) (fun g hg=>hg) h.two
theorem eZ.named{w:af}{base b n cap:Nat}{t:TR}{ts:Q06}(nm:bi)(h:eZ w base (.slice (some ⟨b,0,none⟩) n cap) (t::ts))(hn:n=ts.length+1):eZ (w.setCell ⟨b,0,none⟩ (.string nm)) base (.slice (some ⟨b,0,none⟩) n cap) (({ t with name:=nm }:TR)::ts) :=
 WP.first ko h hn (fun w hk=>hk) (fun g hg=>hg) (by simp[TR.cells,TR.vs])
def TR.asK(t:TR)(q:RR)(qs:Q07)(x:ER)(xs:Q08)(k:Int):TR:={ t with rows:={ q with rows:=x.asK k::xs }::qs }
theorem eZ.kind{w:af}{base b:Nat}{v:Value}{t:TR}{ts:Q06}{q:RR}{qs:Q07}{x:ER}{xs:Q08}(k:Int)(h:eZ w base v (t::ts))(ht:t.rows=q::qs)(hq:q.rows=x::xs)(hb:q.ad=some ⟨b,0,none⟩):
  eZ (w.setCell ⟨b,0,none⟩ (.int .i64 k)) base v (t.asK q qs x xs k::ts):=by
 have hkt:=h.kid t (by simp);have hR:jX w base t.vs (q::qs):=by have:=hkt;unfold kT at this;rwa [ht]at this
 have hkq:=hR.kid q (by simp);have hN:NodM w base q.vs (x::xs):=by have:=hkq;unfold kR at this;rwa [hq]at this
 have hvq:q.vs=.slice (some ⟨b,0,none⟩) (xs.length+1) q.cap:=by unfold RR.vs;rw[hb,hq];rfl
 rw[hvq]at hN;have hN2:=hN.kind k rfl;have hsz:w.heap.size<=(w.setCell ⟨b,0,none⟩ (.int .i64 k)).heap.size:=by simp
 have hsame:∀g,g≠b->(w.setCell ⟨b,0,none⟩ (.int .i64 k)).heap[g]?=w.heap[g]?:=fun g hg=>Below.heap_setCell w _ _ g hg;have hib:iR q b:=.inl (by rw[hvq];rfl);have hvq2:({ q with rows:=x.asK k::xs }:RR).vs=q.vs:=by unfold RR.vs;rw[hq];rfl
 have ZV:∀g,iR { q with rows:=x.asK k::xs } g->iR q g:=fun g hg=>by
  rcases hg with hg|⟨y,hy,hg⟩
  ·exact .inl (by rw[<-hvq2];exact hg)
  rcases VL.1 hy with rfl|hy
  ·exact .inr ⟨x,by rw[hq];simp,hg⟩
  exact .inr ⟨y,by rw[hq];simp[hy],hg⟩
 have hR2:jX (w.setCell ⟨b,0,none⟩ (.int .i64 k)) base t.vs ({ q with rows:=x.asK k::xs }::qs):=WP.firstIn qF hR hsz (fun g hg=>hsame g fun e=>hg (by rw[e];exact hib)) (by unfold RR.cells;rw[hvq2]) (by show NodM _ _ _ _;rw[hvq2,hvq];exact hN2) ZV;have hvt:(t.asK q qs x xs k).vs=t.vs:=by unfold TR.vs TR.asK;rw[ht];rfl
 have hit:iT t b:=.inr ⟨q,by rw[ht];simp,hib⟩;refine WP.firstIn ko h hsz (fun g hg=>hsame g fun e=>hg (by rw[e];exact hit)) (by unfold TR.cells;rw[hvt];rfl) (by show jX _ _ _ _;rw[hvt];exact hR2) fun g hg=>?_;rcases hg with hg|⟨y,hy,hg⟩
 ·exact .inl (by rw[<-hvt];exact hg)
 rcases VL.1 hy with rfl|hy
 ·exact .inr ⟨q,by rw[ht];simp,ZV g hg⟩
 exact .inr ⟨y,by rw[ht];simp[hy],hg⟩
open Maps
set_option maxRecDepth 8000 in
theorem NA(b off cap:Nat)(ts:Q05)(t:Tp)(w:af)(hlen:ts.length<=1000)(hcap:ts.length<=cap)(hs:lh w b off ts)(hb:b<w.heap.size)(hf:∀x∈ts,x.fits)(ht:t.fits):
  Calls prog 132 #[.slice (some ⟨b,off,none⟩) ts.length cap,.agg #[.string t.a,.string t.b,.string t.r,.string t.c,.string t.d,.string t.s]] w fun e w'=>∃v:Value,e=.returned v/\w'.ownsRow w.heap.size 29 6 v (jW ts t).length (bq (jW ts t))/\ag w w':=by
 obtain⟨iT,Zg,Zh,Zi,Zj⟩:=info_parts (P:=prog) (e:=29) (z:=.agg #[.string ⟨#[]⟩,.string ⟨#[]⟩,.string ⟨#[]⟩,.string ⟨#[]⟩,.string ⟨#[]⟩,.string ⟨#[]⟩]) (size:=6) (bytes:=96) (by kernel_rfl);have HIT:Hid (prog.info? 29=some iT/\iT.zero=some (.agg #[.string ⟨#[]⟩,.string ⟨#[]⟩,.string ⟨#[]⟩,.string ⟨#[]⟩,.string ⟨#[]⟩,.string ⟨#[]⟩])/\iT.size=6/\iT.bytes=96):=⟨Zg,Zh,Zi,Zj⟩;have HS:=az hs;have HF:=az hf;have HT:Hid t.fits:=ht;clear hs hf ht Zg Zh Zi Zj;obtain⟨W0,hW0⟩:=eQx (w.alloc (.cells #[.string t.a,.string t.b,.string t.r,.string t.c,.string t.d,.string t.s] 29));have HB0:=qC hW0;have HX0:Hid (wZ W0 w.heap.size t):=by show wZ _ _ _;rw[hW0];exact EX w t _
 go_enter func132,ntmps132;go_wp2;rw[<-hW0];clear hW0;go_loopw[5] (fun i wr=>∃k:Nat,k<=ts.length/\i=.int .i64 k/\Hid (∀i (h:i<ts.length),i<k->ts[i].ahead t=true)/\Hid (ag w wr)/\Hid (wZ wr w.heap.size t)) (fun i _=>ts.length-(intOf i).toNat);case atStart=>exact⟨0,Vy _,rfl,fun i h hi=>by omega,HB0,HX0⟩
 clear HX0 HB0;obtain⟨k,hk,rfl,HU,HB,HX⟩:=hrel;have hk1:=bI k;by_cases hlt:k<ts.length
 ·have hk2:(k:Int)<(ts.length:Int):=by omega
  obtain⟨t0,t1,t2,t3,t4,t5⟩:=(HS.out.below HB.out hb) k hlt;obtain⟨x0,x1,x2,x3,x4,x5,xl⟩:=HX.out;have hbr:b<wr.heap.size:=Vt hb HB.out.size;obtain⟨f0,f1,f2,f3,f4,f5⟩:=HF.out _ (Vs hlt);obtain⟨e0,e1,e2,e3,e4,e5⟩:=HT.out;have HA:Hid (∀W,Calls prog 199 #[.agg #[.string ts[k].a,.string ts[k].b,.string ts[k].r,.string ts[k].c,.string ts[k].d,.string ts[k].s],.agg #[.string t.a,.string t.b,.string t.r,.string t.c,.string t.d,.string t.s]] W fun e w'=>e=.returned (.bool (ts[k].ahead t))/\ag W w'):=fun W=>tu _ _ _ _ _ _ _ _ _ _ _ _ W f0 f1 f2 f3 f4 f5 e0 e1 e2 e3 e4 e5;clear f0 f1 f2 f3 f4 f5 e0 e1 e2 e3 e4 e5;have H0:wr.drew.cell? ⟨b,off+k*6,none⟩=some (.string ts[k].a)/\wr.drew.cell? ⟨b,off+k*6+1,none⟩=some (.string ts[k].b)/\wr.drew.cell? ⟨b,off+k*6+2,none⟩=some (.string ts[k].r)/\wr.drew.cell? ⟨b,off+k*6+3,none⟩=some (.string ts[k].c)/\wr.drew.cell? ⟨b,off+k*6+4,none⟩=some (.string ts[k].d)/\wr.drew.cell? ⟨b,off+k*6+5,none⟩=some (.string ts[k].s)/\wr.drew.cell? ⟨w.heap.size,0,none⟩=some (.string t.a)/\wr.drew.cell? ⟨w.heap.size,1,none⟩=some (.string t.b)/\wr.drew.cell? ⟨w.heap.size,2,none⟩=some (.string t.r)/\wr.drew.cell? ⟨w.heap.size,3,none⟩=some (.string t.c)/\wr.drew.cell? ⟨w.heap.size,4,none⟩=some (.string t.d)/\wr.drew.cell? ⟨w.heap.size,5,none⟩=some (.string t.s)/\b<wr.drew.heap.size/\w.heap.size<wr.drew.heap.size/\ag w wr.drew:=⟨t0,t1,t2,t3,t4,t5,x0,x1,x2,x3,x4,x5,hbr,xl,HB.out.drew⟩;clear t0 t1 t2 t3 t4 t5 x0 x1 x2 x3 x4 x5;generalize hq:ts[k].ahead t=q at HA;cases q;case true=>
   have HQ:Hid (ts[k].ahead t=true):=hq;clear hq;go_wp2_with fail
   go_region_held3 (fun w'=>w'.cell? ⟨b,off+k*6,none⟩=some (.string ts[k].a)/\w'.cell? ⟨b,off+k*6+1,none⟩=some (.string ts[k].b)/\w'.cell? ⟨b,off+k*6+2,none⟩=some (.string ts[k].r)/\w'.cell? ⟨b,off+k*6+3,none⟩=some (.string ts[k].c)/\w'.cell? ⟨b,off+k*6+4,none⟩=some (.string ts[k].d)/\w'.cell? ⟨b,off+k*6+5,none⟩=some (.string ts[k].s)/\w'.cell? ⟨w.heap.size,0,none⟩=some (.string t.a)/\w'.cell? ⟨w.heap.size,1,none⟩=some (.string t.b)/\w'.cell? ⟨w.heap.size,2,none⟩=some (.string t.r)/\w'.cell? ⟨w.heap.size,3,none⟩=some (.string t.c)/\w'.cell? ⟨w.heap.size,4,none⟩=some (.string t.d)/\w'.cell? ⟨w.heap.size,5,none⟩=some (.string t.s)/\b<w'.heap.size/\w.heap.size<w'.heap.size/\ag w w')
    (first|assumption|exact LM (by assumption) hbx|exact H0)
    (first|(go_at_call 199;refine(HA.out _).mono ?_;rintro e w' ⟨rfl,hbx⟩))
   rename_i hH;obtain⟨-,-,-,-,-,-,x0,x1,x2,x3,x4,x5,-,xl,gB⟩:=hH;have HB2:=dG gB;have ZG:=dG (PN x0 x1 x2 x3 x4 x5 xl);have HU2:Hid (∀i (h:i<ts.length),i<k+1->ts[i].ahead t=true):=fun i h hi=>by
    by_cases e:i=k
    ·subst e;exact HQ.out
    exact HU.out i h (by omega)
   clear x0 x1 x2 x3 x4 x5 gB hbx H0 HA HQ HU HB HX;go_wp2;go_roundw;case rel=>exact⟨k+1,by omega,by go_num,HU2,HB2,ZG⟩
   simp[intOf]<;>omega
  have HQ:Hid (ts[k].ahead t=false):=hq;clear hq;go_wp2_with fail
  go_region_held3 (fun w'=>w'.cell? ⟨b,off+k*6,none⟩=some (.string ts[k].a)/\w'.cell? ⟨b,off+k*6+1,none⟩=some (.string ts[k].b)/\w'.cell? ⟨b,off+k*6+2,none⟩=some (.string ts[k].r)/\w'.cell? ⟨b,off+k*6+3,none⟩=some (.string ts[k].c)/\w'.cell? ⟨b,off+k*6+4,none⟩=some (.string ts[k].d)/\w'.cell? ⟨b,off+k*6+5,none⟩=some (.string ts[k].s)/\w'.cell? ⟨w.heap.size,0,none⟩=some (.string t.a)/\w'.cell? ⟨w.heap.size,1,none⟩=some (.string t.b)/\w'.cell? ⟨w.heap.size,2,none⟩=some (.string t.r)/\w'.cell? ⟨w.heap.size,3,none⟩=some (.string t.c)/\w'.cell? ⟨w.heap.size,4,none⟩=some (.string t.d)/\w'.cell? ⟨w.heap.size,5,none⟩=some (.string t.s)/\b<w'.heap.size/\w.heap.size<w'.heap.size/\ag w w')
   (first|assumption|exact LM (by assumption) hbx|exact H0)
   (first|(go_at_call 199;refine(HA.out _).mono ?_;rintro e w' ⟨rfl,hbx⟩))
  rename_i hH;obtain⟨-,-,-,-,-,-,x0,x1,x2,x3,x4,x5,-,xl,gB⟩:=hH;have HP:=dG (LJ ts t k hk HU.out (fun _=>HQ.out));have WS:=dG gB;have HXW:=dG (PN x0 x1 x2 x3 x4 x5 xl);clear hbx H0 HA HQ HU HB HX gB x0 x1 x2 x3 x4 x5;obtain⟨W1,hW1⟩:=eQx (w'.alloc (.cells #[] 29));have HLIT:Hid (W1.ownsRow w'.heap.size 29 6 (.slice (some ⟨w'.heap.size,0,none⟩) 0 0) 0 []):=by
   show World.ownsRow _ _ _ _ _ _ _;rw[hW1];exact World.ownsRow_lit w' #[] 0 (Vu _) (by unfold maxLen;omega) (by simp)
  have YU:=qC hW1;have HR1:Hid (lh W1 b off ts):=(HS.out.below WS.out hb).below YU.out (Vt hb WS.out.size);have Ym:=az (HXW.out.below YU.out);have HB1:Hid (ag w W1):=WS.out.trans (YU.out.mono WS.out.size);have hWs:w.heap.size<w'.heap.size:=HXW.out.2.2.2.2.2.2;have hb1:b<W1.heap.size:=Vt hb HB1.out.size;have hkc:k<=cap:=by omega
  have hz1:w'.heap.size<=W1.heap.size:=YU.out.size;clear WS HXW YU;go_wp2_with(at_builtin;rw[<-hW1];clear hW1;refine wpList_append_own_at _ rfl _ _ 25 rfl w'.heap.size 29 iT (.agg #[.string ⟨#[]⟩,.string ⟨#[]⟩,.string ⟨#[]⟩,.string ⟨#[]⟩,.string ⟨#[]⟩,.string ⟨#[]⟩]) 6 96 underlying25 HIT.out.1 HIT.out.2.1 HIT.out.2.2.1 HIT.out.2.2.2 rfl (by decide) _ 0 [] rfl HLIT.out ⟨b,off,none⟩ k cap (bq (ts.take k)) rfl (by rw[jC,V9];congr 1;omega) (uD (Dt HR1.out k)) (r9 _) (by unfold maxLen;omega) (by omega) hz1 ?_);intro v2 w2 hown2 WZ _ _;have WY:Hid (w2.ownsRow w'.heap.size 29 6 v2 k (bq (ts.take k))):=by
   show World.ownsRow _ _ _ _ _ _ _
   first|exact hown2|(rw[VW,WK]at hown2;exact hown2)
  have hne:some w.heap.size≠Value.ownBlock (.slice (some ⟨w'.heap.size,0,none⟩) 0 0):=fun e=>by simp[Value.ownBlock]at e;omega
  have hnb:some b≠Value.ownBlock (.slice (some ⟨w'.heap.size,0,none⟩) 0 0):=fun e=>by simp[Value.ownBlock]at e;omega
  have ZG:Hid (wZ w2 w.heap.size t):=Ym.out.grown WZ hne;have HR2:Hid (lh w2 b off ts):=pQ HR1.out WZ hb1 hnb;have HB2:Hid (ag w w2):=HB1.out.grown WZ HB1.out.size (fun g hg=>by simp[Value.ownBlock]at hg;omega);have hz2:w'.heap.size<=w2.heap.size:=Vz hz1 WZ.size;clear hown2 WZ HLIT Ym HR1 HB1 hne hnb;obtain⟨x0,x1,x2,x3,x4,x5,xl2⟩:=ZG.out;obtain⟨W3,hW3⟩:=eQx (w2.alloc (.cells #[.string t.a,.string t.b,.string t.r,.string t.c,.string t.d,.string t.s] 29));have Xv:Hid (W3.ownsRow w'.heap.size 29 6 v2 k (bq (ts.take k))):=by show World.ownsRow _ _ _ _ _ _ _;rw[hW3];exact WY.out.alloc _
  have XM:Hid (∀j u,t.row[j]?=some u->W3.cell? ((⟨w2.heap.size,0,none⟩:Addr).add j)=some u):=by show ∀j u,_;rw[hW3];exact xC w2 t
  have ZB:=qC hW3;have HB3:Hid (ag w W3):=HB2.out.trans (ZB.out.mono HB2.out.size);have HR3:Hid (lh W3 b off ts):=HR2.out.below ZB.out (Vt hb HB2.out.size);have hz3:w'.heap.size<=W3.heap.size:=Vz hz2 ZB.out.size;have hb3:b<W3.heap.size:=Vt hb HB3.out.size;clear ZB HB2 HR2 ZG hb1 hz1 hz2;go_wp2_with(at_builtin;rw[<-hW3];clear hW3;refine wpList_append_own_at _ rfl _ _ 25 rfl w'.heap.size 29 iT (.agg #[.string ⟨#[]⟩,.string ⟨#[]⟩,.string ⟨#[]⟩,.string ⟨#[]⟩,.string ⟨#[]⟩,.string ⟨#[]⟩]) 6 96 underlying25 HIT.out.1 HIT.out.2.1 HIT.out.2.2.1 HIT.out.2.2.2 rfl (by decide) v2 k (bq (ts.take k)) rfl Xv.out ⟨w2.heap.size,0,none⟩ 1 1 t.row rfl rfl XM.out (vH _) (by unfold maxLen;omega) (by omega) hz3 ?_);intro v4 w4 Xj Xx _ _;have hnb:some b≠v2.ownBlock:=fun e=>by have:=(WY.out.lt b e.symm).1;omega
  have HR4:Hid (lh w4 b off ts):=pQ HR3.out Xx hb3 hnb;have XJ:Hid (ag w w4):=HB3.out.grown Xx HB3.out.size (fun g hg=>by have:=(WY.out.lt g hg).1;omega);have Xr:=az Xj;have hz4:w'.heap.size<=w4.heap.size:=Vz hz3 Xx.size;clear Xj Xx Xv WY XM HB3 HR3 hb3 hz3 hnb x0 x1 x2 x3 x4 x5 xl2;have hdl:(ts.drop k).length=ts.length-k:=WG;clear hdl;go_wp2_with(at_builtin;refine wpList_append_own_at _ rfl _ _ 25 rfl w'.heap.size 29 iT (.agg #[.string ⟨#[]⟩,.string ⟨#[]⟩,.string ⟨#[]⟩,.string ⟨#[]⟩,.string ⟨#[]⟩,.string ⟨#[]⟩]) 6 96 underlying25 HIT.out.1 HIT.out.2.1 HIT.out.2.2.1 HIT.out.2.2.2 rfl (by decide) v4 (k+1) (bq (ts.take k)++t.row) rfl Xr.out ⟨b,off+k*6,none⟩ (ts.length-k) (cap-k) (bq (ts.drop k)) rfl (by rw[jC,WG]) (uD (MS HR4.out k)) (r9 _) (by unfold maxLen;omega) (by omega) hz4 ?_);intro v5 w5 hown5 hgr5 _ _;have Xg:Hid (ag w w5):=XJ.out.grown hgr5 XJ.out.size (fun g hg=>by have:=(Xr.out.lt g hg).1;omega);have hlp:(jW ts t).length=k+1+(ts.length-k):=by rw[HP.out];simp;omega
  have hown6:w5.ownsRow w'.heap.size 29 6 v5 (jW ts t).length (bq (jW ts t)):=by
   rw[hlp,HP.out,show ts.take k++t::ts.drop k=(ts.take k++[t])++ts.drop k by simp,vL,uz];first|exact hown5|(rw[VY];exact hown5)
  have Yy:=dG (fI hown6 (Nat.le_of_lt hWs));clear hown5 hown6 hgr5 hlp;go_wp2;go_ret;exact⟨v5,rfl,Yy.out,Xg.out⟩
 have hd:decide ((k:Int)<(ts.length:Int))=false:=by simp;omega
 go_wp2_with fail;go_quiet (fail);have HP:=dG (LJ ts t k hk HU.out (fun h=>absurd h hlt));obtain⟨W9,YF⟩:∃W9,wr.drewN nq=W9:=⟨_,rfl⟩;have WS:Hid (ag w W9):=by show Below _ _ _;rw[<-YF];exact⟨HB.out.os,HB.out.tape,HB.out.output,HB.out.size,HB.out.block⟩
 have HXW:Hid (wZ W9 w.heap.size t):=by show wZ _ _ _;rw[<-YF];exact HX.out
 rw[YF];clear YF HU HB HX hd;obtain⟨W1,hW1⟩:=eQx (W9.alloc (.cells #[] 29));have HLIT:Hid (W1.ownsRow W9.heap.size 29 6 (.slice (some ⟨W9.heap.size,0,none⟩) 0 0) 0 []):=by
  show World.ownsRow _ _ _ _ _ _ _;rw[hW1];exact World.ownsRow_lit W9 #[] 0 (Vu _) (by unfold maxLen;omega) (by simp)
 have YU:=qC hW1;have HR1:Hid (lh W1 b off ts):=(HS.out.below WS.out hb).below YU.out (Vt hb WS.out.size);have Ym:=az (HXW.out.below YU.out);have HB1:Hid (ag w W1):=WS.out.trans (YU.out.mono WS.out.size);have hWs:w.heap.size<W9.heap.size:=HXW.out.2.2.2.2.2.2;have hb1:b<W1.heap.size:=Vt hb HB1.out.size;have hkc:k<=cap:=by omega
 have hz1:W9.heap.size<=W1.heap.size:=YU.out.size;clear WS HXW YU;go_wp2_with(at_builtin;rw[<-hW1];clear hW1;refine wpList_append_own_at _ rfl _ _ 25 rfl W9.heap.size 29 iT (.agg #[.string ⟨#[]⟩,.string ⟨#[]⟩,.string ⟨#[]⟩,.string ⟨#[]⟩,.string ⟨#[]⟩,.string ⟨#[]⟩]) 6 96 underlying25 HIT.out.1 HIT.out.2.1 HIT.out.2.2.1 HIT.out.2.2.2 rfl (by decide) _ 0 [] rfl HLIT.out ⟨b,off,none⟩ k cap (bq (ts.take k)) rfl (by rw[jC,V9];congr 1;omega) (uD (Dt HR1.out k)) (r9 _) (by unfold maxLen;omega) (by omega) hz1 ?_);intro v2 w2 hown2 WZ _ _;have WY:Hid (w2.ownsRow W9.heap.size 29 6 v2 k (bq (ts.take k))):=by
  show World.ownsRow _ _ _ _ _ _ _
  first|exact hown2|(rw[VW,WK]at hown2;exact hown2)
 have hne:some w.heap.size≠Value.ownBlock (.slice (some ⟨W9.heap.size,0,none⟩) 0 0):=fun e=>by simp[Value.ownBlock]at e;omega
 have hnb:some b≠Value.ownBlock (.slice (some ⟨W9.heap.size,0,none⟩) 0 0):=fun e=>by simp[Value.ownBlock]at e;omega
 have ZG:Hid (wZ w2 w.heap.size t):=Ym.out.grown WZ hne;have HR2:Hid (lh w2 b off ts):=pQ HR1.out WZ hb1 hnb;have HB2:Hid (ag w w2):=HB1.out.grown WZ HB1.out.size (fun g hg=>by simp[Value.ownBlock]at hg;omega);have hz2:W9.heap.size<=w2.heap.size:=Vz hz1 WZ.size;clear hown2 WZ HLIT Ym HR1 HB1 hne hnb;obtain⟨x0,x1,x2,x3,x4,x5,xl2⟩:=ZG.out;obtain⟨W3,hW3⟩:=eQx (w2.alloc (.cells #[.string t.a,.string t.b,.string t.r,.string t.c,.string t.d,.string t.s] 29));have Xv:Hid (W3.ownsRow W9.heap.size 29 6 v2 k (bq (ts.take k))):=by show World.ownsRow _ _ _ _ _ _ _;rw[hW3];exact WY.out.alloc _
 have XM:Hid (∀j u,t.row[j]?=some u->W3.cell? ((⟨w2.heap.size,0,none⟩:Addr).add j)=some u):=by show ∀j u,_;rw[hW3];exact xC w2 t
 have ZB:=qC hW3;have HB3:Hid (ag w W3):=HB2.out.trans (ZB.out.mono HB2.out.size);have HR3:Hid (lh W3 b off ts):=HR2.out.below ZB.out (Vt hb HB2.out.size);have hz3:W9.heap.size<=W3.heap.size:=Vz hz2 ZB.out.size;have hb3:b<W3.heap.size:=Vt hb HB3.out.size;clear ZB HB2 HR2 ZG hb1 hz1 hz2;go_wp2_with(at_builtin;rw[<-hW3];clear hW3;refine wpList_append_own_at _ rfl _ _ 25 rfl W9.heap.size 29 iT (.agg #[.string ⟨#[]⟩,.string ⟨#[]⟩,.string ⟨#[]⟩,.string ⟨#[]⟩,.string ⟨#[]⟩,.string ⟨#[]⟩]) 6 96 underlying25 HIT.out.1 HIT.out.2.1 HIT.out.2.2.1 HIT.out.2.2.2 rfl (by decide) v2 k (bq (ts.take k)) rfl Xv.out ⟨w2.heap.size,0,none⟩ 1 1 t.row rfl rfl XM.out (vH _) (by unfold maxLen;omega) (by omega) hz3 ?_);intro v4 w4 Xj Xx _ _;have hnb:some b≠v2.ownBlock:=fun e=>by have:=(WY.out.lt b e.symm).1;omega
 have HR4:Hid (lh w4 b off ts):=pQ HR3.out Xx hb3 hnb;have XJ:Hid (ag w w4):=HB3.out.grown Xx HB3.out.size (fun g hg=>by have:=(WY.out.lt g hg).1;omega);have Xr:=az Xj;have hz4:W9.heap.size<=w4.heap.size:=Vz hz3 Xx.size;clear Xj Xx Xv WY XM HB3 HR3 hb3 hz3 hnb x0 x1 x2 x3 x4 x5 xl2;have hdl:(ts.drop k).length=ts.length-k:=WG;clear hdl;by_cases hce:cap=k
 all_goals
  go_wp2_with(at_builtin;refine wpList_append_own_at _ rfl _ _ 25 rfl W9.heap.size 29 iT (.agg #[.string ⟨#[]⟩,.string ⟨#[]⟩,.string ⟨#[]⟩,.string ⟨#[]⟩,.string ⟨#[]⟩,.string ⟨#[]⟩]) 6 96 underlying25 HIT.out.1 HIT.out.2.1 HIT.out.2.2.1 HIT.out.2.2.2 rfl (by decide) v4 (k+1) (bq (ts.take k)++t.row) rfl Xr.out _ (ts.length-k) _ (bq (ts.drop k)) rfl (by rw[jC,WG]) (MU (by omega) _ _) (r9 _) (by unfold maxLen;omega) (by omega) hz4 ?_);intro v5 w5 hown5 hgr5 _ _;have Xg:Hid (ag w w5):=XJ.out.grown hgr5 XJ.out.size (fun g hg=>by have:=(Xr.out.lt g hg).1;omega);have hlp:(jW ts t).length=k+1+(ts.length-k):=by rw[HP.out];simp;omega
  have hown6:w5.ownsRow W9.heap.size 29 6 v5 (jW ts t).length (bq (jW ts t)):=by
   rw[hlp,HP.out,show ts.take k++t::ts.drop k=(ts.take k++[t])++ts.drop k by simp,vL,uz];first|exact hown5|(rw[VY];exact hown5)
  have Yy:=dG (fI hown6 (Nat.le_of_lt hWs));clear hown5 hown6 hgr5 hlp;go_wp2;go_ret;exact⟨v5,rfl,Yy.out,Xg.out⟩
set_option maxRecDepth 8000 in
theorem NC(ad:Q02)(cap:Nat)(ts:Q05)(t:Tp)(w:af)(hlen:ts.length<=1048576)(hs:Sl w ad ts):
  Calls prog 131 #[.slice ad ts.length cap,.agg #[.string t.a,.string t.b,.string t.r,.string t.c,.string t.d,.string t.s]] w fun e w'=>e=.returned (.bool (xB ts t))/\ag w w':=by
 have HS:=az hs;clear hs;obtain⟨W0,hW0⟩:=eQx (w.alloc (.cells #[.string t.a,.string t.b,.string t.r,.string t.c,.string t.d,.string t.s] 29));have HB0:=qC hW0;have HX0:Hid (W0.cell? ⟨w.heap.size,0,none⟩=some (.string t.a)/\W0.cell? ⟨w.heap.size,1,none⟩=some (.string t.b)/\W0.cell? ⟨w.heap.size,2,none⟩=some (.string t.r)/\W0.cell? ⟨w.heap.size,3,none⟩=some (.string t.c)/\W0.cell? ⟨w.heap.size,4,none⟩=some (.string t.d)/\W0.cell? ⟨w.heap.size,5,none⟩=some (.string t.s)/\w.heap.size<W0.heap.size):=by show _/\_;rw[hW0];refine⟨?_,?_,?_,?_,?_,?_,?_⟩<;>simp
 go_enter func131,ntmps131;go_wp2;rw[<-hW0];clear hW0;go_loopw[5] (fun i wr=>∃k:Nat,k<=ts.length/\i=.int .i64 k/\Hid (xB (ts.drop k) t=xB ts t)/\Hid (ag W0 wr)) (fun i _=>ts.length-(intOf i).toNat);case atStart=>exact⟨0,Vy _,rfl,rfl,Vv _ _⟩
 obtain⟨k,hk,rfl,HP,HB⟩:=hrel;have WS:Hid (ag w wr):=HB0.out.trans (HB.out.mono HB0.out.size);by_cases hlt:k<ts.length
 ·rcases HS.out.below WS.out with hnil|⟨b,off,rfl,hb,hr⟩
  ·rw[hnil]at hlt;simp at hlt
  obtain⟨t0,t1,t2,t3,t4,t5⟩:=hr k hlt;have x0:=mK HB.out HX0.out.2.2.2.2.2.2 HX0.out.1;have x1:=mK HB.out HX0.out.2.2.2.2.2.2 HX0.out.2.1;have x2:=mK HB.out HX0.out.2.2.2.2.2.2 HX0.out.2.2.1;have x3:=mK HB.out HX0.out.2.2.2.2.2.2 HX0.out.2.2.2.1;have x4:=mK HB.out HX0.out.2.2.2.2.2.2 HX0.out.2.2.2.2.1;have x5:=mK HB.out HX0.out.2.2.2.2.2.2 HX0.out.2.2.2.2.2.1;have hk1:=bI k;have hk2:(k:Int)<(ts.length:Int):=by omega
  have HD:Hid (xB ts t=(MK ts[k] t || xB (ts.drop (k+1)) t)):=by show _=_;rw[<-HP.out];exact MM hlt
  clear hr;cases hq:MK ts[k] t;case true=>
   have heq:=Pz ts[k] t hq;have HN:Hid (xB ts t=true):=by show _=_;rw[HD.out,hq];rfl
   clear hq;go_wp2_with fail;go_region_held3 (fun w'=>w'.cell? ⟨b,off+k*6,none⟩=some (.string ts[k].a)/\w'.cell? ⟨b,off+k*6+1,none⟩=some (.string ts[k].b)/\w'.cell? ⟨b,off+k*6+2,none⟩=some (.string ts[k].r)/\w'.cell? ⟨b,off+k*6+3,none⟩=some (.string ts[k].c)/\w'.cell? ⟨b,off+k*6+4,none⟩=some (.string ts[k].d)/\w'.cell? ⟨b,off+k*6+5,none⟩=some (.string ts[k].s)/\w'.cell? ⟨w.heap.size,0,none⟩=some (.string t.a)/\w'.cell? ⟨w.heap.size,1,none⟩=some (.string t.b)/\w'.cell? ⟨w.heap.size,2,none⟩=some (.string t.r)/\w'.cell? ⟨w.heap.size,3,none⟩=some (.string t.c)/\w'.cell? ⟨w.heap.size,4,none⟩=some (.string t.d)/\w'.cell? ⟨w.heap.size,5,none⟩=some (.string t.s)/\ag wr w') (first|assumption|exact⟨t0,t1,t2,t3,t4,t5,x0,x1,x2,x3,x4,x5,(Vv _ _).drew⟩) (fail);rename_i hH;have HG:Hid (ag wr _):=hH.2.2.2.2.2.2.2.2.2.2.2.2;clear hH t0 t1 t2 t3 t4 t5 x0 x1 x2 x3 x4 x5 heq;go_wp2;go_ret;exact⟨by rw[HN.out];rfl,WS.out.trans (HG.out.mono WS.out.size)⟩
  have heq:=Pz ts[k] t hq;have WQ:Hid (xB (ts.drop (k+1)) t=xB ts t):=by show _=_;rw[HD.out,hq];rfl
  clear hq;go_wp2_with fail;go_region_held3 (fun w'=>w'.cell? ⟨b,off+k*6,none⟩=some (.string ts[k].a)/\w'.cell? ⟨b,off+k*6+1,none⟩=some (.string ts[k].b)/\w'.cell? ⟨b,off+k*6+2,none⟩=some (.string ts[k].r)/\w'.cell? ⟨b,off+k*6+3,none⟩=some (.string ts[k].c)/\w'.cell? ⟨b,off+k*6+4,none⟩=some (.string ts[k].d)/\w'.cell? ⟨b,off+k*6+5,none⟩=some (.string ts[k].s)/\w'.cell? ⟨w.heap.size,0,none⟩=some (.string t.a)/\w'.cell? ⟨w.heap.size,1,none⟩=some (.string t.b)/\w'.cell? ⟨w.heap.size,2,none⟩=some (.string t.r)/\w'.cell? ⟨w.heap.size,3,none⟩=some (.string t.c)/\w'.cell? ⟨w.heap.size,4,none⟩=some (.string t.d)/\w'.cell? ⟨w.heap.size,5,none⟩=some (.string t.s)/\ag wr w') (first|assumption|exact⟨t0,t1,t2,t3,t4,t5,x0,x1,x2,x3,x4,x5,(Vv _ _).drew⟩) (fail);rename_i hH;have HG:Hid (ag W0 _):=HB.out.trans (hH.2.2.2.2.2.2.2.2.2.2.2.2.mono HB.out.size);clear hH t0 t1 t2 t3 t4 t5 x0 x1 x2 x3 x4 x5 heq;go_wp2;go_roundw;case rel=>exact⟨k+1,by omega,by go_num,WQ,HG⟩
  simp[intOf]<;>omega
 have HN:Hid (xB ts t=false):=by show _=_;rw[<-HP.out,VU (by omega)];rfl
 go_wp2;go_ret;exact⟨by rw[HN.out];rfl,WS.out⟩
def sW(ts:Q05)(t:Tp):Bool:=dX ts&&t.ok && !xB ts t && !(ts.length==40)
def Cz(ts:Q05)(t:Tp):List Tp:=if sW ts t then jW ts t else []
theorem Br{ts:Q05}{t:Tp}(h:sW ts t=true):Cz ts t=jW ts t:=by simp[Cz,h]
theorem sH{ts:Q05}{t:Tp}(h:sW ts t=false):Cz ts t=[]:=by simp[Cz,h]
def Ui(w w':World)(e:Ending)(L:Q05)(f:Bool):Prop:=∃v:Value,e=.returned (.tuple #[v,.bool f])/\w'.ownsRow w.heap.size 29 6 v L.length (bq L)/\ag w w'
theorem tK(b off cap:Nat)(ts:Q05)(t:Tp)(w:af)(hlen:ts.length<=1048576)(hcap:ts.length<=cap)(hs:lh w b off ts)(hb:b<w.heap.size)(hf:∀x∈ts,x.fits)(ht:t.fits):
  Calls prog 183 #[.slice (some ⟨b,off,none⟩) ts.length cap,.agg #[.string t.a,.string t.b,.string t.r,.string t.c,.string t.d,.string t.s]] w fun e w'=>Ui w w' e (Cz ts t) (sW ts t):=by
 have HF:=dG hf;have WT:=dG ht;obtain⟨W0,hW0⟩:=eQx (w.alloc (.cells #[.string t.a,.string t.b,.string t.r,.string t.c,.string t.d,.string t.s] 29));have HB0:=qC hW0;have HX0:Hid (wZ W0 w.heap.size t):=by show wZ _ _ _;rw[hW0];exact EX w t _
 have HS:=dG hs;have SL:Hid (∀W:World,ag w W->Sl W (some ⟨b,off,none⟩) ts):=fun W hB=>.inr ⟨b,off,rfl,Vt hb hB.size,HS.out.below hB hb⟩;have Xh:ts.length<=maxLen:=by unfold maxLen;omega
 have HT:=dG (xK (some ⟨b,off,none⟩) cap ts W0 Xh (SL.out _ HB0.out) hf);clear hs hf Xh ht;go_enter func183,ntmps183;go_wp2_with fail;rw[<-hW0];clear hW0;refine HT.out.mono ?_;rintro e w1 ⟨he,hb1⟩;have HB1:=iX HB0 hb1;have Ym:=az (HX0.out.below hb1);clear HT HX0 HB0 hb1;cases h1:dX ts;case false=>
  rw[h1]at he;subst he;have HR:Hid (sW ts t=false):=by show _=_;simp[sW,h1]
  have HL:Hid (Cz ts t=[]):=sH HR.out;clear h1;go_wp2
  go_ret2
  exact⟨.slice none 0 0,by rw[HR.out];rfl,by rw[HL.out];exact World.ownsRow_nil _ _ _ _,HB1.out⟩
 rw[h1]at he;subst he;obtain⟨x0,x1,x2,x3,x4,x5,xl⟩:=Ym.out;have H1:=dG h1;obtain⟨e0,e1,e2,e3,e4,e5⟩:=WT.out;have HH:=dG (eF t.a t.b t.r t.c t.d t.s w1 e0 e1 e2 e3 e4 e5);clear h1 e0 e1 e2 e3 e4 e5;go_wp2_with fail;refine HH.out.mono ?_;rintro e w2 ⟨he,hb2⟩;have HB2:=iX HB1 hb2;have ZG:=az (Ym.out.below hb2);clear HH Ym HB1 hb2 x0 x1 x2 x3 x4 x5 xl;cases h2:t.ok;case false=>
  have h2':bH t.a t.b t.r t.c t.d t.s=false:=h2;rw[h2']at he;subst he;have HR:Hid (sW ts t=false):=by show _=_;simp[sW,H1.out,h2]
  have HL:Hid (Cz ts t=[]):=sH HR.out;clear h2 h2';go_wp2
  go_ret2
  exact⟨.slice none 0 0,by rw[HR.out];rfl,by rw[HL.out];exact World.ownsRow_nil _ _ _ _,HB2.out⟩
 have h2':bH t.a t.b t.r t.c t.d t.s=true:=h2;rw[h2']at he;subst he;have H2:=dG h2;obtain⟨x0,x1,x2,x3,x4,x5,xl⟩:=ZG.out;have HH:=dG (NC (some ⟨b,off,none⟩) cap ts t w2 hlen (SL.out _ HB2.out));clear h2 h2';go_wp2_with fail;refine HH.out.mono ?_;rintro e w3 ⟨he,hb3⟩;have HB3:=iX HB2 hb3;have HX3:=az (ZG.out.below hb3);clear HH ZG HB2 hb3 x0 x1 x2 x3 x4 x5 xl;cases h3:xB ts t;case true=>
  rw[h3]at he;subst he;have HR:Hid (sW ts t=false):=by show _=_;simp[sW,H1.out,H2.out,h3]
  have HL:Hid (Cz ts t=[]):=sH HR.out;clear h3;go_wp2
  go_ret2
  exact⟨.slice none 0 0,by rw[HR.out];rfl,by rw[HL.out];exact World.ownsRow_nil _ _ _ _,HB3.out⟩
 rw[h3]at he;subst he;have H3:=dG h3;clear h3;by_cases h4:ts.length=40
 ·have HR:Hid (sW ts t=false):=by show _=_;simp[sW,H1.out,H2.out,H3.out,h4]
  have HL:Hid (Cz ts t=[]):=sH HR.out;have h5:((ts.length:Int)==40)=true:=by simp;omega
  have H4:=dG h4;clear h4;go_wp2
  go_ret2
  exact⟨.slice none 0 0,by rw[HR.out];rfl,by rw[HL.out];exact World.ownsRow_nil _ _ _ _,HB3.out⟩
 have HR:Hid (sW ts t=true):=by show _=_;simp[sW,H1.out,H2.out,H3.out,h4]
 have HL:Hid (Cz ts t=jW ts t):=Br HR.out;have h5:((ts.length:Int)==40)=false:=by simp;omega
 have h40:=MR H1.out;obtain⟨x0,x1,x2,x3,x4,x5,xl⟩:=HX3.out;have HP:=dG (NA b off cap ts t w3 (by omega) hcap (HS.out.below HB3.out hb) (Vt hb HB3.out.size) HF.out WT.out);clear HX3;go_wp2_with fail;refine HP.out.mono ?_;rintro e w4 ⟨v4,rfl,hs4,hb4⟩;have HS4:=dG hs4;clear hs4 HP x0 x1 x2 x3 x4 x5 xl;go_wp2
 go_ret2
 exact⟨v4,by rw[HR.out];rfl,by rw[HL.out];exact fI HS4.out HB3.out.size,HB3.out.trans (hb4.mono HB3.out.size)⟩
def Tp.short(t:Tp):Prop:=t.a.size<=20/\t.b.size<=20/\t.r.size<=20/\t.c.size<=20/\t.d.size<=20/\t.s.size<=20
theorem Tp.short.fits{t:Tp}(h:t.short):t.fits:=by unfold Tp.short at h;unfold Tp.fits maxLen;omega
def rD(ts:Q05):Prop:=∀t∈ts,t.short
theorem rD.fits{ts:Q05}(h:rD ts):∀t∈ts,t.fits:=fun t ht=>(h t ht).fits
theorem ND:rD []:=fun t ht=>by cases ht
theorem sI(ts:Q05)(t:Tp):(jW ts t).length=ts.length+1:=by
 induction ts with
 | nil=>rfl
 | cons x xs ih =>
  unfold jW;split
  ·simp[ih]
  simp
theorem rD.put{ts:Q05}{t:Tp}(h:rD ts)(ht:t.short):rD (jW ts t):=fun x hx=>by
 rcases (PM ts t x).1 hx with rfl|k
 ·exact ht
 exact h x k
theorem Bt{w w':af}{R base n:Nat}{v:Value}{xs:Q03}(h:w.ownsRow base 29 6 v n xs)(hR:R<base)(hO:Only R w w'):w'.ownsRow base 29 6 v n xs :=
 h.kept hO (.inr fun e=>by have:=(h.lt R e).1;omega)
theorem qd{w:af}{base g n c:Nat}{ts:Q05}(h:w.ownsRow base 29 6 (.slice (some ⟨g,0,none⟩) n c) n (bq ts))(hn:n=ts.length):lh w g 0 ts/\g<w.heap.size/\n<=c/\base<=g:=by
 have hlt:=h.lt g rfl;refine⟨?_,hlt.2,?_,hlt.1⟩
 ·subst hn;intro i hi;have key:∀j,j<6->w.cell? ⟨g,0+i*6+j,none⟩=(ts[i]).row[j]?:=fun j hj=>by
   rw[h.cellAt (0+i*6+j) (by have:=jC ts;omega),<-vG ts i hi j hj,VW]
  exact⟨key 0 (by omega),key 1 (by omega),key 2 (by omega),key 3 (by omega),key 4 (by omega),key 5 (by omega)⟩
 rcases h.2 with⟨e,-⟩|⟨g',cap',cur,e,-,-,hle,-⟩
 ·cases e
 injection e with e1 e2 e3;omega
theorem tL{W:af}{base:Nat}{e:TypeId}{size:Nat}{v:Value}{k:Nat}{xs:Q03}(h:W.ownsRow base e size v (k+1) xs):∃g cap,v=.slice (some ⟨g,0,none⟩) (k+1) cap:=by
 rcases h.2 with⟨_,h0⟩|⟨g,cap,_,rfl,_⟩
 ·omega
 exact⟨g,cap,rfl⟩
theorem Rd.grown{w w':af}{R:Nat}{ad:Q02}{len cap:Nat}{row:Option Nat}(h:Rd w R ad len cap)(hg:w.grownBy w' row)(hR:some R≠row)(hb:0<len->∀b off,ad=some ⟨b,off,none⟩->some b≠row):Rd w' R ad len cap where
 lt:=Vt h.lt hg.size
 code:=hg.cell h.code hR
 place:=by obtain⟨p,hp,hl⟩:=h.place;exact⟨p,hg.cell hp hR,hl⟩
 free:=(World.frozen?_of_block (w:=w) (a:=⟨R,1,none⟩) (hg.block R h.lt hR)).trans h.free
 bytes h0:=by
  obtain⟨b,off,e,hne,hbl,hc⟩:=h.bytes h0;refine⟨b,off,e,hne,Vt hbl hg.size,fun i hi=>?_⟩;obtain⟨c,c0,c1,hcc⟩:=hc i hi;exact⟨c,c0,c1,hg.cell hcc (hb h0 b off e)⟩
 small:=h.small
def yP(xs:List ByteArray)(s:ByteArray):Bool:=xs.any fun x=>x.toList==s.toList
theorem wH(xs:List ByteArray)(k:Nat)(h:k<xs.length)(s:bi):yP (xs.drop k) s=((xs[k].toList==s.toList) || yP (xs.drop (k+1)) s):=by
 unfold yP;rw[Wi h];rfl
theorem Hy(ad:Q02)(cap:Nat)(xs:List ByteArray)(s:bi)(w:af)(hlen:xs.length<=1048576)(hs:Rn w ad xs):
  Calls prog 102 #[.slice ad xs.length cap,.string s] w fun e w'=>e=.returned (.bool (yP xs s))/\w'=w:=by
 have HS:=az hs;clear hs;go_enter func102,ntmps102;go_wp2_with fail;go_loopw[5] (fun i wr=>∃k:Nat,k<=xs.length/\i=.int .i64 k/\Hid (yP (xs.drop k) s=yP xs s)/\wr=w) (fun i _=>xs.length-(intOf i).toNat);case atStart=>exact⟨0,Vy _,rfl,rfl,rfl⟩
 obtain⟨k,hk,rfl,HP,rfl⟩:=hrel;by_cases hlt:k<xs.length
 ·rcases HS.out with rfl|⟨b,off,rfl,hb,hr⟩
  ·simp at hlt
  have t0:=hr k hlt;have hk1:=bI k;have hk2:(k:Int)<(xs.length:Int):=by omega
  clear hr;cases he:(xs[k].toList==s.toList);case true=>
   have HN:Hid (yP xs s=true):=by show _=_;rw[<-HP.out,wH _ _ hlt,he];rfl
   go_wp2;go_ret;exact⟨by rw[HN.out];rfl,rfl⟩
  have WQ:Hid (yP (xs.drop (k+1)) s=yP xs s):=by show _=_;rw[<-HP.out,wH _ _ hlt,he];rfl
  go_wp2;go_roundw;case rel=>exact⟨k+1,by omega,by go_num,WQ,by first|rfl|trivial⟩
  simp[intOf]<;>omega
 have HN:Hid (yP xs s=false):=by show _=_;rw[<-HP.out,VU (by omega)];rfl
 go_wp2;go_ret;exact⟨by rw[HN.out];rfl,rfl⟩
theorem Kr(ad:Q02)(cap:Nat)(xs:List ByteArray)(s:bi)(w:af)(hlen:xs.length<=1048576)(hs:Rn w ad xs):
  Calls prog 171 #[.slice ad xs.length cap,.string s] w fun e w'=>(∃r:Int,e=.returned (.int .i64 r)/\decide (0<=r)=yP xs s)/\w'=w:=by
 have HS:=az hs;clear hs;go_enter func171,ntmps171;go_wp2_with fail;go_loopw[8] (fun i wr=>∃k:Nat,k<=xs.length/\i=.int .i64 k/\Hid (yP (xs.drop k) s=yP xs s)/\wr=w) (fun i _=>xs.length-(intOf i).toNat);case atStart=>exact⟨0,Vy _,rfl,rfl,rfl⟩
 obtain⟨k,hk,rfl,HP,rfl⟩:=hrel;by_cases hlt:k<xs.length
 ·rcases HS.out with rfl|⟨b,off,rfl,hb,hr⟩
  ·simp at hlt
  have t0:=hr k hlt;have hk1:=bI k;have hk2:(k:Int)<(xs.length:Int):=by omega
  clear hr;cases he:(s.toList==xs[k].toList);case true=>
   have HN:Hid (yP xs s=true):=by show _=_;rw[<-HP.out,wH _ _ hlt,Bool.beq_comm,he];rfl
   go_wp2;go_ret;exact⟨⟨k,rfl,by rw[HN.out];simp⟩,rfl⟩
  have WQ:Hid (yP (xs.drop (k+1)) s=yP xs s):=by show _=_;rw[<-HP.out,wH _ _ hlt,Bool.beq_comm,he];rfl
  go_wp2;go_roundw;case rel=>exact⟨k+1,by omega,by go_num,WQ,by first|rfl|trivial⟩
  simp[intOf]<;>omega
 have HN:Hid (yP xs s=false):=by show _=_;rw[<-HP.out,VU (by omega)];rfl
 go_wp2;go_ret;exact⟨⟨-1,rfl,by rw[HN.out];simp⟩,rfl⟩
theorem tN(ad:Q02)(cap:Nat)(xs:List ByteArray)(s:bi)(w:af)(hlen:xs.length<=1048576)(hs:Rn w ad xs):
  Calls prog 92 #[.slice ad xs.length cap,.string s] w fun e w'=>e=.returned (.bool (yP xs s))/\w'=w:=by
 go_enter func92,ntmps92;go_wp2_with fail;refine(Kr ad cap xs s _ hlen hs).mono ?_;rintro e w' ⟨⟨r,rfl,hr⟩,rfl⟩;have HR:Hid (decide (0<=r)=yP xs s):=hr;clear hr hs;go_wp2;go_ret;exact⟨by rw[<-HR.out];rfl,rfl⟩
theorem Sg{rs rs':Q08}{p:Ex->Prop}(h:ai rs'=ai rs)(hp:∀r∈rs,p r.e):∀r∈rs',p r.e:=by
 intro r hr;have h1:r.e∈ai rs':=VE.2 ⟨r,hr,rfl⟩;rw[h]at h1;obtain⟨q,hq,e⟩:=VE.1 h1;rw[<-e];exact hp q hq
theorem U0{rs rs':Q07}(h:bQ rs'=bQ rs):∀r∈rs',∃q∈rs,q.name=r.name/\ai r.rows=ai q.rows:=by
 intro r hr;have h1:r.p∈bQ rs':=VE.2 ⟨r,hr,rfl⟩;rw[h]at h1;obtain⟨q,hq,e⟩:=VE.1 h1;injection e with e1 e2;exact⟨q,hq,e1,e2.symm⟩
theorem U1{rs rs':Q06}(h:ae rs'=ae rs):∀r∈rs',∃q∈rs,q.name=r.name/\bQ r.rows=bQ q.rows:=by
 intro r hr;have h1:r.p∈ae rs':=VE.2 ⟨r,hr,rfl⟩;rw[h]at h1;obtain⟨q,hq,e⟩:=VE.1 h1;injection e with e1 e2;exact⟨q,hq,e1,e2.symm⟩
theorem Uj{rs rs':Q06}(h:ae rs'=ae rs)(hl:∀r∈rs,r.light):∀r∈rs',r.light:=by
 intro r hr;obtain⟨q,hq,-,e⟩:=U1 h r hr;have h1:=hl q hq;refine⟨by rw[<-dz,e,dz];exact h1.1,fun x hx=>?_⟩;obtain⟨y,hy,-,e2⟩:=U0 e x hx;have h2:=h1.2 y hy;exact⟨by rw[<-ay,e2,ay];exact h2.1,Sg e2 h2.2⟩
theorem U2{rs rs':Q06}(h:ae rs'=ae rs)(hl:∀r∈rs,r.fits):∀r∈rs',r.fits:=by
 intro r hr;obtain⟨q,hq,en,e⟩:=U1 h r hr;have h1:=hl q hq;refine⟨by rw[<-en];exact h1.1,by rw[<-dz,e,dz];exact h1.2.1,fun x hx=>?_⟩;obtain⟨y,hy,en2,e2⟩:=U0 e x hx;have h2:=h1.2.2 y hy;exact⟨by rw[<-en2];exact h2.1,by rw[<-ay,e2,ay];exact h2.2.1,Sg e2 h2.2.2⟩
theorem Vp{rs rs':Q06}(h:ae rs'=ae rs):rs'.length=rs.length:=by rw[<-df,h,df]
theorem Bu{es:Q09}:∀(ks:List Int) (a b j:Nat),qW es ks a b->a<=j->j<b->∃k∈ks,aB es k.toNat<=(j:Int)/\j<=k.toNat/\(a:Int)<=aB es k.toNat
 | [],a,b,j,h,h1,h2=>by
  have:a=b:=h;omega
 | x::ks,a,b,j,h,h1,h2=>by
  obtain⟨h3,h4,h5⟩:=h;by_cases hj:j<=x.toNat
  ·exact⟨x,by simp,by omega,hj,by omega⟩
  obtain⟨k,hk,e1,e2,e3⟩:=Bu ks _ b j h5 (by omega) h2;have:=iP es x.toNat;exact⟨k,by simp[hk],e1,e2,by omega⟩
theorem Bv{es:Q09}:∀(ks:List Int) (a b:Nat),qW es ks a b->∀k∈ks,a<=k.toNat
 | [],_,_,_,k,hk=>by cases hk
 | x::ks,a,b,h,k,hk=>by
  obtain⟨h3,h4,h5⟩:=h;have:=iP es x.toNat;rcases VL.1 hk with rfl|hk
  ·omega
  have:=Bv ks _ b h5 k hk;omega
theorem rE{es:Q09}:∀(ks:List Int) (a b:Nat),qW es ks a b->∀(p:Nat) (hp:p<ks.length),qW es (ks.drop (p+1)) (ks[p].toNat+1) b/\0<=ks[p]
 | [],_,_,_,p,hp=>by simp at hp
 | x::ks,a,b,h,0,_=>⟨h.2.2,h.1⟩
 | x::ks,a,b,h,p+1,hp=>by
  have:=rE ks _ b h.2.2 p (by simpa using hp);simpa using this
theorem NE{es:Q09}(ht:∀j,j<es.length->0<=aB es j):∀(n:Nat),n<es.length->∀j:Nat,aB es n<=(j:Int)->j<=n->aB es n<=aB es j:=by
 intro n
 induction n using Nat.strongRecOn with
 | _ n ih =>
  intro hn j h1 h2;by_cases e:j=n
  ·rw[e];exact Int.le_refl _
  have hc:=oK (ht n hn);obtain⟨k,hk,e1,e2,e3⟩:=Bu _ _ _ j hc (by have:=ht n hn;omega) (by omega);have hlt:=(oL _ _ _ hc).2 k hk;have:=ih k.toNat hlt.2 (by omega) j e1 e2;have:=ht n hn;omega
theorem Kt{es:Q09}(ht:∀j,j<es.length->0<=aB es j){i j:Nat}(hi:i<es.length)(hj:j<i){x y:Int}(hx:x∈dD es i)(hy:y∈dD es j):x.toNat≠y.toNat:=by
 intro e;have ci:=oK (ht i hi);have cj:=oK (ht j (by omega));obtain⟨p,hp,rfl⟩:=V4 hx;obtain⟨h1,h2⟩:=rE _ _ _ ci p hp;have hyj:=(oL _ _ _ cj).2 y hy;have hyg:=Bv _ _ _ cj y hy;obtain⟨k,hk,e1,e2,e3⟩:=Bu _ _ _ j h1 (by omega) hj;have hk2:=(oL _ _ _ ci).2 k (List.mem_of_mem_drop hk);have:=NE ht k.toNat (by omega) j e1 e2;have:=ht j (by omega);omega
theorem Ku{es:Q09}{i:Nat}(h:0<=aB es i)(p q:Nat)(hp:p<(dD es i).length)(hq:q<(dD es i).length)(hpq:p<q):(dD es i)[p].toNat<(dD es i)[q].toNat:=by
 have h1:=(rE _ _ _ (oK h) p hp).1;refine Bv _ _ _ h1 _ ?_;rw[List.mem_drop_iff_getElem];exact⟨q-(p+1),by omega,by congr 1;omega⟩
theorem kz(i:Nat)(kind:Int):∀(xs:List Int) (k:Nat) (out:List Bool) (z:Nat),(∀x∈xs,x.toNat≠z)->(bf i kind xs k out).getD z false=out.getD z false
 | [],_,_,_,_=>rfl
 | x::xs,k,out,z,h=>by
  rw[bf,kz i kind xs (k+1) _ z fun y hy=>h y (V7 _ hy)];simp only[We,List.getElem?_set_ne (h x (Ws ..))]
theorem Bw(i:Nat)(kind:Int):∀(xs:List Int) (k:Nat) (out:List Bool),(∀(p q:Nat) (hp:p<xs.length) (hq:q<xs.length),p<q->xs[p].toNat≠xs[q].toNat)->(∀x∈xs,x.toNat≠i)->(∀x∈xs,x.toNat<out.length)->∀(p:Nat) (hp:p<xs.length),(bf i kind xs k out).getD xs[p].toNat false=(out.getD i false || (kind==6&&(k+p)==1))
 | [],_,_,_,_,_,p,hp=>by simp at hp
 | x::xs,k,out,hd,hi,hl,p,hp=>by
  have hxi:=hi x (Ws ..);have hxl:=hl x (Ws ..);have hgi:(out.set x.toNat (out.getD i false || (kind==6&&k==1))).getD i false=out.getD i false:=by
   rw[We,We,List.getElem?_set_ne hxi]
  rw[bf];cases p with
  | zero =>
   rw[List.getElem_cons_zero,kz i kind xs (k+1) _ x.toNat fun y hy=>?_]
   ·rw[We,List.getElem?_set_self hxl];rfl
   obtain⟨q,hq,rfl⟩:=V4 hy;exact(hd 0 (q+1) (by simp) (by simpa using hq) (by omega)).symm
  | succ p =>
   have:=Bw i kind xs (k+1) (out.set x.toNat (out.getD i false || (kind==6&&k==1))) (fun a b ha hb hab=>hd (a+1) (b+1) (by simpa using ha) (by simpa using hb) (by omega)) (fun y hy=>hi y (V7 _ hy)) (fun y hy=>by rw[List.length_set];exact hl y (V7 _ hy)) p (by simpa using hp);rw[List.getElem_cons_succ,this,hgi,show k+1+p=k+(p+1) by omega]
theorem qg(es:Q09):∀(m:Nat) (out:List Bool) (z:Nat),(∀j,j<m->∀x∈dD es j,x.toNat≠z)->(ed es m out).getD z false=out.getD z false
 | 0,_,_,_=>rfl
 | m+1,out,z,h=>by
  rw[ed,qg es m _ z fun j hj=>h j (by omega)];cases e:es[m]? with
  | none=>rfl
  | some x=>exact kz m x.kind x.kids 0 out z fun y hy=>h m (by omega) y (by unfold dD;rw[e];exact hy)
theorem wI(es:Q09)(i:Nat):∀(d:Nat) (out:List Bool),∃out':List Bool,out'.length=out.length/\ed es (i+d) out=ed es i out'
 | 0,out=>⟨out,rfl,rfl⟩
 | d+1,out=>by
  obtain⟨o',h1,h2⟩:=wI es i d (match es[i+d]? with|none=>out|some e=>bf (i+d) e.kind e.kids 0 out);refine⟨o',?_,h2⟩;rw[h1];cases es[i+d]? with
  | none=>rfl
  | some e=>exact yB _ _ _ _ _
theorem LX{es:Q09}(ht:∀j,j<es.length->0<=aB es j){i:Nat}(hi:i<es.length)(p:Nat)(hp:p<es[i].kids.length):(dB es).getD es[i].kids[p].toNat false=((dB es).getD i false || (es[i].kind==6&&p==1)):=by
 have hk:dD es i=es[i].kids:=by unfold dD;rw[VG hi];rfl
 have hlow:∀j,j<es.length->∀x∈dD es j,x.toNat<j:=fun j hj x hx=>((oL _ _ _ (oK (ht j hj))).2 x hx).2;obtain⟨o',h1,h2⟩:=wI es (i+1) (es.length-(i+1)) (List.replicate es.length false);rw[show i+1+(es.length-(i+1))=es.length by omega]at h2;have hN:dB es=ed es i (bf i es[i].kind es[i].kids 0 o'):=by
  unfold dB;rw[h2,ed,VG hi]
 have hmem:es[i].kids[p]∈dD es i:=by rw[hk];exact Vs hp
 have hA:(dB es).getD es[i].kids[p].toNat false=(bf i es[i].kind es[i].kids 0 o').getD es[i].kids[p].toNat false:=by
  rw[hN];exact qg es i _ _ fun j hj x hx e=>Kt ht hi hj hmem hx e.symm
 have hB:(dB es).getD i false=o'.getD i false:=by
  rw[hN,qg es i _ i fun j hj x hx=>by have:=hlow j (by omega) x hx;omega];exact kz i _ _ 0 o' i fun x hx=>by have:=hlow i hi x (by rw[hk];exact hx);omega
 rw [hA,hB,Bw i es[i].kind es[i].kids 0 o' (fun a b ha hb hab=>by
   have:=Ku (ht i hi) a b (by rw[hk];exact ha) (by rw[hk];exact hb) hab;simp only[hk]at this;omega) (fun x hx=>by have:=hlow i hi x (by rw[hk];exact hx);omega) (fun x hx=>by have:=hlow i hi x (by rw[hk];exact hx);rw[h1];simp;omega) p hp,VW]
def zk(es:Q09)(i:Nat):Int:=if (dB es).getD i false then 1 else 0
structure NodeR(l:Q05)(rk:Fc->Int)(es:Q09)(f:Fc):Prop where
 ht:∀j,j<es.length->0<=aB es j
 q1:∀i (hi:i<es.length),es[i].kind=1->∀t∈l,(t.a.toList==f.a.toList&&t.b.toList==f.b.toList&&t.r.toList==f.r.toList)=true->t.s.toList.isEmpty=false->rk ⟨t.c,t.d,t.s,f.c,f.d⟩+zk es i<=rk f
 q2:∀i (hi:i<es.length),es[i].kind=2->rk ⟨f.a,f.b,es[i].name,f.c,f.d⟩+zk es i<=rk f
 q3:∀i (hi:i<es.length),es[i].kind=3->∀t∈l,(t.a.toList==f.a.toList&&t.b.toList==f.b.toList&&t.r.toList==es[i].over.toList)=true->rk ⟨t.c,t.d,es[i].name,f.c,f.d⟩+zk es i<=rk f
 k6:∀i (hi:i<es.length),es[i].kind=6->es[i].kids.length=2
section
variable  {l:Q05}{rk:Fc->Int}{es:Q09}{f:Fc}
def Hz(rk:Fc->Int)(r:Int)(a b:Q04):Prop:=∀g:Fc,rk g<r->(g∈a↔g∈b)
def TD(rk:Fc->Int)(r:Int)(a b:Q04):Prop:=∀g:Fc,rk g<=r->g∈a->g∈b
theorem uL{a b:Q04}{r:Int}(h:Hz rk r a b){g:Fc}(hg:rk g<r):gZ a g=gZ b g:=by
 rw[VR,bW,bW];exact h g hg
theorem uM{a b:Q04}{r:Int}(h:TD rk r a b){g:Fc}(hg:rk g<=r)(hh:gZ a g=true):gZ b g=true:=bW.2 (h g hg (bW.1 hh))
theorem Fz{α:Type}{p q:α->Bool}{xs:List α}(h:∀x∈xs,p x=q x):xs.any p=xs.any q:=by
 rw[VR,VX,VX];exact⟨fun⟨x,hx,e⟩=>⟨x,hx,by rw[<-h x hx];exact e⟩,fun⟨x,hx,e⟩=>⟨x,hx,by rw[h x hx];exact e⟩⟩
theorem Si{α:Type}{p q:α->Bool}{xs:List α}(h:∀x∈xs,p x=q x):xs.all p=xs.all q:=by
 rw[VR,VF,VF];exact⟨fun e x hx=>by rw[<-h x hx];exact e x hx,fun e x hx=>by rw[h x hx];exact e x hx⟩
theorem NodeR.kid(h:NodeR l rk es f){i:Nat}(hi:i<es.length){p:Nat}(hp:p<es[i].kids.length):es[i].kids[p].toNat<es.length:=by
 have hk:dD es i=es[i].kids:=by unfold dD;rw[VG hi];rfl
 have:=((oL _ _ _ (oK (h.ht i hi))).2 es[i].kids[p] (by rw[hk];exact Vs hp)).2;omega
theorem NodeR.same(h:NodeR l rk es f){ta tb:Q04}(hT:Hz rk (rk f) ta tb):∀(k:Nat) (a b:Q04) (i:Nat),Hz rk (rk f) a b->i<es.length->(dB es).getD i false=true->fJ l es ta f k a i=fJ l es tb f k b i
 | 0,_,_,_,_,_,_=>rfl
 | k+1,a,b,i,hS,hi,hg=>by
  have hng:zk es i=1:=by unfold zk;rw[hg];rfl
  have Xp:∀x∈es[i].kids,∀a b,Hz rk (rk f) a b->fJ l es ta f k a x.toNat=fJ l es tb f k b x.toNat:=fun x hx a b hS=>by
   obtain⟨p,hp,rfl⟩:=V4 hx;exact h.same hT k a b _ hS (h.kid hi hp) (by rw[LX h.ht hi p hp,hg];rfl)
  unfold fJ;rw[VG hi];simp only;by_cases e1:es[i].kind=1
  ·rw[if_pos e1,if_pos e1];refine Fz fun t ht=>?_;cases hm:(t.a.toList==f.a.toList&&t.b.toList==f.b.toList&&t.r.toList==f.r.toList);case false=>rfl
   cases hs:t.s.toList.isEmpty;case true=>rfl
   have:=h.q1 i hi e1 t ht hm hs;simp only[Bool.false_eq_true,if_false];rw[uL hS (g:=⟨t.c,t.d,t.s,f.c,f.d⟩) (by omega)]
  rw[if_neg e1,if_neg e1];by_cases e2:es[i].kind=2
  ·rw[if_pos e2,if_pos e2];have:=h.q2 i hi e2;exact uL hS (by omega)
  rw[if_neg e2,if_neg e2];by_cases e3:es[i].kind=3
  ·rw[if_pos e3,if_pos e3];refine Fz fun t ht=>?_;cases hm:(t.a.toList==f.a.toList&&t.b.toList==f.b.toList&&t.r.toList==es[i].over.toList);case false=>rfl
   have:=h.q3 i hi e3 t ht hm;rw[uL hS (g:=⟨t.c,t.d,es[i].name,f.c,f.d⟩) (by omega)]
  rw[if_neg e3,if_neg e3];by_cases e4:es[i].kind=4
  ·rw[if_pos e4,if_pos e4];exact Fz fun x hx=>Xp x hx a b hS
  rw[if_neg e4,if_neg e4];by_cases e5:es[i].kind=5
  ·rw[if_pos e5,if_pos e5];exact Si fun x hx=>Xp x hx a b hS
  rw[if_neg e5,if_neg e5];by_cases e6:es[i].kind=6
  ·rw[if_pos e6,if_pos e6];have hl:=h.k6 i hi e6;have hx:∀q,q<2->es[i].kids.getD q 0∈es[i].kids:=fun q hq=>by
    rw[We,VG (by omega)];exact Vs _
   rw[Xp _ (hx 0 (by omega)) a b hS,Xp _ (hx 1 (by omega)) ta tb hT]
  rw[if_neg e6,if_neg e6]
theorem NodeR.more(h:NodeR l rk es f){ta tb:Q04}(hT:Hz rk (rk f) ta tb):∀(k:Nat) (a b:Q04) (i:Nat),TD rk (rk f) a b->i<es.length->fJ l es ta f k a i=true->fJ l es tb f k b i=true
 | 0,_,_,_,_,_,hh=>by cases hh
 | k+1,a,b,i,hM,hi,hh=>by
  have hng:0<=zk es i:=by unfold zk;split<;>omega
  have Xp:∀x∈es[i].kids,fJ l es ta f k a x.toNat=true->fJ l es tb f k b x.toNat=true:=fun x hx=>by
   obtain⟨p,hp,rfl⟩:=V4 hx;exact h.more hT k a b _ hM (h.kid hi hp)
  unfold fJ at hh⊢;rw[VG hi]at hh⊢;simp only at hh⊢;by_cases e1:es[i].kind=1
  ·rw[if_pos e1]at hh ⊢;obtain⟨t,ht,e⟩:=VX.1 hh;refine VX.2 ⟨t,ht,?_⟩;rw[Vw]at e ⊢;refine⟨e.1,?_⟩;cases hs:t.s.toList.isEmpty;case true=>have:=e.2;rw[hs]at this;exact this
   have h2:=e.2;rw[hs]at h2;simp only[Bool.false_eq_true,if_false]at h2 ⊢;have:=h.q1 i hi e1 t ht e.1 hs;exact uM hM (by omega) h2
  rw[if_neg e1]at hh ⊢;by_cases e2:es[i].kind=2
  ·rw[if_pos e2]at hh ⊢;have:=h.q2 i hi e2;exact uM hM (by omega) hh
  rw[if_neg e2]at hh ⊢;by_cases e3:es[i].kind=3
  ·rw[if_pos e3]at hh ⊢;obtain⟨t,ht,e⟩:=VX.1 hh;refine VX.2 ⟨t,ht,?_⟩;rw[Vw]at e ⊢;have:=h.q3 i hi e3 t ht e.1;exact⟨e.1,uM hM (by omega) e.2⟩
  rw[if_neg e3]at hh ⊢;by_cases e4:es[i].kind=4
  ·rw[if_pos e4]at hh ⊢;obtain⟨x,hx,e⟩:=VX.1 hh;exact VX.2 ⟨x,hx,Xp x hx e⟩
  rw[if_neg e4]at hh ⊢;by_cases e5:es[i].kind=5
  ·rw[if_pos e5]at hh ⊢;exact VF.2 fun x hx=>Xp x hx (VF.1 hh x hx)
  rw[if_neg e5]at hh ⊢;by_cases e6:es[i].kind=6
  ·rw[if_pos e6]at hh ⊢;have hl:=h.k6 i hi e6;have hx:∀q (hq:q<2),es[i].kids.getD q 0=es[i].kids[q]'(by omega):=fun q hq=>by
    rw[We,VG (by omega)];rfl
   rw[Vw]at hh ⊢;refine⟨?_,?_⟩
   ·have h0:=hh.1;rw[hx 0 (by omega)]at h0 ⊢;exact Xp _ (Vs _) h0
   have h1:=hh.2;rw[hx 1 (by omega)]at h1 ⊢;have hf:(dB es).getD (es[i].kids[1]'(by omega)).toNat false=true:=by
    rw[LX h.ht hi 1 (by omega),e6];simp
   rw[<-h.same hT k ta tb _ hT (h.kid hi (by omega)) hf];exact h1
  rw[if_neg e6]at hh;cases hh
end
theorem NF{ts:Q0b}{l:Q05}{rk:Fc->Int}(hn:∀f:Fc,ak ts f.a f.r≠[]->NodeR l rk (ak ts f.a f.r) f):Lay rk (dO ts l):=fun a b f h1 h2 hh=>by
 by_cases he:ak ts f.a f.r=[]
 ·unfold dO at hh;rw[he]at hh;cases hh
 have hpos:(ak ts f.a f.r).length-1<(ak ts f.a f.r).length:=by
  have:(ak ts f.a f.r).length≠0:=fun e=>he (VM.1 e);omega
 refine(hn f he).more h1 _ a b _ (fun g hg hm=>?_) hpos hh;by_cases e:rk g=rk f
 ·exact h2 g e hm
 exact(h1 g (by omega)).1 hm
def Kv(ts:Q0b)(st:Q00)(g:Fc):Int:=if hasB ts g.a g.r then st (g.a,g.r) else -1
def H5(ts:Q0b)(t:Tp):Bool:=(ak ts t.a t.r).any fun e=>decide (e.kind=1)&&dJ e.allow e.allow.length ⟨t.c,t.s⟩
theorem rF{ts:Q0b}{a r:ByteArray}:hasB ts a r=true↔ak ts a r≠[]:=by
 unfold hasB;cases ak ts a r<;>simp
theorem uN{ts:Q0b}{typ:ByteArray}{es:Q09}{i:Nat}{d:Dp}(h:d∈gG ts typ es i):∀k,i<k->d∈aO ts typ es k
 | 0,hi=>absurd hi (Wm _)
 | k+1,hi=>by
  unfold aO;by_cases e:i=k
  ·subst e;exact List.mem_append_right _ h
  exact Ww _ (uN h k (by omega))
theorem Bz{ng:Bool}{a:Al}:∀{xs:Q0a},a∈xs->a.s.toList.isEmpty=false->(⟨a.t,a.s,ng⟩:Dp)∈cO ng xs
 | [],h,_=>by cases h
 | x::xs,h,hs=>by
  unfold cO;rcases VL.1 h with rfl|h
  ·rw[if_neg (by rw[hs];decide)];exact Ws ..
  split
  ·exact Bz h hs
  exact V7 _ (Bz h hs)
theorem Qq{ts:Q0b}{rel:ByteArray}{a:Al}:∀{xs:Q0a},a∈xs->hasB ts a.t rel=true->a.t∈gl ts rel xs
 | [],h,_=>by cases h
 | x::xs,h,hs=>by
  unfold gl;rcases VL.1 h with rfl|h
  ·rw[if_neg (by unfold hasB at hs;simpa using hs)];exact Ws ..
  split
  ·exact Qq h hs
  exact V7 _ (Qq h hs)
theorem D8{xs:Q0a}{c s:ByteArray}(h:dJ xs xs.length ⟨c,s⟩=true):(⟨c,s⟩:Al)∈xs:=by
 unfold dJ at h;rw[VI]at h;obtain⟨a,ha,e⟩:=VX.1 h;unfold kF at e;rw[Vw,beq_iff_eq,beq_iff_eq]at e;have:a=⟨c,s⟩:=by
  cases a;simp only at e;rw[gH e.1,gH e.2]
 rw[<-this];exact ha
theorem Sj{es:Q09}(h:own es<=1){i j:Nat}(hi:i<es.length)(hj:j<es.length)(ki:es[i].kind=1)(kj:es[j].kind=1):i=j:=by
 have key:∀(es:Q09) (i j:Nat) (hi:i<es.length) (hj:j<es.length),es[i].kind=1->es[j].kind=1->i<j->2<=own es:=by
  intro es
  induction es with
  | nil=>intro i j hi;simp at hi
  | cons e es ih =>
   intro i j hi hj ki kj hij;unfold own;rw[WM];cases j with
   | zero=>omega
   | succ j =>
    have kj':(es[j]'(by simpa using hj)).kind=1:=by simpa using kj
    cases i with
    | zero =>
     have ki':e.kind=1:=by simpa using ki
     have:0<(es.filter fun e=>decide (e.kind=1)).length:=List.length_pos_of_mem (a:=es[j]'(by simpa using hj)) (Wo.2 ⟨Vs _,by simpa using kj'⟩);simp[ki'];omega
    | succ i =>
     have:=ih i j (by simpa using hi) (by simpa using hj) (by simpa using ki) kj' (by omega);unfold own at this;split
     ·simp;omega
     exact this
 rcases Nat.lt_trichotomy i j with h1|h1|h1
 ·have:=key es i j hi hj ki kj h1;omega
 ·exact h1
 have:=key es j i hj hi kj ki h1;omega
theorem BA{ts:Q0b}{l:Q05}{st:Q00}(hS:Sol ts st)(hsh:aZ ts=true)(hrf:gI ts=true)(hfit:∀t∈l,H5 ts t=true){f:Fc}(hf:ak ts f.a f.r≠[]):NodeR l (Kv ts st) (ak ts f.a f.r) f:=by
 obtain⟨es,hes⟩:=eQx (ak ts f.a f.r);have hp:dZ ts f.a f.r=some es:=by
  rw[hes];cases e:dZ ts f.a f.r with
  | none=>unfold ak at hf;rw[e]at hf;exact absurd rfl hf
  | some x=>unfold ak;rw[e];rfl
 obtain⟨t0,ht0,r0,hr0,en,er,ee⟩:=oI hp;have hspec:=(uE hsh ht0 hr0).2;rw[ee]at hspec;have hk:(f.a,f.r)∈au ts:=by
  unfold au jZ;exact VP.2 ⟨t0,ht0,VE.2 ⟨r0,hr0,by rw[en,er]⟩⟩
 have Zx:Kv ts st f=st (f.a,f.r):=by unfold Kv;rw[if_pos (rF.2 hf)]
 have hup:∀i,i<es.length->∀d∈gG ts f.a es i,st (d.typ,d.rel)+stepOf d<=st (f.a,f.r):=fun i hi d hd=>hS.up _ hk d (by show d∈oH ts f.a (ak ts f.a f.r);rw[<-hes];exact uN hd _ hi);have hpos:=hS.pos (f.a,f.r);have hng:∀i,0<=zk es i/\zk es i<=1:=fun i=>by unfold zk;split<;>omega
 -- whatever a node asks by a name that it leans on
 have ask:∀i (hi:i<es.length) (g:Fc),(hasB ts g.a g.r=true->(⟨g.a,g.r,(dB es).getD i false⟩:Dp)∈gG ts f.a es i)->Kv ts st g+zk es i<=Kv ts st f:=fun i hi g h=>by
  rw[Zx];have h1:=hng i;unfold Kv;split
  ·rename_i hb;have h2:=hup i hi _ (h hb);unfold stepOf at h2;unfold zk;exact h2
  omega
 rw[<-hes];have hdA:∀i (hi:i<es.length),gG ts f.a es i=cO ((dB es).getD i false) es[i].allow++kH ts f.a ((dB es).getD i false) es[i]:=fun i hi=>by unfold gG;rw[VG hi]
 have hspec2:=hspec;unfold aI at hspec2;simp only[Vw,VH]at hspec2;obtain⟨⟨⟨⟨⟨-,-⟩,hnb⟩,hku⟩,hown⟩,htr⟩:=hspec2;refine⟨fun j hj=>?_,fun i hi k1 t ht hm hs=>?_,fun i hi k2=>?_,fun i hi k3 t ht hm=>?_,fun i hi k6=>?_⟩
 ·exact oh es (es.length-1) (by rw[htr];exact Int.le_refl _) j (by rw[htr];omega) (by omega)
 ·refine ask i hi _ fun hb=>?_;rw[Vw,Vw,beq_iff_eq,beq_iff_eq,beq_iff_eq]at hm;have h1:=hfit t ht;unfold H5 at h1;rw[gH hm.1.1,gH hm.2,<-hes]at h1;obtain⟨e,he,h2⟩:=VX.1 h1;rw[Vw,VH]at h2;obtain⟨j,hj,rfl⟩:=V4 he;have:=Sj hown hi hj k1 h2.1;subst this;rw[hdA i hi];exact Ww _ (Bz (D8 h2.2) hs)
 ·refine ask i hi _ fun hb=>?_;rw[hdA i hi];refine List.mem_append_right _ ?_;unfold kH;rw[if_pos k2];exact VO.2 rfl
 ·refine ask i hi _ fun hb=>?_;rw[Vw,Vw,beq_iff_eq,beq_iff_eq,beq_iff_eq]at hm;have hrn:=(RV hrf ht0 hr0 (e:=es[i]) (by rw[ee];exact Vs hi)).2;unfold kZ at hrn;rw[if_neg (by rw[k3];decide),if_pos k3]at hrn;simp only[Vw]at hrn;have hdir:=hrn.1;rw[en]at hdir;have h1:=hfit t ht;unfold H5 at h1;rw[gH hm.1.1,gH hm.2]at h1;have hmem:(⟨t.c,t.s⟩:Al)∈aN (ak ts f.a es[i].over):=by
   rcases hre:ak ts f.a es[i].over with _|⟨e,_|⟨e2,rest⟩⟩
   ·rw[hre]at hdir;simp[bn]at hdir
   ·rw[hre]at hdir h1;simp only[bn,Vw,VH]at hdir;obtain⟨e',he',h2⟩:=VX.1 h1;rw[VO]at he';subst he';rw[Vw]at h2;simp only[aN,if_pos hdir.1];exact D8 h2.2
   rw[hre]at hdir;simp[bn]at hdir
  rw[hdA i hi];refine List.mem_append_right _ ?_;unfold kH;rw[if_neg (by rw[k3];decide),if_pos k3];exact VE.2 ⟨t.c,Qq (a:=⟨t.c,t.s⟩) hmem hb,rfl⟩
 have h:=VF.1 hnb _ (Vs hi);unfold av at h;simp[k6]at h;exact h.1.1.1
theorem FB{ts:Q0b}{l:Q05}{st:Q00}(hS:Sol ts st)(hsh:aZ ts=true)(hrf:gI ts=true)(hfit:∀t∈l,H5 ts t=true):Lay (Kv ts st) (dO ts l):=NF fun f hf=>BA hS hsh hrf hfit hf
theorem BB{ts:Q0b}{st:Q00}{xo xu:Q0a}{n:Int}(hen:∀k∈au ts,hasB ts k.1 k.2=true){f:Fc}(h:f∈bP ts st xo xu n):Kv ts st f=n:=by
 unfold bP xM sS EZ at h;obtain⟨o,-,h⟩:=VP.1 h;obtain⟨k,hk,h⟩:=VP.1 h;obtain⟨u,-,rfl⟩:=VE.1 h;obtain⟨hk1,hk2⟩:=Wo.1 hk;rw[Vw,beq_iff_eq,VH]at hk2;have e1:k.1=o.t:=gH hk2.1;have hb:hasB ts o.t k.2=true:=by
  rw[<-e1];exact hen k hk1
 unfold Kv;rw[if_pos hb];show st (o.t,k.2)=n;rw[<-e1];exact hk2.2
theorem wJ{x y:Al}:kF x y=true↔x=y:=by
 unfold kF;simp only[Vw,beq_iff_eq];constructor
 ·rintro⟨h0,h1⟩;obtain⟨xa,xb⟩:=x;obtain⟨ya,yb⟩:=y;simp only at h0 h1;rw[Gw h0,Gw h1]
 rintro rfl;simp
theorem D9(x y:Al):kF x y=kF y x:=by
 rw[VR,wJ,wJ];exact⟨Eq.symm,Eq.symm⟩
theorem Qr(x y:Al){v:Bool}(h:kF x y=v)(w:af):
  (binOp .eql 27 (.agg #[.string x.t,.string x.s]) (.agg #[.string y.t,.string y.s])).run prog w=.ok (.bool v) w:=by
 subst h;go_simp;unfold kF
 (repeat' split)<;>simp_all
def wK(xs:Q0a)(o:Al):Bool:=xs.any fun x=>kF x o
theorem Qs{xs:Q0a}{o:Al}:wK xs o=true↔o∈xs:=by
 unfold wK;rw[VX];constructor
 ·rintro⟨x,hx,e⟩;rw[<-wJ.1 e];exact hx
 intro h;exact⟨o,h,wJ.2 rfl⟩
theorem NG{xs:Q0a}{o:Al}{k:Nat}(h:k<xs.length):wK (xs.take (k+1)) o=(wK (xs.take k) o || kF xs[k] o):=by
 rw[Vx h];unfold wK;rw[List.any_append];simp only[List.any_cons,List.any_nil,Bool.or_false]
theorem Qt{xs:Q0a}{o:Al}{k:Nat}(h:k<xs.length)(he:kF xs[k] o=true):wK xs o=true:=VX.2 ⟨xs[k],Vs h,he⟩
theorem Kw(ad:Q02)(cap:Nat)(ts:Q0a)(t:Al)(w:af)(hlen:ts.length<=1048576)(hs:kD w ad ts):
  Calls prog 308 #[.slice ad ts.length cap,.agg #[.string t.t,.string t.s]] w fun e w'=>(∃r:Int,e=.returned (.int .i64 r)/\decide (0<=r)=wK ts t)/\ag w w':=by
 obtain⟨W,hW⟩:=eQx (w.alloc (.cells #[.string t.t,.string t.s] 27));have HB0:Hid (ag w W):=by show Below _ _ _;rw[hW];exact(Vv w.heap.size w).alloc (Vu _) _
 have hz:w.heap.size<W.heap.size:=by rw[hW];simp
 have b0:W.cell? ⟨w.heap.size,0,none⟩=some (.string t.t):=by rw[hW];simp
 have b1:W.cell? ⟨w.heap.size,1,none⟩=some (.string t.s):=by rw[hW];simp
 have HS:=az (hs.below HB0.out);clear hs;go_enter func308,ntmps308;go_wp2_with fail;rw[<-hW];clear hW;go_loopw[8] (fun i wr=>∃k:Nat,k<=ts.length/\i=.int .i64 k/\Hid (wK (ts.take k) t=false)/\ag W wr) (fun i _=>ts.length-(intOf i).toNat);case atStart=>exact⟨0,Vy _,rfl,rfl,Vv _ _⟩
 obtain⟨k,hk,rfl,HP,hB⟩:=hrel;have a0:=jh hB hz b0;have a1:=jh hB hz b1;by_cases hlt:k<ts.length
 ·rcases HS.out.below hB with hnil|⟨b,off,rfl,hb,hr⟩
  ·rw[hnil]at hlt;simp at hlt
  obtain⟨t0,t1⟩:=hr k hlt;have hk1:=bI k;have hk2:(k:Int)<(ts.length:Int):=by omega
  clear hr;cases hq:kF t ts[k];case true=>
   have HE:=Qr t ts[k] hq;have HN:Hid (wK ts t=true):=Qt hlt (by rw[D9];exact hq);go_wp2_with fail;go_quiet (fail);go_wp2;go_ret;exact⟨⟨_,rfl,by rw[HN.out];simp⟩,HB0.out.trans (below_drewN (hB.mono HB0.out.size) _)⟩
  have HE:=Qr t ts[k] hq;have WQ:Hid (wK (ts.take (k+1)) t=false):=by show _=_;rw[NG hlt,HP.out,D9,hq];rfl
  go_wp2_with fail;go_quiet (fail);go_wp2;go_roundw;case rel=>exact⟨k+1,by omega,by go_num,WQ,below_drewN hB _⟩
  simp[intOf]<;>omega
 obtain rfl:k=ts.length:=by omega
 have HN:Hid (wK ts t=false):=by have:=HP.out;rw[VI]at this;exact this
 go_wp2;go_ret;exact⟨⟨-1,rfl,by rw[HN.out];rfl⟩,HB0.out.trans (hB.mono HB0.out.size)⟩
theorem CB(ad:Q02)(cap:Nat)(ts:Q0a)(t:Al)(w:af)(hlen:ts.length<=1048576)(hs:kD w ad ts):
  Calls prog 268 #[.slice ad ts.length cap,.agg #[.string t.t,.string t.s]] w fun e w'=>e=.returned (.bool (wK ts t))/\ag w w':=by
 have HB0:Hid (ag w (w.alloc (.cells #[.string t.t,.string t.s] 27))):=(Vv w.heap.size w).alloc (Vu _) _;have HS:=aV hs;clear hs;go_enter func268,ntmps268;go_wp2_with fail;refine(Kw ad cap ts t _ hlen (HS.out.below HB0.out)).mono ?_;rintro e w1 ⟨⟨r,rfl,hr⟩,hb1⟩;have HR:=aV hr;have HB1:=aV (HB0.out.trans (hb1.mono HB0.out.size));clear hr hb1;go_wp2;go_ret;exact⟨ah HR.out,HB1.out⟩
def ib(xs:Q0a)(o:Al):List Al:=if wK xs o then xs else xs++[o]
theorem H6:∃i,prog.info? 27=some i/\i.zero=some (.agg #[.string ⟨#[]⟩,.string ⟨#[]⟩])/\i.size=2/\i.bytes=32 :=
 info_parts (P:=prog) (e:=27) (z:=.agg #[.string ⟨#[]⟩,.string ⟨#[]⟩]) (size:=2) (bytes:=32) (by kernel_rfl)
theorem tO{w:af}{base:Nat}{v:Value}{xs:Q0a}(h:w.ownsRow base 27 2 v xs.length (pairs xs)):∃ad cap,v=.slice ad xs.length cap/\kD w ad xs:=by
 rcases h.2 with⟨rfl,h0⟩|⟨g,cap,cur,rfl,hbg,hg,hnc,-⟩
 ·exact⟨none,0,by rw[h0],.inl (VM.1 h0)⟩
 refine⟨_,cap,rfl,.inr ⟨g,0,rfl,(h.lt g rfl).2,fun i hi=>?_⟩⟩;obtain⟨h0,h1⟩:=qL xs i hi;have hl:=lW xs;refine⟨?_,?_⟩
 ·rw[h.cellAt (0+i*2) (by omega),VW];exact h0
 rw[h.cellAt (0+i*2+1) (by omega),VW];exact h1
theorem ni(B:Nat)(v:Value)(xs:Q0a)(o:Al)(w:af)(hlen:xs.length<=1000)(hB:B<=w.heap.size)(hown:w.ownsRow B 27 2 v xs.length (pairs xs)):
  Calls prog 200 #[v,.agg #[.string o.t,.string o.s]] w fun e w'=>∃v',e=.returned v'/\w'.ownsRow B 27 2 v' (ib xs o).length (pairs (ib xs o))/\Aside w v w' v'/\∀B',(∀g,v.ownBlock=some g->B'<=g)->B'<=w.heap.size->Below B' w w':=by
 obtain⟨iO,h0,h1,h2,h3⟩:=H6;have HIO:=aV (And.intro h0 (And.intro h1 (And.intro h2 h3)));obtain⟨ad,cap,rfl,hsl⟩:=tO hown;obtain⟨W,hW⟩:=eQx (w.alloc (.cells #[.string o.t,.string o.s] 27));have HB0:Hid (ag w W):=by show Below _ _ _;rw[hW];exact(Vv w.heap.size w).alloc (Vu _) _
 have hz:w.heap.size<W.heap.size:=by rw[hW];simp
 have b0:W.cell? ⟨w.heap.size,0,none⟩=some (.string o.t):=by rw[hW];simp
 have b1:W.cell? ⟨w.heap.size,1,none⟩=some (.string o.s):=by rw[hW];simp
 have Y4:=aV hsl;have HO:=aV hown;clear hsl hown h0 h1 h2 h3;go_enter func200,ntmps200;go_wp2_with fail;rw[<-hW];clear hW;refine(CB ad cap xs o _ (by omega) (Y4.out.below HB0.out)).mono ?_;rintro e w1 ⟨rfl,hb1⟩;have HB1:=aV (HB0.out.trans (hb1.mono HB0.out.size));have c0:=jh hb1 hz b0;have c1:=jh hb1 hz b1;have Xf:=aV (fQ HO.out HB1.out);have HA1:Hid (Aside w (.slice ad xs.length cap) w1 (.slice ad xs.length cap)):=Aside.below HB1.out;clear hb1 b0 b1;cases hh:wK xs o;case true=>
  have HW:Hid (ib xs o=xs):=by show _=_;unfold ib;rw[hh];rfl
  go_wp2;go_ret;exact⟨_,rfl,by rw[HW.out];exact Xf.out,HA1.out,fun B' _ hB'=>HB1.out.mono hB'⟩
 have HW:Hid (ib xs o=xs++[o]):=by show _=_;unfold ib;rw[hh];rfl
 obtain⟨W2,hW2⟩:=eQx (w1.alloc (.cells #[.string o.t,.string o.s] 27));have WY:Hid (W2.ownsRow B 27 2 (.slice ad xs.length cap) xs.length (pairs xs)):=by show World.ownsRow _ _ _ _ _ _ _;rw[hW2];exact Xf.out.alloc _
 have HA2:Hid (Aside w (.slice ad xs.length cap) W2 (.slice ad xs.length cap)):=by show Aside _ _ _ _;rw[hW2];exact HA1.out.trans (Aside.below ((Vv _ _).alloc (Vu _) _))
 have HBW2:Hid (ag w W2):=by show Below _ _ _;rw[hW2];exact HB1.out.alloc HB1.out.size _
 have HN2:Hid (∀j u,[Value.string o.t,.string o.s][j]?=some u->W2.cell? ((⟨w1.heap.size,0,none⟩:Addr).add j)=some u):=fun j u hu=>by
  rw[hW2]
  match j,hu with
  | 0,hu=>simp at hu;subst hu;simp[Addr.add]
  | 1,hu=>simp at hu;subst hu;simp[Addr.add]
 have hsz2:B<=W2.heap.size:=by have:=HB1.out.size;rw[hW2];simp;omega
 clear hh;go_wp2_with(at_builtin;rw[<-hW2];clear hW2;refine wpList_append_own_at _ rfl _ _ 192 rfl B 27 iO (.agg #[.string ⟨#[]⟩,.string ⟨#[]⟩]) 2 32 underlying192 HIO.out.1 HIO.out.2.1 HIO.out.2.2.1 HIO.out.2.2.2 rfl (by decide) _ xs.length (pairs xs) rfl WY.out ⟨w1.heap.size,0,none⟩ 1 1 [.string o.t,.string o.s] rfl rfl HN2.out (by simp[Value.oneCell']) (by unfold maxLen;omega) (by omega) hsz2 ?_);intro v' w3 hown hgr _ hat;have HE:Hid (w3.ownsRow B 27 2 v' (ib xs o).length (pairs (ib xs o))):=by
  show World.ownsRow _ _ _ _ _ _ _;rw[HW.out,VD];have:pairs (xs++[o])=pairs xs++[.string o.t,.string o.s]:=by simp[pairs]
  rw[this];exact hown
 have Xi:Hid (Aside w (.slice ad xs.length cap) w3 v'):=HA2.out.trans (Aside.app hgr hat);have HBL:Hid (∀B',(∀g,(Value.slice ad xs.length cap).ownBlock=some g->B'<=g)->B'<=w.heap.size->Below B' w w3):=fun B' hv hB'=>(HBW2.out.mono hB').grown hgr (Vz hB' HBW2.out.size) hv;clear hown hgr hat;go_wp2;go_ret;exact⟨_,rfl,HE.out,Xi.out,HBL.out⟩
def iC(fs:Q04):List Value:=fs.flatMap Fc.row
theorem xW:∀fs:List Fc,(iC fs).length=fs.length*5
 | []=>rfl
 | f::fs=>by have:=xW fs;simp only[iC,V6,VD,V8,Fc.row,WE]at this ⊢;omega
theorem Kz(fs:Q04)(f:Fc):iC (fs++[f])=iC fs++f.row:=by simp[iC]
theorem wL:∀(fs:Q04) (i:Nat) (h:i<fs.length) (c:Nat),c<5->(iC fs)[i*5+c]?=fs[i].row[c]?
 | [],i,h,_,_=>by simp at h
 | f::fs,0,_,c,hc=>by
  simp only[iC,V6,Nat.zero_mul,VW,List.getElem_cons_zero];rw[Wy (by simp[Fc.row];omega)]
 | f::fs,i+1,h,c,hc=>by
  have ih:=wL fs i (by simpa using h) c hc;simp only[iC,V6,List.getElem_cons_succ]at ih ⊢;rw[Wx (by simp[Fc.row];omega)];have:(i+1)*5+c-f.row.length=i*5+c:=by simp[Fc.row];omega
  rw[this];exact ih
theorem BC{w:af}{base:Nat}{v:Value}{fs:Q04}(h:w.ownsRow base 52 5 v fs.length (iC fs)):∃ad cap,v=.slice ad fs.length cap/\E5 w ad fs:=by
 rcases h.2 with⟨rfl,h0⟩|⟨g,cap,cur,rfl,hbg,hg,hnc,-⟩
 ·exact⟨none,0,by rw[h0],.inl (VM.1 h0)⟩
 refine⟨_,cap,rfl,.inr ⟨g,0,rfl,(h.lt g rfl).2,fun i hi=>?_⟩⟩;have hl:=xW fs;have hc:∀c,c<5->w.cell? ⟨g,0+i*5+c,none⟩=fs[i].row[c]?:=fun c hc=>by
  rw[h.cellAt (0+i*5+c) (by omega),VW];exact wL fs i hi c hc
 exact⟨hc 0 (by omega),hc 1 (by omega),hc 2 (by omega),hc 3 (by omega),hc 4 (by omega)⟩
theorem Sk:∃i,prog.info? 52=some i/\i.zero=some (.agg #[.string ⟨#[]⟩,.string ⟨#[]⟩,.string ⟨#[]⟩,.string ⟨#[]⟩,.string ⟨#[]⟩])/\i.size=5/\i.bytes=80 :=
 info_parts (P:=prog) (e:=52) (z:=.agg #[.string ⟨#[]⟩,.string ⟨#[]⟩,.string ⟨#[]⟩,.string ⟨#[]⟩,.string ⟨#[]⟩]) (size:=5) (bytes:=80) (by kernel_rfl)
theorem U3(w:af)(f:Fc):∀j u,f.row[j]?=some u->(w.alloc (.cells #[.string f.a,.string f.b,.string f.r,.string f.c,.string f.d] 52)).cell? ((⟨w.heap.size,0,none⟩:Addr).add j)=some u:=fun j u hu=>by
 match j,hu with
 | 0,hu=>simp[Fc.row]at hu;subst hu;simp[Addr.add]
 | 1,hu=>simp[Fc.row]at hu;subst hu;simp[Addr.add]
 | 2,hu=>simp[Fc.row]at hu;subst hu;simp[Addr.add]
 | 3,hu=>simp[Fc.row]at hu;subst hu;simp[Addr.add]
 | 4,hu=>simp[Fc.row]at hu;subst hu;simp[Addr.add]
structure OutI(w W wr:World)(v:Value)(out:Q04):Prop where
 row:wr.ownsRow w.heap.size 52 5 v out.length (iC out)
 keep:∀g o x,W.cell? ⟨g,o,none⟩=some x->wr.cell? ⟨g,o,none⟩=some x
 size:W.heap.size<=wr.heap.size
 bel:ag w wr
 free:∀g,v.ownBlock=some g->∀o,W.cell? ⟨g,o,none⟩=none
theorem bB{w:af}{g o:Nat}{x:Value}(h:w.cell? ⟨g,o,none⟩=some x):g<w.heap.size:=by
 unfold World.cell? at h;cases ho:w.heap[g]? with
 | none=>simp[ho]at h
 | some o=>exact(VC.1 ho).1
theorem OutI.below{w W wr w':af}{v:Value}{out:Q04}(h:OutI w W wr v out)(hb:ag wr w'):OutI w W w' v out where
 row:=fQ h.row hb
 keep g o x hx:=(hb.cell (p:=⟨g,o,none⟩) (bB (h.keep g o x hx))).trans (h.keep g o x hx)
 size:=Vz h.size hb.size
 bel:=h.bel.trans (hb.mono h.bel.size)
 free:=h.free
def U4:Value->Nat
 | .slice _ n _=>n
 | _=>0
def Fc.fits(t:Fc):Prop:=t.a.size<=maxLen/\t.b.size<=maxLen/\t.r.size<=maxLen/\t.c.size<=maxLen/\t.d.size<=maxLen
def oV(k:Fc):Value:=.agg #[.string k.a,.string k.b,.string k.r,.string k.c,.string k.d]
theorem Qu(x y:Fc)(h:oV x=oV y):x=y:=by
 unfold oV at h;injection h with h;have h1:=congrArg Array.toList h;simp at h1;obtain⟨xa,xb,xr,xc,xd⟩:=x;obtain⟨ya,yb,yr,yc,yd⟩:=y;simp only at h1;obtain⟨rfl,rfl,rfl,rfl,rfl⟩:=h1;rfl
theorem Qv:laidOutB prog=true:=by kernel_rfl
theorem Uk:(52:TypeId)<prog.types.size:=of_decide_eq_true (by kernel_rfl)
theorem Sm:(match prog.underlying 52 with|some (.array _ _)|some (.struct _)=>true|_=>false)=true:=by rw[underlying52]
set_option maxRecDepth 100000 in
theorem Sn:WideMaps.KeyLaw prog 52:=deep_law_laid Qv (m:=3) (by omega) Uk (by kernel_rfl) Sm
theorem Qw:Keyed prog 52:=Keyed.of_law Sn
theorem Sq:prog.keyType 52=true:=by kernel_rfl
theorem H7:prog.cellsOf 52=5:=by kernel_rfl
theorem NH:prog.cellsOf 27=2:=by kernel_rfl
theorem NI:prog.cellsOf 9=1:=by kernel_rfl
theorem NJ:2<=prog.types.size:=of_decide_eq_true (by kernel_rfl)
theorem KA:∃n,prog.types.size=n+2:=⟨prog.types.size-2,by have:=NJ;omega⟩
set_option maxRecDepth 100000 in
theorem H8(k:Fc)(h:k.fits):∃kl,keyOf prog 52 (oV k)=some kl:=by
 obtain⟨n,hn⟩:=KA;obtain⟨h0,h1,h2,h3,h4⟩:=h;refine⟨.string (keyBytes [.string k.a.data.toList,.string k.b.data.toList,.string k.r.data.toList,.string k.c.data.toList,.string k.d.data.toList]),?_⟩;unfold keyOf;rw[underlying52];simp only[Sq,oV,Value.formed,underlying52,H7,hn,Value.cells];simp +decide [Program.keyLits,underlying52,underlying27,underlying9,H7,NH,NI,h0,h1,h2,h3,h4]
theorem Qx(w:af):(zeroValue 107).run prog w=.ok (.agg #[]) w:=by kernel_rfl
theorem H9(b n:Nat)(M:Fc->Option Value)(f:Fc)(w:af)(hf:f.fits)(hV:aJ oV prog 52 w b n M)(hM:∀v,M f=some v->v=.agg #[]):
  Calls prog 76 #[.map (some b),.agg #[.string f.a,.string f.b,.string f.r,.string f.c,.string f.d]] w fun e w'=>e=.returned (.bool (M f).isSome)/\ag w w':=by
 obtain⟨kl,hkl⟩:=H8 f hf;have XP:Hid (keyOf prog 52 (oV f)=some kl):=hkl;have HM:Hid ((M f).getD (.agg #[])=.agg #[]):=by
  show _=_;cases e:M f with
  | none=>rfl
  | some v=>exact hM v e
 obtain⟨W,hW⟩:=eQx (w.alloc (.cells #[.string f.a,.string f.b,.string f.r,.string f.c,.string f.d] 52));have HB:=qC hW;have HV:=az (hV.below HB.out);have HB2:Hid (ag w (W.alloc (.cells #[] 107))):=HB.out.alloc HB.out.size _;clear hkl hV hM;go_enter func76,ntmps76;go_wp2_with(at_lookup;rw[<-hW];clear hW;refine dm _ rfl _ _ 115 rfl 52 107 Qw underlying115 (Qx _) b n M rfl HV.out f kl rfl XP.out ?_;rw[HM.out]);go_ret;exact⟨rfl,HB2.out⟩
def iV(xs:Q0a)(t:Tp):List Al:=ib (ib xs ⟨t.a,t.b⟩) ⟨t.c,t.d⟩
def fw(xs:Q0a)(t:Tp):List Al:=if t.s.toList==[] then ib xs ⟨t.c,t.d⟩ else xs
def fF(ts:Q05):List Al:=ts.foldl iV []
def di(ts:Q05):List Al:=ts.foldl fw []
theorem KC(ts:Q05)(t:Tp):fF (ts++[t])=iV (fF ts) t:=by simp[fF]
theorem Ia(ts:Q05)(t:Tp):di (ts++[t])=fw (di ts) t:=by simp[di]
theorem sJ(xs:Q0a)(o:Al):(ib xs o).length<=xs.length+1:=by
 unfold ib;split
 ·omega
 simp
theorem Ib(xs:Q0a)(t:Tp):(iV xs t).length<=xs.length+2:=by
 unfold iV;have h1:=sJ (ib xs ⟨t.a,t.b⟩) ⟨t.c,t.d⟩;have h2:=sJ xs ⟨t.a,t.b⟩;omega
theorem Ic(xs:Q0a)(t:Tp):(fw xs t).length<=xs.length+1:=by
 unfold fw;split
 ·exact sJ _ _
 omega
def NK(t:Tp):K3:=(t.a,t.b,t.r)
def dQ(ts:Q05):List (K3×Tp):=ts.map fun t=>(NK t,t)
theorem KD(ts:Q05)(t:Tp):dQ (ts++[t])=dQ ts++[(NK t,t)]:=by simp[dQ]
structure DatT(w:World)(D br bp:Nat)(tab:Value)(n1:Int)(E:List (K3×Tp))(xo xu:Q0a)(np:Nat)(Mp:K3->Option Value)(vo vu:Value):Prop where
 gt:bp<D
 lt:D<w.heap.size
 kind:∃cur,w.heap[D]?=some (.cells cur 194 (0,0))
 c0:w.cell? ⟨D,0,none⟩=some tab
 c1:w.cell? ⟨D,1,none⟩=some (.int .i64 n1)
 c2:w.cell? ⟨D,2,none⟩=some (.map (some br))
 c3:w.cell? ⟨D,3,none⟩=some (.map (some bp))
 c4:w.cell? ⟨D,4,none⟩=some vo
 c5:w.cell? ⟨D,5,none⟩=some vu
 told:G.Grp qK prog 273 29 6 Tp.row w bp np Mp E
 objs:w.ownsRow (bp+1) 27 2 vo xo.length (pairs xo)
 users:w.ownsRow (bp+1) 27 2 vu xu.length (pairs xu)
 apart:∀g,vo.ownBlock=some g->vu.ownBlock≠some g
theorem fe{w:af}{base size n g:Nat}{e e':TypeId}{v:Value}{xs:Q03}{cur:Array Value}(h:w.ownsRow base e size v n xs)(hg:v.ownBlock=some g)(hc:w.heap[g]?=some (.cells cur e' (0,0))):e=e':=by
 rcases h.2 with⟨rfl,-⟩|⟨g',cap,cur',rfl,-,hg',-⟩
 ·simp[Value.ownBlock]at hg
 have e1:g'=g:=by simpa[Value.ownBlock] using hg
 rw[e1,hc]at hg';injection hg' with hg';injection hg' with _ h2;exact h2.symm
theorem FD{w:af}{base size n g:Nat}{e:TypeId}{v:Value}{xs:Q03}{es:Array MapEntry}{c:Nat}(h:w.ownsRow base e size v n xs)(hg:v.ownBlock=some g)(hc:w.heap[g]?=some (.map es c)):False:=by
 rcases h.2 with⟨rfl,-⟩|⟨g',cap,cur',rfl,-,hg',-⟩
 ·simp[Value.ownBlock]at hg
 have e1:g'=g:=by simpa[Value.ownBlock] using hg
 rw[e1,hc]at hg';cases hg'
theorem eX{w w':af}{base size n:Nat}{e:TypeId}{v:Value}{xs:Q03}(h:w.ownsRow base e size v n xs)(hb:∀g,v.ownBlock=some g->w'.heap[g]?=w.heap[g]?):w'.ownsRow base e size v n xs:=by
 refine⟨h.1,?_⟩;rcases h.2 with h0|⟨g,cap,cur,rfl,h1,h2,h3⟩
 ·exact .inl h0
 exact .inr ⟨g,cap,cur,rfl,h1,(hb g rfl).trans h2,h3⟩
theorem jS{w:af}{base size n g:Nat}{e:TypeId}{v:Value}{xs:Q03}(h:w.ownsRow base e size v n xs)(hg:v.ownBlock=some g):∃cur,w.heap[g]?=some (.cells cur e (0,0)):=by
 rcases h.2 with⟨rfl,-⟩|⟨g',cap,cur',rfl,-,hg',-⟩
 ·simp[Value.ownBlock]at hg
 have e1:g'=g:=by simpa[Value.ownBlock] using hg
 exact⟨cur',by rw[<-e1];exact hg'⟩
theorem wM{w:af}{bp np:Nat}{Mp:K3->Option Value}{E:List (K3×Tp)}(h:G.Grp qK prog 273 29 6 Tp.row w bp np Mp E){k:K3}{v:Value}(hk:Mp k=some v):∃n xs,w.ownsRow (bp+1) 29 6 v n xs:=by
 rcases h.row k with⟨e,-⟩|⟨v',e,ho⟩
 ·rw[e]at hk;cases hk
 rw[e]at hk;injection hk with hk;subst hk;exact⟨_,_,ho⟩
theorem Ie{w:af}{bp np g:Nat}{Mp:K3->Option Value}{E:List (K3×Tp)}{e:TypeId}{cur:Array Value}(h:G.Grp qK prog 273 29 6 Tp.row w bp np Mp E)(hc:w.heap[g]?=some (.cells cur e (0,0)))(hne:(29:TypeId)≠e):G.FreeB Mp g:=fun k v hk hg=>by
 obtain⟨n,xs,ho⟩:=wM h hk;exact hne (fe ho hg hc)
theorem wN{w w':af}{bp np:Nat}{Mp:K3->Option Value}{E:List (K3×Tp)}(h:G.Grp qK prog 273 29 6 Tp.row w bp np Mp E)(hm:w'.heap[bp]?=w.heap[bp]?)(hr:∀k v g,Mp k=some v->v.ownBlock=some g->w'.heap[g]?=w.heap[g]?):G.Grp qK prog 273 29 6 Tp.row w' bp np Mp E where
 map:=h.map.of_block hm
 row k:=by
  rcases h.row k with e|⟨v,e,ho⟩
  ·exact .inl e
  exact .inr ⟨v,e,eX ho fun g hg=>hr k v g e hg⟩
 apart:=h.apart
section
variable  {w w':World}{D br bp:Nat}{tab:Value}{n1:Int}{E:List (K3×Tp)}{xo xu:Q0a}{np:Nat}{Mp:K3->Option Value}{vo vu:Value}
theorem DatT.below(h:DatT w D br bp tab n1 E xo xu np Mp vo vu)(hb:ag w w'):DatT w' D br bp tab n1 E xo xu np Mp vo vu where
 gt:=h.gt
 lt:=Vt h.lt hb.size
 kind:=by obtain⟨cur,e⟩:=h.kind;exact⟨cur,(hb.block D h.lt).trans e⟩
 c0:=(hb.cell (p:=⟨D,0,none⟩) h.lt).trans h.c0
 c1:=(hb.cell (p:=⟨D,1,none⟩) h.lt).trans h.c1
 c2:=(hb.cell (p:=⟨D,2,none⟩) h.lt).trans h.c2
 c3:=(hb.cell (p:=⟨D,3,none⟩) h.lt).trans h.c3
 c4:=(hb.cell (p:=⟨D,4,none⟩) h.lt).trans h.c4
 c5:=(hb.cell (p:=⟨D,5,none⟩) h.lt).trans h.c5
 told:=h.told.below hb
 objs:=fQ h.objs hb
 users:=fQ h.users hb
 apart:=h.apart
theorem DatT.tell(h:DatT w D br bp tab n1 E xo xu np Mp vo vu){Mp':K3->Option Value}{E':List (K3×Tp)}{np':Nat}(hg:G.Grp qK prog 273 29 6 Tp.row w' bp np' Mp' E')(hs:G.Stl w Mp w' Mp' bp):DatT w' D br bp tab n1 E' xo xu np' Mp' vo vu:=by
 have hD:w'.heap[D]?=w.heap[D]?:=by
  obtain⟨cur,e⟩:=h.kind;exact hs.block D h.lt (by have:=h.gt;omega) (Ie h.told e (by decide))
 have hc:∀o,w'.cell? ⟨D,o,none⟩=w.cell? ⟨D,o,none⟩:=fun o=>VN (w:=w) (a:=⟨D,o,none⟩) hD;have hO:∀{v:Value} {n:Nat} {xs:Q03},w.ownsRow (bp+1) 27 2 v n xs->w'.ownsRow (bp+1) 27 2 v n xs:=fun {v n xs} ho=>eX ho fun g hg=>by
  obtain⟨cur,e⟩:=jS ho hg;have:=ho.lt g hg;exact hs.block g this.2 (by omega) (Ie h.told e (by decide))
 exact⟨h.gt,Vt h.lt hs.size,by obtain⟨cur,e⟩:=h.kind;exact⟨cur,hD.trans e⟩,(hc _).trans h.c0,(hc _).trans h.c1,(hc _).trans h.c2,(hc _).trans h.c3,(hc _).trans h.c4,(hc _).trans h.c5,hg,hO h.objs,hO h.users,h.apart⟩
theorem DatT.newO(h:DatT w D br bp tab n1 E xo xu np Mp vo vu){vo':Value}{xo':Q0a}(ho:w'.ownsRow (bp+1) 27 2 vo' xo'.length (pairs xo'))(ha:Aside w vo w' vo'):DatT (w'.setCell ⟨D,4,none⟩ vo') D br bp tab n1 E xo' xu np Mp vo' vu:=by
 obtain⟨cur,hk⟩:=h.kind;have hDo:vo.ownBlock≠some D:=fun e=>absurd (fe h.objs e hk) (by decide);have hD:w'.heap[D]?=w.heap[D]?:=ha.block D h.lt hDo;have hc:∀o,w'.cell? ⟨D,o,none⟩=w.cell? ⟨D,o,none⟩:=fun o=>VN (w:=w) (a:=⟨D,o,none⟩) hD;have hc2:∀o,o≠4->(w'.setCell ⟨D,4,none⟩ vo').cell? ⟨D,o,none⟩=w.cell? ⟨D,o,none⟩:=fun o ne=>(ll (by omega)).trans (hc o);have hDn:vo'.ownBlock≠some D:=ha.apart h.lt hDo;have hne:∀g,g≠D->(w'.setCell ⟨D,4,none⟩ vo').heap[g]?=w'.heap[g]?:=fun g e=>heap_setCell_other w' ⟨D,4,none⟩ g vo' e;have hbp:bp<w.heap.size:=by have:=h.gt;have:=h.lt;omega
 have hrow:∀k v g,Mp k=some v->v.ownBlock=some g->(w'.setCell ⟨D,4,none⟩ vo').heap[g]?=w.heap[g]?:=fun k v g hm hg=>by
  obtain⟨n,xs,hr⟩:=wM h.told hm;obtain⟨cr,er⟩:=jS hr hg;rw[hne g (fun e=>absurd (fe hr (e ▸ hg) hk) (by decide))];exact ha.block g (hr.lt g hg).2 (fun e=>absurd (fe h.objs e er) (by decide))
 refine⟨h.gt,by simpa using Vt h.lt ha.size,⟨_,heap_setCell_same w' D 4 cur _ vo' (hD.trans hk)⟩,(hc2 0 (by omega)).trans h.c0,(hc2 1 (by omega)).trans h.c1,(hc2 2 (by omega)).trans h.c2,(hc2 3 (by omega)).trans h.c3,Py ((hc 4).trans h.c4),(hc2 5 (by omega)).trans h.c5,wN h.told ?_ hrow,eX ho fun g hg=>hne g fun e=>hDn (e ▸ hg),eX h.users fun g hg=>?_,fun g hg hu=>?_⟩
 ·rw[hne bp (by have:=h.gt;omega)];exact ha.block bp hbp fun e=>by have:=(h.objs.lt bp e).1;omega
 ·rw[hne g (fun e=>absurd (fe h.users (e ▸ hg) hk) (by decide))];exact ha.block g (h.users.lt g hg).2 fun e=>h.apart g e hg
 rcases ha.own with e|⟨g',e,hg'⟩
 ·exact h.apart g (e ▸ hg) hu
 rw[hg]at e;injection e with e;have:=(h.users.lt g hu).2;omega
theorem DatT.newU(h:DatT w D br bp tab n1 E xo xu np Mp vo vu){vu':Value}{xu':Q0a}(ho:w'.ownsRow (bp+1) 27 2 vu' xu'.length (pairs xu'))(ha:Aside w vu w' vu'):DatT (w'.setCell ⟨D,5,none⟩ vu') D br bp tab n1 E xo xu' np Mp vo vu':=by
 obtain⟨cur,hk⟩:=h.kind;have hDo:vu.ownBlock≠some D:=fun e=>absurd (fe h.users e hk) (by decide);have hD:w'.heap[D]?=w.heap[D]?:=ha.block D h.lt hDo;have hc:∀o,w'.cell? ⟨D,o,none⟩=w.cell? ⟨D,o,none⟩:=fun o=>VN (w:=w) (a:=⟨D,o,none⟩) hD;have hc2:∀o,o≠5->(w'.setCell ⟨D,5,none⟩ vu').cell? ⟨D,o,none⟩=w.cell? ⟨D,o,none⟩:=fun o ne=>(ll (by omega)).trans (hc o);have hDn:vu'.ownBlock≠some D:=ha.apart h.lt hDo;have hne:∀g,g≠D->(w'.setCell ⟨D,5,none⟩ vu').heap[g]?=w'.heap[g]?:=fun g e=>heap_setCell_other w' ⟨D,5,none⟩ g vu' e;have hbp:bp<w.heap.size:=by have:=h.gt;have:=h.lt;omega
 have hrow:∀k v g,Mp k=some v->v.ownBlock=some g->(w'.setCell ⟨D,5,none⟩ vu').heap[g]?=w.heap[g]?:=fun k v g hm hg=>by
  obtain⟨n,xs,hr⟩:=wM h.told hm;obtain⟨cr,er⟩:=jS hr hg;rw[hne g (fun e=>absurd (fe hr (e ▸ hg) hk) (by decide))];exact ha.block g (hr.lt g hg).2 (fun e=>absurd (fe h.users e er) (by decide))
 refine⟨h.gt,by simpa using Vt h.lt ha.size,⟨_,heap_setCell_same w' D 5 cur _ vu' (hD.trans hk)⟩,(hc2 0 (by omega)).trans h.c0,(hc2 1 (by omega)).trans h.c1,(hc2 2 (by omega)).trans h.c2,(hc2 3 (by omega)).trans h.c3,(hc2 4 (by omega)).trans h.c4,Py ((hc 5).trans h.c5),wN h.told ?_ hrow,eX h.objs fun g hg=>?_,eX ho fun g hg=>hne g fun e=>hDn (e ▸ hg),fun g hg hu=>?_⟩
 ·rw[hne bp (by have:=h.gt;omega)];exact ha.block bp hbp fun e=>by have:=(h.users.lt bp e).1;omega
 ·rw[hne g (fun e=>absurd (fe h.objs (e ▸ hg) hk) (by decide))];exact ha.block g (h.objs.lt g hg).2 fun e=>h.apart g hg e
 rcases ha.own with e|⟨g',e,hg'⟩
 ·exact h.apart g hg (e ▸ hu)
 rw[hu]at e;injection e with e;have:=(h.objs.lt g hg).2;omega
end
theorem Qy:∃i,prog.info? 29=some i/\i.zero=some (.agg #[.string ⟨#[]⟩,.string ⟨#[]⟩,.string ⟨#[]⟩,.string ⟨#[]⟩,.string ⟨#[]⟩,.string ⟨#[]⟩])/\i.size=6/\i.bytes=96 :=
 info_parts (P:=prog) (e:=29) (z:=.agg #[.string ⟨#[]⟩,.string ⟨#[]⟩,.string ⟨#[]⟩,.string ⟨#[]⟩,.string ⟨#[]⟩,.string ⟨#[]⟩]) (size:=6) (bytes:=96) (by kernel_rfl)
theorem KE(u:af):(zeroValue 25).run prog u=.ok (.slice none 0 0) u:=by kernel_rfl
theorem Ea{w:af}{bp np:Nat}{Mp:K3->Option Value}{E:List (K3×Tp)}(h:G.Grp qK prog 273 29 6 Tp.row w bp np Mp E)(k:K3):w.ownsRow (bp+1) 29 6 ((Mp k).getD (.slice none 0 0)) (G.lookL E k).length (G.flatG Tp.row (G.lookL E k)):=by
 rcases h.row k with⟨e,e2⟩|⟨v,e,ho⟩
 ·rw[e,e2];exact World.ownsRow_nil _ _ _ _
 rw[e];exact ho
theorem news_of_block{w:af}{g:Nat}{cs:Array Value}{T:TypeId}(h:w.heap[g]?=some (.cells cs T (0,0))):∀j u,cs.toList[j]?=some u->w.cell? ((⟨g,0,none⟩:Addr).add j)=some u:=by
 intro j u hu;have e:(⟨g,0,none⟩:Addr).add j=⟨g,j,none⟩:=by
  unfold Addr.add;by_cases hj:j=0
  ·subst hj;simp
  simp[hj]
 rw[e];simp[World.cell?,h];simpa using hu
theorem wZ.block{w w':af}{g:Nat}{t:Tp}(h:wZ w g t)(e:w'.heap[g]?=w.heap[g]?)(hl:g<w'.heap.size):wZ w' g t:=by
 obtain⟨h0,h1,h2,h3,h4,h5,_⟩:=h;have hc:∀o,w'.cell? ⟨g,o,none⟩=w.cell? ⟨g,o,none⟩:=fun o=>VN (w:=w) (a:=⟨g,o,none⟩) e;exact⟨(hc _).trans h0,(hc _).trans h1,(hc _).trans h2,(hc _).trans h3,(hc _).trans h4,(hc _).trans h5,hl⟩
theorem lq{w:af}{g:Nat}{cs:Array Value}{T:TypeId}(h:w.heap[g]?=some (.cells cs T (0,0)))(o:Nat):w.frozen? ⟨g,o,none⟩=false:=by
 simp[World.frozen?,h]
theorem wZ.aside{w w':af}{g base n:Nat}{t:Tp}{v v':Value}{xs:Q03}(h:wZ w g t)(hc:∃cur,w.heap[g]?=some (.cells cur 29 (0,0)))(ho:w.ownsRow base 27 2 v n xs)(ha:Aside w v w' v'):wZ w' g t/\∃cur,w'.heap[g]?=some (.cells cur 29 (0,0)):=by
 obtain⟨cur,e⟩:=hc;have hl:=h.2.2.2.2.2.2;have hb:=ha.block g hl fun hg=>absurd (fe ho hg e) (by decide);exact⟨h.block hb (Vt hl ha.size),cur,hb.trans e⟩
theorem Ul{C:Nat->Value}{a b c d e f g h i j:Value}(q:C=fun n=>(a::b::c::d::e::f::g::h::i::j::[]).getD n undef):C 0=a/\C 1=b/\C 2=c/\C 3=d/\C 4=e/\C 5=f/\C 6=g/\C 7=h/\C 8=i/\C 9=j:=by
 rw[q];exact⟨rfl,rfl,rfl,rfl,rfl,rfl,rfl,rfl,rfl,rfl⟩
theorem LY{w w1:af}{D c:Nat}{v:Value}(h:w.cell? ⟨D,c,none⟩=some v)(hD:D<w.heap.size)(hb:ag w w1):w1.cell? ⟨D,c,none⟩=some v:=(hb.cell hD).trans h
theorem cell_of{w1 w':af}{D c:Nat}{v:Value}(h:w1.cell? ⟨D,c,none⟩=some v)(e:w'.heap[D]?=w1.heap[D]?):w'.cell? ⟨D,c,none⟩=some v:=(VN (w:=w1) (a:=⟨D,c,none⟩) e).trans h
theorem DatT.named{w:af}{p:Addr}{v:Value}{D br bp:Nat}{tab:Value}{n1:Int}{E:List (K3×Tp)}{xo xu:Q0a}{np:Nat}{Mp:K3->Option Value}{vo vu:Value}(h:DatT (w.setCell p v) D br bp tab n1 E xo xu np Mp vo vu):∃x,x=w.setCell p v/\DatT x D br bp tab n1 E xo xu np Mp vo vu:=⟨_,rfl,h⟩
def Qz(bp:Nat)(w:World)(vo:Value)(X:Q0a)(v':Value)(w':World):Prop:=∃w1,ag w w1/\w'.ownsRow (bp+1) 27 2 v' X.length (pairs X)/\Aside w1 vo w' v'/\∀B',(∀g,vo.ownBlock=some g->B'<=g)->B'<=w1.heap.size->Below B' w1 w'
theorem QA(D br bp:Nat)(tab:Value)(n1:Int)(E:List (K3×Tp))(xo xu:Q0a)(np:Nat)(Mp:K3->Option Value)(vo vu:Value)(t:Tp)(w:af)(hd:DatT w D br bp tab n1 E xo xu np Mp vo vu)(hnp:np<=1000)(hE:E.length<=1000)(hxo:xo.length<=500)(hxu:xu.length<=500)(ht:t.fits):
    Calls prog 134 #[.pointer (some ⟨D,0,none⟩),.agg #[.string t.a,.string t.b,.string t.r,.string t.c,.string t.d,.string t.s]] w fun e w'=>e=.returned (.tuple #[])/\(∃Mp' vo' vu',DatT w' D br bp tab n1 (E++[(NK t,t)]) (iV xo t) (fw xu t) (np+1) Mp' vo' vu')/\Below bp w w':=by
  obtain⟨iT,h0,h1,h2,h3⟩:=Qy;have HIT:=aV (And.intro h0 (And.intro h1 (And.intro h2 h3)));obtain⟨W,hW⟩:=eQx ((w.alloc (.cells #[.string t.a,.string t.b,.string t.r,.string t.c,.string t.d,.string t.s] 29)).alloc (.cells #[.string t.a,.string t.b,.string t.r] 273));have WS:Hid (ag w W):=by show Below _ _ _;rw[hW];exact((Vv _ _).alloc (Vu _) _).alloc (by simp) _
  have hWs:W.heap.size=w.heap.size+2:=by rw[hW];simp
  have HT6:Hid (wZ W w.heap.size t):=by show wZ _ _ _;rw[hW];refine⟨?_,?_,?_,?_,?_,?_,?_⟩<;>first|(simp;done)|(simp;omega)
  have HK3:Hid (W.cell? ⟨w.heap.size+1,0,none⟩=some (.string t.a)/\W.cell? ⟨w.heap.size+1,1,none⟩=some (.string t.b)/\W.cell? ⟨w.heap.size+1,2,none⟩=some (.string t.r)):=by show _/\_;rw[hW];refine⟨?_,?_,?_⟩<;>simp
  have HD:=aV (hd.below WS.out);have hDl:D<w.heap.size:=hd.lt;have HFB:Hid (G.FreeB Mp w.heap.size):=hd.told.fresh (Vu _);have XL:Hid (W.heap[w.heap.size]?=some (.cells #[.string t.a,.string t.b,.string t.r,.string t.c,.string t.d,.string t.s] 29 (0,0))):=by show _=_;rw[hW,Below.heap_alloc _ _ _ (by simp)];exact heap_alloc_new w _
  have hbD:bp<D:=hd.gt;have HLL:Hid ((G.lookL E (NK t)).length<=1000):=Vz (WJ _ _) hE;obtain⟨row0,hr0⟩:∃r,r=(Mp (NK t)).getD (.slice none 0 0):=⟨_,rfl⟩;obtain⟨nn,hnn⟩:∃n,n=(G.lookL E (NK t)).length:=⟨_,rfl⟩;obtain⟨xs,hxs⟩:∃x,x=G.flatG Tp.row (G.lookL E (NK t)):=⟨_,rfl⟩;have X7:=aV hr0;have Ze:=aV hnn;have YC:=aV hxs;have hnl:nn<=1000:=by rw[hnn];exact HLL.out
  have Yj:Hid (∀W0:World,ag W W0->W0.ownsRow (bp+1) 29 6 row0 nn xs):=fun W0 hb=>by rw[hr0,hnn,hxs];exact Ea (HD.out.told.below hb) _
  have HKEY:Hid (∃kl,keyOf prog 273 (qK (NK t))=some kl):=Ez _ ht.1 ht.2.1 ht.2.2.1;clear h0 h1 h2 h3 hr0 hnn hxs hd hE;obtain⟨C2,hC2⟩:∃C:Nat->Value,C=fun n=>(Value.pointer (some ⟨D,0,none⟩)::.pointer (some ⟨D,0,none⟩)::.pointer (some ⟨D,3,none⟩)::.map (some bp)::.agg #[.string t.a,.string t.b,.string t.r]::.agg #[.string t.a,.string t.b,.string t.r,.string t.c,.string t.d,.string t.s]::[]).getD n undef:=⟨_,rfl⟩;have Xk:Hid (C2 0=Value.pointer (some ⟨D,0,none⟩)/\C2 1=Value.pointer (some ⟨D,0,none⟩)/\C2 2=Value.pointer (some ⟨D,3,none⟩)/\C2 3=Value.map (some bp)/\C2 4=Value.agg #[.string t.a,.string t.b,.string t.r]/\C2 5=Value.agg #[.string t.a,.string t.b,.string t.r,.string t.c,.string t.d,.string t.s]):=by show _/\_;rw[hC2];exact⟨rfl,rfl,rfl,rfl,rfl,rfl⟩
  clear hC2;go_enter func134,ntmps134;go_wp2_with fail;rw[<-hW];clear hW;refine qy 11 _ _ (G.EI C2 #[.string t.a,.string t.b,.string t.r,.string t.c,.string t.d,.string t.s] 29 6 W bp row0 nn xs (G.Back qK prog 273 191 bp np Mp (NK t))) (by kernel_rfl) rfl (by kernel_rfl) (by kernel_rfl) (yt [(10,[0,1,2,3,4,8,5,6,7,9,10])]) (G.ei_start W) ?stepA ?finA<;>dsimp only[wY];case stepA =>
    rintro i hi o ho l fq w' Xb hI hpre;have HI:=az hI;have WO:Hid (∀e∈o.after,Region.binds .any e=true->l e.on=true):=hpre;clear hI hpre;have hc:=F7 (i:=i) (by omega);clear hi
    repeat' rcases hc with rfl|hc
    · cases ho;have hA:=HI.out.early (i:=0) (by omega) Xb;clear WO HI;refine aa rfl fun K HK=>?_;go_simp;exact HK.out _ _ ⟨Value.pointer (some ⟨D,0,none⟩),by simp[upd, *],hA.put (by omega) Xk.out.1.symm⟩
    · cases ho;have hA:=HI.out.early (i:=1) (by omega) Xb;have e0:=(hA.val 0 (by omega) (WO.out ⟨0,.data⟩ (by simp) rfl)).trans Xk.out.1;clear WO HI;refine aa rfl fun K HK=>?_;simp only[e0];go_simp;exact HK.out _ _ ⟨Value.pointer (some ⟨D,0,none⟩),by simp[upd, *],hA.put (by omega) Xk.out.2.1.symm⟩
    · cases ho;have hA:=HI.out.early (i:=2) (by omega) Xb;have e1:=(hA.val 1 (by omega) (WO.out ⟨1,.data⟩ (by simp) rfl)).trans Xk.out.2.1;clear WO HI;refine aa rfl fun K HK=>?_;simp only[e1];go_simp;exact HK.out _ _ ⟨Value.pointer (some ⟨D,3,none⟩),by simp[upd, *],hA.put (by omega) Xk.out.2.2.1.symm⟩
    · cases ho;have hA:=HI.out.early (i:=3) (by omega) Xb;have e2:=(hA.val 2 (by omega) (WO.out ⟨2,.data⟩ (by simp) rfl)).trans Xk.out.2.2.1;have hb':=hA.bel;have d3:=(hb'.cell (p:=⟨D,3,none⟩) (by show D<_;omega)).trans HD.out.c3;clear WO HI;refine aa rfl fun K HK=>?_;simp only[e2];go_simp;exact HK.out _ _ ⟨Value.map (some bp),by simp[upd, *],hA.put (by omega) Xk.out.2.2.2.1.symm⟩
    · cases ho;have hA:=HI.out.early (i:=4) (by omega) Xb;have hb':=hA.bel;have k0:=(hb'.cell (p:=⟨w.heap.size+1,0,none⟩) (by show w.heap.size+1<_;omega)).trans HK3.out.1;have k1:=(hb'.cell (p:=⟨w.heap.size+1,1,none⟩) (by show w.heap.size+1<_;omega)).trans HK3.out.2.1;have k2:=(hb'.cell (p:=⟨w.heap.size+1,2,none⟩) (by show w.heap.size+1<_;omega)).trans HK3.out.2.2;clear WO HI;refine aa rfl fun K HK=>?_;go_simp;exact HK.out _ _ ⟨Value.agg #[.string t.a,.string t.b,.string t.r],by simp[upd, *],hA.put (by omega) Xk.out.2.2.2.2.1.symm⟩
    · cases ho;have hA:=HI.out.early (i:=5) (by omega) Xb;have hb':=hA.bel;obtain⟨t0,t1,t2,t3,t4,t5,tl⟩:=HT6.out.below hb';clear WO HI;refine aa rfl fun K HK=>?_;go_simp;exact HK.out _ _ ⟨Value.agg #[.string t.a,.string t.b,.string t.r,.string t.c,.string t.d,.string t.s],by simp[upd, *],hA.put (by omega) Xk.out.2.2.2.2.2.symm⟩
    · cases ho;have hA:=HI.out.early (i:=6) (by omega) Xb;have e5:=(hA.val 5 (by omega) (WO.out ⟨5,.data⟩ (by simp) rfl)).trans Xk.out.2.2.2.2.2;clear WO HI;refine aa rfl fun K HK=>?_;simp only[e5];go_simp;exact HK.out _ _ ⟨_,by simp[upd,e5],hA.lay⟩
    · cases ho;have hA:=HI.out.early (i:=7) (by omega) Xb;have e3:=(hA.val 3 (by omega) (WO.out ⟨3,.data⟩ (by simp) rfl)).trans Xk.out.2.2.2.1;have e4:=(hA.val 4 (by omega) (WO.out ⟨4,.data⟩ (by simp) rfl)).trans Xk.out.2.2.2.2.1;have hall:∀k,k<=6->l k=true:=fun k hk=>by
        have hc:=UH (i:=k) (by omega)
        repeat' rcases hc with rfl|hc
        all_goals exact WO.out ⟨_,.phase⟩ (by simp) rfl
      have hD':=HD.out.below hA.bel;obtain⟨kl,hkl⟩:=HKEY.out;obtain⟨st,w1,hrun,hg,hback⟩:=hD'.told.map.entry O6 O5 underlying191 KE (by unfold maxLen;omega) hkl;rw[<-X7.out]at hrun;have hrun':(Instr.mapEntry 191 (.map (some bp)) (Value.agg #[.string t.a,.string t.b,.string t.r])).run prog w'=.ok (.tuple #[row0,goInt st]) w1:=hrun;clear WO HI;refine aa rfl fun K HK=>?_;simp only[e3,e4];go_simp;exact HK.out _ _ ⟨_,by simp[upd,e3,e4,goInt],hA.took hall hg hback⟩
    · cases ho;have h7:=WO.out ⟨7,.data⟩ (by simp) rfl;have hB:=HI.out.midB h7 (i:=8) (by omega) Xb;obtain⟨st,e7⟩:=HI.out.seven h7;clear WO HI;refine aa rfl fun K HK=>?_;simp only[e7];go_simp;exact HK.out _ _ ⟨_,by simp[upd,e7,goInt],hB.first⟩
    · cases ho;have h7:=WO.out ⟨7,.chain⟩ (by simp) rfl;have h8:=WO.out ⟨8,.data⟩ (by simp) rfl;have hB:=HI.out.midB h7 (i:=9) (by omega) Xb;obtain ⟨W0,st,g,hm1,hm2,hm3,hm4,ZA,e7,hm7,hm8,hm9⟩:=hB.mid;have e8:=hm8 h8;have hown:=(Yj.out W0 hm1).kept ZA (by
        rcases h:row0.ownBlock with _|g'
        · exact .inl rfl
        · right;intro e;injection e with e;have:=((Yj.out W0 hm1).lt g' h).1;omega)
      have hnew:w'.heap[g]?=some (.cells #[.string t.a,.string t.b,.string t.r,.string t.c,.string t.d,.string t.s] 29 (0,0)):=by
        have hgl:g<W0.heap.size:=by
          rcases Nat.lt_or_ge g W0.heap.size with h|h
          · exact h
          · rw[Array.getElem?_eq_none h]at hm4;cases hm4
        rw[ZA.block g hgl (fun e=>by injection e with e;omega)];exact hm4
      clear WO HI;refine gP w' rfl rfl _ _ 25 rfl (bp+1) 29 iT _ 6 96 underlying25 HIT.out.1 HIT.out.2.1 HIT.out.2.2.1 HIT.out.2.2.2 rfl (by decide) row0 nn xs (by simp[Act.eval,e8]) hown ⟨g,0,none⟩ 1 1 [Value.string t.a,.string t.b,.string t.r,.string t.c,.string t.d,.string t.s] (by simp[Act.eval,hm2]) rfl (fun j u hu=>news_of_block hnew j u hu) (by simp[Value.oneCell']) (by unfold maxLen;omega) (by omega) (by have:=ZA.size;have:=hm1.size;omega) ?_;intro v' w2 hown2 WZ YV;exact⟨v',by simp[upd,Act.put],hB.app h8 WZ hown2 YV⟩
    · cases ho;have h7:=WO.out ⟨7,.data⟩ (by simp) rfl;obtain⟨st,e7⟩:=HI.out.seven h7;have HI2:=HI.out.second h7 e7;clear WO HI;refine aa rfl fun K HK=>?_;simp only[e7];go_simp;exact HK.out _ _ ⟨_,by simp[upd,e7,goInt],HI2⟩
  case finA =>
    rintro o ho l fq w' hall hI;obtain rfl:=Option.some.inj ho;have hC:=hI.last hall;obtain⟨W0,w1,st,hm1,hm2,hm3,hm4,ZA,hm6,-,hm8⟩:=hC.mid;have e10:=hm8 (hall 10 (by omega));have e3:=(hC.val 3 (by omega)).trans Xk.out.2.2.2.1;obtain⟨w3,hrun,hM3,hg3⟩:=hm6 w' (fq 9) (hm3.block bp (by have:=hm2.size;have:=hm1.size;omega) (fun e=>by have:=(Yj.out W0 hm1).lt bp e.symm;omega));have hst:=(HD.out.told.below hm1).step (y:=NK t) (s:=t) hm2 (by rw[<-Ze.out,<-YC.out];exact hm4) (by rw[<-X7.out];exact hm3) (by rw[<-X7.out];exact ZA) hg3 hM3;have ZN:=aV ((HD.out.below hm1).tell hst.1 hst.2);have HBQ:Hid (Below bp w w3):=by
      have b0:Below bp w W0:=(WS.out.trans (hm1.mono WS.out.size)).mono (by omega);have b1:Below bp w w1:=b0.grown hm2 (by have:=hm1.size;omega) (fun i hi=>by injection hi with hi;omega);have b2:Below bp w w':=b1.grown hm3 (by have:=hm2.size;have:=hm1.size;omega) (fun i hi=>by have:=((Yj.out W0 hm1).lt i hi).1;omega);exact b2.grown hg3 (by have:=hm3.size;have:=hm2.size;have:=hm1.size;omega) (fun i hi=>by injection hi with hi;omega)
    have hz3:W.heap.size<=w3.heap.size:=by have:=hg3.size;have:=hm3.size;have:=hm2.size;have:=hm1.size;omega
    have hbx3:w3.heap[w.heap.size]?=some (.cells #[.string t.a,.string t.b,.string t.r,.string t.c,.string t.d,.string t.s] 29 (0,0)):=by
      rw[hst.2.block w.heap.size (by have:=hm1.size;omega) (by omega) HFB.out,hm1.block w.heap.size (by omega)];exact XL.out
    have HTQ:Hid (wZ w3 w.heap.size t/\∃cur,w3.heap[w.heap.size]?=some (.cells cur 29 (0,0))):=⟨HT6.out.block (by rw[hbx3,XL.out]) (by omega),_,hbx3⟩;have Ye:(Instr.entryStore 191 (.map (some bp)) (.int .i64 st) (fq 9)).run prog w'=.ok () w3:=hrun;obtain⟨Mn,hMn⟩:∃M,M=lI Mp (NK t) (some (fq 9)):=⟨_,rfl⟩;rw[<-hMn]at ZN;refine aa rfl fun K HK=>?_;simp only[e3,e10];go_simp;refine HK.out _ _ ?_;clear hst hrun Ye hM3 hg3 hm1 hm2 hm3 hm4 ZA hm6 hm8 hC hI hall ho HK K e3 e10 HD HT6 HK3 WS Yj XL Xk HKEY HFB hMn X7 Ze YC hbx3;obtain⟨y0,hy0⟩:∃y,y=fq 0:=⟨_,rfl⟩;rw[<-hy0];obtain⟨y1,hy1⟩:∃y,y=fq 1:=⟨_,rfl⟩;rw[<-hy1];obtain⟨y2,hy2⟩:∃y,y=fq 2:=⟨_,rfl⟩;rw[<-hy2];obtain⟨y4,hy4⟩:∃y,y=fq 4:=⟨_,rfl⟩;rw[<-hy4];obtain⟨y8,hy8⟩:∃y,y=fq 8:=⟨_,rfl⟩;rw[<-hy8];obtain⟨y5,hy5⟩:∃y,y=fq 5:=⟨_,rfl⟩;rw[<-hy5];obtain⟨y6,hy6⟩:∃y,y=fq 6:=⟨_,rfl⟩;rw[<-hy6];obtain⟨y7,hy7⟩:∃y,y=fq 7:=⟨_,rfl⟩;rw[<-hy7];obtain⟨y9,hy9⟩:∃y,y=fq 9:=⟨_,rfl⟩;rw[<-hy9];clear hy0 hy1 hy2 hy4 hy8 hy5 hy6 hy7 hy9 fq l hz3;go_wp2_with fail;have hbz:bp+1<=w3.heap.size:=by have:=ZN.out.lt;have:=ZN.out.gt;omega
    have hx1:(ib xo ⟨t.a,t.b⟩).length<=501:=by have:=sJ xo ⟨t.a,t.b⟩;omega
    have m1:=trivial;obtain⟨CQ,hCQ⟩:∃C:Nat->Value,C=fun n=>(Value.pointer (some ⟨D,0,none⟩)::.pointer (some ⟨D,0,none⟩)::.pointer (some ⟨D,0,none⟩)::.pointer (some ⟨D,4,none⟩)::vo::.pointer (some ⟨w.heap.size,0,none⟩)::.agg #[.string t.a,.string t.b]::undef::.pointer (some ⟨D,0,none⟩)::.pointer (some ⟨D,4,none⟩)::[]).getD n undef:=⟨_,rfl⟩;have Za:=aV (Ul hCQ);have HOB:=aV ZN.out.objs;have HCL:=aV ZN.out.c4;have HWO:=aV (ni (bp+1) vo xo ⟨t.a,t.b⟩);clear hCQ;refine eT 10 _ _ (G.WI CQ w3 (Qz bp w3 vo (ib xo ⟨t.a,t.b⟩))) (by kernel_rfl) rfl (by kernel_rfl) (fun o ho l f w' hI hp=>?_) (yt [(21,[0,1,2,3,4,5,6,7,8,9])]) (G.wi_start _) ?_ ?_<;>try dsimp only[wY]
    iterate 3
      · cases ho;intro k hk;have h9:=hp ⟨9,.data⟩ (by simp) rfl;have hc:=Lh (i:=k) (by omega)
        repeat' rcases hc with rfl|hc
        all_goals first|exact hI.nin h9|exact h9|exact hp ⟨_,.phase⟩ (by simp) rfl
      · rintro i hi o ho l fr w' Xb hI hpre;have HI:=aV hI;have WO:Hid (∀e∈o.after,Region.binds .any e=true->l e.on=true):=hpre;clear hI hpre;have hc:=Lh (i:=i) (by omega);clear hi
        repeat' rcases hc with rfl|hc
        · cases ho;have hW:=HI.out;clear WO HI;refine aa rfl fun K HK=>?_;go_simp;exact HK.out _ _ ⟨_,by simp[upd, *],hW.put (by omega) (by omega) Za.out.1.symm⟩
        · cases ho;have hW:=HI.out;clear WO HI;refine aa rfl fun K HK=>?_;go_simp;exact HK.out _ _ ⟨_,by simp[upd, *],hW.put (by omega) (by omega) Za.out.2.1.symm⟩
        · cases ho;have hW:=HI.out;have e1:=(HI.out.val 1 (by omega) (by omega) (WO.out ⟨1,.data⟩ (by simp) rfl)).trans Za.out.2.1;clear WO HI;refine aa rfl fun K HK=>?_;simp only[e1];go_simp;exact HK.out _ _ ⟨_,by simp[upd, *],hW.put (by omega) (by omega) Za.out.2.2.1.symm⟩
        · cases ho;have hW:=HI.out;have e2:=(HI.out.val 2 (by omega) (by omega) (WO.out ⟨2,.data⟩ (by simp) rfl)).trans Za.out.2.2.1;clear WO HI;refine aa rfl fun K HK=>?_;simp only[e2];go_simp;exact HK.out _ _ ⟨_,by simp[upd, *],hW.put (by omega) (by omega) Za.out.2.2.2.1.symm⟩
        · cases ho;have hW:=HI.out;have e3:=(HI.out.val 3 (by omega) (by omega) (WO.out ⟨3,.data⟩ (by simp) rfl)).trans Za.out.2.2.2.1;have hb':=HI.out.early (.inl Xb);have d4:=LY HCL.out ZN.out.lt hb';clear WO HI;refine aa rfl fun K HK=>?_;simp only[e3];go_simp;exact HK.out _ _ ⟨_,by simp[upd, *],hW.put (by omega) (by omega) Za.out.2.2.2.2.1.symm⟩
        · cases ho;have hW:=HI.out;clear WO HI;refine aa rfl fun K HK=>?_;go_simp;exact HK.out _ _ ⟨_,by simp[upd, *],hW.put (by omega) (by omega) Za.out.2.2.2.2.2.1.symm⟩
        · cases ho;have hW:=HI.out;have e5:=(HI.out.val 5 (by omega) (by omega) (WO.out ⟨5,.data⟩ (by simp) rfl)).trans Za.out.2.2.2.2.2.1;have hb':=HI.out.early (.inr Xb);obtain⟨t0,t1,t2,t3,t4,t5,tl⟩:=HTQ.out.1.below hb';clear WO HI;refine aa rfl fun K HK=>?_;simp only[e5];go_simp;exact HK.out _ _ ⟨_,by simp[upd, *],hW.put (by omega) (by omega) Za.out.2.2.2.2.2.2.1.symm⟩
        · cases ho;have hW:=HI.out;have e4:=(HI.out.val 4 (by omega) (by omega) (WO.out ⟨4,.data⟩ (by simp) rfl)).trans Za.out.2.2.2.2.1;have e6:=(HI.out.val 6 (by omega) (by omega) (WO.out ⟨6,.data⟩ (by simp) rfl)).trans Za.out.2.2.2.2.2.2.1;have h4:=WO.out ⟨4,.data⟩ (by simp) rfl;have h6:=WO.out ⟨6,.data⟩ (by simp) rfl;have hb':=HI.out.before Xb;have hown:=fQ HOB.out hb';clear WO HI;refine aa rfl fun K HK=>?_;simp only[e4,e6];go_simp;refine(HWO.out w' (by omega) (Vz hbz hb'.size) hown).mono ?_;rintro e w2 ⟨v',rfl,hown2,has,hbl⟩;exact HK.out _ _ ⟨v',by simp[upd,e4,e6],hW.call h4 h6 ⟨w',hb',hown2,has,hbl⟩⟩
        · cases ho;have hW:=HI.out;have e0:=(HI.out.val 0 (by omega) (by omega) (WO.out ⟨0,.data⟩ (by simp) rfl)).trans Za.out.1;clear WO HI;refine aa rfl fun K HK=>?_;simp only[e0];go_simp;exact HK.out _ _ ⟨_,by simp[upd, *],hW.put (by omega) (by omega) Za.out.2.2.2.2.2.2.2.2.1.symm⟩
        · cases ho;have hW:=HI.out;have e8:=(HI.out.val 8 (by omega) (by omega) (WO.out ⟨8,.data⟩ (by simp) rfl)).trans Za.out.2.2.2.2.2.2.2.2.1;have h8:=WO.out ⟨8,.data⟩ (by simp) rfl;clear WO HI;refine aa rfl fun K HK=>?_;simp only[e8];go_simp;exact HK.out _ _ ⟨_,by simp[upd, *],hW.put (by omega) (fun _=>h8) Za.out.2.2.2.2.2.2.2.2.2.symm⟩
      rintro o ho l fr w' hall hI;obtain rfl:=Option.some.inj ho;obtain⟨hval,w1,hb1,hown,has,hbl⟩:=hI.last hall;have e9:=(hval 9 (by omega) (by omega)).trans Za.out.2.2.2.2.2.2.2.2.2;have hDw:=ZN.out.below hb1;have hob:=fQ HOB.out hb1
      first|have hDn:=hDw.newO hown has|have hDn:=hDw.newU hown has
      have hTn:=(HTQ.out.1.below hb1).aside (by obtain⟨cur,e⟩:=HTQ.out.2;exact⟨cur,(hb1.block _ HTQ.out.1.2.2.2.2.2.2).trans e⟩) hob has;obtain⟨cur,hkd⟩:=hDw.kind;have hDo:¬_=some D:=fun e=>absurd (fe hob e hkd) (by decide);have hkd':=(has.block D hDw.lt hDo).trans hkd;have fz:=fun o=>lq hkd' o;have d4:=cell_of (LY HCL.out ZN.out.lt hb1) (has.block D hDw.lt hDo);obtain⟨adn,cpn,e7,-⟩:=tO hown;rw[e7]at hown has hDn;obtain⟨wq,hwn,hDn⟩:=hDn.named;replace HTQ:Hid (wZ wq w.heap.size t/\∃cur,wq.heap[w.heap.size]?=some (.cells cur 29 (0,0))):=by
        have hh:wq.heap[w.heap.size]?=w'.heap[w.heap.size]?:=by rw[hwn];exact heap_setCell_other w' _ w.heap.size _ (by show w.heap.size≠D;omega)
        obtain⟨cr,ecr⟩:=hTn.2;exact⟨hTn.1.block hh (by rw[hwn];simpa using hTn.1.2.2.2.2.2.2),cr,hh.trans ecr⟩
      replace HBQ:Hid (Below bp w wq):=by
        have b1:Below bp w w1:=HBQ.out.trans (hb1.mono (by omega));have b2:Below bp w w':=b1.trans (hbl bp (fun g hg=>by have:=(hob.lt g hg).1;omega) (by have:=hb1.size;omega));show Below _ _ _;rw[hwn];exact b2.setCell (by show bp<=D;omega) _
      replace ZN:=aV hDn;replace hbz:bp+1<=wq.heap.size:=by have:=ZN.out.lt;omega
      clear hval;refine aa rfl fun K HK=>?_;simp only[e9,e7];go_simp;rw[<-hwn];refine HK.out _ _ ?_;rw[<-e7]at ZN ⊢;clear hb1 hown has hbl hDw hDn hTn hkd hkd' hDo fz d4 HK K hI hall ho hwn e9 e7 Za HOB HCL HWO hob;obtain⟨vq,hvq⟩:∃y,y=fr 7:=⟨_,rfl⟩;rw[<-hvq]at ZN ⊢;generalize fr 0=z0,fr 1=z1,fr 2=z2,fr 3=z3,fr 4=z4,fr 5=z5,fr 6=z6,fr 8=z8;clear hvq fr l
      first
        | (clear m1
           go_wp2_with fail;have m2:=trivial;obtain⟨CQ,hCQ⟩:∃C:Nat->Value,C=fun n=>(Value.pointer (some ⟨D,0,none⟩)::.pointer (some ⟨D,0,none⟩)::.pointer (some ⟨D,0,none⟩)::.pointer (some ⟨D,4,none⟩)::vq::.pointer (some ⟨w.heap.size,3,none⟩)::.agg #[.string t.c,.string t.d]::undef::.pointer (some ⟨D,0,none⟩)::.pointer (some ⟨D,4,none⟩)::[]).getD n undef:=⟨_,rfl⟩;have Za:=aV (Ul hCQ);have HOB:=aV ZN.out.objs;have HCL:=aV ZN.out.c4;have HWO:=aV (ni (bp+1) vq (ib xo ⟨t.a,t.b⟩) ⟨t.c,t.d⟩);clear hCQ;refine eT 10 _ _ (G.WI CQ wq (Qz bp wq vq (ib (ib xo ⟨t.a,t.b⟩) ⟨t.c,t.d⟩))) (by kernel_rfl) rfl (by kernel_rfl) (fun o ho l f w' hI hp=>?_) (yt [(31,[0,1,2,3,4,5,6,7,8,9])]) (G.wi_start _) ?_ ?_<;>try dsimp only[wY])
        | (clear m2
           obtain⟨t0,t1,t2,t3,t4,t5,tl⟩:=HTQ.out.1;cases hs:(t.s.toList==([]:List UInt8))
           · have HU:Hid (fw xu t=xu):=by show _=_;unfold fw;rw[hs];rfl
             go_wp2
             go_end0
             exact⟨rfl,⟨_,_,_,by rw[HU.out];exact ZN.out⟩,HBQ.out⟩
           have HU:Hid (fw xu t=ib xu ⟨t.c,t.d⟩):=by show _=_;unfold fw;rw[hs];rfl
           clear t0 t1 t2 t3 t4 tl;go_wp2_with fail;clear t5 hs;have m3:=trivial;obtain⟨CQ,hCQ⟩:∃C:Nat->Value,C=fun n=>(Value.pointer (some ⟨D,0,none⟩)::.pointer (some ⟨D,0,none⟩)::.pointer (some ⟨D,0,none⟩)::.pointer (some ⟨D,5,none⟩)::vu::.pointer (some ⟨w.heap.size,3,none⟩)::.agg #[.string t.c,.string t.d]::undef::.pointer (some ⟨D,0,none⟩)::.pointer (some ⟨D,5,none⟩)::[]).getD n undef:=⟨_,rfl⟩;have Za:=aV (Ul hCQ);have HOB:=aV ZN.out.users;have HCL:=aV ZN.out.c5;have HWO:=aV (ni (bp+1) vu xu ⟨t.c,t.d⟩);clear hCQ;refine eT 10 _ _ (G.WI CQ wq (Qz bp wq vu (ib xu ⟨t.c,t.d⟩))) (by kernel_rfl) rfl (by kernel_rfl) (fun o ho l f w' hI hp=>?_) (yt [(44,[0,1,2,3,4,5,6,7,8,9])]) (G.wi_start _) ?_ ?_<;>try dsimp only[wY])
        | (clear m3
           go_wp2
           go_end0
           exact⟨rfl,⟨_,_,_,by rw[HU.out];exact ZN.out⟩,HBQ.out⟩)
end Go.Proofs.YtojjoblnpldniaaGreat
namespace Go.Proofs.YtojjoblnpldniaaGreat
open ChangeShapes WideShapes ChangeAt RowKit
open Pl
attribute [local go_sem ↓] Go.wp_at_zero Go.wp_at_succ
structure BelowD(B:Nat)(w w':World):Prop where
 b:Below B w w'
 d:w.drawn<=w'.drawn
theorem BelowD.size{B:Nat}{w w':af}(h:BelowD B w w'):w.heap.size<=w'.heap.size:=h.b.size
theorem BelowD.refl(B:Nat)(w:af):BelowD B w w:=⟨Vv B w,Vu _⟩
theorem BelowD.trans{B:Nat}{a b c:af}(h:BelowD B a b)(k:BelowD B b c):BelowD B a c:=⟨h.b.trans k.b,Vz h.d k.d⟩
theorem BelowD.mono{B B':Nat}{w w':af}(h:BelowD B w w')(hB:B'<=B):BelowD B' w w':=⟨h.b.mono hB,h.d⟩
theorem BelowD.drew{B:Nat}{a w:af}(h:BelowD B a w):BelowD B a w.drew:=⟨h.b.drew,Vz h.d (Nat.le_succ _)⟩
theorem BelowD.alloc{B:Nat}{a w:af}(h:BelowD B a w)(hB:B<=w.heap.size)(o:Obj):BelowD B a (w.alloc o):=⟨h.b.alloc hB o,h.d⟩
theorem BelowD.cell{B:Nat}{w w':af}(h:BelowD B w w'){p:Addr}(hp:p.block<B):w'.cell? p=w.cell? p:=h.b.cell hp
theorem BelowD.frozen{B:Nat}{w w':af}(h:BelowD B w w'){p:Addr}(hp:p.block<B):w'.frozen? p=w.frozen? p:=h.b.frozen hp
theorem BelowD.grew{w w':af}(h:BelowD w.heap.size w w'):∃q os,w'=Go.Sort.grow (w.drewN q) os:=by
 obtain⟨⟨h1,h2,h3,h4,h5⟩,h6⟩:=h;refine⟨w'.drawn-w.drawn,w'.heap.extract w.heap.size w'.heap.size,?_⟩;obtain⟨hp,tp,dr,os,ou⟩:=w';simp only at h1 h2 h3 h4 h5 h6;subst h1 h2 h3;simp only[Go.Sort.grow,World.drewN,World.mk.injEq,true_and,and_true];refine⟨?_,by omega⟩;apply Array.ext
 ·simp;omega
 intro i hi hj;by_cases hlt:i<w.heap.size
 ·have:=h5 i hlt;rw[Wv hi,Wv hlt]at this;injection this with this;rw[this,Array.getElem_append_left hlt]
 rw[Array.getElem_append_right (by omega)];simp;congr 1;omega
theorem uO{W w1:af}(hb:BelowD W.heap.size W w1):(∀b o,b<W.heap.size->w1.cell? ⟨b,o,none⟩=W.cell? ⟨b,o,none⟩)/\(∀b o,b<W.heap.size->w1.frozen? ⟨b,o,none⟩=W.frozen? ⟨b,o,none⟩) :=
 ⟨fun b o h=>hb.cell (p:=⟨b,o,none⟩) h,fun b o h=>hb.frozen (p:=⟨b,o,none⟩) h⟩
theorem fK(t i:bi)(w:af)(ht:t.size<=maxLen)(hi:i.size<=maxLen):
  Calls prog 147 #[.agg #[.string t,.string i]] w fun e w'=>e=.returned (.bool (fB t i))/\BelowD w.heap.size w w':=by
 by_cases hn:aP t=true
 all_goals
  go_enter func147,ntmps147;go_wp2_with(first|(go_at_call 122;refine(aL _ _ ht).mono ?_;rintro e w' ⟨rfl,rfl⟩)|(go_at_call 220;refine(Af _ _ hi).mono ?_;rintro e w' ⟨rfl,rfl⟩));go_ret;exact⟨ah (by simp[fB,hn]),(BelowD.refl _ _).alloc (Vu _) _⟩
theorem xX(t i:bi)(w:af)(ht:t.size<=maxLen)(hi:i.size<=maxLen):
  Calls prog 276 #[.agg #[.string t,.string i]] w fun e w'=>e=.returned (.string (aF t i))/\BelowD w.heap.size w w':=by
 by_cases hn:fB t i=true
 ·obtain⟨h1,h2⟩:=zw hn;have HT:Hid (aF t i=t++⟨#[58]⟩++i):=nD hn;go_enter func276,ntmps276;go_wp2_with(go_at_call 147;refine(fK _ _ _ ht hi).mono ?_;rintro e w' ⟨rfl,hb⟩;obtain⟨hc,hf⟩:=uO hb);go_ret;exact⟨gF HT.out.symm,((BelowD.refl _ _).alloc (Vu _) _).trans (hb.mono (by simp))⟩
 have hn':fB t i=false:=by simpa using hn
 have HT:Hid (aF t i=⟨#[]⟩):=uf hn';clear hn;go_enter func276,ntmps276;go_wp2_with(go_at_call 147;refine(fK _ _ _ ht hi).mono ?_;rintro e w' ⟨rfl,hb⟩;obtain⟨hc,hf⟩:=uO hb);go_ret;exact⟨gF HT.out.symm,((BelowD.refl _ _).alloc (Vu _) _).trans (hb.mono (by simp))⟩
theorem wO(a b r c d s:bi)(w:af)(ha:a.size<=maxLen)(hb:b.size<=maxLen)(hr:r.size<=maxLen)(hc:c.size<=maxLen)(hd:d.size<=maxLen)(hs:s.size<=maxLen):
  Calls prog 62 #[.agg #[.string a,.string b,.string r,.string c,.string d,.string s]] w fun e w'=>e=.returned (.bool (bH a b r c d s))/\BelowD w.heap.size w w':=by
 by_cases h1:fB a b=true
 ·by_cases h2:aP r=true
  ·by_cases h3:fB c d=true
   ·have HT:Hid (bH a b r c d s=uW s):=zH h1 h2 h3;go_enter func62,ntmps62;go_wp2_with fail;refine(fK _ _ _ ha hb).mono ?_;rintro e w1 ⟨rfl,hb1⟩;obtain⟨hc1,hf1⟩:=uO hb1;have hz1:w.heap.size<w1.heap.size:=by have:=hb1.size;simp at this;omega
    go_wp2_with fail;refine(aL _ _ hr).mono ?_;rintro e w1' ⟨rfl,rfl⟩;go_wp2_with fail;refine(fK _ _ _ hc hd).mono ?_;rintro e w2 ⟨rfl,hb2⟩;obtain⟨hc2,hf2⟩:=uO hb2;have hz2:w.heap.size<w2.heap.size:=by have:=hb2.size;omega
    go_wp2_with(go_at_call 148;refine(Dm _ _ hs).mono ?_;rintro e w3 ⟨rfl,rfl⟩)
    all_goals go_ret
    all_goals exact⟨ah (HT.out.trans (by simp[uW, *])).symm,((BelowD.refl _ _).alloc (Vu _) _).trans ((hb1.mono (by simp)).trans (hb2.mono (by omega)))⟩
   have h3':fB c d=false:=by simpa using h3
   have HT:Hid (bH a b r c d s=false):=zG h3';clear h3;go_enter func62,ntmps62;go_wp2_with fail;refine(fK _ _ _ ha hb).mono ?_;rintro e w1 ⟨rfl,hb1⟩;obtain⟨hc1,hf1⟩:=uO hb1;have hz1:w.heap.size<w1.heap.size:=by have:=hb1.size;simp at this;omega
   go_wp2_with fail;refine(aL _ _ hr).mono ?_;rintro e w1' ⟨rfl,rfl⟩;go_wp2_with fail;refine(fK _ _ _ hc hd).mono ?_;rintro e w2 ⟨rfl,hb2⟩;go_wp2;go_ret;exact⟨ah HT.out.symm,((BelowD.refl _ _).alloc (Vu _) _).trans ((hb1.mono (by simp)).trans (hb2.mono (by omega)))⟩
  have h2':aP r=false:=by simpa using h2
  have HT:Hid (bH a b r c d s=false):=zF h2';clear h2;go_enter func62,ntmps62;go_wp2_with fail;refine(fK _ _ _ ha hb).mono ?_;rintro e w1 ⟨rfl,hb1⟩;obtain⟨hc1,hf1⟩:=uO hb1;go_wp2_with fail;refine(aL _ _ hr).mono ?_;rintro e w1' ⟨rfl,rfl⟩;go_wp2;go_ret;exact⟨ah HT.out.symm,((BelowD.refl _ _).alloc (Vu _) _).trans (hb1.mono (by simp))⟩
 have h1':fB a b=false:=by simpa using h1
 have HT:Hid (bH a b r c d s=false):=zD h1';clear h1;go_enter func62,ntmps62;go_wp2_with fail;refine(fK _ _ _ ha hb).mono ?_;rintro e w1 ⟨rfl,hb1⟩;go_wp2;go_ret;exact⟨ah HT.out.symm,((BelowD.refl _ _).alloc (Vu _) _).trans (hb1.mono (by simp))⟩
theorem Um{w W w':af}{n:Nat}{x0 x1 x2 x3 x4 x5:Value}(h:W.cell? ⟨n,0,none⟩=some x0/\W.cell? ⟨n,1,none⟩=some x1/\W.cell? ⟨n,2,none⟩=some x2/\W.cell? ⟨n,3,none⟩=some x3/\W.cell? ⟨n,4,none⟩=some x4/\W.cell? ⟨n,5,none⟩=some x5/\n<W.heap.size/\BelowD n w W)(hb:BelowD W.heap.size W w'):w'.cell? ⟨n,0,none⟩=some x0/\w'.cell? ⟨n,1,none⟩=some x1/\w'.cell? ⟨n,2,none⟩=some x2/\w'.cell? ⟨n,3,none⟩=some x3/\w'.cell? ⟨n,4,none⟩=some x4/\w'.cell? ⟨n,5,none⟩=some x5/\n<w'.heap.size/\BelowD n w w':=by
 obtain⟨h0,h1,h2,h3,h4,h5,hn,hB⟩:=h;have hc:∀o,w'.cell? ⟨n,o,none⟩=W.cell? ⟨n,o,none⟩:=fun o=>hb.cell (p:=⟨n,o,none⟩) hn;refine⟨by rw[hc];exact h0,by rw[hc];exact h1,by rw[hc];exact h2,by rw[hc];exact h3,by rw[hc];exact h4,by rw[hc];exact h5,Vt hn hb.size,hB.trans (hb.mono (Nat.le_of_lt hn))⟩
theorem xY(a b r c d s:bi)(w:af)(ha:a.size<=maxLen)(hb:b.size<=maxLen)(hr:r.size<=maxLen)(hc:c.size<=maxLen)(hd:d.size<=maxLen)(hs:s.size<=maxLen):
  Calls prog 216 #[.agg #[.string a,.string b,.string r,.string c,.string d,.string s]] w fun e w'=>e=.returned (.string (aX a b r c d s))/\BelowD w.heap.size w w':=by
 by_cases hn:bH a b r c d s=true
 ·obtain⟨h1,h2,h3,h4⟩:=j5 hn;have hx:=iN a b;have hy:=iN c d;have Zp:=(oz h2).2;have hs12:=Ew h4;clear h1 h2 h3 h4;go_enter func216,ntmps216;go_wp2_with fail;refine(wO _ _ _ _ _ _ _ ha hb hr hc hd hs).mono ?_;rintro e w1 ⟨rfl,hb1⟩;obtain⟨hc1,hf1⟩:=uO hb1;have hz1:w.heap.size<w1.heap.size:=by have:=hb1.size;simp at this;omega
  have k:∀o v,(w.alloc (.cells #[.string a,.string b,.string r,.string c,.string d,.string s] 29)).cell? ⟨w.heap.size,o,none⟩=some v->w1.cell? ⟨w.heap.size,o,none⟩=some v:=fun o v h=>by rw[hc1 _ _ (by simp)];exact h
  have k0:=k 0 (.string a) (by simp);have k1:=k 1 (.string b) (by simp);have k2:=k 2 (.string r) (by simp);have k3:=k 3 (.string c) (by simp);have k4:=k 4 (.string d) (by simp);have k5:=k 5 (.string s) (by simp);have HB1:BelowD w.heap.size w w1:=((BelowD.refl _ _).alloc (Vu _) _).trans (hb1.mono (by simp));clear k hb1 hc1 hf1;have q1:(9223372036854775807<(aF a b).size+1)=False:=by simp;omega
  have q2:(9223372036854775807<(aF a b).size+1+r.size)=False:=by simp;omega
  have q3:(9223372036854775807<(aF a b).size+1+r.size+1)=False:=by simp;omega
  have q4:(9223372036854775807<(aF a b).size+1+r.size+1+(aF c d).size)=False:=by simp;omega
  go_wp2_with fail
  go_region_held3 (fun w'=>w'.cell? ⟨w.heap.size,0,none⟩=some (.string a)/\w'.cell? ⟨w.heap.size,1,none⟩=some (.string b)/\w'.cell? ⟨w.heap.size,2,none⟩=some (.string r)/\w'.cell? ⟨w.heap.size,3,none⟩=some (.string c)/\w'.cell? ⟨w.heap.size,4,none⟩=some (.string d)/\w'.cell? ⟨w.heap.size,5,none⟩=some (.string s)/\w.heap.size<w'.heap.size/\BelowD w.heap.size w w')
   (first|exact Um (by assumption) hbx|exact⟨k0,k1,k2,k3,k4,k5,hz1,HB1.drew⟩)
   (first|(go_at_call 276;refine(xX _ _ _ (by assumption) (by assumption)).mono ?_;rintro e w' ⟨rfl,hbx⟩))
  rename_i hH;obtain⟨g0,g1,g2,g3,g4,g5,gz,gB⟩:=hH;clear k0 k1 k2 k3 k4 k5 hbx q1 q2 q3 q4 HB1;by_cases he:s.toList.isEmpty=true
  ·have HT:Hid (aX a b r c d s=_):=nE hn he;go_wp2;go_ret;exact⟨gF HT.out.symm,gB⟩
  have he':s.toList.isEmpty=false:=by simpa using he
  have HT:Hid (aX a b r c d s=_):=nG hn he';clear he;go_wp2;go_ret;exact⟨gF (HT.out.trans (by simp only[V5])).symm,gB⟩
 have hn':bH a b r c d s=false:=by simpa using hn
 have HT:Hid (aX a b r c d s=⟨#[]⟩):=ug hn';clear hn;go_enter func216,ntmps216;go_wp2_with fail;refine(wO _ _ _ _ _ _ _ ha hb hr hc hd hs).mono ?_;rintro e w1 ⟨rfl,hb1⟩;go_wp2;go_ret;exact⟨gF HT.out.symm,((BelowD.refl _ _).alloc (Vu _) _).trans (hb1.mono (by simp))⟩
theorem Sr{w W w':af}{n m k:Nat}{x0 x1 x2 x3 x4 x5 y0 y1 y2 y3 y4 y5:Value}(hk:k<=n)(h:W.cell? ⟨n,0,none⟩=some x0/\W.cell? ⟨n,1,none⟩=some x1/\W.cell? ⟨n,2,none⟩=some x2/\W.cell? ⟨n,3,none⟩=some x3/\W.cell? ⟨n,4,none⟩=some x4/\W.cell? ⟨n,5,none⟩=some x5/\W.cell? ⟨m,0,none⟩=some y0/\W.cell? ⟨m,1,none⟩=some y1/\W.cell? ⟨m,2,none⟩=some y2/\W.cell? ⟨m,3,none⟩=some y3/\W.cell? ⟨m,4,none⟩=some y4/\W.cell? ⟨m,5,none⟩=some y5/\n<W.heap.size/\m<W.heap.size/\BelowD k w W)(hb:BelowD W.heap.size W w'):w'.cell? ⟨n,0,none⟩=some x0/\w'.cell? ⟨n,1,none⟩=some x1/\w'.cell? ⟨n,2,none⟩=some x2/\w'.cell? ⟨n,3,none⟩=some x3/\w'.cell? ⟨n,4,none⟩=some x4/\w'.cell? ⟨n,5,none⟩=some x5/\w'.cell? ⟨m,0,none⟩=some y0/\w'.cell? ⟨m,1,none⟩=some y1/\w'.cell? ⟨m,2,none⟩=some y2/\w'.cell? ⟨m,3,none⟩=some y3/\w'.cell? ⟨m,4,none⟩=some y4/\w'.cell? ⟨m,5,none⟩=some y5/\n<w'.heap.size/\m<w'.heap.size/\BelowD k w w':=by
 obtain⟨h0,h1,h2,h3,h4,h5,h6,h7,h8,h9,h10,h11,hn,hm,hB⟩:=h;have hc:∀o,w'.cell? ⟨n,o,none⟩=W.cell? ⟨n,o,none⟩:=fun o=>hb.cell (p:=⟨n,o,none⟩) hn;have hd:∀o,w'.cell? ⟨m,o,none⟩=W.cell? ⟨m,o,none⟩:=fun o=>hb.cell (p:=⟨m,o,none⟩) hm;exact⟨by rw[hc];exact h0,by rw[hc];exact h1,by rw[hc];exact h2,by rw[hc];exact h3,by rw[hc];exact h4,by rw[hc];exact h5,by rw[hd];exact h6,by rw[hd];exact h7,by rw[hd];exact h8,by rw[hd];exact h9,by rw[hd];exact h10,by rw[hd];exact h11,Vt hn hb.size,Vt hm hb.size,hB.trans (hb.mono (by omega))⟩
theorem LZ(w:af)(o1 o2:Obj):BelowD w.heap.size w ((w.alloc o1).alloc o2) :=
 ((BelowD.refl _ _).alloc (Vu _) _).alloc (by simp) _
theorem uP(a b r c d s a' b' r' c' d' s':bi)(w:af)(ha:a.size<=maxLen)(hb:b.size<=maxLen)(hr:r.size<=maxLen)(hc:c.size<=maxLen)(hd:d.size<=maxLen)(hs:s.size<=maxLen)(ga:a'.size<=maxLen)(gb:b'.size<=maxLen)(gr:r'.size<=maxLen)(gc:c'.size<=maxLen)(gd:d'.size<=maxLen)(gs:s'.size<=maxLen):
  Calls prog 139 #[.agg #[.string a,.string b,.string r,.string c,.string d,.string s],.agg #[.string a',.string b',.string r',.string c',.string d',.string s']] w fun e w'=>e=.returned (.int .i64 (JC a b r c d s a' b' r' c' d' s'))/\BelowD w.heap.size w w':=by
 have H0:((w.alloc (.cells #[.string a,.string b,.string r,.string c,.string d,.string s] 29)).alloc (.cells #[.string a',.string b',.string r',.string c',.string d',.string s'] 29)).drew.cell? ⟨w.heap.size,0,none⟩=some (.string a)/\((w.alloc (.cells #[.string a,.string b,.string r,.string c,.string d,.string s] 29)).alloc (.cells #[.string a',.string b',.string r',.string c',.string d',.string s'] 29)).drew.cell? ⟨w.heap.size,1,none⟩=some (.string b)/\((w.alloc (.cells #[.string a,.string b,.string r,.string c,.string d,.string s] 29)).alloc (.cells #[.string a',.string b',.string r',.string c',.string d',.string s'] 29)).drew.cell? ⟨w.heap.size,2,none⟩=some (.string r)/\((w.alloc (.cells #[.string a,.string b,.string r,.string c,.string d,.string s] 29)).alloc (.cells #[.string a',.string b',.string r',.string c',.string d',.string s'] 29)).drew.cell? ⟨w.heap.size,3,none⟩=some (.string c)/\((w.alloc (.cells #[.string a,.string b,.string r,.string c,.string d,.string s] 29)).alloc (.cells #[.string a',.string b',.string r',.string c',.string d',.string s'] 29)).drew.cell? ⟨w.heap.size,4,none⟩=some (.string d)/\((w.alloc (.cells #[.string a,.string b,.string r,.string c,.string d,.string s] 29)).alloc (.cells #[.string a',.string b',.string r',.string c',.string d',.string s'] 29)).drew.cell? ⟨w.heap.size,5,none⟩=some (.string s)/\((w.alloc (.cells #[.string a,.string b,.string r,.string c,.string d,.string s] 29)).alloc (.cells #[.string a',.string b',.string r',.string c',.string d',.string s'] 29)).drew.cell? ⟨w.heap.size+1,0,none⟩=some (.string a')/\((w.alloc (.cells #[.string a,.string b,.string r,.string c,.string d,.string s] 29)).alloc (.cells #[.string a',.string b',.string r',.string c',.string d',.string s'] 29)).drew.cell? ⟨w.heap.size+1,1,none⟩=some (.string b')/\((w.alloc (.cells #[.string a,.string b,.string r,.string c,.string d,.string s] 29)).alloc (.cells #[.string a',.string b',.string r',.string c',.string d',.string s'] 29)).drew.cell? ⟨w.heap.size+1,2,none⟩=some (.string r')/\((w.alloc (.cells #[.string a,.string b,.string r,.string c,.string d,.string s] 29)).alloc (.cells #[.string a',.string b',.string r',.string c',.string d',.string s'] 29)).drew.cell? ⟨w.heap.size+1,3,none⟩=some (.string c')/\((w.alloc (.cells #[.string a,.string b,.string r,.string c,.string d,.string s] 29)).alloc (.cells #[.string a',.string b',.string r',.string c',.string d',.string s'] 29)).drew.cell? ⟨w.heap.size+1,4,none⟩=some (.string d')/\((w.alloc (.cells #[.string a,.string b,.string r,.string c,.string d,.string s] 29)).alloc (.cells #[.string a',.string b',.string r',.string c',.string d',.string s'] 29)).drew.cell? ⟨w.heap.size+1,5,none⟩=some (.string s')/\w.heap.size<((w.alloc (.cells #[.string a,.string b,.string r,.string c,.string d,.string s] 29)).alloc (.cells #[.string a',.string b',.string r',.string c',.string d',.string s'] 29)).drew.heap.size/\w.heap.size+1<((w.alloc (.cells #[.string a,.string b,.string r,.string c,.string d,.string s] 29)).alloc (.cells #[.string a',.string b',.string r',.string c',.string d',.string s'] 29)).drew.heap.size/\BelowD w.heap.size w (((w.alloc (.cells #[.string a,.string b,.string r,.string c,.string d,.string s] 29)).alloc (.cells #[.string a',.string b',.string r',.string c',.string d',.string s'] 29)).drew):=by
  refine⟨?_,?_,?_,?_,?_,?_,?_,?_,?_,?_,?_,?_,?_,?_,?_⟩
  all_goals first|exact(LZ _ _ _).drew|(simp;done)|(simp;omega)
 go_enter func139,ntmps139;go_wp2_with fail
 go_region_held3 (fun w'=>w'.cell? ⟨w.heap.size,0,none⟩=some (.string a)/\w'.cell? ⟨w.heap.size,1,none⟩=some (.string b)/\w'.cell? ⟨w.heap.size,2,none⟩=some (.string r)/\w'.cell? ⟨w.heap.size,3,none⟩=some (.string c)/\w'.cell? ⟨w.heap.size,4,none⟩=some (.string d)/\w'.cell? ⟨w.heap.size,5,none⟩=some (.string s)/\w'.cell? ⟨w.heap.size+1,0,none⟩=some (.string a')/\w'.cell? ⟨w.heap.size+1,1,none⟩=some (.string b')/\w'.cell? ⟨w.heap.size+1,2,none⟩=some (.string r')/\w'.cell? ⟨w.heap.size+1,3,none⟩=some (.string c')/\w'.cell? ⟨w.heap.size+1,4,none⟩=some (.string d')/\w'.cell? ⟨w.heap.size+1,5,none⟩=some (.string s')/\w.heap.size<w'.heap.size/\w.heap.size+1<w'.heap.size/\BelowD w.heap.size w w')
  (first|assumption|exact Sr (Vu _) (by assumption) hbx|exact H0)
  (first|(go_at_call 216;refine(xY _ _ _ _ _ _ _ (by assumption) (by assumption) (by assumption) (by assumption) (by assumption) (by assumption)).mono ?_;rintro e w' ⟨rfl,hbx⟩)|(go_at_call 197;refine(Tryz.strings_Compare _ _ _).mono ?_;rintro e w' ⟨rfl,rfl⟩))
 rename_i hH;obtain⟨-,-,-,-,-,-,-,-,-,-,-,-,-,-,gB⟩:=hH;go_wp2;go_ret;exact⟨rfl,gB⟩
end Go.Proofs.YtojjoblnpldniaaGreat
namespace Go.Proofs.YtojjoblnpldniaaGreat
set_option maxRecDepth 100000
set_option linter.unusedVariables false
open ChangeShapes WideShapes ChangeAt RowKit Maps Go.Shelf Go.Sort
open Pl
theorem rG(f:Fc)(w:af):
  Calls prog 140 #[.agg #[.string f.a,.string f.b,.string f.r,.string f.c,.string f.d]] w fun e w'=>e=.returned (.agg #[.string f.a,.string f.b,.string f.r,.string f.c,.string f.d,.string ⟨#[]⟩])/\BelowD w.heap.size w w':=by
 go_enter func140,ntmps140;go_wp2;exact bodyPost_ret (v:=.agg #[.string f.a,.string f.b,.string f.r,.string f.c,.string f.d,.string ⟨#[]⟩]) (by simp[results,Tryz.results140,go_sem, *]) rfl ⟨rfl,⟨by
  repeat(first|exact Vv _ _|refine Below.setCell ?_ (by first|(simp;done)|(simp;omega)) _|refine Below.alloc ?_ (by first|(simp;done)|(simp;omega)) _),Vu _⟩⟩
def Su(x y:Fc):Int:=JC x.a x.b x.r x.c x.d ⟨#[]⟩ y.a y.b y.r y.c y.d ⟨#[]⟩
theorem Sv{w W w':af}{n m:Nat}{x0 x1 x2 x3 x4 y0 y1 y2 y3 y4:Value}(h:W.cell? ⟨n,0,none⟩=some x0/\W.cell? ⟨n,1,none⟩=some x1/\W.cell? ⟨n,2,none⟩=some x2/\W.cell? ⟨n,3,none⟩=some x3/\W.cell? ⟨n,4,none⟩=some x4/\W.cell? ⟨m,0,none⟩=some y0/\W.cell? ⟨m,1,none⟩=some y1/\W.cell? ⟨m,2,none⟩=some y2/\W.cell? ⟨m,3,none⟩=some y3/\W.cell? ⟨m,4,none⟩=some y4/\BelowD w.heap.size w W)(hb:BelowD W.heap.size W w'):w'.cell? ⟨n,0,none⟩=some x0/\w'.cell? ⟨n,1,none⟩=some x1/\w'.cell? ⟨n,2,none⟩=some x2/\w'.cell? ⟨n,3,none⟩=some x3/\w'.cell? ⟨n,4,none⟩=some x4/\w'.cell? ⟨m,0,none⟩=some y0/\w'.cell? ⟨m,1,none⟩=some y1/\w'.cell? ⟨m,2,none⟩=some y2/\w'.cell? ⟨m,3,none⟩=some y3/\w'.cell? ⟨m,4,none⟩=some y4/\BelowD w.heap.size w w':=by
 obtain⟨h0,h1,h2,h3,h4,g0,g1,g2,g3,g4,hB⟩:=h;exact⟨jh hb.b (bB h0) h0,jh hb.b (bB h1) h1,jh hb.b (bB h2) h2,jh hb.b (bB h3) h3,jh hb.b (bB h4) h4,jh hb.b (bB g0) g0,jh hb.b (bB g1) g1,jh hb.b (bB g2) g2,jh hb.b (bB g3) g3,jh hb.b (bB g4) g4,hB.trans (hb.mono hB.size)⟩
theorem xZ(x y:Fc)(w:af)(hx:x.fits)(hy:y.fits):
  Calls prog 58 #[.agg #[.string x.a,.string x.b,.string x.r,.string x.c,.string x.d],.agg #[.string y.a,.string y.b,.string y.r,.string y.c,.string y.d]] w fun e w'=>e=.returned (.int .i64 (Su x y))/\BelowD w.heap.size w w':=by
 have he0:(⟨#[]⟩:ByteArray).size<=maxLen:=by decide
 obtain⟨x0,x1,x2,x3,x4⟩:=hx;obtain⟨y0,y1,y2,y3,y4⟩:=hy;obtain⟨W0,hW0⟩:=eQx ((w.alloc (.cells #[.string x.a,.string x.b,.string x.r,.string x.c,.string x.d] 52)).alloc (.cells #[.string y.a,.string y.b,.string y.r,.string y.c,.string y.d] 52));have HB0:BelowD w.heap.size w W0:=by rw[hW0];exact LZ _ _ _
 have c0:W0.cell? ⟨w.heap.size,0,none⟩=some (.string x.a):=by rw[hW0];simp
 have c1:W0.cell? ⟨w.heap.size,1,none⟩=some (.string x.b):=by rw[hW0];simp
 have c2:W0.cell? ⟨w.heap.size,2,none⟩=some (.string x.r):=by rw[hW0];simp
 have c3:W0.cell? ⟨w.heap.size,3,none⟩=some (.string x.c):=by rw[hW0];simp
 have c4:W0.cell? ⟨w.heap.size,4,none⟩=some (.string x.d):=by rw[hW0];simp
 have e0:W0.cell? ⟨w.heap.size+1,0,none⟩=some (.string y.a):=by rw[hW0];simp
 have e1:W0.cell? ⟨w.heap.size+1,1,none⟩=some (.string y.b):=by rw[hW0];simp
 have e2:W0.cell? ⟨w.heap.size+1,2,none⟩=some (.string y.r):=by rw[hW0];simp
 have e3:W0.cell? ⟨w.heap.size+1,3,none⟩=some (.string y.c):=by rw[hW0];simp
 have e4:W0.cell? ⟨w.heap.size+1,4,none⟩=some (.string y.d):=by rw[hW0];simp
 unfold Su;go_enter func58,ntmps58;go_wp2_with fail;rw[<-hW0];clear hW0
 go_region_held3 (fun w'=>w'.cell? ⟨w.heap.size,0,none⟩=some (.string x.a)/\w'.cell? ⟨w.heap.size,1,none⟩=some (.string x.b)/\w'.cell? ⟨w.heap.size,2,none⟩=some (.string x.r)/\w'.cell? ⟨w.heap.size,3,none⟩=some (.string x.c)/\w'.cell? ⟨w.heap.size,4,none⟩=some (.string x.d)/\w'.cell? ⟨w.heap.size+1,0,none⟩=some (.string y.a)/\w'.cell? ⟨w.heap.size+1,1,none⟩=some (.string y.b)/\w'.cell? ⟨w.heap.size+1,2,none⟩=some (.string y.r)/\w'.cell? ⟨w.heap.size+1,3,none⟩=some (.string y.c)/\w'.cell? ⟨w.heap.size+1,4,none⟩=some (.string y.d)/\BelowD w.heap.size w w')
  (first|assumption|exact Sv (by assumption) hbx|exact⟨c0,c1,c2,c3,c4,e0,e1,e2,e3,e4,HB0.drew⟩)
  (first|(go_at_call_of 140 (Value.agg #[.string x.a,.string x.b,.string x.r,.string x.c,.string x.d]);refine(rG x _).mono ?_;rintro e w' ⟨rfl,hbx⟩)|(go_at_call_of 140 (Value.agg #[.string y.a,.string y.b,.string y.r,.string y.c,.string y.d]);refine(rG y _).mono ?_;rintro e w' ⟨rfl,hbx⟩)|(go_at_call 139;refine(uP x.a x.b x.r x.c x.d ⟨#[]⟩ y.a y.b y.r y.c y.d ⟨#[]⟩ _ x0 x1 x2 x3 x4 he0 y0 y1 y2 y3 y4 he0).mono ?_;rintro e w' ⟨rfl,hbx⟩))
 all_goals(rename_i hJ;obtain⟨-,-,-,-,-,-,-,-,-,-,gB⟩:=hJ;clear c0 c1 c2 c3 c4 e0 e1 e2 e3 e4;go_wp2;go_ret;exact⟨rfl,gB⟩)
abbrev L6:={ f:Fc // f.fits }
def oW(x:L6):List Value:=x.1.row
def Vl(x y:L6):Int:=Su x.1 y.1
def F6(x:Fc):List UInt8:=(aX x.a x.b x.r x.c x.d ⟨#[]⟩).toList
def TE(x y:L6):Bool:=Op.bytesLess (F6 x.1) (F6 y.1)
theorem QB:ltOf Vl=TE:=by
 funext x y
 unfold ltOf Vl TE Su JC F6;rw[vD,Go.ByteArray.toList_eq,Go.ByteArray.toList_eq]
theorem Sw:Go.Sort.SWO TE where
 irrefl x:=Ls.lt_irrefl _
 trans x y z h k:=Ls.lt_trans _ _ _ h k
 ntrans x y z h k:=by
  cases e:TE x z;case false=>rfl
  by_cases e1:F6 y.1=F6 x.1
  ·unfold TE at *;rw[e1]at k;rw[k]at e;cases e
  rcases Ls.lt_total _ _ e1 with h1|h1
  ·have:TE y z=true:=Ls.lt_trans _ _ _ h1 e;rw[k]at this;cases this
  have h:TE x y=false:=h;have h1:TE x y=true:=h1;rw[h]at h1;cases h1
theorem QC[Inhabited L6](blk off size:Nat)(w:af):CmpLays prog 58 #[] oW 5 Vl blk off size w:=fun m os dk _ x y =>
 (xZ x.1 y.1 _ x.2 y.2).mono fun e w' ⟨he,hb⟩=>⟨he,hb.grew⟩
def lF(xs:List L6):List Fc:=xs.map (·.1)
theorem l8(xs:List L6):(lF xs).length=xs.length:=by simp[lF]
theorem NL[Inhabited L6](w:af)(blk off n:Nat)(d:Array L6)(os:Array Obj):Chg (fun g=>g=blk) w (sortWorldK oW 5 w blk off n d os):=by
 refine⟨⟨rfl,rfl,rfl,?_,fun k hk=>absurd hk (Wm _)⟩,fun k hk hne=>?_,fun g hg hf j=>?_⟩
 ·simp[sortWorldK,grow,putRowK,Sort.ahead]
 ·simp only[sortWorldK,putRowK];rw[heap_grow_old _ _ (by simpa[Sort.ahead] using hk)];have hne:blk≠k:=fun e=>hne e.symm;simp[putRow,mapBlock,Sort.ahead,Array.getElem?_modify,hne]
 simp only[sortWorldK,putRowK];rw[frozen?_grow _ _ _ (by simpa[Sort.ahead] using hg),frozen?_putRow,frozen?_ahead];exact hf j
theorem L8[Inhabited L6]{w:af}{base g cap:Nat}{xs:List L6}(h:w.ownsRow base 52 5 (.slice (some ⟨g,0,none⟩) xs.length cap) xs.length (iC (lF xs))):HoldsK oW 5 w g 0 xs.toArray:=by
 intro t ht;rw[size_flatK]at ht;have ht':t<xs.length*5:=by simpa using ht
 have hi:t / 5<xs.length:=by omega
 have hr:t%5<5:=Nat.mod_lt _ (by omega);refine⟨?_,by rw[VW];exact h.frozenAt t⟩;rw[VW,h.cellAt t ht',get_flatK _ _ _ _ ht];have e:t=t / 5*5+t%5:=by omega
 have h1:=wL (lF xs) (t / 5) (by rw[l8];exact hi) (t%5) hr;rw[<-e]at h1;rw[h1];have h2:(xs.toArray)[t / 5]! = xs[t / 5]:=by rw[getElem!_pos xs.toArray _ (by simpa using hi)];simp
 rw[h2];have h3:(lF xs)[t / 5]'(by rw[l8];exact hi)=xs[t / 5].1:=by simp[lF]
 rw[h3];have hl:t%5<(Fc.row xs[t / 5].1).length:=hr;show _=some ((Fc.row xs[t / 5].1)[t%5]!);rw[VG hl,getElem!_pos (Fc.row xs[t / 5].1) (t%5) hl]
theorem U5[Inhabited L6]{w:af}{base g n cap:Nat}{xs ys:List L6}(h0:w.ownsRow base 52 5 (.slice (some ⟨g,0,none⟩) n cap) n (iC (lF xs)))(hx:xs.length=n)(hl:ys.length=n)(m:Nat)(os:Array Obj):(sortWorldK oW 5 w g 0 m ys.toArray os).ownsRow base 52 5 (.slice (some ⟨g,0,none⟩) n cap) n (iC (lF ys)):=by
 subst hx;have hg:=(h0.lt g rfl).2;have hH:=holdsK_sortWorldK_c oW 5 w g 0 xs.toArray ys.toArray m os (L8 h0) hg (by simpa using hl);have hlen:(iC (lF ys)).length=xs.length*5:=by rw[xW,l8,hl]
 refine⟨hlen,.inr ?_⟩;rcases h0.2 with⟨e,-⟩|⟨g',cap',cur,e,h1,h2,h3,h4,h5,-⟩
 ·cases e
 injection e with e1 e2 e3;injection e1 with e1;injection e1 with e1;subst e1;subst e3;have hb:(sortWorldK oW 5 w g 0 m ys.toArray os).heap[g]?=some (.cells (putCells id 0 (flatK oW 5 ys.toArray) cur) 52 (0,0)):=by
  simp only[sortWorldK,putRowK];rw[heap_grow_old _ _ (by simpa[Sort.ahead] using hg)];simp[putRow,mapBlock,Sort.ahead,Array.getElem?_modify,h2,onCells]
 refine⟨g,cap,_,rfl,h1,hb,h3,h4,by simp only[putCells,Array.size_mapIdx];exact h5,?_⟩;refine List.ext_getElem? fun j=>?_;by_cases hj:j<xs.length*5
 ·rw[List.getElem?_take_of_lt hj];have hi:j / 5<ys.length:=by omega
  have h6:=(hH j (by rw[size_flatK];simpa[hl] using hj)).1;rw[VW,get_flatK _ _ _ _ (by simpa[hl] using hj)]at h6;replace h6:(sortWorldK oW 5 w g 0 m ys.toArray os).cell? ⟨g,j,none⟩=some ((oW (ys.toArray)[j / 5]!)[j%5]!):=h6;have h7:(putCells id 0 (flatK oW 5 ys.toArray) cur).toList[j]?=some ((oW (ys.toArray)[j / 5]!)[j%5]!):=by
   rw[<-h6];simp[World.cell?,hb]
  rw[h7];have e:j=j / 5*5+j%5:=by omega
  have h8:=wL (lF ys) (j / 5) (by rw[l8];exact hi) (j%5) (Nat.mod_lt _ (by omega));rw[<-e]at h8;rw[h8];have h9:(ys.toArray)[j / 5]! = ys[j / 5]:=by rw[getElem!_pos ys.toArray _ (by simpa using hi)];simp
  have h10:(lF ys)[j / 5]'(by rw[l8];exact hi)=ys[j / 5].1:=by simp[lF]
  rw[h9,h10];have hl2:j%5<(Fc.row ys[j / 5].1).length:=Nat.mod_lt _ (by omega);show some ((Fc.row ys[j / 5].1)[j%5]!)=_;rw[VG hl2,getElem!_pos (Fc.row ys[j / 5].1) (j%5) hl2]
 rw[List.getElem?_eq_none (by rw[V9];omega),List.getElem?_eq_none (by omega)]
theorem NM(base g cap:Nat)(fs:Q04)(w:af)(hf:∀f∈fs,f.fits)(hR:w.ownsRow base 52 5 (.slice (some ⟨g,0,none⟩) fs.length cap) fs.length (iC fs))(hne:fs≠[])(h6:fs.length<=200000):
  Calls prog 57 #[.slice (some ⟨g,0,none⟩) fs.length cap,.func (.func 58) #[] #[]] w fun e w'=>e=.returned (.tuple #[])/\∃ys:List Fc,ys.Perm fs/\ys.Pairwise (fun x y=>Op.bytesLess (F6 y) (F6 x)=false)/\w'.ownsRow base 52 5 (.slice (some ⟨g,0,none⟩) fs.length cap) fs.length (iC ys)/\Chg (fun k=>k=g) w w':=by
 obtain⟨xs,hxs⟩:∃xs:List L6,lF xs=fs:=⟨fs.attach.map fun x=>⟨x.1,hf x.1 x.2⟩,by unfold lF;rw[List.map_map];simp[Function.comp_def]⟩;subst hxs;rw[l8]at hR h6 ⊢;cases xs with
 | nil=>exact absurd rfl hne
 | cons x0 xs0 =>
  letI:Inhabited L6:=⟨x0⟩
  have hg:=hR.lt g rfl;have eg:∀args w,(callFunc 58 args).run prog w=.ok (.enter 58 args) w:=enters_of func58 (by kernel_rfl) rfl;have hs:=AnyQ.slices_SortFunc Tryz.sortF 5 Tryz.isAgg52 Tryz.sizeOf52 oW (fun _=>rfl) (fun x v hv=>by simp[oW,Fc.row]at hv;rcases hv with rfl|rfl|rfl|rfl|rfl<;>rfl) Vl (by rw[QB];exact Sw) 58 #[] g 0 cap (x0::xs0).toArray w eg (QC g 0 _ w) (L8 hR) hg.2 (by simp at h6⊢;omega)
  change Calls prog 57 _ _ _ at hs
  rw[QB]at hs;refine hs.mono fun e w' ⟨he,d',n,os,hp,hso,hw⟩=>⟨he,lF d'.toList,?_,?_,?_,?_⟩
  ·have:=hp.2.2;have h2:d'.toList.Perm (x0::xs0):=by simpa[Array.extract_eq_self_of_le,hp.1] using this
   exact h2.map _
  ·have hz:d'.size=xs0.length+1:=by simpa using hp.1
   unfold lF;rw[List.pairwise_map,List.pairwise_iff_getElem];intro i j hi hj hij;have hi2:i<d'.size:=by simpa using hi
   have hj2:j<d'.size:=by simpa using hj
   have hlt:=hso i j (Vy _) hij (by rw[hz]at hj2;simpa using hj2);rw[getElem!_pos d' j hj2,getElem!_pos d' i hi2]at hlt;exact hlt
  ·rw[hw];have hz:d'.toList.length=(x0::xs0).length:=by simpa using hp.1
   have:=U5 hR rfl hz n os;simpa using this
  rw[hw];exact NL w g 0 n d' os
theorem Ig(p:Q02)(cap:Nat)(fv:Value)(w:af):
  Calls prog 206 #[.slice p 0 cap,.int .i64 0,.int .i64 0,fv] w fun e w'=>e=.returned (.tuple #[])/\w'=w:=by
 go_enter func206,ntmps206;go_wp2_with fail;go_loopw[8] (fun i wr=>i=.int .i64 1/\wr=w) (fun _ _=>0);case atStart=>exact⟨rfl,rfl⟩
 obtain⟨rfl,rfl⟩:=hrel;go_wp2
 go_end0
 exact⟨rfl,rfl⟩
theorem QD(p:Q02)(cap:Nat)(lim:Int)(fv:Value)(w:af):
  Calls prog 137 #[.slice p 0 cap,.int .i64 0,.int .i64 0,.int .i64 lim,fv] w fun e w'=>e=.returned (.tuple #[])/\w'=w:=by
 go_enter func137,ntmps137;go_wp2_with fail;go_loopw[1,2] (fun a b wr=>a=.int .i64 0/\b=.int .i64 0/\wr=w) (fun _ _ _=>0);case atStart=>exact⟨rfl,rfl,rfl⟩
 obtain⟨rfl,rfl,rfl⟩:=hrel;go_wp2_with fail;refine(Ig p cap fv _).mono ?_;rintro e w1 ⟨rfl,rfl⟩;go_wp2;refine bodyPost_ret (results_none rfl _ _ _) rfl ?_;exact⟨rfl,rfl⟩
theorem NN(p:Q02)(cap:Nat)(fv:Value)(w:af):
  Calls prog 57 #[.slice p 0 cap,fv] w fun e w'=>e=.returned (.tuple #[])/\w'=w:=by
 go_enter func57,ntmps57;go_wp2_with fail;refine(Tryz.bits_Len 0 _ (by omega) (by omega)).mono ?_;rintro e w1 ⟨rfl,rfl⟩;go_wp2_with fail;refine(QD p cap _ fv _).mono ?_;rintro e w1 ⟨rfl,rfl⟩;go_wp2
 go_end0
 exact⟨rfl,rfl⟩
end Go.Proofs.YtojjoblnpldniaaGreat
namespace Go.Proofs.YtojjoblnpldniaaGreat
open ChangeShapes WideShapes ChangeAt RowKit
open Pl
attribute [local go_sem ↓] Go.wp_at_zero Go.wp_at_succ
end Go.Proofs.YtojjoblnpldniaaGreat
namespace Go.Proofs.YtojjoblnpldniaaGreat
set_option maxRecDepth 100000
open Go.Sort
open ChangeShapes WideShapes ChangeAt RowKit Maps
open Pl
theorem Ih(ad:Q02)(cap:Nat)(ts:Q04)(t:Fc)(w:af)(hlen:ts.length<=1048576)(hs:E5 w ad ts):
  Calls prog 16 #[.slice ad ts.length cap,.agg #[.string t.a,.string t.b,.string t.r,.string t.c,.string t.d]] w fun e w'=>e=.returned (.bool (gZ ts t))/\ag w w':=by
 have HS:=qD hs;clear hs;obtain⟨W0,hW0⟩:=eQx (w.alloc (.cells #[.string t.a,.string t.b,.string t.r,.string t.c,.string t.d] 52));have HB0:=qC hW0;have HX0:Hid (∀j (hj:j<5),W0.cell? ⟨w.heap.size,j,none⟩=some (t.row[j]'hj)):=fun j hj=>by
  have hc:j=0\/j=1\/j=2\/j=3\/j=4:=by omega
  rw[hW0];rcases hc with rfl|rfl|rfl|rfl|rfl<;>simp[Fc.row]
 go_enter func16,ntmps16;go_wp2;rw[<-hW0];clear hW0;go_loopw[5] (fun i wr=>∃k:Nat,k<=ts.length/\i=.int .i64 k/\Hid (gZ (ts.drop k) t=gZ ts t)/\Hid (ag W0 wr)) (fun i _=>ts.length-(intOf i).toNat);case atStart=>exact⟨0,Vy _,rfl,rfl,Vv _ _⟩
 obtain⟨k,hk,rfl,HP,HB⟩:=hrel;have WS:Hid (ag w wr):=HB0.out.trans (HB.out.mono HB0.out.size);by_cases hlt:k<ts.length
 ·rcases HS.out.below WS.out with hnil|⟨b,off,rfl,hb,hr⟩
  ·rw[hnil]at hlt;simp at hlt
  obtain⟨t0,t1,t2,t3,t4⟩:=hr k hlt;have x0:=cell_regrown (cell_later HB.out (HX0.out 0 (by omega)));have x1:=cell_regrown (cell_later HB.out (HX0.out 1 (by omega)));have x2:=cell_regrown (cell_later HB.out (HX0.out 2 (by omega)));have x3:=cell_regrown (cell_later HB.out (HX0.out 3 (by omega)));have x4:=cell_regrown (cell_later HB.out (HX0.out 4 (by omega)));simp only[Fc.row,List.getElem_cons_zero,List.getElem_cons_succ]at x0 x1 x2 x3 x4;replace t0:=cell_regrown t0;replace t1:=cell_regrown t1;replace t2:=cell_regrown t2;replace t3:=cell_regrown t3;replace t4:=cell_regrown t4;have hk1:=bI k;have hk2:(k:Int)<(ts.length:Int):=by omega
  have HD:Hid (gZ ts t=(EY ts[k] t || gZ (ts.drop (k+1)) t)):=by show _=_;rw[<-HP.out];exact MW hlt
  have Xm:Hid (∀d os,ag W0 (grow (redrawn wr d) os)):=fun d os=>HB.out.trans ((below_regrown wr d os).mono HB.out.size);clear hr;obtain⟨q,hq⟩:∃q,EY ts[k] t=q:=⟨_,rfl⟩;have heq:=Uf ts[k] t hq;rw[hq]at HD;clear hq;go_wp2_with fail;refine wp_region_quiet_below (by kernel_rfl) (by kernel_rfl) ?_
  repeat(go_big_quiet_step (fail))
  refine wpQuiet_nil ?_;rintro _ ⟨⟨dq,osq⟩,rfl⟩;cases q;case true=>
   go_wp2;go_ret;exact⟨by rw[HD.out];rfl,HB0.out.trans ((Xm.out dq osq).mono HB0.out.size)⟩
  go_wp2;go_roundw;case rel=>exact⟨k+1,by omega,by go_num,HD.out.symm,Xm.out dq osq⟩
  simp[intOf]<;>omega
 have HE:Hid (gZ ts t=false):=by
  show _=_;rw[<-HP.out,VU (by omega)];rfl
 go_wp2;go_ret;exact⟨by rw[HE.out];rfl,WS.out⟩
theorem Un{P:Nat->Prop}(h:∃n,P n):∃n,P n/\∀m,P m->n<=m:=by
 obtain⟨n,hn⟩:=h
 induction n using Nat.strongRecOn with
 | ind n ih =>
  by_cases hx:∃m,m<n/\P m
  ·obtain⟨m,hm,hp⟩:=hx;exact ih m hm hp
  exact⟨n,hn,fun m hm=>Nat.le_of_not_lt fun hlt=>hx ⟨m,hlt,hm⟩⟩
theorem QE{ts:Q0b}(h:∃f,Sol ts f):∃f,Least ts f:=by
 have key:∀ k,∃ n:Nat,(∃ g,Sol ts g/\g k=(n:Int))/\∀ m:Nat,(∃ g,Sol ts g/\g k=(m:Int))->n<=m:=fun k=>Un (by
  obtain⟨f,hf⟩:=h;exact⟨(f k).toNat,f,hf,by have:=hf.pos k;omega⟩)
 have low:∀k g,Sol ts g->(((key k).choose:Nat):Int)<=g k:=fun k g hg=>by
  have h1:=(key k).choose_spec.2 (g k).toNat ⟨g,hg,by have:=hg.pos k;omega⟩;have:=hg.pos k;omega
 refine⟨fun k=>(((key k).choose:Nat):Int),⟨fun k=>Int.natCast_nonneg _,fun k hk d hd=>?_⟩,fun k hk g hg=>low k g hg⟩;obtain⟨g,hg,e⟩:=(key k).choose_spec.1;have h1:=low (d.typ,d.rel) g hg;have h2:=hg.up k hk d hd;show(((key (d.typ,d.rel)).choose:Nat):Int)+stepOf d<=(((key k).choose:Nat):Int);rw[<-e];exact Int.le_trans (Int.add_le_add_right h1 _) h2
theorem TF(ts:Q0b):∃st,aD ts=true->Least ts st:=by
 by_cases h:aD ts=true
 ·obtain⟨st,hst⟩:=QE (aG.1 h).2.2;exact⟨st,fun _=>hst⟩
 exact⟨fun _=>0,fun h2=>absurd h2 h⟩
end Go.Proofs.YtojjoblnpldniaaGreat
