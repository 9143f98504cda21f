/- Contract of the document's function that tells whether a tuple fits a schema. -/
import Derived.Test.YtcgdckphpjfmhaaGreatDoorSq
import Derived.Test.YtcgdckphpjfmhaaGreatDoorJ17
import Derived.Test.YtcgdckphpjfmhaaGreatDoorJ19
import Derived.Test.YtcgdckphpjfmhaaGreatDoorJ21
import Derived.RangeFuncLeaves
import Derived.OwnWalkIn
import Derived.TacticsInMore
import Derived.LoopNIn
import Derived.LoopIn
import Derived.Maps.OwnIn
import Derived.Test.YtcgdckphpjfmhaaGreatDoorL4All
open Go.Proofs.Tryz
set_option maxHeartbeats 80000000
namespace Go.Proofs.YtcgdckphpjfmhaaGreatDoor
open ChangeShapes WideShapes ChangeAt RowKit Maps
open Pl
set_option linter.unusedVariables false
set_option maxRecDepth 100000
theorem iV.only{wc wd:ae}{R base:Nat}{v:Value}{rs:Q06}(h:iV wc base v rs)(hR:R<base)(ho:Only R wc wd):iV wd base v rs :=
 h.heap mU ho.size fun g hg=>ho.block g (h.lt mU hg).2 (fun e=>by injection e with e;have:=(h.lt mU hg).1;omega)
theorem iV.slT{w:ae}{R base cap:Nat}{XP:Q02}{rs:Q06}(h:iV w base (.slice XP rs.length cap) rs)(hR:R<base):∀W,Only R w W->jP W XP rs:=fun W hO=>by
 obtain⟨WY,cap',e,hs,-⟩:=(h.only hR hO).read;injection e with e1 e2 e3;subst e1;exact hs
def Uu(w:World)(n:Nat)(a b r c d s:ByteArray):Prop:=w.cell? ⟨n,0,none⟩=some (.string a)/\w.cell? ⟨n,1,none⟩=some (.string b)/\w.cell? ⟨n,2,none⟩=some (.string r)/\w.cell? ⟨n,3,none⟩=some (.string c)/\w.cell? ⟨n,4,none⟩=some (.string d)/\w.cell? ⟨n,5,none⟩=some (.string s)
theorem Uu.same{w w':ae}{n:Nat}{a b r c d s:ByteArray}(h:Uu w n a b r c d s)(hk:∀o,w'.cell? ⟨n,o,none⟩=w.cell? ⟨n,o,none⟩):Uu w' n a b r c d s :=
 ⟨(hk _).trans h.1,(hk _).trans h.2.1,(hk _).trans h.2.2.1,(hk _).trans h.2.2.2.1,(hk _).trans h.2.2.2.2.1,(hk _).trans h.2.2.2.2.2⟩
theorem xB(ad:Q02)(cap:Nat)(rs:Q06)(w:ae)(hlen:rs.length<=1048576)(hs:jP w ad rs)(hl:∀r∈rs,r.light)(hf:∀r∈rs,r.fits)(hcp:∀r∈rs,r.caps):
  Calls prog 50 #[.slice ad rs.length cap] w fun e w'=>e=.returned (.bool (ak (ag rs)))/\af w w':=by
 have HC:=pQ ad cap rs w hlen hs hl hf hcp;clear hs hl hf hcp;go_enter func50,ntmps50;go_wp2_with fail;refine HC.mono ?_;rintro e w6 ⟨hL,hb6⟩;rcases hL with⟨bS,nS,σ,rfl,hS,-⟩|⟨rfl,hno⟩
 ·have HY:=xP hS;have HY2:Hid (ak (ag rs)=true):=HY;clear HY hS HC;go_wp2;go_ret;exact⟨ah HY2.out.symm,hb6⟩
 have HY2:Hid (ak (ag rs)=false):=dK hno;clear hno HC;go_wp2;go_ret;exact⟨ah HY2.out.symm,hb6⟩
def QL(ts:Q0b)(t:Tp):Bool:=!rq ts t.a t.b t.r t.c t.d t.s
theorem Sd{w:ae}{base n:Nat}{v:Value}{ts:Q05}(h:w.ownsRow base 29 6 v n (aF ts))(hn:n=ts.length):∃ad cap,v=.slice ad ts.length cap/\Fa base w ad ts:=by
 obtain⟨ad,cap,hv,hsl,hg⟩:=KJ h hn;refine⟨ad,cap,hv,hsl,fun hne=>?_⟩;rcases h.2 with⟨rfl,h0⟩|⟨g,cap',cur,rfl,hbg,-⟩
 ·rw[hn]at h0;exact absurd (VS.1 h0) hne
 injection hv with e1 e2 e3;exact⟨g,e1.symm,hbg,(hg g e1.symm).2.2⟩
theorem Nt{rs:Q06}{t:Tp}(h:ak (ag rs)=true)(ht:t.ok=true):oG (ag rs) t.a t.r ⟨t.c,t.s⟩=!QL (ag rs) t:=by
 have hSP:=bz.1 h;have h1:oG (ag rs) t.a t.r ⟨t.c,t.s⟩=dP (aV (aK (ag rs) t.a t.r)) (aV (aK (ag rs) t.a t.r)).length ⟨t.c,t.s⟩:=Bp _ (KU hSP _ _);have h2:bF t.a t.b t.r t.c t.d t.s=true:=ht;rw[h1];unfold QL rq;rw[h2];simp
def iE(rs:Q06)(t:Tp):Bool:=rq (ag rs) t.a t.b t.r t.c t.d t.s
theorem DU{rs:Q06}{t:Tp}(h:ak (ag rs)=true)(ht:t.ok=true):oG (ag rs) t.a t.r ⟨t.c,t.s⟩=iE rs t:=by
 rw[Nt h ht];unfold QL iE;simp
theorem Fp{w:ae}{base:Nat}{v:Value}{ts:Q05}(h:w.ownsRow base 29 6 v ts.length (aF ts)):∃ad cap,v=.slice ad ts.length cap/\Sv w ad cap ts:=by
 have h':=h;rcases h.2 with⟨rfl,h0⟩|⟨g,cap,cur,rfl,hb,hg,hc,-⟩
 ·exact⟨none,0,by rw[h0],.inl ⟨rfl,rfl,VS.1 h0⟩⟩
 obtain⟨hrow,hl,hle⟩:=Br h';exact⟨_,cap,rfl,.inr ⟨g,0,rfl,hl,hle,hrow⟩⟩
theorem Sg{fit:Tp->Bool}{rs:Q06}{ts:Q05}{k:Int}{t:Tp}(h:bC fit rs ts=false):sH fit (ak (ag rs)) ts k t=1/\qh fit (ak (ag rs)) ts k t=[]:=by
 have h':gu fit (ak (ag rs)) ts=false:=h;unfold sH qh;rw[h'];exact⟨rfl,rfl⟩
theorem H9{fit:Tp->Bool}{rs:Q06}{ts:Q05}{k:Int}{t:Tp}(h:bC fit rs ts=true):sH fit (ak (ag rs)) ts k t=aQ fit ts k t/\qh fit (ak (ag rs)) ts k t=mI fit ts k t:=by
 have h':gu fit (ak (ag rs)) ts=true:=h;unfold sH qh;rw[h'];exact⟨rfl,rfl⟩
theorem yN(fit:Tp->Bool)(a:Nat->Addr)(ad:Q02)(cap:Nat)(rs:Q06)(WY:Q02)(cap':Nat)(ts:Q05)(k:Int)(t:Tp)(w:ae)(hE:ErrsD w a)(hlen:rs.length<=1048576)(hs:jP w ad rs)(hl:∀r∈rs,r.light)(hfr:∀r∈rs,r.fits)(hC:∀w1:World,af w w1->Calls prog 78 #[.slice ad rs.length cap] w1 (J7 (ag rs) w1))(hfb:ak (ag rs)=true->∀t:Tp,t.ok=true->oG (ag rs) t.a t.r ⟨t.c,t.s⟩=fit t)(hlt:ts.length<=1048576)(hst:Sv w WY cap' ts)(hft:∀x∈ts,x.fits)(ht:t.fits):
  Calls prog 11 #[.slice ad rs.length cap,.slice WY ts.length cap',.agg #[.int .i64 k,.string t.a,.string t.b,.string t.r,.string t.c,.string t.d,.string t.s]] w fun e w'=>∃v,e=.returned (.tuple #[v,.int .i64 (sH fit (ak (ag rs)) ts k t)])/\w'.ownsRow w.heap.size 29 6 v (qh fit (ak (ag rs)) ts k t).length (aF (qh fit (ak (ag rs)) ts k t))/\af w w':=by
 obtain⟨W0,hW0⟩:∃W0,W0=w.alloc (.cells #[.int .i64 k,.string t.a,.string t.b,.string t.r,.string t.c,.string t.d,.string t.s] 31):=⟨_,rfl⟩;have HX0:Hid (nN W0 w.heap.size k t):=by show nN _ _ _ _;rw[hW0];refine⟨?_,?_,?_,?_,?_,?_,?_,?_⟩<;>simp
 have HB0:=oQ hW0;have HE:=ay hE;have Xe:=ay (H7 fit a ad cap rs WY cap' ts k t W0 (hE.below HB0.out) hlen (hs.below HB0.out) hl hfr (fun w1 h=>hC w1 (HB0.out.trans (h.mono HB0.out.size))) hfb hlt (hst.below HB0.out) hft ht);obtain⟨x0,x1,x2,x3,x4,x5,x6,xl⟩:=HX0.out;clear hE hs hl hfr hC hfb hst hft ht;go_enter func11,ntmps11;go_wp2_with fail;rw[<-hW0];clear hW0;refine Xe.out.mono ?_;rintro e w1 ⟨hb1,hor⟩;have HB1:=ay (HB0.out.trans (hb1.mono HB0.out.size));obtain⟨W2,hW2⟩:∃W2,W2=w1.alloc (.cells #[.pointer none] 76):=⟨_,rfl⟩;have hb2:af w1 W2:=by rw[hW2];exact(VD _ _).alloc (VC _) _
 have HB2:=ay (HB1.out.trans (hb2.mono HB1.out.size));have HE2:=ay (HE.out.below HB2.out);have hwz:w.heap.size<=W0.heap.size:=HB0.out.size;have ht0:W2.cell? ⟨w1.heap.size,0,none⟩=some (.pointer none):=by rw[hW2];simp
 have hf0:W2.frozen? ⟨w1.heap.size,0,none⟩=false:=by rw[hW2];simp
 have hs2:W2.heap.size=w1.heap.size+1:=by rw[hW2];simp
 clear x0 x1 x2 x3 x4 x5 x6 xl Xe hb1;rcases hor with⟨hr,rfl⟩|⟨hr,hz,v,rfl,hown⟩|⟨hr,g,p,v,hgc,hg2,Y4,rfl,hpl,hc0,hc1,hown⟩
 ·have HA:=ay (Sg (k:=k) (t:=t) hr);clear hr;go_wp2_with fail;rw[<-hW2];clear hW2;refine(RI (a 0) ⟨w1.heap.size,0,none⟩ W2 HE2.out.typ.2).mono ?_;rintro e w3 ⟨rfl,hb3⟩;have HB3:=ay (HB2.out.trans (hb3.mono HB2.out.size));clear hb3;go_wp2_with fail;refine(EM a _ (HE.out.below HB3.out)).mono ?_;rintro e w4 ⟨rfl,rfl⟩;go_wp2;exact bodyPost_ret (v:=.tuple #[.slice none 0 0,.int .i64 1]) (by simp[results,Tryz.results11,go_sem]) rfl ⟨_,by rw[HA.out.1],by rw[HA.out.2];exact World.ownsRow_nil _ _ _ _,HB3.out⟩
 ·have HA:=ay (H9 (k:=k) (t:=t) hr);have HL:Hid (sH fit (ak (ag rs)) ts k t=0/\qh fit (ak (ag rs)) ts k t=bn ts k t):=⟨HA.out.1.trans hz,HA.out.2.trans (qX hz)⟩;have WV:=ay (aJ (fT hown hwz) hb2);clear hr hz hown;go_wp2_with fail;rw[<-hW2];clear hW2;refine(TY _ W2).mono ?_;rintro e w3 ⟨rfl,rfl⟩;go_wp2_with fail;refine(JG a _ HE2.out).mono ?_;rintro e w4 ⟨rfl,rfl⟩;go_wp2;exact bodyPost_ret (v:=.tuple #[v,.int .i64 0]) (by simp[results,Tryz.results11,go_sem]) rfl ⟨_,by rw[HL.out.1],by rw[HL.out.2];exact WV.out,HB2.out⟩
 have HA:=ay (H9 (k:=k) (t:=t) hr);have HL:Hid (sH fit (ak (ag rs)) ts k t=g/\qh fit (ak (ag rs)) ts k t=ts):=⟨HA.out.1.trans hgc,HA.out.2.trans (pK hgc (by omega))⟩;have hpw:p<w1.heap.size:=World.block_lt_of_cell? w1 ⟨p,0,none⟩ hc0;obtain⟨adv,cv,rfl,-⟩:=Fp hown;have WV:=ay (aJ (fT hown hwz) hb2);have HOL:=ay hown;have c0:W2.cell? ⟨p,0,none⟩=_:=(hb2.cell (p:=⟨p,0,none⟩) hpw).trans hc0;have c1:W2.cell? ⟨p,1,none⟩=_:=(hb2.cell (p:=⟨p,1,none⟩) hpw).trans hc1;have HC01:=ay (And.intro c0 c1);clear hr hown hc0 hc1 c0 c1;go_wp2_with fail;rw[<-hW2];clear hW2;refine(Ub ⟨p,0,none⟩ ⟨w1.heap.size,0,none⟩ (.pointer none) W2 HE2.out.typ.2 ht0 hf0).mono ?_;rintro e w3 ⟨rfl,W3,hb3,rfl⟩;obtain⟨w4,hw4⟩:∃x,x=W3.setCell ⟨w1.heap.size,0,none⟩ (.pointer (some ⟨p,0,none⟩)):=⟨_,rfl⟩;have hne:∀g',g'≠w1.heap.size->w4.heap[g']?=W3.heap[g']?:=fun g' e=>by rw[hw4];exact heap_setCell_other W3 ⟨w1.heap.size,0,none⟩ g' _ e
 have XR:Hid (af w w4):=by show Below _ _ _;rw[hw4];exact(HB2.out.trans (hb3.mono HB2.out.size)).setCell (by show w.heap.size<=w1.heap.size;exact HB1.out.size) _
 have d0:w4.cell? ⟨w1.heap.size,0,none⟩=some (.pointer (some ⟨p,0,none⟩)):=by rw[hw4];exact LF ((hb3.cell (p:=⟨w1.heap.size,0,none⟩) (by show w1.heap.size<_;omega)).trans ht0)
 have hp4:∀o,w4.cell? ⟨p,o,none⟩=W2.cell? ⟨p,o,none⟩:=fun o=>(VR (w:=W3) (a:=⟨p,o,none⟩) (hne p (by omega))).trans (hb3.cell (p:=⟨p,o,none⟩) (by show p<_;omega));have d1:=(hp4 0).trans HC01.out.1;have d2:=(hp4 1).trans HC01.out.2;have Xk:Hid (w4.ownsRow w.heap.size 29 6 (.slice adv ts.length cv) ts.length (aF ts)):=dG (aJ WV.out hb3) fun g' hg'=>hne g' (by have:=(HOL.out.lt g' hg').2;omega);have HE4:=ay (HE.out.below XR.out);rw[<-hw4];clear hw4 hb3 hne hp4;go_wp2_with fail;refine(JH a p g _ HE4.out hg2 Y4 d1).mono ?_;rintro e w5 ⟨rfl,rfl⟩;go_wp2;exact bodyPost_ret (v:=.tuple #[.slice adv ts.length cv,.int .i64 (g:Int)]) (by simp[results,Tryz.results11,go_sem]) rfl ⟨_,by rw[HL.out.1],by rw[HL.out.2];exact Xk.out,XR.out⟩
def Nu(rs:Q06)(ts:Q05)(k:Int)(t:Tp):List Tp:=qh (iE rs) (ak (ag rs)) ts k t
def Si(rs:Q06)(ts:Q05)(k:Int)(t:Tp):Int:=sH (iE rs) (ak (ag rs)) ts k t
theorem Ia(ad:Q02)(cap:Nat)(rs:Q06)(b cap':Nat)(ts:Q05)(k:Int)(t:Tp)(w:ae)(hlen:rs.length<=1048576)(hs:jP w ad rs)(hl:∀r∈rs,r.light)(hfr:∀r∈rs,r.fits)(hlt:ts.length<=1048576)(hcp:ts.length<=cap')(hb:b<w.heap.size)(hr:dE w b 0 ts)(hf:∀x∈ts,x.fits)(ht:t.fits):
  Calls prog 35 #[.slice ad rs.length cap,.slice (some ⟨b,0,none⟩) ts.length cap',.agg #[.int .i64 k,.string t.a,.string t.b,.string t.r,.string t.c,.string t.d,.string t.s]] w fun e w'=>∃v,e=.returned (.tuple #[v,.int .i64 (Si rs ts k t)])/\w'.ownsRow w.heap.size 29 6 v (Nu rs ts k t).length (aF (Nu rs ts k t))/\af w w'/\(Si rs ts k t=0->∃g c,v=.slice (some ⟨g,0,none⟩) (Nu rs ts k t).length c) :=
 yL (.slice ad rs.length cap) (iE rs) (ak (ag rs)) b 0 cap' ts k t w hlt hcp hb hr hf ht (fun w1 hb=>iD ad cap rs w1 hlen (hs.below hb) hl hfr)
  (fun t w1 ht hb=>uz ad cap rs t.a t.b t.r t.c t.d t.s w1 hlen (hs.below hb) hl ht.1 ht.2.1 ht.2.2.1 ht.2.2.2.1 ht.2.2.2.2.1 ht.2.2.2.2.2)
end Go.Proofs.YtcgdckphpjfmhaaGreatDoor
namespace Go.Proofs.YtcgdckphpjfmhaaGreatDoor
set_option linter.unusedVariables false
set_option maxRecDepth 100000
open ChangeShapes WideShapes ChangeAt RowKit Maps Go.Shelf
open Pl
attribute [local go_sem] Oper.semAt_some
structure InM(W:World)(D br nr:Nat)(Mr:KL->Option Value)(Er:List (KL×RR))(Yw:Q02)(X0:Nat)(xo:Q0a)(gD gS gU:Nat)(sn:Int)(XO:Q02)(Xg:Nat)(us:Q0a):Prop where
 d2:W.cell? ⟨D,2,none⟩=some (.map (some br))
 d4:W.cell? ⟨D,4,none⟩=some (.slice Yw xo.length X0)
 objs:ll W Yw xo
 rel:EZ W br nr Mr Er
 bD:W.cell? ⟨gD,0,none⟩=some (.pointer (some ⟨D,0,none⟩))
 bS:W.cell? ⟨gS,0,none⟩=some (.int .i64 sn)
 bU:W.cell? ⟨gU,0,none⟩=some (.slice XO us.length Xg)
 users:ll W XO us
def DV(x:Fc):Array Value:=#[.agg #[.string x.a,.string x.b,.string x.r,.string x.c,.string x.d]]
theorem BF:∀(rs:Q07) (i:Nat) (h:i<rs.length) (j:Nat),j<2->(G.flatG RQ rs)[i*2+j]?=(RQ rs[i])[j]?
 | [],i,h,_,_=>by simp at h
 | r::rs,0,_,j,hj=>by
  simp only[G.flatG,Wi,Nat.zero_mul,V4,List.getElem_cons_zero];rw[Wx (by simp[RQ];omega)]
 | r::rs,i+1,h,j,hj=>by
  have ih:=BF rs i (by simpa using h) j hj;simp only[G.flatG,Wi,List.getElem_cons_succ]at ih ⊢;rw[Wu (by simp[RQ];omega)];have:(i+1)*2+j-(RQ r).length=i*2+j:=by simp[RQ];omega
  rw[this];exact ih
theorem La{W:ae}{br nr:Nat}{Mr:KL->Option Value}{Er:List (KL×RR)}(h:EZ W br nr Mr Er)(k:KL):∃ad cap,(Mr k).getD (.slice none 0 0)=.slice ad (G.lookL Er k).length cap/\(∀i (hi:i<(G.lookL Er k).length),∃g,ad=some ⟨g,0,none⟩/\g<W.heap.size/\W.cell? ⟨g,i*2,none⟩=some (.string (G.lookL Er k)[i].name)/\W.cell? ⟨g,i*2+1,none⟩=some (G.lookL Er k)[i].sl):=by
 have ho:=DJ h k;rcases ho.2 with⟨e,h0⟩|⟨g,cap,cur,e,hbg,hg,hnc,-⟩
 ·exact⟨none,0,by rw[e,h0],fun i hi=>by omega⟩
 refine⟨_,cap,e,fun i hi=>⟨g,rfl,(ho.lt g (by rw[e];rfl)).2,?_,?_⟩⟩
 ·rw[e]at ho;rw[ho.cellAt (i*2) (by omega)];exact BF _ i hi 0 (by omega)
 rw[e]at ho;rw[ho.cellAt (i*2+1) (by omega)];exact BF _ i hi 1 (by omega)
def Fq(W:World)(g:Nat)(o:Al):Prop:=W.heap[g]?=some (.cells #[.string o.t,.string o.s] 27 (0,0))
def Ib(W:World)(g:Nat)(r:RR):Prop:=W.heap[g]?=some (.cells #[.string r.name,r.sl] 149 (0,0))
theorem Fq.c{W:ae}{g:Nat}{o:Al}(h:Fq W g o):W.cell? ⟨g,0,none⟩=some (.string o.t)/\W.cell? ⟨g,1,none⟩=some (.string o.s)/\g<W.heap.size:=by
 have hl:=(VH.1 h).1;unfold Fq at h;exact⟨by simp[World.cell?,h],by simp[World.cell?,h],hl⟩
theorem Ib.c{W:ae}{g:Nat}{r:RR}(h:Ib W g r):W.cell? ⟨g,0,none⟩=some (.string r.name)/\W.cell? ⟨g,1,none⟩=some r.sl/\g<W.heap.size:=by
 have hl:=(VH.1 h).1;unfold Ib at h;exact⟨by simp[World.cell?,h],by simp[World.cell?,h],hl⟩
theorem Fq.kp{W W':ae}{g:Nat}{o:Al}(h:Fq W g o)(hk:KpI W W'):Fq W' g o:=hk.cells g _ _ _ h (.inl rfl)
theorem Ib.kp{W W':ae}{g:Nat}{r:RR}(h:Ib W g r)(hk:KpI W W'):Ib W' g r:=hk.cells g _ _ _ h (.inr rfl)
def iQ(rs:Q06)(st:Q00)(us:Q0a)(sn:Int)(xo:Q0a)(q:Nat):List Fc:=(xo.take q).flatMap (yF (ag rs) st us sn)
def kQ(R:Q07)(us:Q0a)(o:Al)(k:Nat):List Fc:=(R.take k).flatMap fun r=>jY o r.name us
theorem Sj{rs:Q06}{st:Q00}{us:Q0a}{sn:Int}{xo:Q0a}{q:Nat}(h:q<xo.length):iQ rs st us sn xo (q+1)=iQ rs st us sn xo q++kQ (G.lookL (eG st rs) (xo[q].t,sn)) us xo[q] (G.lookL (eG st rs) (xo[q].t,sn)).length:=by
 unfold iQ kQ;rw[VE h,Ws,VP];congr 1;simp only[Wi,List.flatMap_nil,Ww];unfold yF;rw[Hr,List.flatMap_map]
theorem Sk{R:Q07}{us:Q0a}{o:Al}{k:Nat}(h:k<R.length):kQ R us o (k+1)=kQ R us o k++jY o R[k].name us:=by
 unfold kQ;rw[VE h,Ws];simp
theorem Nv(o:Al)(rel:bW){xu:Q0a}{j:Nat}(h:j<xu.length):jY o rel (xu.take (j+1))=jY o rel (xu.take j)++[⟨o.t,o.s,rel,xu[j].t,xu[j].s⟩]:=by
 unfold jY;rw[VE h,WA];rfl
theorem Nw{rs:Q06}{st:Q00}{xo us:Q0a}{sn:Int}{o:Al}{r:RR}{u:Al}(ho:o∈xo)(hr:r∈G.lookL (eG st rs) (o.t,sn))(hu:u∈us):(⟨o.t,o.s,r.name,u.t,u.s⟩:Fc)∈dw (ag rs) st xo us sn:=by
 unfold dw yF;refine VZ.2 ⟨o,ho,VZ.2 ⟨(o.t,r.name),?_,VQ.2 ⟨u,hu,rfl⟩⟩⟩;rw[Hr];exact VQ.2 ⟨r,hr,rfl⟩
theorem QM(n:Nat)(hn:1<=n)(D br nr:Nat)(Mr:KL->Option Value)(st:Q00)(rs:Q06)(Yw:Q02)(X0:Nat)(xo:Q0a)(gD gS gU:Nat)(sn:Int)(XO:Q02)(Xg:Nat)(us:Q0a)(w0:ae)(hs0:0<=sn)(hs1:sn<=1000)(hol:xo.length<=1000)(hul:us.length<=1000)(hrl:∀k,(G.lookL (eG st rs) k).length<=1000)(hof:∀o∈xo,o.t.size<=maxLen):
  Fb Fence.wide n prog 182 #[.pointer (some ⟨gD,0,none⟩),.pointer (some ⟨gS,0,none⟩),.pointer (some ⟨gU,0,none⟩)] DV (fun _=>KpI) (fun _ W=>InM W D br nr Mr (eG st rs) Yw X0 xo gD gS gU sn XO Xg us) (fun _ x=>x∈dw (ag rs) st xo us sn) (fun xs=>xs=dw (ag rs) st xo us sn) w0:=by
 intro l J W _ _ _ hJ hT hY h0;have HJ:=aD hJ;have HT:=aD hT;have HY:=aD hY;have H0:=aD h0;have HOF:=aD hof;have hM:=hT _ _ h0;have HRL:=aD hrl;have bD:=hM.bD;have d4:=hM.d4;have lD:=aM bD;have lDD:=aM d4;clear hJ hT hY h0 hof hM hrl;refine callsIn_of_wp func182 rfl trivial ?_ rfl;simp only[ntmps182,List.size_toArray,We,WH,Nat.reduceAdd,Nat.reduceSub,Array.replicate_succ,Array.replicate_zero,List.push_toArray,List.append_toArray,WN,Wp];gi_wp2;clear bD d4 lD lDD
 gi_loopw [16] (fun i wr=>∃q:Nat,q<=xo.length/\i=.int .i64 q/\Hid (J (iQ rs st us sn xo q) wr)) (fun i _=>xo.length-(intOf i).toNat)
 case atStart=>exact⟨0,VG _,rfl,H0⟩
 clear H0;obtain⟨q,hq,rfl,HJ1⟩:=hrel;by_cases hlq:q<xo.length
 ·have hM:=HT.out _ _ HJ1.out;obtain⟨bO,Xy,ZW,⟨o0,o1⟩,hbO⟩:=ll.at0 hM.objs hlq;have HSQ:=aD (Sj (rs:=rs) (st:=st) (us:=us) (sn:=sn) hlq);have HOS:=aD (HOF.out _ (Vz hlq));have HOM:Hid (xo[q]∈xo):=Vz hlq;obtain⟨o,ho⟩:∃o,o=xo[q]:=⟨_,rfl⟩;rw[<-ho]at o0 o1 HSQ HOS HOM;clear ho;have hq1:=bq q;have hq2:(q:Int)<(xo.length:Int):=by omega
  obtain⟨W1,hW1⟩:∃W1,W1=wr.alloc (.cells #[.string o.t,.string o.s] 27):=⟨_,rfl⟩;have HB1:=oQ hW1;have HJ2:=aD (nG HJ.out HJ1.out HB1.out);have Yl:Hid (Fq W1 wr.heap.size o):=by rw[hW1];exact World.alloc_heap_new wr _
  have hM2:=HT.out _ _ HJ2.out;have bD:=hM2.bD;have bS:=hM2.bS;have d2:=hM2.d2;obtain⟨c0,c1,cl⟩:=Yl.out.c;obtain⟨YF,Yh,hgd,-⟩:=La hM2.rel (o.t,sn);obtain⟨kl,hkl⟩:=KF (o.t,sn) HOS.out hs0 (by show sn<=_;omega);obtain⟨R,hR⟩:∃R,R=G.lookL (eG st rs) (o.t,sn):=⟨_,rfl⟩;have hRl:R.length<=1000:=by rw[hR];exact HRL.out _
  rw[<-hR]at hgd HSQ;have HRE:=aD hR;have HGD:=aD hgd;have hlk:∀m,(Instr.lookup 122 (.map (some br)) (.agg #[.string o.t,.int .i64 sn]) false).run prog (W1.drewN m)=.ok (.slice YF R.length Yh) (W1.drewN m):=fun m=>by
   have h:=(hM2.rel.map.below (below_drewN (VD _ _) m)).look (t:=122) (e:=103) UR underlying122 (QC _) (x:=(o.t,sn)) hkl;rw[hgd]at h;exact h
  subst ZW;clear hM hM2 hR hgd hkl;gi_wp2;rw[<-hW1];clear hW1;refine wpIn_wide.2 ?_;go_quiet (fail);obtain⟨W2,hW2⟩:∃W2,W2=W1.drewN nq:=⟨_,rfl⟩;have HB2:Hid (af W1 W2):=by show Below _ _ _;rw[hW2];exact below_drewN (VD _ _) _
  have HJ3:=aD (nG HJ.out HJ2.out HB2.out);have HBX2:=aD (Yl.out.kp (KpI.below HB2.out));obtain⟨gO,hgO⟩:∃g,g=wr.heap.size:=⟨_,rfl⟩;rw[<-hgO]at HBX2 ⊢;rw[<-hW2];clear hW2 hgO c0 c1 cl bD bS d2 hlk HB1 HJ2 Yl HJ1 o0 o1 hbO;gi_wp2
  gi_loopw [30] (fun i w2=>∃k:Nat,k<=R.length/\i=.int .i64 k/\Hid (J (iQ rs st us sn xo q++kQ R us o k) w2)/\Hid (Fq w2 gO o)) (fun i _=>R.length-(intOf i).toNat)
  case atStart=>exact⟨0,VG _,rfl,by show J (_++[]) _;rw[Ww];exact HJ3.out,HBX2⟩
  clear HJ3 HBX2 HB2;obtain⟨k,hk,rfl,HJ4,Yl⟩:=hrel;by_cases hlk:k<R.length
  ·have hM:=HT.out _ _ HJ4.out;obtain⟨adR',capR',hgd',hrows⟩:=La hM.rel (o.t,sn);rw[<-HRE.out,HGD.out]at hgd';injection hgd' with ea eb ec;subst ea;clear eb ec;obtain⟨gq,hadR,hgl,r0,r1⟩:=hrows k (by rw[<-HRE.out];exact hlk);have HKS:=aD (Sk (us:=us) (o:=o) hlk);have hrr:(G.lookL (eG st rs) (o.t,sn))[k]'(by rw[<-HRE.out];exact hlk)=R[k]:=by simp only[HRE.out]
   rw[hrr]at r0 r1;have HRM:Hid (R[k]∈R):=Vz hlk;obtain⟨r,hr⟩:∃r,r=R[k]:=⟨_,rfl⟩;rw[<-hr]at r0 r1 HKS HRM;have hk1:=bq k;have hk2:(k:Int)<(R.length:Int):=by omega
   obtain⟨W3,hW3⟩:∃W3,W3=wr.alloc (.cells #[.string r.name,r.sl] 149):=⟨_,rfl⟩;have HB3:=oQ hW3;have HJ5:=aD (nG HJ.out HJ4.out HB3.out);have ZG:=aD (Yl.out.kp (KpI.below HB3.out));have HBR:Hid (Ib W3 wr.heap.size r):=by rw[hW3];exact World.alloc_heap_new wr _
   have hM3:=HT.out _ _ HJ5.out;have bU:=hM3.bU;have lU:=aM bU;have bU0:=hM.bU;have lU0:=aM bU0;unfold RR.sl at r1 hW3;obtain⟨gR,hgR⟩:∃g,g=wr.heap.size:=⟨_,rfl⟩;subst hadR;clear hM hM3 hr hrr hrows;gi_wp2;rw[<-hW3,<-hgR];rw[<-hgR]at HBR;clear hW3 hgR bU lU bU0 lU0 r0 r1 hgl HB3 HJ4 Yl
   gi_loopw [36] (fun i w2=>∃j:Nat,j<=us.length/\i=.int .i64 j/\Hid (J (iQ rs st us sn xo q++kQ R us o k++jY o r.name (us.take j)) w2)/\Hid (Fq w2 gO o)/\Hid (Ib w2 gR r)) (fun i _=>us.length-(intOf i).toNat)
   case atStart=>exact⟨0,VG _,rfl,by show J (_++[]) _;rw[Ww];exact HJ5.out,ZG,HBR⟩
   clear HJ5 ZG HBR;obtain⟨j,hj,rfl,HJ6,ZG,HBR⟩:=hrel;by_cases hlj:j<us.length
   ·have hM:=HT.out _ _ HJ6.out;obtain⟨bV,offV,hadU,⟨y0,y1⟩,hbV⟩:=ll.at0 hM.users hlj;have HAS:=aD (Nv o r.name hlj);obtain⟨u,hu⟩:∃u,u=us[j]:=⟨_,rfl⟩;rw[<-hu]at y0 y1 HAS;have hj1:=bq j;have hj2:(j:Int)<(us.length:Int):=by omega
    obtain⟨W4,XX⟩:∃W4,W4=wr.alloc (.cells #[.string u.t,.string u.s] 27):=⟨_,rfl⟩;have XR:=oQ XX;have HJ7:=nG HJ.out HJ6.out XR.out;have HBO2:=aD (ZG.out.kp (KpI.below XR.out));have HBR2:=aD (HBR.out.kp (KpI.below XR.out));obtain⟨fn,tmps,assign,body,hy,hR⟩:=HY.out _ ⟨o.t,o.s,r.name,u.t,u.s⟩ W4 HJ7 (Nw HOM.out (by rw[<-HRE.out];exact HRM.out) (by rw[hu];exact Vz hlj));obtain⟨c0,c1,cl⟩:=ZG.out.c;obtain⟨e0,e1,el⟩:=HBR.out.c;have HRR:=aD hR;unfold DV at hy;subst hadU;subst XX;clear hM hu HJ7 hR;gi_wp2;refine HRR.out.mono ?_;rintro e W5 ⟨rfl,hJ8,hK8⟩;have HJ8:Hid (J (iQ rs st us sn xo q++kQ R us o k++jY o r.name (us.take (j+1))) W5):=by show J _ _;rw[HAS.out,<-V8];exact hJ8
    have HBO3:=aD (HBO2.out.kp hK8);have HBR3:=aD (HBR2.out.kp hK8);clear hJ8 hK8 hy y0 y1 c0 c1 cl e0 e1 el;gi_wp2;go_roundw;case rel=>exact⟨j+1,by omega,by go_num,HJ8,HBO3,HBR3⟩
    simp[intOf]<;>omega
   have HJ7:Hid (J (iQ rs st us sn xo q++kQ R us o (k+1)) wr):=by
    have h1:=HJ6.out;rw[Wl (by omega),V8,<-HKS.out]at h1;exact h1
   gi_wp2;go_roundw;case rel=>exact⟨k+1,by omega,by go_num,HJ7,ZG⟩
   simp[intOf]<;>omega
  have HE2:Hid (iQ rs st us sn xo q++kQ R us o k=iQ rs st us sn xo (q+1)):=by show _=_;rw[HSQ.out,show k=R.length by omega]
  have HJ5:Hid (J (iQ rs st us sn xo (q+1)) wr):=by show J _ _;rw[<-HE2.out];exact HJ4.out
  gi_wp2;go_roundw;case rel=>exact⟨q+1,by omega,by go_num,HJ5⟩
  simp[intOf]<;>omega
 have HE:Hid (iQ rs st us sn xo q=dw (ag rs) st xo us sn):=by show _=_;unfold iQ dw;rw[Wl (by omega)]
 have HJ2:Hid (J (dw (ag rs) st xo us sn) wr):=by show J _ _;rw[<-HE.out];exact HJ1.out
 gi_wp2
 go_end0
 exact⟨⟨_,rfl⟩,_,rfl,HJ2.out⟩
end Go.Proofs.YtcgdckphpjfmhaaGreatDoor
namespace Go.Proofs.YtcgdckphpjfmhaaGreatDoor
set_option linter.unusedVariables false
set_option maxRecDepth 100000
open ChangeShapes WideShapes ChangeAt RowKit Maps
open Pl
section
variable  {w:World}{rs:Q06}{D br bp bt bK nK:Nat}{n1:Int}{nr:Nat}{Mr:KL->Option Value}{Er:List (KL×RR)}{ts:Q05}{xo xu:Q0a}{np:Nat}{Mp:K3->Option Value}{vo vu:Value}{out:Q04}{f:Fc}{WW:Q02}{capE:Nat}{rows:Q08}{n:Nat}
theorem Ny(hn:n<rows.length)(hD:DatA w rs D br bp bt n1 nr Mr Er (dF ts) xo xu np Mp vo vu)(hK:aN oD prog 43 w bK nK (Ce out))(hf:f.fits)(hts:∀t∈ts,t.fits)(htl:ts.length<=1000)(hex:jq w WW rows)(hre:rows.length<=1000)(hk:rows[n].e.kind=1):
  Calls prog 183 #[.pointer (some ⟨D,0,none⟩),.slice WW rows.length capE,.int .i64 (n:Int),.agg #[.string f.a,.string f.b,.string f.r,.string f.c,.string f.d],.map (some bK)] w fun e w'=>e=.returned (.bool (fE ts out f))/\af w w':=by
 obtain⟨b,off,Xb,⟨t0,t1,t2,t3,t4⟩,hbl,hok⟩:=jq.at0 hex hn;obtain⟨W0,hW0⟩:∃W0,W0=Iu w D (.slice WW rows.length capE) f bK rows[n]:=⟨_,rfl⟩;have HB0:Hid (af w W0):=by show Below _ _ _;rw[hW0];exact lT _ _ _ _ _ _
 have HN0:Hid (NdB W0 w.heap.size D (.slice WW rows.length capE) f bK rows[n]):=by show NdB _ _ _ _ _ _ _;rw[hW0];exact lV _ _ _ _ _ _
 have hk1:(rows[n].e.kind==1)=true:=by rw[hk];rfl
 have hbl1:b<w.heap.size+1:=by omega
 have Zt:b<w.heap.size+1+1:=by omega
 have Yp:b<w.heap.size+1+1+1:=by omega
 have hn1:=bq n;have hn2:(n:Int)<(rows.length:Int):=by omega
 unfold Iu yM at hW0;have HC:=aD (Cf (hD.below HB0.out) (hK.below HB0.out) hf hts htl);clear hD hK hts hex hk hok;subst Xb;go_enter func183,ntmps183;go_wp2_with fail;rw[<-hW0];clear hW0 t0 t1 t2 t3 t4;refine(HC.out).mono ?_;rintro e w1 ⟨rfl,hb1⟩;have HB1:=aD (HB0.out.trans (hb1.mono HB0.out.size));clear hb1;go_wp2;go_ret;exact⟨rfl,HB1.out⟩
theorem QN(hn:n<rows.length)(hK:aN oD prog 43 w bK nK (Ce out))(hf:f.fits)(hnm:rows[n].e.name.size<=maxLen)(hex:jq w WW rows)(hre:rows.length<=1000)(hk:rows[n].e.kind=2):
  Calls prog 183 #[.pointer (some ⟨D,0,none⟩),.slice WW rows.length capE,.int .i64 (n:Int),.agg #[.string f.a,.string f.b,.string f.r,.string f.c,.string f.d],.map (some bK)] w fun e w'=>e=.returned (.bool (bR out ⟨f.a,f.b,rows[n].e.name,f.c,f.d⟩))/\af w w':=by
 obtain⟨b,off,Xb,⟨t0,t1,t2,t3,t4⟩,hbl,hok⟩:=jq.at0 hex hn;obtain⟨W0,hW0⟩:∃W0,W0=Iu w D (.slice WW rows.length capE) f bK rows[n]:=⟨_,rfl⟩;have HB0:Hid (af w W0):=by show Below _ _ _;rw[hW0];exact lT _ _ _ _ _ _
 have HN0:Hid (NdB W0 w.heap.size D (.slice WW rows.length capE) f bK rows[n]):=by show NdB _ _ _ _ _ _ _;rw[hW0];exact lV _ _ _ _ _ _
 have hk1:(rows[n].e.kind==1)=false:=by rw[hk];rfl
 have hk2:(rows[n].e.kind==2)=true:=by rw[hk];rfl
 have hbl1:b<w.heap.size+1:=by omega
 have Zt:b<w.heap.size+1+1:=by omega
 have Yp:b<w.heap.size+1+1+1:=by omega
 have hn1:=bq n;have hn2:(n:Int)<(rows.length:Int):=by omega
 unfold Iu yM at hW0;have HC:=aD (wh bK nK out ⟨f.a,f.b,rows[n].e.name,f.c,f.d⟩ W0 ⟨hf.1,hf.2.1,hnm,hf.2.2.2.1,hf.2.2.2.2⟩ (hK.below HB0.out));clear hK hex hk hok hf;subst Xb;go_enter func183,ntmps183;go_wp2_with fail;rw[<-hW0];clear hW0 t0 t1 t2 t3 t4;refine(HC.out).mono ?_;rintro e w1 ⟨rfl,hb1⟩;have HB1:=aD (HB0.out.trans (hb1.mono HB0.out.size));clear hb1;go_wp2;go_ret;exact⟨rfl,HB1.out⟩
theorem Nz(hn:n<rows.length)(hD:DatA w rs D br bp bt n1 nr Mr Er (dF ts) xo xu np Mp vo vu)(hK:aN oD prog 43 w bK nK (Ce out))(hf:f.fits)(hxf:rows[n].e.over.size<=maxLen/\rows[n].e.name.size<=maxLen)(hts:∀t∈ts,t.fits)(htl:ts.length<=1000)(hex:jq w WW rows)(hre:rows.length<=1000)(hk:rows[n].e.kind=3):
  Calls prog 183 #[.pointer (some ⟨D,0,none⟩),.slice WW rows.length capE,.int .i64 (n:Int),.agg #[.string f.a,.string f.b,.string f.r,.string f.c,.string f.d],.map (some bK)] w fun e w'=>e=.returned (.bool (gJ ts out rows[n].e.over rows[n].e.name f))/\af w w':=by
 obtain⟨b,off,Xb,⟨t0,t1,t2,t3,t4⟩,hbl,hok⟩:=jq.at0 hex hn;obtain⟨W0,hW0⟩:∃W0,W0=Iu w D (.slice WW rows.length capE) f bK rows[n]:=⟨_,rfl⟩;have HB0:Hid (af w W0):=by show Below _ _ _;rw[hW0];exact lT _ _ _ _ _ _
 have HN0:Hid (NdB W0 w.heap.size D (.slice WW rows.length capE) f bK rows[n]):=by show NdB _ _ _ _ _ _ _;rw[hW0];exact lV _ _ _ _ _ _
 have hk1:(rows[n].e.kind==1)=false:=by rw[hk];rfl
 have hk2:(rows[n].e.kind==2)=false:=by rw[hk];rfl
 have hk3:(rows[n].e.kind==3)=true:=by rw[hk];rfl
 have hbl1:b<w.heap.size+1:=by omega
 have Zt:b<w.heap.size+1+1:=by omega
 have Yp:b<w.heap.size+1+1+1:=by omega
 have hn1:=bq n;have hn2:(n:Int)<(rows.length:Int):=by omega
 unfold Iu yM at hW0;have HC:=aD (Cg (hD.below HB0.out) (hK.below HB0.out) rows[n] hxf hf hts htl);clear hD hK hts hex hk hok hxf hf;subst Xb;go_enter func183,ntmps183;go_wp2_with fail;rw[<-hW0];clear hW0 t0 t1 t2 t3 t4;refine(HC.out).mono ?_;rintro e w1 ⟨rfl,hb1⟩;have HB1:=aD (HB0.out.trans (hb1.mono HB0.out.size));clear hb1;go_wp2;go_ret;exact⟨rfl,HB1.out⟩
theorem Km(hn:n<rows.length)(H:Int->Bool)(hkl:rows[n].e.kids.length<=1000)(hIH:∀i∈rows[n].e.kids,Kg D (.slice WW rows.length capE) f bK w i (H i))(hex:jq w WW rows)(hre:rows.length<=1000)(hk:rows[n].e.kind=4):
  Calls prog 183 #[.pointer (some ⟨D,0,none⟩),.slice WW rows.length capE,.int .i64 (n:Int),.agg #[.string f.a,.string f.b,.string f.r,.string f.c,.string f.d],.map (some bK)] w fun e w'=>e=.returned (.bool (rows[n].e.kids.any H))/\af w w':=by
 obtain⟨b,off,Xb,⟨t0,t1,t2,t3,t4⟩,hbl,hok⟩:=jq.at0 hex hn;obtain⟨W0,hW0⟩:∃W0,W0=Iu w D (.slice WW rows.length capE) f bK rows[n]:=⟨_,rfl⟩;have HB0:Hid (af w W0):=by show Below _ _ _;rw[hW0];exact lT _ _ _ _ _ _
 have HN0:Hid (NdB W0 w.heap.size D (.slice WW rows.length capE) f bK rows[n]):=by show NdB _ _ _ _ _ _ _;rw[hW0];exact lV _ _ _ _ _ _
 have hk1:(rows[n].e.kind==1)=false:=by rw[hk];rfl
 have hk2:(rows[n].e.kind==2)=false:=by rw[hk];rfl
 have hk3:(rows[n].e.kind==3)=false:=by rw[hk];rfl
 have hk4:(rows[n].e.kind==4)=true:=by rw[hk];rfl
 have hbl1:b<w.heap.size+1:=by omega
 have Zt:b<w.heap.size+1+1:=by omega
 have Yp:b<w.heap.size+1+1+1:=by omega
 have hn1:=bq n;have hn2:(n:Int)<(rows.length:Int):=by omega
 unfold Iu yM at hW0;have HC:=aD (tq 216 #[] #[.pointer (some ⟨w.heap.size,0,none⟩),.pointer (some ⟨w.heap.size+1,0,none⟩),.pointer (some ⟨w.heap.size+1+1,0,none⟩),.pointer (some ⟨w.heap.size+1+1+1,0,none⟩)] H rows[n].adK rows[n].capK rows[n].e.kids W0 (by omega) (hok.2.below HB0.out) Um (fun i hi w1 hb=>pR (hIH i hi) (HB0.out.trans (hb.mono HB0.out.size)) (HN0.out.below hb)));clear hIH hex hk hok;subst Xb;go_enter func183,ntmps183;go_wp2_with fail;rw[<-hW0];clear hW0 t0 t1 t2 t3 t4;refine(HC.out).mono ?_;rintro e w1 ⟨rfl,hb1⟩;have HB1:=aD (HB0.out.trans (hb1.mono HB0.out.size));clear hb1;go_wp2;go_ret;exact⟨rfl,HB1.out⟩
theorem NA(hn:n<rows.length)(H:Int->Bool)(hkl:rows[n].e.kids.length<=1000)(hIH:∀i∈rows[n].e.kids,Kg D (.slice WW rows.length capE) f bK w i (H i))(hex:jq w WW rows)(hre:rows.length<=1000)(hk:rows[n].e.kind=5):
  Calls prog 183 #[.pointer (some ⟨D,0,none⟩),.slice WW rows.length capE,.int .i64 (n:Int),.agg #[.string f.a,.string f.b,.string f.r,.string f.c,.string f.d],.map (some bK)] w fun e w'=>e=.returned (.bool (rows[n].e.kids.all H))/\af w w':=by
 obtain⟨b,off,Xb,⟨t0,t1,t2,t3,t4⟩,hbl,hok⟩:=jq.at0 hex hn;obtain⟨W0,hW0⟩:∃W0,W0=Iu w D (.slice WW rows.length capE) f bK rows[n]:=⟨_,rfl⟩;have HB0:Hid (af w W0):=by show Below _ _ _;rw[hW0];exact lT _ _ _ _ _ _
 have HN0:Hid (NdB W0 w.heap.size D (.slice WW rows.length capE) f bK rows[n]):=by show NdB _ _ _ _ _ _ _;rw[hW0];exact lV _ _ _ _ _ _
 have hk1:(rows[n].e.kind==1)=false:=by rw[hk];rfl
 have hk2:(rows[n].e.kind==2)=false:=by rw[hk];rfl
 have hk3:(rows[n].e.kind==3)=false:=by rw[hk];rfl
 have hk4:(rows[n].e.kind==4)=false:=by rw[hk];rfl
 have hk5:(rows[n].e.kind==5)=true:=by rw[hk];rfl
 have hbl1:b<w.heap.size+1:=by omega
 have Zt:b<w.heap.size+1+1:=by omega
 have Yp:b<w.heap.size+1+1+1:=by omega
 have hn1:=bq n;have hn2:(n:Int)<(rows.length:Int):=by omega
 unfold Iu yM at hW0;have HC:=aD (tq 217 #[] #[.pointer (some ⟨w.heap.size+1+1+1+1+1,0,none⟩)] (fun i=>!H i) rows[n].adK rows[n].capK rows[n].e.kids W0 (by omega) (hok.2.below HB0.out) Un (fun i hi w1 hb=>wm (hIH i hi) (HB0.out.trans (hb.mono HB0.out.size)) (HN0.out.below hb)));have Xl:Hid ((rows[n].e.kids.any fun i=>!H i)=!rows[n].e.kids.all H):=by show _=_;rw[List.not_all_eq_any_not]
 clear hIH hex hk hok;subst Xb;go_enter func183,ntmps183;go_wp2_with fail;rw[<-hW0];clear hW0 t0 t1 t2 t3 t4;refine(HC.out).mono ?_;rintro e w1 ⟨he,hb1⟩;rw[Xl.out]at he;subst he;have HB1:=aD (HB0.out.trans (hb1.mono HB0.out.size));clear hb1;go_wp2;go_ret;exact⟨by simp,HB1.out⟩
end
theorem Kn{e:Ex}(h:az e=true):(e.kind=2->e.name.size<=maxLen)/\(e.kind=3->e.over.size<=maxLen/\e.name.size<=maxLen)/\(e.kind=1\/e.kind=2\/e.kind=3\/e.kind=4\/e.kind=5\/e.kind=6):=by
 unfold az at h;have hle:∀s:ByteArray,aS s=true->s.size<=maxLen:=fun s hs=>by have:=(nV hs).2;unfold maxLen;omega
 by_cases k1:e.kind=1
 ·exact⟨fun h2=>by omega,fun h3=>by omega,.inl k1⟩
 by_cases k2:e.kind=2
 ·rw[if_neg k1,if_pos k2]at h;simp only[VF]at h;exact⟨fun _=>hle _ h.1.1.1,fun h3=>by omega,.inr (.inl k2)⟩
 by_cases k3:e.kind=3
 ·rw[if_neg k1,if_neg k2,if_pos k3]at h;simp only[VF]at h;exact⟨fun h2=>by omega,fun _=>⟨hle _ h.1.1.1,hle _ h.1.1.2⟩,.inr (.inr (.inl k3))⟩
 refine⟨fun h2=>absurd h2 k2,fun h3=>absurd h3 k3,?_⟩;by_cases k4:e.kind=4\/e.kind=5
 ·rcases k4 with k4|k4
  ·exact .inr (.inr (.inr (.inl k4)))
  exact .inr (.inr (.inr (.inr (.inl k4))))
 by_cases k6:e.kind=6
 ·exact .inr (.inr (.inr (.inr (.inr k6))))
 rw[if_neg k1,if_neg k2,if_neg k3,if_neg k4,if_neg k6]at h;cases h
section
variable  {rs:Q06}{D br bp bt bK nK:Nat}{n1:Int}{nr:Nat}{Mr:KL->Option Value}{Er:List (KL×RR)}{ts:Q05}{xo xu:Q0a}{np:Nat}{Mp:K3->Option Value}{vo vu:Value}{out:Q04}{f:Fc}{WW:Q02}{capE:Nat}{rows:Q08}
theorem tu(hN:Zi rows)(hnb:∀e∈aj rows,az e=true)(hf:f.fits)(hts:∀t∈ts,t.fits)(htl:ts.length<=1000):
  ∀(k n:Nat) (w:World),n<k->n<rows.length->DatA w rs D br bp bt n1 nr Mr Er (dF ts) xo xu np Mp vo vu->aN oD prog 43 w bK nK (Ce out)->jq w WW rows ->
  Calls prog 183 #[.pointer (some ⟨D,0,none⟩),.slice WW rows.length capE,.int .i64 (n:Int),.agg #[.string f.a,.string f.b,.string f.r,.string f.c,.string f.d],.map (some bK)] w fun e w'=>e=.returned (.bool (jG ts (aj rows) out f k out n))/\af w w'
 | 0,_,_,h,_,_,_,_=>absurd h (WJ _)
 | k+1,n,w,hk,hn,hD,hK,hex=>by
  have e:(aj rows)[n]?=some rows[n].e:=by simp[aj,hn]
  have YW:∀i∈rows[n].e.kids,Kg D (.slice WW rows.length capE) f bK w i (jG ts (aj rows) out f k out i.toNat):=fun i hi w1 hb1=>by
   have h1:=hN.kid hn hi;have h2:=tu hN hnb hf hts htl k i.toNat w1 (by omega) (by omega) (hD.below hb1) (hK.below hb1) (hex.below hb1);have e2:((i.toNat:Nat):Int)=i:=by omega
   rw[e2]at h2;exact h2
  have hm:rows[n]∈rows:=Vz hn;have hme:rows[n].e∈aj rows:=VQ.2 ⟨_,hm,rfl⟩;obtain⟨hn2,hn3,hkd⟩:=Kn (hnb _ hme);unfold jG;rw[e];by_cases k1:rows[n].e.kind=1
  ·simp only[if_pos k1];exact Ny hn hD hK hf hts htl hex hN.len k1
  by_cases k2:rows[n].e.kind=2
  ·simp only[if_neg k1,if_pos k2];exact QN hn hK hf (hn2 k2) hex hN.len k2
  by_cases k3:rows[n].e.kind=3
  ·simp only[if_neg k1,if_neg k2,if_pos k3];exact Nz hn hD hK hf (hn3 k3) hts htl hex hN.len k3
  by_cases k4:rows[n].e.kind=4
  ·simp only[if_neg k1,if_neg k2,if_neg k3,if_pos k4];exact Km hn (fun i=>jG ts (aj rows) out f k out i.toNat) (hN.kids _ hm) YW hex hN.len k4
  by_cases k5:rows[n].e.kind=5
  ·simp only[if_neg k1,if_neg k2,if_neg k3,if_neg k4,if_pos k5];exact NA hn (fun i=>jG ts (aj rows) out f k out i.toNat) (hN.kids _ hm) YW hex hN.len k5
  have k6:rows[n].e.kind=6:=by omega
  simp only[if_neg k1,if_neg k2,if_neg k3,if_neg k4,if_neg k5,if_pos k6];have h2:=hN.two _ hme k6;have hg:∀q,q<2->rows[n].e.kids.getD q 0∈rows[n].e.kids:=fun q hq=>by
   rw[WF,VO (by omega)];exact Vz _
  exact QJ hn _ _ (hN.kids _ hm) h2 (YW _ (hg 0 (by omega))) (YW _ (hg 1 (by omega))) hex hN.len k6
theorem Sm{rs:Q06}(h:bQ (ag rs)=true){k:Q01}(hk:k∈av (ag rs)):∃t∈rs,∃q∈t.rows,qg rs k=some q.sl/\aj q.rows=aK (ag rs) k.1 k.2/\aP (aj q.rows)=true:=by
 have hk':=hk;unfold av at hk;obtain⟨T,hT,hk⟩:=VZ.1 hk;obtain⟨t,ht,rfl⟩:=VQ.1 hT;unfold kE at hk;obtain⟨r,hr,rfl⟩:=VQ.1 hk;obtain⟨q,hq,rfl⟩:=VQ.1 hr;have hrel:=pM h ht hq;cases e:qg rs (t.p.name,q.p.name) with
 | none =>
  have h1:=(uq h).no _ e;have h2:gm (ag rs) t.name q.name=none:=h1;rw[hrel]at h2;cases h2
 | some v =>
  obtain⟨t',ht',q',hq',-,rfl,e1,-⟩:=(uq h).yes _ v e;refine⟨t',ht',q',hq',rfl,?_,((bu h).2.2 t' ht' q' hq').1⟩;unfold aK;rw[e1];rfl
theorem NC{w:ae}{ad:Q02}(hD:DatA w rs D br bp bt n1 nr Mr Er (dF ts) xo xu np Mp vo vu)(hK:aN oD prog 43 w bK nK (Ce out))(hf:f.fits)(hts:∀t∈ts,t.fits)(htl:ts.length<=1000)(hsh:bQ (ag rs)=true)(hkey:(f.a,f.r)∈av (ag rs))(hs:jP w ad rs):
  Calls prog 134 #[.pointer (some ⟨D,0,none⟩),.agg #[.string f.a,.string f.b,.string f.r,.string f.c,.string f.d],.map (some bK)] w fun e w'=>e=.returned (.bool (iY (ag rs) ts out f))/\af w w':=by
 obtain⟨t,htm,q,hq,htab,hrx,hsp⟩:=Sm hsh hkey;obtain⟨hN,hr1⟩:=KZ hsp;have hnb:=jm hsp;have YJ:pX rs q.ad q.rows:=.inr ⟨t,htm,q,hq,rfl,rfl⟩;obtain⟨kl,hkl⟩:=ku (f.a,f.r) hf.1 hf.2.2.1;obtain⟨W0,hW0⟩:∃W0,W0=w.alloc (.cells #[.string f.a,.string f.b,.string f.r,.string f.c,.string f.d] 43):=⟨_,rfl⟩;have HB0:=oQ hW0;have c0:W0.cell? ⟨w.heap.size,0,none⟩=some (.string f.a):=by rw[hW0];simp
 have c1:W0.cell? ⟨w.heap.size,1,none⟩=some (.string f.b):=by rw[hW0];simp
 have c2:W0.cell? ⟨w.heap.size,2,none⟩=some (.string f.r):=by rw[hW0];simp
 have c3:W0.cell? ⟨w.heap.size,3,none⟩=some (.string f.c):=by rw[hW0];simp
 have c4:W0.cell? ⟨w.heap.size,4,none⟩=some (.string f.d):=by rw[hW0];simp
 have d0:=HB0.out.cell (p:=⟨D,0,none⟩) hD.dat.lt |>.trans hD.dat.c0;obtain⟨WW,hadE⟩:∃a,a=q.ad:=⟨_,rfl⟩;obtain⟨capE,hcapE⟩:∃a,a=q.cap:=⟨_,rfl⟩;obtain⟨rows,hrows⟩:∃a,a=q.rows:=⟨_,rfl⟩;have hsl:q.sl=.slice WW rows.length capE:=by rw[hadE,hcapE,hrows];rfl
 rw[<-hrows]at hN hnb hr1 hrx;rw[<-hrows,<-hadE]at YJ;have hlk:∀m,(Instr.lookup 95 (.map (some bt)) (.agg #[.string f.a,.string f.r]) false).run prog (W0.drewN m)=.ok (.slice WW rows.length capE) (W0.drewN m):=fun m=>by
  have h:=((hD.tab.below HB0.out).below (below_drewN (VD _ _) m)).look (t:=95) (e:=147) jb underlying95 (rZ _) (x:=(f.a,f.r)) hkl;rw[htab,hsl]at h;exact h
 have hr1000:=hN.len;have hwr:IntKind.i64.wrap ((rows.length:Int)-1)=((rows.length-1:Nat):Int):=by rw[IntKind.wrap_i64];omega
 have HC:Hid (∀nq,Calls prog 183 #[.pointer (some ⟨D,0,none⟩),.slice WW rows.length capE,.int .i64 ((rows.length-1:Nat):Int),.agg #[.string f.a,.string f.b,.string f.r,.string f.c,.string f.d],.map (some bK)] (W0.drewN nq) fun e w'=>e=.returned (.bool (iY (ag rs) ts out f))/\Below (W0.drewN nq).heap.size (W0.drewN nq) w'):=fun nq=>by
  have hb:af w (W0.drewN nq):=below_drewN HB0.out nq;have h:=tu (capE:=capE) hN hnb hf hts htl rows.length (rows.length-1) (W0.drewN nq) (by omega) (by omega) (hD.below hb) (hK.below hb) (YJ.sl (hs.below hb));unfold iY;rw[<-hrx,aZ];exact h
 clear hD hK hs hsp hkl htab hsl hN hnb hf hadE hcapE hrows YJ hrx hkey;go_enter func134,ntmps134;go_wp2_with fail;rw[<-hW0];clear hW0;go_quiet (fail);clear d0 hlk;go_wp2_with fail;refine(HC.out _).mono ?_;rintro e w1 ⟨rfl,hb1⟩;have HB1:=aD ((below_drewN HB0.out _).trans (hb1.mono HB0.out.size));clear hb1 c0 c1 c2 c3 c4;go_wp2;go_ret;exact⟨rfl,HB1.out⟩
end
end Go.Proofs.YtcgdckphpjfmhaaGreatDoor
namespace Go.Proofs.YtcgdckphpjfmhaaGreatDoor
set_option linter.unusedVariables false
set_option maxRecDepth 100000
open ChangeShapes WideShapes ChangeAt RowKit Maps Go.Shelf
open Pl
attribute [local go_sem] Oper.semAt_some
theorem Ko{n m:Nat}{P:Program}{l:Nat}{f:FuncId}{tmps:Array Value}{assign body:Code}{w:ae}{R:Ending->World->Prop}(h:RoundIn Fence.wide n P l f tmps assign body w R):RoundIn Fence.wide m P l f tmps assign body w R :=
 ⟨h.1,fun c cs _=>h.2 c cs (room_wide _)⟩
theorem BG(D:Nat)(sn:Int)(XO:Q02)(nU Xg:Nat)(w:ae):
  Calls prog 133 #[.pointer (some ⟨D,0,none⟩),.int .i64 sn,.slice XO nU Xg] w fun e w'=>e=.returned (.func (.func 182) #[] #[.pointer (some ⟨w.heap.size,0,none⟩),.pointer (some ⟨w.heap.size+1,0,none⟩),.pointer (some ⟨w.heap.size+1+1,0,none⟩)])/\w'=((w.alloc (.cells #[.pointer (some ⟨D,0,none⟩)] 82)).alloc (.cells #[.int .i64 sn] 2)).alloc (.cells #[.slice XO nU Xg] 124):=by
 go_enter func133,ntmps133;go_wp2;go_ret;exact⟨rfl,rfl⟩
theorem Fs(D:Nat)(sn:Int)(XO:Q02)(nU Xg:Nat)(bK:Nat)(w:ae):
  Calls prog 82 #[.pointer (some ⟨D,0,none⟩),.int .i64 sn,.slice XO nU Xg,.map (some bK)] w fun e w'=>e=.returned (.func (.func 132) #[] #[.pointer (some ⟨w.heap.size,0,none⟩),.pointer (some ⟨w.heap.size+1,0,none⟩),.pointer (some ⟨w.heap.size+1+1,0,none⟩),.pointer (some ⟨w.heap.size+1+1+1,0,none⟩)])/\w'=(((w.alloc (.cells #[.pointer (some ⟨D,0,none⟩)] 82)).alloc (.cells #[.int .i64 sn] 2)).alloc (.cells #[.slice XO nU Xg] 124)).alloc (.cells #[.map (some bK)] 117):=by
 go_enter func82,ntmps82;go_wp2;go_ret;exact⟨rfl,rfl⟩
structure NewM(W:World)(rs:Q06)(XP:Q02)(D br bp bt:Nat)(n1:Int)(nr:Nat)(Mr:KL->Option Value)(Er:List (KL×RR))(ts:Q05)(xo xu:Q0a)(np:Nat)(Mp:K3->Option Value)(vo vu:Value)(bK:Nat)(out:Q04)(hD hS hU hK:Nat)(sn:Int)(XO:Q02)(Xg:Nat)(us:Q0a):Prop where
 dat:DatA W rs D br bp bt n1 nr Mr Er (dF ts) xo xu np Mp vo vu
 sch:jP W XP rs
 map:∃nK,aN oD prog 43 W bK nK (Ce out)
 bD:W.cell? ⟨hD,0,none⟩=some (.pointer (some ⟨D,0,none⟩))
 bS:W.cell? ⟨hS,0,none⟩=some (.int .i64 sn)
 bU:W.cell? ⟨hU,0,none⟩=some (.slice XO us.length Xg)
 bM:W.cell? ⟨hK,0,none⟩=some (.map (some bK))
 users:ll W XO us
def Uv(l:Nat):Value:=.func (.yield l) #[] #[]
def gY(W:World)(g:Nat)(v:Value)(T:TypeId):Prop:=W.heap[g]?=some (.cells #[v] T (0,0))
theorem gY.c{W:ae}{g:Nat}{v:Value}{T:TypeId}(h:gY W g v T):W.cell? ⟨g,0,none⟩=some v:=by
 unfold gY at h;simp[World.cell?,h]
theorem gY.kp{b l:Nat}{W W':ae}{g:Nat}{v:Value}{T:TypeId}(h:gY W g v T)(hk:KpO b l W W')(h1:T≠43)(h2:T≠34):gY W' g v T:=hk.cells g _ _ _ h h1 h2
theorem gY.bel{W W':ae}{g:Nat}{v:Value}{T:TypeId}(h:gY W g v T)(hb:af W W'):gY W' g v T:=(hb.block g (VH.1 h).1).trans h
structure NBx(W:World)(B l D:Nat)(sn:Int)(vU:Value):Prop where
 y:gY W B (Uv l) 119
 d:gY W (B+1) (.pointer (some ⟨D,0,none⟩)) 82
 s:gY W (B+1+1) (.int .i64 sn) 2
 u:gY W (B+1+1+1) vU 124
theorem NBx.kp{b l0:Nat}{W W':ae}{B l D:Nat}{sn:Int}{vU:Value}(h:NBx W B l D sn vU)(hk:KpO b l0 W W'):NBx W' B l D sn vU :=
 ⟨h.y.kp hk (by decide) (by decide),h.d.kp hk (by decide) (by decide),h.s.kp hk (by decide) (by decide),h.u.kp hk (by decide) (by decide)⟩
theorem NBx.bel{W W':ae}{B l D:Nat}{sn:Int}{vU:Value}(h:NBx W B l D sn vU)(hb:af W W'):NBx W' B l D sn vU:=⟨h.y.bel hb,h.d.bel hb,h.s.bel hb,h.u.bel hb⟩
theorem Sn{β:Type}{B0 B l D:Nat}{sn:Int}{vU:Value}(hB:B+1+1+1<B0):OwnFrom B0 (fun(_:β) W=>NBx W B l D sn vU):=fun s X Y row hs hg hr=>by
 have key:∀g v T,g<B0->gY X g v T->gY Y g v T:=fun g v T hl h=>(hg.block g (VH.1 h).1 fun e=>by have:=(hr g e.symm).1;omega).trans h;exact⟨key _ _ _ (by omega) hs.y,key _ _ _ (by omega) hs.d,key _ _ _ (by omega) hs.s,key _ _ _ (by omega) hs.u⟩
def sK(W:World)(g:Nat)(x:Fc):Prop:=W.heap[g]?=some (.cells #[.string x.a,.string x.b,.string x.r,.string x.c,.string x.d] 43 (0,0))
theorem sK.c{W:ae}{g:Nat}{x:Fc}(h:sK W g x):W.cell? ⟨g,0,none⟩=some (.string x.a)/\W.cell? ⟨g,1,none⟩=some (.string x.b)/\W.cell? ⟨g,2,none⟩=some (.string x.r)/\W.cell? ⟨g,3,none⟩=some (.string x.c)/\W.cell? ⟨g,4,none⟩=some (.string x.d)/\g<W.heap.size:=by
 have hl:=(VH.1 h).1;unfold sK at h;exact⟨by simp[World.cell?,h],by simp[World.cell?,h],by simp[World.cell?,h],by simp[World.cell?,h],by simp[World.cell?,h],hl⟩
theorem sK.bel{W W':ae}{g:Nat}{x:Fc}(h:sK W g x)(hb:af W W'):sK W' g x:=(hb.block g (VH.1 h).1).trans h
theorem Ic{B0 g:Nat}{x:Fc}:OwnFrom B0 (fun(_:Unit) W=>sK W g x):=fun s X Y row hs hg hr=>by
 refine(hg.block g (VH.1 hs).1 fun e=>?_).trans hs;obtain⟨-,o,ho,hc⟩:=hr g e.symm;rw[show X.heap[g]?=_ from hs]at ho;cases ho;cases hc
theorem QO{l' m:Nat}{P:Program}{f:FuncId}{args:Array Value}{w:ae}{R:Ending->World->Prop}(h:Calls P f args w R):CallsIn (Fence.wide.inRound l') m P f args w R:=(callsIn_wide (n:=m)).2 h
theorem Uw{l' n m:Nat}{P:Program}{l:Nat}{f:FuncId}{tmps:Array Value}{assign body:Code}{w:ae}{R:Ending->World->Prop}(h:RoundIn Fence.wide n P l f tmps assign body w R):RoundIn (Fence.wide.inRound l') m P l f tmps assign body w R:=Ko (m:=m) h
theorem yw{B:Nat}{W W':ae}(h:af W W'):KeepsFrom B W W':=⟨h.size,fun k o _ hk _=>(h.block k (VH.1 hk).1).trans hk⟩
theorem QP{B b l:Nat}{W W':ae}(h:KpO b l W W')(hl:l<B)(hb:b<B):KeepsFrom B W W':=⟨h.size,fun k o hB hk hc=>h.other k o hk hc (by omega) (by omega)⟩
theorem Ie{rs:Q06}{st:Q00}{xo us:Q0a}{sn:Int}{x:Fc}(hof:∀o∈xo,o.t.size<=maxLen/\o.s.size<=maxLen)(huf:∀o∈us,o.t.size<=maxLen/\o.s.size<=maxLen)(hrf:∀k∈av (ag rs),k.2.size<=maxLen)(h:x∈dw (ag rs) st xo us sn):(x.a,x.r)∈av (ag rs)/\x.fits:=by
 unfold dw yF at h;obtain⟨o,ho,h⟩:=VZ.1 h;obtain⟨k,hk,h⟩:=VZ.1 h;obtain⟨u,hu,rfl⟩:=VQ.1 h;obtain⟨h1,h2⟩:=WE.1 hk;rw[VF,eZ]at h2;have e:(o.t,k.2)=k:=Prod.ext h2.1.symm rfl;refine⟨?_,(hof o ho).1,(hof o ho).2,hrf k h1,(huf u hu).1,(huf u hu).2⟩;show(o.t,k.2)∈_;rw[e];exact h1
theorem ND[DecidableEq Fc](n:Nat)(hn:4<=n)(rs:Q06)(XP:Q02)(D br bp bt:Nat)(n1:Int)(nr:Nat)(Mr:KL->Option Value)(st:Q00)(ts:Q05)(Yw:Q02)(X0:Nat)(xo xu:Q0a)(np:Nat)(Mp:K3->Option Value)(vu:Value)(bK:Nat)(Yj:Q04)(hD hS hU hK:Nat)(sn:Int)(XO:Q02)(Xg:Nat)(us:Q0a)(w0:ae)(hs0:0<=sn)(hs1:sn<=1000)(hol:xo.length<=1000)(hul:us.length<=1000)(hrl:∀k,(G.lookL (eG st rs) k).length<=1000)(hsh:bQ (ag rs)=true)(hts:∀t∈ts,t.fits)(htl:ts.length<=1000)(hof:∀o∈xo,o.t.size<=maxLen/\o.s.size<=maxLen)(huf:∀o∈us,o.t.size<=maxLen/\o.s.size<=maxLen)(hrf:∀k∈av (ag rs),k.2.size<=maxLen):
  Fb Fence.wide n prog 132 #[.pointer (some ⟨hD,0,none⟩),.pointer (some ⟨hS,0,none⟩),.pointer (some ⟨hU,0,none⟩),.pointer (some ⟨hK,0,none⟩)] DV (KpO bK) (fun pre W=>NewM W rs XP D br bp bt n1 nr Mr (eG st rs) ts xo xu np Mp (.slice Yw xo.length X0) vu bK (Yj++pre) hD hS hU hK sn XO Xg us) (fun pre x=>x∈dw (ag rs) st xo us sn/\x ∉ Yj++pre) (fun xs=>bY (iY (ag rs) ts) (dw (ag rs) st xo us sn) Yj=Yj++xs) w0:=by
 intro l J W _ hlW _ hJ hT hY h0;have hM:=hT _ _ h0;obtain⟨nK0,hmap0⟩:=hM.map;have hbK:=hmap0.lt;have bD:=hM.bD;have bS:=hM.bS;have bU:=hM.bU;have lD:=aM bD;have lS:=aM bS;have lU:=aM bU;obtain⟨W1,hW1⟩:∃W1,W1=W.alloc (.cells #[.func (.yield l) #[] #[]] 119):=⟨_,rfl⟩;have hB1:af W W1:=by rw[hW1];exact(VD _ _).alloc (VC _) _
 have s1:W1.heap.size=W.heap.size+1:=by rw[hW1,World.size_alloc]
 have y1:gY W1 W.heap.size (Uv l) 119:=by rw[hW1];exact World.alloc_heap_new W _
 have bD1:=bP hB1 lD bD;have bS1:=bP hB1 lS bS;have bU1:=bP hB1 lU bU;clear hM hmap0;refine callsIn_of_wp_marks func132 rfl trivial ?_ rfl;simp only[ntmps132,List.size_toArray,We,WH,Nat.reduceAdd,Nat.reduceSub,Array.replicate_succ,Array.replicate_zero,List.push_toArray,List.append_toArray,WN,Wp]
 gi_wp2_with fail
 rw[<-hW1];clear hW1;refine⟨trivial,fun _=>by omega,(callsIn_wide.2 (BG D sn XO us.length Xg W1)).mono ?_⟩;rintro e W2 ⟨rfl,hW2⟩;have hB2:af W1 W2:=by rw[hW2];exact(((VD _ _).alloc (VC _) _).alloc (by simp) _).alloc (by simp;omega) _
 have s2:W2.heap.size=W.heap.size+1+1+1+1:=by rw[hW2,World.size_alloc,World.size_alloc,World.size_alloc,s1]
 have NB:NBx W2 W.heap.size l D sn (.slice XO us.length Xg):=by
  obtain⟨V1,e1⟩:∃V,V=W1.alloc (.cells #[.pointer (some ⟨D,0,none⟩)] 82):=⟨_,rfl⟩;obtain⟨V2,e2⟩:∃V,V=V1.alloc (.cells #[.int .i64 sn] 2):=⟨_,rfl⟩;rw[<-e1,<-e2]at hW2;have t1:V1.heap.size=W.heap.size+1+1:=by rw[e1,World.size_alloc,s1]
  have t2:V2.heap.size=W.heap.size+1+1+1:=by rw[e2,World.size_alloc,t1]
  have f1:af W1 V1:=by rw[e1];exact(VD _ _).alloc (VC _) _
  have f2:af V1 V2:=by rw[e2];exact(VD _ _).alloc (VC _) _
  have f3:af V2 W2:=by rw[hW2];exact(VD _ _).alloc (VC _) _
  have g1:gY V1 (W.heap.size+1) (.pointer (some ⟨D,0,none⟩)) 82:=by rw[e1,<-s1];exact World.alloc_heap_new W1 _
  have g2:gY V2 (W.heap.size+1+1) (.int .i64 sn) 2:=by rw[e2,<-t1];exact World.alloc_heap_new V1 _
  have g3:gY W2 (W.heap.size+1+1+1) (.slice XO us.length Xg) 124:=by rw[hW2,<-t2];exact World.alloc_heap_new V2 _
  exact⟨((y1.bel f1).bel f2).bel f3,(g1.bel f2).bel f3,g2.bel f3,g3⟩
 have hB02:af W W2:=hB1.trans (hB2.mono hB1.size);have J2:=nG hJ h0 hB02;rw[s1];clear hW2 y1 bD bS bU bD1 bS1 bU1 hB1 hB2 lD lS lU;gi_wp2
 refine ry (α:=Fc) rfl (by omega) (gf:=182) (lb:=#[.pointer (some ⟨W.heap.size+1,0,none⟩),.pointer (some ⟨W.heap.size+1+1,0,none⟩),.pointer (some ⟨W.heap.size+1+1+1,0,none⟩)]) rfl trivial (enters_of func182 (by kernel_rfl) rfl)
  (QM (n-1) (by omega) D br nr Mr st rs Yw X0 xo (W.heap.size+1) (W.heap.size+1+1) (W.heap.size+1+1+1) sn XO Xg us W2 hs0 hs1 hol hul hrl (fun o ho=>(hof o ho).1)) (VD _ _) (fun _=>rfl) (fun h k=>h.trans k) (fun X lx o o' h1 h2=>KpI.put h1 h2)
  (fun pre X=>(∃xs,bY (iY (ag rs) ts) pre Yj=Yj++xs/\J xs X)/\NBx X W.heap.size l D sn (.slice XO us.length Xg))
  ?own ?tell ⟨⟨[],by rw[Ww];rfl,J2⟩,NB⟩
  (fun x a' X=>∃Bx,sK X Bx x/\a'={ tmps:=#[.func (.yield l) #[] #[],.pointer (some ⟨hD,0,none⟩),.pointer (some ⟨hS,0,none⟩),.pointer (some ⟨hU,0,none⟩),.pointer (some ⟨hK,0,none⟩),.pointer (some ⟨W.heap.size,0,none⟩),.pointer (some ⟨Bx,0,none⟩),.pointer (some ⟨D,0,none⟩),.int .i64 sn,.slice XO us.length Xg,.func (.func 182) #[] #[.pointer (some ⟨W.heap.size+1,0,none⟩),.pointer (some ⟨W.heap.size+1+1,0,none⟩),.pointer (some ⟨W.heap.size+1+1+1,0,none⟩)],.agg #[.string x.a,.string x.b,.string x.r,.string x.c,.string x.d],undef,undef,undef,undef,undef,undef,undef,undef,undef,undef,undef,undef,undef,undef,undef,undef],defers:=[] })
  (fun x a' s X Y row hs hg hr=>by obtain⟨Bx,h,e⟩:=hs;exact⟨Bx,Ic (B0:=W2.heap.size) (g:=Bx) (x:=x) () X Y row h hg hr,e⟩) ?assign ?body ?done
 case own =>
  refine OwnFrom.and (fun pre X Y row hs hg hr=>?_) (Sn (by omega));obtain⟨xs,h1,h2⟩:=hs;exact⟨xs,h1,hJ xs X Y row h2 hg fun r e=>⟨by have:=(hr r e).1;have:=hB02.size;omega,(hr r e).2⟩⟩
 case tell =>
  rintro pre X ⟨⟨xs,h1,h2⟩,hb⟩;have hm:=hT _ _ h2;obtain⟨WY,cap',e,hso⟩:=mq hm.dat.dat.objs;injection e with ea eb ec;exact⟨hm.dat.dat.c2,hm.dat.dat.c4,by rw[ea];exact hso,hm.dat.rel,hb.d.c,hb.s.c,hb.u.c,hm.users⟩
 case assign =>
  rintro l' pre x X K ⟨⟨xs,h1,h2⟩,hb⟩ hKK;unfold DV;gi_wp2;have hbl:af X (X.alloc (.cells #[.string x.a,.string x.b,.string x.r,.string x.c,.string x.d] 43)):=(VD _ _).alloc (VC _) _;exact hKK _ _ ((KeepsOthers.alloc _ _).from _) (KpI.below hbl) ⟨⟨xs,h1,nG hJ h2 hbl⟩,hb.bel hbl⟩ ⟨X.heap.size,World.alloc_heap_new X _,rfl⟩
 case body =>
  rintro l' pre x a' X hl hEx ⟨⟨xs,hrun,hJx⟩,NBX⟩ ⟨Bx,bX,rfl⟩;have hm:=hT _ _ hJx;obtain⟨nK,hmap⟩:=hm.map;obtain⟨c0,c1,c2,c3,c4,cl⟩:=bX.c;have bM:=hm.bM;have lM:=aM bM;obtain⟨hkey,hxf⟩:=Ie hof huf hrf hEx
  gi_wp2_with fail
  refine⟨trivial,fun _=>by omega,(QO (wh bK nK (Yj++xs) x X hxf hmap)).mono ?_⟩;rintro e X2 ⟨rfl,hb2⟩;have J2':=nG hJ hJx hb2;have NB2:=NBX.bel hb2;cases hh:bR (Yj++xs) x;case true=>
   have hr2:bY (iY (ag rs) ts) (pre++[x]) Yj=Yj++xs:=by rw[sw,hrun,wu (.inl hh)]
   clear c0 c1 c2 c3 c4 cl bM lM hm;gi_wp2;refine⟨trivial,?_⟩;gi_wp2;refine⟨fun f h=>(by cases h),?_⟩;gi_wp2;exact⟨yw hb2,KpI.below hb2,⟨xs,hr2,J2'⟩,NB2⟩
  have bX2:=bX.bel hb2;have hm2:=hT _ _ J2';obtain⟨nK2,hmap2⟩:=hm2.map;have bM2:=hm2.bM;have bD2:=hm2.bD;obtain⟨d0,d1,d2,d3,d4,dl⟩:=bX2.c;clear c0 c1 c2 c3 c4 cl bM lM hm
  gi_wp2_with fail
  refine⟨trivial,fun _=>by omega,(QO (NC hm2.dat hmap2 hxf hts htl hsh hkey hm2.sch)).mono ?_⟩;rintro e X3 ⟨rfl,hb3⟩;have Z6:af X X3:=hb2.trans (hb3.mono hb2.size);have J3':=nG hJ J2' hb3;have NB3:=NB2.bel hb3;clear hm2;cases hv:iY (ag rs) ts (Yj++xs) x;case false=>
   have hr2:bY (iY (ag rs) ts) (pre++[x]) Yj=Yj++xs:=by rw[sw,hrun,wu (.inr hv)]
   clear d0 d1 d2 d3 d4 dl bM2 bD2;gi_wp2;refine⟨fun f h=>(by cases h),?_⟩;gi_wp2;exact⟨yw Z6,KpI.below Z6,⟨xs,hr2,J3'⟩,NB3⟩
  have hr2:bY (iY (ag rs) ts) (pre++[x]) Yj=Yj++(xs++[x]):=by rw[sw,hrun,DR hh hv,V8]
  obtain⟨fn,tmps,assign,body,hy,hR⟩:=hY xs x X3 J3' ⟨hEx,fun hm=>by rw[iX.2 hm]at hh;cases hh⟩;unfold DV at hy;obtain⟨f0,f1,f2,f3,f4,fl⟩:=(bX2.bel hb3).c;have yc:=NB3.y.c;have yl:=aM yc;unfold Uv at yc;clear d0 d1 d2 d3 d4 dl bM2 bD2;gi_wp2;refine⟨fun _=>by omega,(Uw hR).mono ?_⟩;rintro e X4 ⟨rfl,hJ4,hK4⟩;have hk24:KpO bK l X X4:=(KpO.below Z6).trans hK4;have NB4:=NB3.kp hK4;clear f0 f1 f2 f3 f4 fl yc yl hy;gi_wp2;exact⟨QP hk24 (by omega) (by omega),hk24.toI,⟨xs++[x],hr2,hJ4⟩,NB4⟩
 case done =>
  rintro Dd ys X hDd hS ⟨⟨xs,h1,h2⟩,-⟩ hKd;rw[hS]at h1;gi_wp2;refine⟨by simp,.inl ⟨_,_,rfl,run_takeDeferred hKd,?_⟩⟩;exact⟨_,results_none rfl _ _ _,⟨_,rfl⟩,xs,h1,hJ.putObj _ h2 (by have:=hB02.size;omega) hKd rfl⟩
end Go.Proofs.YtcgdckphpjfmhaaGreatDoor
namespace Go.Proofs.YtcgdckphpjfmhaaGreatDoor
set_option linter.unusedVariables false
set_option maxRecDepth 100000
open ChangeShapes WideShapes ChangeAt RowKit Maps Go.Shelf
open Pl
theorem yO{K:Type}{enc:K->Value}{P:Program}{F:Fence}{nF:Nat}(w:ae){ops:Array Oper}{rest:List Oper}{o:Oper}{a:Act}{Q:Exit->Act->World->Prop}[DecidableEq K](hg:o.guard=none)(m x v:Operand)(t:TypeId)(hop:o.op=Op.mapUpdate t m x v)(k e:TypeId)(L:Keyed P k)(hinj:∀x y,enc x=enc y->x=y)(ht:P.underlying t=some (.map k e))(b n:Nat)(M:K->Option Value)
  (hm:a.eval m=.map (some b)) (hV:aN enc P k w b n M) (hn:n<maxLen) (y:K) (kl:Lit) (hx:a.eval x=enc y) (hkey:keyOf P k (enc y)=some kl) (u:Value) (hv:a.eval v=u)
  (hK:∀w',aN enc P k w' b (n+1) (lq M y (some u))->w.grownBy w' (some b)->wpListIn F nF P ops Q rest (a.put o.dst undef) w'):wpListIn F nF P ops Q (o::rest) a w:=by
 refine wpListIn_plain hg fun K' hK'=>?_;obtain⟨w',hrun,r1,r2⟩:=hV.store L hinj ht hn hkey u;unfold Oper.wpIn;refine⟨by simp[Oper.about,hop],?_⟩;rw[Oper.semAt_plain F _ _ (by rw[hop];intro c hc';cases hc')];simp[execOp,hop,hm,hx,hv,hrun,Result.andThen];exact hK' _ _ (hK w' r1 r2)
theorem Sq[DecidableEq Fc](out:Q04)(f:Fc):lq (Ce out) f (some (.agg #[]))=Ce (out++[f]):=by
 funext y
 by_cases e:y=f
 ·subst e;rw[dV];unfold Ce;rw[if_pos (iX.2 (by simp))]
 rw[bZ e];unfold Ce;have:bR (out++[f]) y=bR out y:=by
  rw[VV,iX,iX];simp[e]
 rw[this]
def marks(rl:List Nat):List Deferred:=rl.map fun r=>{ target:=.collected r,args:=#[] }
def ja(W:World)(rl:List Nat):Prop:=rl.Nodup/\∀r∈rl,W.heap[r]?=some (.deferred (some []))
theorem ja.kp{b l:Nat}{W W':ae}{rl:List Nat}(h:ja W rl)(hk:KpO b l W W')(hl:l ∉ rl)(hb:b ∉ rl):ja W' rl :=
 ⟨h.1,fun r hr=>hk.other r _ (h.2 r hr) rfl (fun e=>hl (e ▸ hr)) (fun e=>hb (e ▸ hr))⟩
theorem ja.bel{W W':ae}{rl:List Nat}(h:ja W rl)(hb:af W W'):ja W' rl :=
 ⟨h.1,fun r hr=>(hb.block r (VH.1 (h.2 r hr)).1).trans (h.2 r hr)⟩
theorem ja.lt{W:ae}{rl:List Nat}(h:ja W rl){r:Nat}(hr:r∈rl):r<W.heap.size:=(VH.1 (h.2 r hr)).1
theorem ww{n:Nat}{P:Program}{fn:Func}{tmps:Array Value}{R:Ending->World->Prop}(B:Nat)(Inv:World->Prop)(hinv:∀W r,B<r->Inv W->W.heap[r]?=some (.deferred (some []))->Inv (W.putObj r (.deferred none)))(hend:∀W,Inv W->LeavesIn Fence.wide n P fn tmps R [] .returning W):∀(rl:List Nat) (W:ae),ja W rl->(∀r∈rl,B<r)->Inv W->LeavesInM Fence.wide n P fn tmps R (marks rl) .returning W
 | [],W,_,_,hI=>hend W hI
 | r::rl,W,hm,hB,hI=>by
  have hr:=hm.2 r (by simp);obtain⟨h1,h2⟩:=List.nodup_cons.1 hm.1;refine⟨by simp,.inl ⟨r,_,rfl,run_takeDeferred hr,ww B Inv hinv hend rl _ ⟨h2,fun q hq=>?_⟩ (fun q hq=>hB q (by simp[hq])) (hinv W r (hB r (by simp)) hI hr)⟩⟩;have hne:q≠r:=fun e=>h1 (e ▸ hq);rw[oL hne];exact hm.2 q (by simp[hq])
theorem Lb{b l:Nat}{W W':ae}{base size n:Nat}{T:TypeId}{v:Value}{xs:Q03}(h:W.ownsRow base T size v n xs)(hk:KpO b l W W')(h1:T≠43)(h2:T≠34):W'.ownsRow base T size v n xs :=
 dG h fun g hg=>by
  obtain⟨cur,e⟩:=jF h hg;rw[hk.cells g _ _ _ e h1 h2,e]
structure FBx(W:World)(B D:Nat)(sn:Int)(vU:Value)(bK:Nat):Prop where
 d:gY W B (.pointer (some ⟨D,0,none⟩)) 82
 s:gY W (B+1) (.int .i64 sn) 2
 u:gY W (B+1+1) vU 124
 k:gY W (B+1+1+1) (.map (some bK)) 117
theorem FBx.kp{b l0:Nat}{W W':ae}{B D:Nat}{sn:Int}{vU:Value}{bK:Nat}(h:FBx W B D sn vU bK)(hk:KpO b l0 W W'):FBx W' B D sn vU bK :=
 ⟨h.d.kp hk (by decide) (by decide),h.s.kp hk (by decide) (by decide),h.u.kp hk (by decide) (by decide),h.k.kp hk (by decide) (by decide)⟩
theorem Sr(w:ae)(D:Nat)(sn:Int)(vU:Value)(bK:Nat){W:ae}(hW:W=(((w.alloc (.cells #[.pointer (some ⟨D,0,none⟩)] 82)).alloc (.cells #[.int .i64 sn] 2)).alloc (.cells #[vU] 124)).alloc (.cells #[.map (some bK)] 117)):FBx W w.heap.size D sn vU bK/\af w W/\W.heap.size=w.heap.size+1+1+1+1:=by
 obtain⟨V1,e1⟩:∃V,V=w.alloc (.cells #[.pointer (some ⟨D,0,none⟩)] 82):=⟨_,rfl⟩;obtain⟨V2,e2⟩:∃V,V=V1.alloc (.cells #[.int .i64 sn] 2):=⟨_,rfl⟩;obtain⟨V3,e3⟩:∃V,V=V2.alloc (.cells #[vU] 124):=⟨_,rfl⟩;rw[<-e1,<-e2,<-e3]at hW;have t1:V1.heap.size=w.heap.size+1:=by rw[e1,World.size_alloc]
 have t2:V2.heap.size=w.heap.size+1+1:=by rw[e2,World.size_alloc,t1]
 have t3:V3.heap.size=w.heap.size+1+1+1:=by rw[e3,World.size_alloc,t2]
 have f1:af w V1:=by rw[e1];exact(VD _ _).alloc (VC _) _
 have f2:af V1 V2:=by rw[e2];exact(VD _ _).alloc (VC _) _
 have f3:af V2 V3:=by rw[e3];exact(VD _ _).alloc (VC _) _
 have f4:af V3 W:=by rw[hW];exact(VD _ _).alloc (VC _) _
 have g1:gY V1 w.heap.size (.pointer (some ⟨D,0,none⟩)) 82:=by rw[e1];exact World.alloc_heap_new w _
 have g2:gY V2 (w.heap.size+1) (.int .i64 sn) 2:=by rw[e2,<-t1];exact World.alloc_heap_new V1 _
 have g3:gY V3 (w.heap.size+1+1) vU 124:=by rw[e3,<-t2];exact World.alloc_heap_new V2 _
 have g4:gY W (w.heap.size+1+1+1) (.map (some bK)) 117:=by rw[hW,<-t3];exact World.alloc_heap_new V3 _
 have f12:=f1.trans (f2.mono f1.size);have f13:=f12.trans (f3.mono f12.size);exact⟨⟨((g1.bel f2).bel f3).bel f4,(g2.bel f3).bel f4,g3.bel f4,g4⟩,f13.trans (f4.mono f13.size),by rw[hW,World.size_alloc,t3]⟩
theorem Su{β:Type}{b l:Nat}{X:ae}:OwnFrom X.heap.size (fun(_:β) Y=>KpO b l X Y):=fun s Y Z row hs hg hr=>by
 have key:∀ (g:Nat) (o:Obj),X.heap[g]?=some o->Y.heap[g]?=some o->Z.heap[g]?=some o:=fun g o h1 h2=>(hg.block g (VH.1 h2).1 fun e=>by
  have h3:=(hr g e.symm).1;have h4:=(VH.1 h1).1;omega).trans h2
 exact⟨VJ hs.size hg.size,fun g cs T m h h1 h2=>key g _ h (hs.cells g cs T m h h1 h2),fun g o h hc n1 n2=>key g _ h (hs.other g o h hc n1 n2)⟩
structure FoW(w X:World)(v:Value)(out:Q04):Prop where
 bel:af w X
 box:gY X w.heap.size v 34
 row:X.ownsRow (w.heap.size+1) 43 5 v out.length (fF out)
 map:aN oD prog 43 X (w.heap.size+1) out.length (Ce out)
theorem FoW.below{w X X':ae}{v:Value}{out:Q04}(h:FoW w X v out)(hb:af X X'):FoW w X' v out :=
 ⟨h.bel.trans (hb.mono h.bel.size),h.box.bel hb,aJ h.row hb,h.map.below hb⟩
theorem FoW.kept{w X X':ae}{v:Value}{out:Q04}(h:FoW w X v out){row:Option Nat}(hg:X.grownBy X' row)(hr:∀r,row=some r->w.heap.size+1<r/\(∃o,X.heap[r]?=some o/\o.isCells=false)):FoW w X' v out where
 bel:=h.bel.grown hg h.bel.size (fun g e=>by have:=(hr g e).1;omega)
 box:=(hg.block _ (VH.1 h.box).1 fun e=>by have:=(hr _ e.symm).1;omega).trans h.box
 row:=dG h.row fun g hg2=>hg.block g (h.row.lt g hg2).2 fun e=>by
  obtain⟨-,o,ho,hc⟩:=hr g e.symm;obtain⟨cur,e2⟩:=jF h.row hg2;rw[e2]at ho;cases ho;cases hc
 map:=h.map.kept hg (fun e=>by have:=(hr _ e.symm).1;omega)
theorem FoW.step{w X Y V:ae}{v v':Value}{out:Q04}{f:Fc}[DecidableEq Fc](h:FoW w X v out)(hM:aN oD prog 43 Y (w.heap.size+1) (out.length+1) (lq (Ce out) f (some (.agg #[]))))(hg1:X.grownBy Y (some (w.heap.size+1)))
  {Y':World} (hY':af Y Y') (hown:V.ownsRow (w.heap.size+1) 43 5 v' (out.length+1) (fF out++f.row)) (hg2:Y'.grownBy V v.ownBlock) (hat:v'.ownBlock=v.ownBlock\/v'.ownBlock=some Y'.heap.size) (l:Nat) :
  FoW w (V.setCell ⟨w.heap.size,0,none⟩ v') v' (out++[f])/\KpO (w.heap.size+1) l X (V.setCell ⟨w.heap.size,0,none⟩ v')/\KeepsFrom (w.heap.size+1+1) X (V.setCell ⟨w.heap.size,0,none⟩ v'):=by
 obtain⟨es,c,hmb⟩:=pO h.map;have hlB:w.heap.size<X.heap.size:=(VH.1 h.box).1;have hvB:v.ownBlock≠some w.heap.size:=fun e=>by have:=(h.row.lt _ e).1;omega
 have hvM:v.ownBlock≠some (w.heap.size+1):=fun e=>Eu h.row e hmb;have key:∀(g:Nat) (o:Obj),X.heap[g]?=some o->g≠w.heap.size+1->g≠w.heap.size->v.ownBlock≠some g->(V.setCell ⟨w.heap.size,0,none⟩ v').heap[g]?=some o:=fun g o hg n1 n2 n3=>by
  have hl:=(VH.1 hg).1;have y1:Y.heap[g]?=some o:=(hg1.block g hl (fun e=>n1 (by injection e))).trans hg;have hl1:=(VH.1 y1).1;have y2:Y'.heap[g]?=some o:=(hY'.block g hl1).trans y1;have hl2:=(VH.1 y2).1;have y3:V.heap[g]?=some o:=(hg2.block g hl2 (fun e=>n3 e.symm)).trans y2;exact(heap_setCell_other V ⟨w.heap.size,0,none⟩ g v' n2).trans y3
 have hVB:V.heap[w.heap.size]?=some (.cells #[v] 34 (0,0)):=by
  have y1:Y.heap[w.heap.size]?=_:=(hg1.block _ hlB (fun e=>by injection e with e;omega)).trans h.box;have y2:Y'.heap[w.heap.size]?=_:=(hY'.block _ (VH.1 y1).1).trans y1;exact(hg2.block _ (VH.1 y2).1 (fun e=>hvB e.symm)).trans y2
 have b1:af w Y:=h.bel.grown hg1 h.bel.size (fun g e=>by injection e with e;omega);have b2:af w Y':=b1.trans (hY'.mono b1.size);have b3:af w V:=b2.grown hg2 b2.size (fun g e=>by have:=(h.row.lt g e).1;omega);have sz:X.heap.size<=(V.setCell ⟨w.heap.size,0,none⟩ v').heap.size:=by
  have e1:=hg1.size;have e2:=hY'.size;have e3:=hg2.size;simp;omega
 refine⟨⟨b3.setCell (VC _) _,?_,?_,?_⟩,⟨sz,fun g cs T m hg h1 h2=>?_,fun g o hg hc n1 n2=>?_⟩,⟨sz,fun g o hB hg hc=>?_⟩⟩
 ·have:=heap_setCell_same V w.heap.size 0 #[v] _ v' hVB;unfold gY;simpa using this
 ·rw[Aq,VI];exact dG hown fun g hg=>heap_setCell_other V ⟨w.heap.size,0,none⟩ g v' (fun(e:g=w.heap.size)=>by have:=(hown.lt g hg).1;omega)
 ·rw[VI,<-Sq];exact((hM.below hY').kept hg2 (fun e=>hvM e.symm)).setCell (by show w.heap.size+1≠w.heap.size;omega) _
 ·refine key g _ hg (fun e=>?_) (fun e=>?_) (fun e=>?_)
  ·rw[e,hmb]at hg;cases hg
  ·rw[e,h.box]at hg;injection hg with hg;injection hg with _ hT;exact h2 hT.symm
  obtain⟨cur,e2⟩:=jF h.row e;rw[e2]at hg;injection hg with hg;injection hg with _ hT;exact h1 hT.symm
 ·refine key g _ hg n2 (fun e=>?_) (fun e=>?_)
  ·rw[e,h.box]at hg;injection hg with hg;subst hg;cases hc
  obtain⟨cur,e2⟩:=jF h.row e;rw[e2]at hg;injection hg with hg;subst hg;cases hc
 refine key g _ hg (by omega) (by omega) (fun e=>?_);obtain⟨cur,e2⟩:=jF h.row e;rw[e2]at hg;injection hg with hg;subst hg;cases hc
theorem BU.dropF{w:ae}{ad:Q02}{fs:Q04}(h:BU w ad fs)(k:Nat):BU w (Option.map (fun x=>Addr.add x (k*5)) ad) (fs.drop k):=by
 rcases h with h|⟨b,off,e,hb,hr⟩
 ·exact .inl (by rw[h];simp)
 have ea:Option.map (fun x=>Addr.add x (k*5)) ad=some ⟨b,off+k*5,none⟩:=by
  rw[e];simp[Addr.add]
 refine .inr ⟨b,off+k*5,ea,hb,fun i hi=>?_⟩;have hi2:k+i<fs.length:=by rw[Wq]at hi;omega
 have h1:=hr (k+i) hi2;have e2:(fs.drop k)[i]=fs[k+i]:=by simp
 rw[e2];have e3:off+k*5+i*5=off+(k+i)*5:=by omega
 rw[e3];exact h1
theorem Sw{w:ae}{base size n cap:Nat}{T:TypeId}{ad:Q02}{xs:Q03}(h:w.ownsRow base T size (.slice ad n cap) n xs):n<=cap:=by
 rcases h.2 with⟨e,h0⟩|⟨g,cap',cur,e,h1,h2,h3,h4,h5,-⟩
 ·omega
 injection e with _ _ e3;omega
theorem QQ{Y Y1 Y2 V:ae}{B:Nat}{v:Value}{T:TypeId}(h:gY Y B v T)(hg1:Y.grownBy Y1 (some (B+1)))(hY2:af Y1 Y2)(hg2:Y2.grownBy V v.ownBlock)(hv:v.ownBlock≠some B):gY V B v T:=by
 have y1:Y1.heap[B]?=_:=(hg1.block _ (VH.1 h).1 (fun e=>by injection e with e;omega)).trans h;have y2:Y2.heap[B]?=_:=(hY2.block _ (VH.1 y1).1).trans y1;exact(hg2.block _ (VH.1 y2).1 (fun e=>hv e.symm)).trans y2
theorem QR{B B':Nat}{W W':ae}(h:KeepsFrom B W W')(hB:B<=B'):KeepsFrom B' W W':=⟨h.size,fun k o hk h1 h2=>h.same k o (VJ hB hk) h1 h2⟩
theorem KpO.after{b l l':Nat}{X Y Z:ae}(h:KpO b l X Y)(k:KpO b l' Y Z)(hl:X.heap.size<=l'):KpO b l X Z :=
 ⟨VJ h.size k.size,fun g cs T m hg h1 h2=>k.cells g cs T m (h.cells g cs T m hg h1 h2) h1 h2,fun g o hg hc h1 h2=>k.other g o (h.other g o hg hc h1 h2) hc (fun e=>by have:=(VH.1 hg).1;omega) h2⟩
end Go.Proofs.YtcgdckphpjfmhaaGreatDoor
namespace Go.Proofs.YtcgdckphpjfmhaaGreatDoor
set_option linter.unusedVariables false
set_option maxRecDepth 100000
open ChangeShapes WideShapes ChangeAt RowKit Maps Go.Shelf
open Pl
attribute [local go_sem] Oper.semAt_some
def Fu(X:World)(B:Nat):Nat:=match X.cell? ⟨B,0,none⟩ with
 | some x=>TP x
 | none=>0
theorem Fv{X:ae}{B n c:Nat}{ad:Q02}{T:TypeId}(h:gY X B (.slice ad n c) T):Fu X B=n:=by
 unfold Fu;rw[h.c];rfl
section
variable  [DecidableEq Fc]
theorem NE(w:ae)(rs:Q06)(XP:Q02)(D br bp bt:Nat)(N:Nat)(nr:Nat)(Mr:KL->Option Value)(st:Q00)(ts:Q05)(xo xu:Q0a)(np:Nat)(Mp:K3->Option Value)(vo vu:Value)(hD:DatA w rs D br bp bt (N:Int) nr Mr (eG st rs) (dF ts) xo xu np Mp vo vu)(hs:jP w XP rs)(hN:N<=1000)(hol:xo.length<=80)(hul:xu.length<=40)(hE:(av (ag rs)).length<=36)(hrl:∀k,(G.lookL (eG st rs) k).length<=1000)(hsh:bQ (ag rs)=true)(hts:∀t∈ts,t.fits)(htl:ts.length<=1000)(hof:∀o∈xo,o.t.size<=maxLen/\o.s.size<=maxLen)(huf:∀o∈xu,o.t.size<=maxLen/\o.s.size<=maxLen)(hrf:∀k∈av (ag rs),k.2.size<=maxLen):
  Calls prog 42 #[.pointer (some ⟨D,0,none⟩)] w fun e w'=>(∃v,e=.returned v/\w'.ownsRow w.heap.size 43 5 v (mW (ag rs) ts st xo xu N).length (fF (mW (ag rs) ts st xo xu N)))/\af w w':=by
 obtain⟨iF,z0,z1,z2,z3⟩:=KQ;obtain⟨W0,hW0⟩:∃W0,W0=((w.alloc (.cells #[.slice none 0 0] 34)).alloc (.map #[] 0)).alloc (.cells #[.map (some (w.heap.size+1))] 117):=⟨_,rfl⟩;obtain⟨Yw,X0,rfl,-⟩:=mq hD.dat.objs;have hlD:=hD.dat.lt;have d1:=hD.dat.c1;have h00:FoW w W0 (.slice none 0 0) []/\gY W0 (w.heap.size+1+1) (.map (some (w.heap.size+1))) 117:=by
  obtain⟨V1,e1⟩:∃V,V=w.alloc (.cells #[.slice none 0 0] 34):=⟨_,rfl⟩;obtain⟨V2,e2⟩:∃V,V=V1.alloc (.map #[] 0):=⟨_,rfl⟩;rw[<-e1,<-e2]at hW0;have t1:V1.heap.size=w.heap.size+1:=by rw[e1,World.size_alloc]
  have t2:V2.heap.size=w.heap.size+1+1:=by rw[e2,World.size_alloc,t1]
  have f1:af w V1:=by rw[e1];exact(VD _ _).alloc (VC _) _
  have f2:af V1 V2:=by rw[e2];exact(VD _ _).alloc (VC _) _
  have f3:af V2 W0:=by rw[hW0];exact(VD _ _).alloc (VC _) _
  have f12:af w V2:=f1.trans (f2.mono f1.size);have g1:gY V1 w.heap.size (.slice none 0 0) 34:=by rw[e1];exact World.alloc_heap_new w _
  have g2:aN oD prog 43 V2 (w.heap.size+1) 0 (fun _=>none):=by
   have:=nQ oD prog 43 V1;rw[<-e2,t1]at this;exact this
  have g3:gY W0 (w.heap.size+1+1) (.map (some (w.heap.size+1))) 117:=by rw[hW0,<-t2];exact World.alloc_heap_new V2 _
  have ek:Ce []=fun _=>none:=rfl;exact⟨⟨f12.trans (f3.mono f12.size),(g1.bel f2).bel f3,World.ownsRow_nil _ _ _ _,by rw[ek];exact g2.below f3⟩,g3⟩
 have hmm:=@run_makeMap prog;have hl1:D<w.heap.size+1:=by omega
 have hl2:D<w.heap.size+1+1:=by omega
 refine(callsIn_wide (n:=12)).1 ?_;refine callsIn_of_wp_marks func42 rfl trivial ?_ rfl;simp only[ntmps42,List.size_toArray,We,WH,Nat.reduceAdd,Nat.reduceSub,Array.replicate_succ,Array.replicate_zero,List.push_toArray,List.append_toArray,WN,Wp];gi_wp2;rw[<-hW0];clear hW0 hmm;obtain⟨H,hH⟩:∃H,H=iY (ag rs) ts:=⟨_,rfl⟩;obtain⟨A,hA⟩:∃A:Nat->List Fc,A=mW (ag rs) ts st xo xu:=⟨_,rfl⟩;obtain⟨Q,hQ⟩:∃Q:Nat->List Fc,Q=fun(n:Nat)=>dw (ag rs) st xo xu (n:Int):=⟨_,rfl⟩;have hA1:∀n,A (n+1)=oW H (Q n) (A n):=fun n=>by rw[hA,hH,hQ];exact jZ _ _ _ _ _ _
 have hAG:∀n,GoodO (ag rs) xo xu (A n):=fun n=>by rw[hA];exact rF _ _ _ _ _ n
 have hA0:A 0=[]:=by rw[hA];rfl
 have hAN:mW (ag rs) ts st xo xu N=A N:=by rw[hA]
 refine wpIn_loop (fun a' X=>∃(q:Nat) (rl:List Nat) (v:Value) (u5 u6 u7 u8 u15 u16 u17 u18 u19 u20 u21 u22 u23 u24 u25 u26 u27 u28 u29 u30 u31 u32 u33 u34 u35 u36 u37 u38 u39 u40 u41 u42 u43 u44:Value),a'={ tmps:=List.toArray (.pointer (some ⟨D,0,none⟩)::undef::.slice none 0 0::.pointer (some ⟨w.heap.size,0,none⟩)::.pointer (some ⟨w.heap.size+1+1,0,none⟩)::u5::u6::u7::u8::.map (some (w.heap.size+1))::.pointer (some ⟨D,0,none⟩)::.pointer (some ⟨D,0,none⟩)::.pointer (some ⟨D,1,none⟩)::.int .i64 (N:Int)::.int .i64 (q:Int)::u15::u16::u17::u18::u19::u20::u21::u22::u23::u24::u25::u26::u27::u28::u29::u30::u31::u32::u33::u34::u35::u36::u37::u38::u39::u40::u41::u42::u43::u44::undef::[]),defers:=marks rl }/\q<=N/\FoW w X v (A q)/\gY X (w.heap.size+1+1) (.map (some (w.heap.size+1))) 117/\ja X rl/\(∀r∈rl,w.heap.size+1+1<r)) (fun a' _=>N-(intOf (a'.tmps.getD 14 undef)).toNat) ⟨0,[],.slice none 0 0,_,_,_,_,_,_,_,_,_,_,_,_,_,_,_,_,_,_,_,_,_,_,_,_,_,_,_,_,_,_,_,_,_,_,rfl,VG _,by rw[hA0];exact h00.1,h00.2,⟨List.nodup_nil,fun r hr=>by cases hr⟩,fun r hr=>by cases hr⟩ ?_;rintro a1 X ⟨q,rl,v,u5,u6,u7,u8,u15,u16,u17,u18,u19,u20,u21,u22,u23,u24,u25,u26,u27,u28,u29,u30,u31,u32,u33,u34,u35,u36,u37,u38,u39,u40,u41,u42,u43,u44,rfl,hq,hF,hB,hMk,hMn⟩;clear h00;by_cases hlq:q<N
 ·have hDX:=hD.below hF.bel;have d5:=hDX.dat.c5;have d5l:=hDX.dat.lt;obtain⟨adV,capV,rfl,-⟩:=mq hDX.dat.users;gi_wp2;refine wpIn_loop (fun a' X=>∃(us:Q0a) (XO:Q02) (Xg:Nat) (out:Q04) (rl:List Nat) (v:Value) (base:Nat) (u7 u8 u21 u22 u23 u24 u25 u26 u27 u28 u29 u30 u31 u32 u33 u34 u35 u36 u37 u38 u39 u40 u41 u42 u43 u44:Value),a'={ tmps:=List.toArray (.pointer (some ⟨D,0,none⟩)::undef::.slice none 0 0::.pointer (some ⟨w.heap.size,0,none⟩)::.pointer (some ⟨w.heap.size+1+1,0,none⟩)::.int .i64 (q:Int)::.slice XO us.length Xg::u7::u8::.map (some (w.heap.size+1))::.pointer (some ⟨D,0,none⟩)::.pointer (some ⟨D,0,none⟩)::.pointer (some ⟨D,1,none⟩)::.int .i64 (N:Int)::.int .i64 (q:Int)::.bool true::.int .i64 (q:Int)::.pointer (some ⟨D,0,none⟩)::.pointer (some ⟨D,0,none⟩)::.pointer (some ⟨D,5,none⟩)::.slice adV xu.length capV::u21::u22::u23::u24::u25::u26::u27::u28::u29::u30::u31::u32::u33::u34::u35::u36::u37::u38::u39::u40::u41::u42::u43::u44::undef::[]),defers:=marks rl }/\FewA (ag rs) ts st xo xu (q:Int) us out/\oW H (Q q) out=A (q+1)/\GoodO (ag rs) xo xu out/\FoW w X v out/\gY X (w.heap.size+1+1) (.map (some (w.heap.size+1))) 117/\ja X rl/\(∀r∈rl,w.heap.size+1+1<r)/\X.ownsRow base 27 2 (.slice XO us.length Xg) us.length (pairs us)/\us.length<=40/\∀o∈us,o.t.size<=maxLen/\o.s.size<=maxLen) (fun a' Y=>2*(200000-Fu Y w.heap.size)+min 1 (TP (a'.tmps.getD 6 undef))) ⟨xu,adV,capV,A q,rl,v,bp+1,_,_,_,_,_,_,_,_,_,_,_,_,_,_,_,_,_,_,_,_,_,_,_,_,_,_,rfl,FewA.start _,(hA1 q).symm,hAG q,hF,hB,hMk,hMn,hDX.dat.users,hul,huf⟩ ?_;clear hDX d5 d5l hF hB hMk hMn;rintro a2 X2 ⟨us,XO,Xg,out,rl2,v2,base,u7,u8,u21,u22,u23,u24,u25,u26,u27,u28,u29,u30,u31,u32,u33,u34,u35,u36,u37,u38,u39,u40,u41,u42,u43,u44,rfl,hFew,hLim,hG,hF2,hB2,hMk2,hMn2,hU,hul2,huf2⟩;obtain⟨adF,X8,rfl,-⟩:=sQ hF2.row;have hmu:=Fv hF2.box;have hout:=hG.len hol hE hul;by_cases hne:us=[]
  ·subst hne;have hAq:A (q+1)=out:=by rw[<-hLim,hH,hQ];exact hFew.done
   have hF3:FoW w X2 (.slice adF out.length X8) (A (q+1)):=by rw[hAq];exact hF2
   gi_wp2;exact⟨⟨q+1,rl2,_,_,_,_,_,_,_,_,_,_,_,_,_,_,_,_,_,_,_,_,_,_,_,_,_,_,_,_,_,_,_,_,_,_,_,rfl,by omega,hF3,hB2,hMk2,hMn2⟩,by simp[intOf];omega⟩
  have hpos:0<us.length:=by cases us with|nil=>exact absurd rfl hne|cons a l=>simp
  have hposI:(0:Int)<(us.length:Int):=by omega
  have bc:=hF2.box.c;have kc:=hB2.c
  gi_wp2_with fail
  refine⟨trivial,(callsIn_wide.2 (Fs D (q:Int) XO us.length Xg (w.heap.size+1) X2)).mono ?_⟩;rintro e X3 ⟨rfl,hX3⟩;obtain⟨hBX,Z6,hs3⟩:=Sr X2 D (q:Int) (.slice XO us.length Xg) (w.heap.size+1) hX3;have hF3:=hF2.below Z6;have hU3:=aJ hU Z6;have hB3:=hB2.bel Z6;have hMk3:=hMk2.bel Z6;have hsB:w.heap.size+1+1<X2.heap.size:=(VH.1 hB2).1;clear hX3 bc kc;gi_wp2
  refine ry (α:=Fc) rfl (by omega) (gf:=132) (lb:=#[.pointer (some ⟨X2.heap.size,0,none⟩),.pointer (some ⟨X2.heap.size+1,0,none⟩),.pointer (some ⟨X2.heap.size+1+1,0,none⟩),.pointer (some ⟨X2.heap.size+1+1+1,0,none⟩)]) rfl trivial (enters_of func132 (by kernel_rfl) rfl)
   (ND 11 (by omega) rs XP D br bp bt (N:Int) nr Mr st ts Yw X0 xo xu np Mp (.slice adV xu.length capV) (w.heap.size+1) out X2.heap.size (X2.heap.size+1) (X2.heap.size+1+1) (X2.heap.size+1+1+1) (q:Int) XO Xg us X3 (by omega) (by omega) (by omega) (by omega) hrl hsh hts htl hof huf2 hrf) (VD _ _) (fun _=>rfl) (fun h k=>h.trans k) (fun Y lx o o' h1 h2=>KpO.put h1 h2)
   (fun pre Y=>∃v',FoW w Y v' (out++pre)/\KpO (w.heap.size+1) X3.heap.size X3 Y/\GoodO (ag rs) xo xu (out++pre))
   ?own ?tell ⟨_,by rw[Ww];exact hF3,KpO.below (VD _ _),by rw[Ww];exact hG⟩
   (fun x a' Y=>∃Bx,sK Y Bx x/\a'={ tmps:=List.toArray (.pointer (some ⟨D,0,none⟩)::undef::.slice none 0 0::.pointer (some ⟨w.heap.size,0,none⟩)::.pointer (some ⟨w.heap.size+1+1,0,none⟩)::.int .i64 (q:Int)::.slice XO us.length Xg::.int .i64 (out.length:Int)::.pointer (some ⟨Bx,0,none⟩)::.map (some (w.heap.size+1))::.pointer (some ⟨D,0,none⟩)::.pointer (some ⟨D,0,none⟩)::.pointer (some ⟨D,1,none⟩)::.int .i64 (N:Int)::.int .i64 (q:Int)::.bool true::.int .i64 (q:Int)::.pointer (some ⟨D,0,none⟩)::.pointer (some ⟨D,0,none⟩)::.pointer (some ⟨D,5,none⟩)::.slice adV xu.length capV::.slice XO us.length Xg::.int .i64 (us.length:Int)::.bool true::.slice adF out.length X8::.int .i64 (out.length:Int)::.pointer (some ⟨D,0,none⟩)::.int .i64 (q:Int)::.slice XO us.length Xg::.map (some (w.heap.size+1))::.func (.func 132) #[] #[.pointer (some ⟨X2.heap.size,0,none⟩),.pointer (some ⟨X2.heap.size+1,0,none⟩),.pointer (some ⟨X2.heap.size+1+1,0,none⟩),.pointer (some ⟨X2.heap.size+1+1+1,0,none⟩)]::.agg #[.string x.a,.string x.b,.string x.r,.string x.c,.string x.d]::u32::u33::u34::u35::u36::u37::u38::u39::u40::u41::u42::u43::u44::undef::[]),defers:=[] })
   (fun x a' s Y Z row hs hg hr=>by obtain⟨Bx,h,e⟩:=hs;exact⟨Bx,Ic (B0:=X3.heap.size) (g:=Bx) (x:=x) () Y Z row h hg hr,e⟩) ?assign ?body ?done
  case own =>
   intro pre Y Z row hs hg hr;obtain⟨v',h1,h2,h3⟩:=hs;exact⟨v',h1.kept hg fun r e=>⟨by have:=(hr r e).1;omega,(hr r e).2⟩,Su (β:=Unit) () Y Z row h2 hg hr,h3⟩
  case tell =>
   rintro pre Y ⟨v',h1,h2,h3⟩;have hb:=hBX.kp h2;obtain⟨ad2,cap2,e,hsa⟩:=mq (Lb hU3 h2 (by decide) (by decide));injection e with ea eb ec;exact⟨hD.below h1.bel,hs.below h1.bel,⟨_,h1.map⟩,hb.d.c,hb.s.c,hb.u.c,hb.k.c,by rw[ea];exact hsa⟩
  case assign =>
   rintro l' pre x Y K ⟨v',h1,h2,h3⟩ hKK;unfold DV;gi_wp2;have hbl:af Y (Y.alloc (.cells #[.string x.a,.string x.b,.string x.r,.string x.c,.string x.d] 43)):=(VD _ _).alloc (VC _) _;exact hKK _ _ ((KeepsOthers.alloc _ _).from _) (KpO.below hbl) ⟨v',h1.below hbl,h2.trans (KpO.below hbl),h3⟩ ⟨Y.heap.size,World.alloc_heap_new Y _,rfl⟩
  case body =>
   rintro l' pre x a' Y hl ⟨hEx,hnew⟩ ⟨v',hFY,hKY,hGY⟩ ⟨Bx,bX,rfl⟩;obtain⟨hkey,hxf⟩:=Ie hof huf2 hrf hEx;obtain⟨kl,hkl⟩:=Gt x hxf;obtain⟨c0,c1,c2,c3,c4,cl⟩:=bX.c;have hGX:GoodO (ag rs) xo xu (out++(pre++[x])):=by
    refine⟨?_,fun g hg=>?_⟩
    ·rw[<-V8];exact List.nodup_append.2 ⟨hGY.once,by simp,fun a ha b hb e=>by
      rw[VK]at hb;rw[<-hb,<-e]at hnew;exact hnew ha⟩
    rw[<-V8]at hg;rcases VL.1 hg with hg|hg
    ·exact hGY.sub g hg
    rw[VK]at hg;subst hg;unfold dw yF at hEx;obtain⟨o,ho,h1⟩:=VZ.1 hEx;obtain⟨k,hk,h1⟩:=VZ.1 h1;obtain⟨u,hu,e⟩:=VQ.1 h1;have hux:u∈xu:=by rw[hFew.sub]at hu;exact(WE.1 hu).1
    exact VZ.2 ⟨o,ho,VZ.2 ⟨k,(WE.1 hk).1,VQ.2 ⟨u,hux,e⟩⟩⟩
   have hlen:=hGX.len hol hE hul;rw[<-V8,VI,Wh]at hlen;obtain⟨os,hos⟩:∃os,os=out++pre:=⟨_,rfl⟩;rw[<-hos]at hFY hlen;have HOS:=aD hos;clear hos;have kc:=(hB3.kp hKY (by decide) (by decide)).c;have kl2:=aM kc;obtain⟨adY,capY,rfl,-⟩:=sQ hFY.row;have hmap:=hFY.map;have bcY:=hFY.box.c;have hbxl:=aM bcY;have hblk:=hFY.box;obtain⟨es,cc,hmb⟩:=pO hFY.map;have hne1:Bx≠w.heap.size+1:=fun e=>by
    have h:=bX;unfold sK at h;rw[e,hmb]at h;cases h
   have hrow:=hFY.row;have hvB:(Value.slice adY os.length capY).ownBlock≠some w.heap.size:=fun e=>by have:=(hrow.lt _ e).1;omega
   have hvM:(Value.slice adY os.length capY).ownBlock≠some (w.heap.size+1):=fun e=>Eu hrow e hmb;have hbYs:=hFY.bel.size
   gi_wp2_with (first
    | (gi_at_mapUpdate;refine yO _ rfl _ _ _ 117 rfl 43 157 Pi Pg underlying117 (w.heap.size+1) _ _ rfl hmap (by unfold maxLen;omega) x kl rfl hkl (.agg #[]) rfl ?_;intro Y1 hM1 hg1;have q0:=(kI hg1 ⟨cl,hne1⟩ 0).trans c0;have q1:=(kI hg1 ⟨cl,hne1⟩ 1).trans c1;have q2:=(kI hg1 ⟨cl,hne1⟩ 2).trans c2;have q3:=(kI hg1 ⟨cl,hne1⟩ 3).trans c3;have q4:=(kI hg1 ⟨cl,hne1⟩ 4).trans c4;have qb:=(kI hg1 ⟨hbxl,Nat.ne_of_lt (Nat.lt_succ_self _)⟩ 0).trans bcY;have ql:=aM q0;have qbl:=aM qb;have hrow1:=hrow.kept hg1 (.inr hvM);have hYs1:=hg1.size)
    | (gi_at_builtin;refine wpListIn_append_own_at _ rfl _ _ 34 rfl (w.heap.size+1) 43 iF (.agg #[.string ⟨#[]⟩,.string ⟨#[]⟩,.string ⟨#[]⟩,.string ⟨#[]⟩,.string ⟨#[]⟩]) 5 80 underlying34 z0 z1 z2 z3 rfl (by decide) _ os.length (fF os) rfl (hrow1.alloc _) ⟨Y1.heap.size,0,none⟩ 1 1 x.row rfl rfl (SS Y1 x) (by simp[Fc.row,Value.oneCell']) (by unfold maxLen;omega) (by omega) (by simp;omega) ?_;intro v2 V hown hgr _ hat;obtain⟨g2,cap2,rfl⟩:=ownsRow_succ hown;have HAT:=aD hat;clear hat;have hY2:af Y1 (Y1.alloc (.cells #[.string x.a,.string x.b,.string x.r,.string x.c,.string x.d] 43)):=(VD _ _).alloc (VC _) _;have hVb:=QQ hblk hg1 hY2 hgr hvB;have vc:=hVb.c;have vf:=kV hVb 0;have vl:=aM vc)
    | gi_in)
   obtain⟨r1,r2,r3⟩:=FoW.step hFY hM1 hg1 hY2 hown hgr HAT.out l';have eos:out++(pre++[x])=os++[x]:=by rw[HOS.out,V8]
   exact⟨QR r3 (by omega),r2,_,by rw[eos];exact r1,hKY.after r2 hl,hGX⟩
  case done =>
   rintro Dd xs X5 hDd hS ⟨v5,hF5,hK5,hG5⟩ hKd;have hl5:=hG5.len hol hE hul;have hlx:(out++xs).length=out.length+xs.length:=VI;have hxs:(out++xs).drop out.length=xs:=List.drop_left;obtain⟨o5,ho5⟩:∃o5,o5=out++xs:=⟨_,rfl⟩;rw[<-ho5]at hF5 hG5 hl5 hlx hxs;have Xi:=aD ho5;have ZH:=aD hxs;have hFew5:=hFew.next (by rw[<-hH]at hS ⊢;exact hS);have hLim5:oW H (Q q) o5=A (q+1):=by
    rw[<-hLim,<-Cw (H:=H) (Q q) out];congr 1;rw[ho5,<-hS,<-hH,hQ,hH];exact hFew.round
   rw[<-ho5]at hFew5;obtain⟨adP,capP,rfl,hsF5⟩:=sQ hF5.row;have bc5:=hF5.box.c;have bl5:=aM bc5;have i1:(0:Int)<=(out.length:Int):=by omega
   have i2:(out.length:Int)<=(o5.length:Int):=by omega
   have hcap5:o5.length<=capP:=Sw hF5.row;have hU5:=Lb hU3 hK5 (by decide) (by decide);obtain⟨ad2,cap2,eU,hsU5⟩:=mq hU5;injection eU with ea eb ec;rw[<-ea]at hsU5;have hMk5:ja X5 (Dd::rl2):=by
    have h1:=hMk3.kp hK5 (fun hm=>by have:=hMk3.lt hm;omega) (fun hm=>by have:=hMn2 _ hm;omega);refine⟨List.nodup_cons.2 ⟨fun hm=>by have:=hMk3.lt hm;omega,h1.1⟩,fun r hr=>?_⟩;rcases VU.1 hr with rfl|hr
    ·exact hKd
    exact h1.2 r hr
   have hMn5:∀r∈Dd::rl2,w.heap.size+1+1<r:=fun r hr=>by
    rcases VU.1 hr with rfl|hr
    ·omega
    exact hMn2 r hr
   have hkl:(eX us xs).length<=us.length:=DT us xs;have hkz:xs.length=0->(eX us xs).length=0:=fun h=>by rw[VS.1 h,Kb];rfl
   have hsx:∀ad3,ad3=Option.map (fun x=>Addr.add x (out.length*5)) adP->BU X5 ad3 xs:=fun ad3 e=>by
    rw[e,<-ZH.out];exact BU.dropF hsF5 out.length
   clear ho5 hxs ea eb ec hS
   gi_wp2_with fail
   ·refine⟨trivial,(callsIn_wide.2 (rD XO Xg us adP 0 xs X5 (by omega) (by omega) hsU5 (.inl (VS.1 (by omega))))).mono ?_⟩;rintro e X6 ⟨⟨v6,rfl,ZC⟩,hb6⟩;have Xu:Fu X6 w.heap.size=o5.length:=Fv (hF5.below hb6).box;have hF6:=hF5.below hb6;have hB6:=(hB3.kp hK5 (by decide) (by decide)).bel hb6;obtain⟨ad6,cap6,rfl,-⟩:=mq ZC;gi_wp2;exact⟨⟨eX us xs,ad6,cap6,o5,Dd::rl2,_,X5.heap.size,_,_,_,_,_,_,_,_,_,_,_,_,_,_,_,_,_,_,_,_,_,_,_,_,_,_,rfl,hFew5,hLim5,hG5,hF6,hB6,hMk5.bel hb6,hMn5,ZC,by omega,fun o ho=>huf2 o (WE.1 ho).1⟩,by
     show 2*(200000-Fu X6 w.heap.size)+min 1 (eX us xs).length<2*(200000-Fu X2 w.heap.size)+min 1 us.length;rw[Xu,hmu];omega⟩
   refine⟨trivial,(callsIn_wide.2 (rD XO Xg us _ _ xs X5 (by omega) (by omega) hsU5 (hsx _ rfl))).mono ?_⟩;rintro e X6 ⟨⟨v6,rfl,ZC⟩,hb6⟩;have Xu:Fu X6 w.heap.size=o5.length:=Fv (hF5.below hb6).box;have hF6:=hF5.below hb6;have hB6:=(hB3.kp hK5 (by decide) (by decide)).bel hb6;obtain⟨ad6,cap6,rfl,-⟩:=mq ZC;gi_wp2;exact⟨⟨eX us xs,ad6,cap6,o5,Dd::rl2,_,X5.heap.size,_,_,_,_,_,_,_,_,_,_,_,_,_,_,_,_,_,_,_,_,_,_,_,_,_,_,rfl,hFew5,hLim5,hG5,hF6,hB6,hMk5.bel hb6,hMn5,ZC,by omega,fun o ho=>huf2 o (WE.1 ho).1⟩,by
    show 2*(200000-Fu X6 w.heap.size)+min 1 (eX us xs).length<2*(200000-Fu X2 w.heap.size)+min 1 us.length;rw[Xu,hmu];omega⟩
 have hqN:q=N:=by omega
 subst hqN;obtain⟨adF,X8,rfl,-⟩:=sQ hF.row;have bc:=hF.box.c;have hR:X.ownsRow (w.heap.size+1) 43 5 (.slice adF (A q).length X8) (mW (ag rs) ts st xo xu q).length (fF (mW (ag rs) ts st xo xu q)):=by rw[hAN];exact hF.row
 have hBl:=hF.bel;have hsz:w.heap.size<X.heap.size:=aM bc;clear hF hB hD;gi_wp2;refine ww (w.heap.size+1+1) (fun Y=>Y.ownsRow w.heap.size 43 5 (.slice adF (A q).length X8) (mW (ag rs) ts st xo xu q).length (fF (mW (ag rs) ts st xo xu q))/\af w Y) (fun Y r hr hY hd=>⟨dG hY.1 fun g hg=>oL fun e=>?_,?_⟩) (fun Y hY=>⟨_,results_tmp rfl _ _ _,⟨_,rfl,hY.1⟩,hY.2⟩) rl X hMk hMn ⟨lG hR (Nat.le_succ _),hBl⟩
 ·obtain⟨cur,e2⟩:=jF hY.1 hg;rw[e,hd]at e2;cases e2
 exact hY.2.grown (grownBy_putObj' Y r _) hY.2.size (fun g e=>by injection e with e;omega)
end
end Go.Proofs.YtcgdckphpjfmhaaGreatDoor
namespace Go.Proofs.YtcgdckphpjfmhaaGreatDoor
set_option linter.unusedVariables false
set_option maxRecDepth 100000
open ChangeShapes WideShapes ChangeAt RowKit Maps
open Pl
def kK(rs:Q06)(t:Tp):Bool:=rq (ag rs) t.a t.b t.r t.c t.d t.s
theorem NF{rs:Q06}{t:Tp}(h:ak (ag rs)=true)(ht:t.ok=true):oG (ag rs) t.a t.r ⟨t.c,t.s⟩=kK rs t:=by
 have hSP:=bz.1 h;have h1:oG (ag rs) t.a t.r ⟨t.c,t.s⟩=dP (aV (aK (ag rs) t.a t.r)) (aV (aK (ag rs) t.a t.r)).length ⟨t.c,t.s⟩:=Bp _ (KU hSP _ _);have h2:bF t.a t.b t.r t.c t.d t.s=true:=ht;rw[h1];unfold kK rq;rw[h2,Bool.and_true]
theorem QS{p:Tp->Bool}{ts:Q05}{k:Nat}(h:k<ts.length):(ts.drop k).all p=(p ts[k]&&(ts.drop (k+1)).all p):=by rw[V5 h];rfl
theorem Ig(ad:Q02)(cap:Nat)(rs:Q06)(WY:Q02)(cap':Nat)(ts:Q05)(w:ae)(hlen:rs.length<=1048576)(hs:jP w ad rs)(hl:∀r∈rs,r.light)(hfr:∀r∈rs,r.fits)(hlt:ts.length<=1048576)(hst:Sl w WY ts)(hft:∀x∈ts,x.fits):
  Calls prog 68 #[.slice ad rs.length cap,.slice WY ts.length cap'] w fun e w'=>e=.returned (.bool (bC (kK rs) rs ts))/\af w w':=by
 have HS:=aD hs;have HL:=aD hl;have YJ:=aD hfr;have HST:=aD hst;have Xd:=aD hft;have Xu:ts.length<=maxLen:=by unfold maxLen;omega
 clear hs hl hfr hst hft;go_enter func68,ntmps68;go_wp2_with fail;refine(iD ad cap rs _ hlen HS.out HL.out YJ.out).mono ?_;rintro e w1 ⟨he,hb1⟩;have HB1:=aD hb1;clear hb1;cases h1:ak (ag rs);case false=>
  rw[h1]at he;subst he;have HN:Hid (bC (kK rs) rs ts=false):=by show _=_;unfold bC;rw[h1];rfl
  clear h1;go_wp2;go_ret;exact⟨by rw[HN.out];rfl,HB1.out⟩
 rw[h1]at he;subst he;have H1:=aD h1;clear h1;go_wp2_with fail;refine(oJ WY cap' ts _ Xu (HST.out.below HB1.out) Xd.out).mono ?_;rintro e w2 ⟨he,hb2⟩;have HB2:=aD (HB1.out.trans (hb2.mono HB1.out.size));clear hb2 HB1;cases h2:dZ ts;case false=>
  rw[h2]at he;subst he;have HN:Hid (bC (kK rs) rs ts=false):=by show _=_;unfold bC;rw[h2,Bool.and_false];rfl
  clear h2;go_wp2;go_ret;exact⟨by rw[HN.out];rfl,HB2.out⟩
 rw[h2]at he;subst he;have HN:Hid (bC (kK rs) rs ts=ts.all (kK rs)):=by show _=_;unfold bC;rw[H1.out,h2];rfl
 clear h2 H1;go_wp2;go_loopw[5] (fun i wr=>∃k:Nat,k<=ts.length/\i=.int .i64 k/\Hid ((ts.drop k).all (kK rs)=ts.all (kK rs))/\Hid (af w wr)) (fun i _=>ts.length-(intOf i).toNat);case atStart=>exact⟨0,VG _,rfl,rfl,HB2⟩
 clear HB2;obtain⟨k,hk,rfl,HP,HB⟩:=hrel;by_cases hlt2:k<ts.length
 ·obtain⟨b,off,Xb,⟨t0,t1,t2,t3,t4,t5⟩,hb⟩:=Sl.at0 (HST.out.below HB.out) hlt2;have hk1:=bq k;have hk2:(k:Int)<(ts.length:Int):=by omega
  obtain⟨f0,f1,f2,f3,f4,f5⟩:=Xd.out _ (Vz hlt2);have HD:Hid (ts.all (kK rs)=(kK rs ts[k]&&(ts.drop (k+1)).all (kK rs))):=by show _=_;rw[<-HP.out];exact QS hlt2
  obtain⟨x,hx⟩:∃x,x=ts[k]:=⟨_,rfl⟩;rw[<-hx]at t0 t1 t2 t3 t4 t5 f0 f1 f2 f3 f4 f5 HD;have HLF:=aD (uz ad cap rs x.a x.b x.r x.c x.d x.s wr hlen (HS.out.below HB.out) HL.out f0 f1 f2 f3 f4 f5);subst Xb;clear hx;go_wp2_with fail;refine HLF.out.mono ?_;rintro e w3 ⟨he,hb3⟩;have HB3:=aD (HB.out.trans (hb3.mono HB.out.size));clear hb3 HLF t0 t1 t2 t3 t4 t5;cases h5:rq (ag rs) x.a x.b x.r x.c x.d x.s;case true=>
   rw[h5]at he;subst he;have Xa:Hid ((ts.drop (k+1)).all (kK rs)=ts.all (kK rs)):=by show _=_;rw[HD.out];unfold kK at *;rw[h5];rfl
   clear h5;go_wp2;go_roundw;case rel=>exact⟨k+1,by omega,by go_num,Xa,HB3⟩
   simp[intOf]<;>omega
  rw[h5]at he;subst he;have Yr:Hid (bC (kK rs) rs ts=false):=by show _=_;rw[HN.out,HD.out];unfold kK at *;rw[h5];rfl
  clear h5;go_wp2;go_ret;exact⟨by rw[Yr.out];rfl,HB3.out⟩
 have Yr:Hid (bC (kK rs) rs ts=true):=by show _=_;rw[HN.out,<-HP.out,VW (by omega)];rfl
 go_wp2;go_ret;exact⟨by rw[Yr.out];rfl,HB.out⟩
set_option linter.unusedSectionVars false
theorem xC{xs:Q0a}{o x:Al}(h:x∈eT xs o):x∈xs\/x=o:=by
 unfold eT at h;split at h
 ·exact .inl h
 rcases VL.1 h with h|h
 ·exact .inl h
 exact .inr (by simpa using h)
theorem Ih:∀(ts:Q05) (xs:Q0a) (o:Al),o∈ts.foldl iB xs->o∈xs \/ ∃t∈ts,o=⟨t.a,t.b⟩\/o=⟨t.c,t.d⟩
 | [],xs,o,h=>.inl h
 | t::ts,xs,o,h=>by
  rcases Ih ts (iB xs t) o h with h|⟨u,hu,h⟩
  ·unfold iB at h;rcases xC h with h|h
   ·rcases xC h with h|h
    ·exact .inl h
    exact .inr ⟨t,by simp,.inl h⟩
   exact .inr ⟨t,by simp,.inr h⟩
  exact .inr ⟨u,by simp[hu],h⟩
theorem Ii:∀(ts:Q05) (xs:Q0a) (o:Al),o∈ts.foldl dA xs->o∈xs \/ ∃t∈ts,o=⟨t.a,t.b⟩\/o=⟨t.c,t.d⟩
 | [],xs,o,h=>.inl h
 | t::ts,xs,o,h=>by
  rcases Ii ts (dA xs t) o h with h|⟨u,hu,h⟩
  ·unfold dA at h;split at h
   ·rcases xC h with h|h
    ·exact .inl h
    exact .inr ⟨t,by simp,.inr h⟩
   exact .inl h
  exact .inr ⟨u,by simp[hu],h⟩
theorem Lc{ts:Q05}(hf:∀t∈ts,t.fits){o:Al}(h:∃t∈ts,o=⟨t.a,t.b⟩\/o=⟨t.c,t.d⟩):o.t.size<=maxLen/\o.s.size<=maxLen:=by
 obtain⟨t,ht,h⟩:=h;obtain⟨h0,h1,h2,h3,h4,h5⟩:=hf t ht;rcases h with rfl|rfl
 ·exact⟨h0,h1⟩
 exact⟨h3,h4⟩
theorem uC{ts:Q05}(hf:∀t∈ts,t.fits):∀o∈iJ ts,o.t.size<=maxLen/\o.s.size<=maxLen:=fun o ho=>by
 rcases Ih ts [] o ho with h|h
 ·cases h
 exact Lc hf h
theorem rG{ts:Q05}(hf:∀t∈ts,t.fits):∀o∈fo ts,o.t.size<=maxLen/\o.s.size<=maxLen:=fun o ho=>by
 rcases Ii ts [] o ho with h|h
 ·cases h
 exact Lc hf h
theorem Fw:∀(E:List (KL×RR)) (m:Int),m<=E.foldl (fun m x=>max m (x.1.2+1)) m/\∀x∈E,x.1.2+1<=E.foldl (fun m x=>max m (x.1.2+1)) m
 | [],m=>⟨Int.le_refl _,fun x hx=>by cases hx⟩
 | y::E,m=>by
  obtain⟨h1,h2⟩:=Fw E (max m (y.1.2+1));simp only[List.foldl_cons];refine⟨by omega,fun x hx=>?_⟩;rcases VU.1 hx with rfl|hx
  ·omega
  exact h2 x hx
theorem Ld:∀(E:List (KL×RR)) (m B:Int),m<=B->(∀x∈E,x.1.2+1<=B)->E.foldl (fun m x=>max m (x.1.2+1)) m<=B
 | [],m,B,h,_=>h
 | y::E,m,B,h,hx=>Ld E _ B (Int.max_le.2 ⟨h,hx y (by simp)⟩) fun x h2=>hx x (by simp[h2])
theorem Sy{f:Q00}{rs:Q06}{k:Q01}(hk:k∈av (ag rs)):∃x∈eG f rs,x.1.2=f k:=by
 unfold av at hk;obtain⟨T,hT,hk⟩:=VZ.1 hk;obtain⟨t,ht,rfl⟩:=VQ.1 hT;unfold kE at hk;obtain⟨r,hr,rfl⟩:=VQ.1 hk;obtain⟨q,hq,rfl⟩:=VQ.1 hr;exact⟨((t.name,f (t.name,q.name)),q),VZ.2 ⟨t,ht,VQ.2 ⟨q,hq,rfl⟩⟩,rfl⟩
theorem Ux{f:Q00}{rs:Q06}{x:KL×RR}(hx:x∈eG f rs):∃k∈av (ag rs),x.1.2=f k/\∃t∈rs,∃q∈t.rows,k=(t.name,q.name):=by
 unfold eG at hx;obtain⟨t,ht,hx⟩:=VZ.1 hx;obtain⟨q,hq,rfl⟩:=VQ.1 hx;refine⟨(t.name,q.name),?_,rfl,t,ht,q,hq,rfl⟩;unfold av kE;exact VZ.2 ⟨t.p,VQ.2 ⟨t,ht,rfl⟩,VQ.2 ⟨q.p,VQ.2 ⟨q,hq,rfl⟩,rfl⟩⟩
theorem DW{rs:Q06}(hf:∀r∈rs,r.fits):∀k∈av (ag rs),k.2.size<=maxLen:=fun k hk=>by
 unfold av at hk;obtain⟨T,hT,hk⟩:=VZ.1 hk;obtain⟨t,ht,rfl⟩:=VQ.1 hT;unfold kE at hk;obtain⟨r,hr,rfl⟩:=VQ.1 hk;obtain⟨q,hq,rfl⟩:=VQ.1 hr;exact((hf t ht).2.2 q hq).1
theorem Sz(f:Q00)(rs:Q06):(eG f rs).length=(av (ag rs)).length:=by
 induction rs with
 | nil=>rfl
 | cons t rs ih =>
  have e1:av (ag (t::rs))=kE t.p++av (ag rs):=by simp[av,ag]
  have e2:eG f (t::rs)=(t.rows.map fun r=>((t.name,f (t.name,r.name)),r))++eG f rs:=rfl;have e3:(kE t.p).length=t.rows.length:=by unfold kE;rw[WC];exact rJ _
  rw[e1,e2,VI,VI,ih,e3,WC]
theorem Fx{w W w':ae}{n:Nat}{x0 x1 x2 x3 x4:Value}(h:W.cell? ⟨n,0,none⟩=some x0/\W.cell? ⟨n,1,none⟩=some x1/\W.cell? ⟨n,2,none⟩=some x2/\W.cell? ⟨n,3,none⟩=some x3/\W.cell? ⟨n,4,none⟩=some x4/\af w W)(hb:af W w'):w'.cell? ⟨n,0,none⟩=some x0/\w'.cell? ⟨n,1,none⟩=some x1/\w'.cell? ⟨n,2,none⟩=some x2/\w'.cell? ⟨n,3,none⟩=some x3/\w'.cell? ⟨n,4,none⟩=some x4/\af w w':=by
 obtain⟨h0,h1,h2,h3,h4,hB⟩:=h;exact⟨bP hb (aM h0) h0,bP hb (aM h1) h1,bP hb (aM h2) h2,bP hb (aM h3) h3,bP hb (aM h4) h4,hB.trans (hb.mono hB.size)⟩
section
variable  [DecidableEq Fc]
def ed(st:Q00)(rs:Q06)(ts:Q05):List Fc:=if bC (kK rs) rs ts then rE st rs ts else []
theorem uD{st:Q00}{rs:Q06}{ts:Q05}(h:bC (kK rs) rs ts=true):ed st rs ts=rE st rs ts:=by unfold ed;rw[if_pos h]
theorem xD{st:Q00}{rs:Q06}{ts:Q05}(h:bC (kK rs) rs ts=false):ed st rs ts=[]:=by unfold ed;rw[if_neg (by rw[h];decide)]
theorem BH(st:Q00){rs:Q06}{ts:Q05}:(ed st rs ts).length<=115200:=by
 cases hr:bC (kK rs) rs ts;case false=>rw[xD hr];simp
 rw[uD hr];have hsd:ak (ag rs)=true/\ts.length<=40:=by
  unfold bC dZ at hr;simp only[VF,VM]at hr;exact⟨hr.1.1,hr.1.2.1⟩
 obtain⟨h6,YH,-⟩:=bu (bz.1 hsd.1).1;exact(rF st rs ts (iJ ts) (fo ts) _).len (by have:=oM ts;omega) (zf h6 YH) (by have:=mR ts;omega)
end
end Go.Proofs.YtcgdckphpjfmhaaGreatDoor
