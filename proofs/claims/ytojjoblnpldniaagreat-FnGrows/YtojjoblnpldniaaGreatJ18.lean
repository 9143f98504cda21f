/- Contract of the document's function that looks for a tuple in a list. -/
import Derived.Test.YtojjoblnpldniaaGreatSq
import Derived.Test.YtojjoblnpldniaaGreatJ13
import Derived.Test.YtojjoblnpldniaaGreatJ14
import Derived.RangeFuncNested
import Derived.RangeFuncLeaves
import Derived.Shelf.Abstract
import Derived.Sort.MapsRangeIn
import Derived.OwnWalkIn
import Derived.TacticsInMore
import Derived.LoopNIn
import Derived.LoopIn
open Go.Proofs.Tryz
set_option linter.unusedSectionVars false
set_option maxHeartbeats 80000000
namespace Go.Proofs.YtojjoblnpldniaaGreat
open ChangeShapes WideShapes ChangeAt RowKit Maps
open Pl
set_option maxRecDepth 8000 in
theorem Ns(ad:Q02)(cap:Nat)(ts:Q05)(t:Tp)(w:ae)(hlen:ts.length<=1048576)(hs:Sl w ad ts):
  Calls prog 131 #[.slice ad ts.length cap,.agg #[.string t.a,.string t.b,.string t.r,.string t.c,.string t.d,.string t.s]] w fun e w'=>e=.returned (.bool (qP ts t))/\ag w w':=by
 have HS:=aC hs;clear hs;obtain⟨W0,hW0⟩:∃W0,W0=w.alloc (.cells #[.string t.a,.string t.b,.string t.r,.string t.c,.string t.d,.string t.s] 29):=⟨_,rfl⟩;have HB0:=sH hW0;have HX0:Hid (W0.cell? ⟨w.heap.size,0,none⟩=some (.string t.a)/\W0.cell? ⟨w.heap.size,1,none⟩=some (.string t.b)/\W0.cell? ⟨w.heap.size,2,none⟩=some (.string t.r)/\W0.cell? ⟨w.heap.size,3,none⟩=some (.string t.c)/\W0.cell? ⟨w.heap.size,4,none⟩=some (.string t.d)/\W0.cell? ⟨w.heap.size,5,none⟩=some (.string t.s)/\w.heap.size<W0.heap.size):=by show _/\_;rw[hW0];refine⟨?_,?_,?_,?_,?_,?_,?_⟩<;>simp
 go_enter func131,ntmps131;go_wp2;rw[<-hW0];clear hW0;go_loopw[5] (fun i wr=>∃k:Nat,k<=ts.length/\i=.int .i64 k/\Hid (qP (ts.drop k) t=qP ts t)/\Hid (ag W0 wr)) (fun i _=>ts.length-(intOf i).toNat);case atStart=>exact⟨0,Vv _,rfl,rfl,Vs _ _⟩
 obtain⟨k,hk,rfl,HP,HB⟩:=hrel;have WP:Hid (ag w wr):=HB0.out.trans (HB.out.mono HB0.out.size);by_cases hlt:k<ts.length
 ·rcases HS.out.below WP.out with hnil|⟨b,off,rfl,hb,hr⟩
  ·rw[hnil]at hlt;simp at hlt
  obtain⟨t0,t1,t2,t3,t4,t5⟩:=hr k hlt;have x0:=mK HB.out HX0.out.2.2.2.2.2.2 HX0.out.1;have x1:=mK HB.out HX0.out.2.2.2.2.2.2 HX0.out.2.1;have x2:=mK HB.out HX0.out.2.2.2.2.2.2 HX0.out.2.2.1;have x3:=mK HB.out HX0.out.2.2.2.2.2.2 HX0.out.2.2.2.1;have x4:=mK HB.out HX0.out.2.2.2.2.2.2 HX0.out.2.2.2.2.1;have x5:=mK HB.out HX0.out.2.2.2.2.2.2 HX0.out.2.2.2.2.2.1;have hk1:=bC k;have hk2:(k:Int)<(ts.length:Int):=by omega
  have HD:Hid (qP ts t=(EW ts[k] t || qP (ts.drop (k+1)) t)):=by show _=_;rw[<-HP.out];exact MM hlt
  clear hr;cases hq:EW ts[k] t;case true=>
   have heq:=PN ts[k] t hq;have HN:Hid (qP ts t=true):=by show _=_;rw[HD.out,hq];rfl
   clear hq;go_wp2_with fail;go_region_held3 (fun w'=>w'.cell? ⟨b,off+k*6,none⟩=some (.string ts[k].a)/\w'.cell? ⟨b,off+k*6+1,none⟩=some (.string ts[k].b)/\w'.cell? ⟨b,off+k*6+2,none⟩=some (.string ts[k].r)/\w'.cell? ⟨b,off+k*6+3,none⟩=some (.string ts[k].c)/\w'.cell? ⟨b,off+k*6+4,none⟩=some (.string ts[k].d)/\w'.cell? ⟨b,off+k*6+5,none⟩=some (.string ts[k].s)/\w'.cell? ⟨w.heap.size,0,none⟩=some (.string t.a)/\w'.cell? ⟨w.heap.size,1,none⟩=some (.string t.b)/\w'.cell? ⟨w.heap.size,2,none⟩=some (.string t.r)/\w'.cell? ⟨w.heap.size,3,none⟩=some (.string t.c)/\w'.cell? ⟨w.heap.size,4,none⟩=some (.string t.d)/\w'.cell? ⟨w.heap.size,5,none⟩=some (.string t.s)/\ag wr w') (first|assumption|exact⟨t0,t1,t2,t3,t4,t5,x0,x1,x2,x3,x4,x5,(Vs _ _).drew⟩) (fail);rename_i hH;have HG:Hid (ag wr _):=hH.2.2.2.2.2.2.2.2.2.2.2.2;clear hH t0 t1 t2 t3 t4 t5 x0 x1 x2 x3 x4 x5 heq;go_wp2;go_ret;exact⟨by rw[HN.out];rfl,WP.out.trans (HG.out.mono WP.out.size)⟩
  have heq:=PN ts[k] t hq;have WQ:Hid (qP (ts.drop (k+1)) t=qP ts t):=by show _=_;rw[HD.out,hq];rfl
  clear hq;go_wp2_with fail;go_region_held3 (fun w'=>w'.cell? ⟨b,off+k*6,none⟩=some (.string ts[k].a)/\w'.cell? ⟨b,off+k*6+1,none⟩=some (.string ts[k].b)/\w'.cell? ⟨b,off+k*6+2,none⟩=some (.string ts[k].r)/\w'.cell? ⟨b,off+k*6+3,none⟩=some (.string ts[k].c)/\w'.cell? ⟨b,off+k*6+4,none⟩=some (.string ts[k].d)/\w'.cell? ⟨b,off+k*6+5,none⟩=some (.string ts[k].s)/\w'.cell? ⟨w.heap.size,0,none⟩=some (.string t.a)/\w'.cell? ⟨w.heap.size,1,none⟩=some (.string t.b)/\w'.cell? ⟨w.heap.size,2,none⟩=some (.string t.r)/\w'.cell? ⟨w.heap.size,3,none⟩=some (.string t.c)/\w'.cell? ⟨w.heap.size,4,none⟩=some (.string t.d)/\w'.cell? ⟨w.heap.size,5,none⟩=some (.string t.s)/\ag wr w') (first|assumption|exact⟨t0,t1,t2,t3,t4,t5,x0,x1,x2,x3,x4,x5,(Vs _ _).drew⟩) (fail);rename_i hH;have HG:Hid (ag W0 _):=HB.out.trans (hH.2.2.2.2.2.2.2.2.2.2.2.2.mono HB.out.size);clear hH t0 t1 t2 t3 t4 t5 x0 x1 x2 x3 x4 x5 heq;go_wp2;go_roundw;case rel=>exact⟨k+1,by omega,by go_num,WQ,HG⟩
  simp[intOf]<;>omega
 have HN:Hid (qP ts t=false):=by show _=_;rw[<-HP.out,VN (by omega)];rfl
 go_wp2;go_ret;exact⟨by rw[HN.out];rfl,WP.out⟩
set_option linter.unusedVariables false
set_option maxRecDepth 100000
def fI(u:Bool)(ts:Q05):List Al:=if u then bH ts else dW ts
def iG(u:Bool)(xs:Q0a)(t:Tp):Nat->List Al
 | 0=>xs
 | 1=>if u then xs else eu xs ⟨t.a,t.b⟩
 | _=>if u then cu xs t else fM xs t
theorem He(u:Bool){ts:Q05}{k:Nat}(h:k<ts.length):fI u (ts.take (k+1))=iG u (fI u (ts.take k)) ts[k] 2:=by
 rw[Vu h];cases u
 ·exact Aw _ _
 exact xZ _ _
theorem J6(u:Bool)(ts:Q05):(fI u ts).length<=2*ts.length:=by
 cases u
 ·have key:∀(ts:Q05) (xs:Q0a),(ts.foldl fM xs).length<=xs.length+2*ts.length:=by
   intro ts
   induction ts with
   | nil=>intro xs;simp
   | cons t ts ih=>intro xs;have h1:=ih (fM xs t);have h2:=qU xs t;simp only[List.foldl_cons,VS];omega
  have:=key ts [];simpa[fI,dW] using this
 have key:∀(ts:Q05) (xs:Q0a),(ts.foldl cu xs).length<=xs.length+ts.length:=by
  intro ts
  induction ts with
  | nil=>intro xs;simp
  | cons t ts ih=>intro xs;have h1:=ih (cu xs t);have h2:=qV xs t;simp only[List.foldl_cons,VS];omega
 have:=key ts [];simp[fI,bH]at this ⊢;omega
theorem Qs(u:Bool)(xs:Q0a)(t:Tp)(q:Nat):(iG u xs t q).length<=xs.length+2:=by
 match q with
 | 0=>simp[iG]
 | 1=>have:=og xs ⟨t.a,t.b⟩;cases u<;>simp[iG];omega
 | q+2=>have h1:=qV xs t;have h2:=qU xs t;cases u<;>simp[iG]<;>omega
theorem J7{xs:Q0a}{o:Al}{k:Nat}(h:k<xs.length):mR (xs.take (k+1)) o=(mR (xs.take k) o || Ay xs[k].t xs[k].s o.t o.s):=by
 unfold mR;rw[Vu h,List.any_append];simp[jV,Ay]
theorem TD(w:ae)(o:Al):∀j u,[Value.string o.t,.string o.s][j]?=some u->(w.alloc (.cells #[.string o.t,.string o.s] 27)).cell? ((⟨w.heap.size,0,none⟩:Addr).add j)=some u:=fun j u hu=>by
 match j,hu with
 | 0,hu=>simp at hu;subst hu;simp[Addr.add]
 | 1,hu=>simp at hu;subst hu;simp[Addr.add]
theorem lu.at0{w:ae}{ad:Q02}{xs:Q0a}(h:lu w ad xs){k:Nat}(hk:k<xs.length):∃b off,ad=some ⟨b,off,none⟩/\TP w b (off+k*2) xs[k]/\b<w.heap.size:=by
 rcases h with h|⟨b',off',e,hb,hr⟩
 ·rw[h]at hk;simp at hk
 exact⟨b',off',e,hr k hk,hb⟩
theorem sV(ad:Q02)(cap:Nat)(ts:Q05)(u:Bool)(w:ae)(hlt:ts.length<=40)(hst:Sl w ad ts):
  Calls prog 143 #[.slice ad ts.length cap,.bool u] w fun e w'=>(∃v,e=.returned v/\w'.ownsRow w.heap.size 27 2 v (fI u ts).length (pairs (fI u ts)))/\ag w w':=by
 obtain⟨iO,h0,h1,h2,h3⟩:=Av;have Zq:=aD (And.intro h0 (And.intro h1 (And.intro h2 h3)));have HST:=aD hst;obtain⟨W0,hW0⟩:∃W0,W0=w.alloc (.cells #[] 27):=⟨_,rfl⟩;have HB0:=sH hW0;have Xx:Hid (W0.ownsRow w.heap.size 27 2 (.slice (some ⟨w.heap.size,0,none⟩) 0 0) (fI u (ts.take 0)).length (pairs (fI u (ts.take 0)))):=by
  have e:fI u (ts.take 0)=[]:=by cases u<;>rfl
  show World.ownsRow _ _ _ _ _ _ _;rw[hW0,e];exact World.ownsRow_lit w #[] 0 (Vr _) (by unfold maxLen;omega) (by simp)
 clear hst h0 h1 h2 h3;go_enter func143,ntmps143;go_wp2_with fail;rw[<-hW0];clear hW0;go_loopw[5,6] (fun v i wr=>∃k:Nat,k<=ts.length/\i=.int .i64 k/\Hid (wr.ownsRow w.heap.size 27 2 v (fI u (ts.take k)).length (pairs (fI u (ts.take k))))/\Hid (ag w wr)) (fun _ i _=>ts.length-(intOf i).toNat);case atStart=>exact⟨0,Vv _,rfl,Xx,HB0⟩
 clear Xx HB0;obtain⟨k,hk,rfl,HOW,WP⟩:=hrel;by_cases hlt2:k<ts.length
 ·have HSU:=aD (He u hlt2);obtain⟨x,hx⟩:∃x,x=ts[k]:=⟨_,rfl⟩;obtain⟨xs,hxs⟩:∃xs,xs=fI u (ts.take k):=⟨_,rfl⟩;have hxl:xs.length<=80:=by have:=J6 u (ts.take k);rw[Wi]at this;rw[hxs];omega
  rw[<-hx,<-hxs]at HSU;rw[<-hxs]at HOW;have HX:=aD hx;have hi1:=bC k;have hi2:(k:Int)<(ts.length:Int):=by omega
  clear hxs hx;go_wp2;go_loopw[5,7] (fun v i w2=>∃q:Nat,q<=2/\i=.int .i64 q/\Hid (w2.ownsRow w.heap.size 27 2 v (iG u xs x q).length (pairs (iG u xs x q)))/\Hid (ag w w2)) (fun _ i _=>2-(intOf i).toNat);case atStart=>exact⟨0,by omega,rfl,HOW,WP⟩
  obtain⟨w2,rfl⟩:∃w2,w2=wr:=⟨_,rfl⟩;obtain⟨q,hq,rfl,WL,HB2⟩:=hrel;have hi1:=bC k;have hi2:(k:Int)<(ts.length:Int):=by omega
  have hsl:=Qs u xs x q;obtain⟨b,off,WO,⟨t0,t1,t2,t3,t4,t5⟩,hb⟩:=Sl.at0 (HST.out.below HB2.out) hlt2;rw[<-HX.out]at t0 t1 t2 t3 t4 t5;subst WO;by_cases hq2:q<2
  ·have hc:q=0\/q=1:=by omega
   rcases hc with rfl|rfl
   case' inl =>
    cases u;case true =>
     have HE:Hid (iG true xs x 1=iG true xs x 0):=rfl;have HR:Hid ((w2.alloc (.cells #[.string x.a,.string x.b] 27)).ownsRow w.heap.size 27 2 u5 (iG true xs x 1).length (pairs (iG true xs x 1))):=by show World.ownsRow _ _ _ _ _ _ _;rw[HE.out];exact WL.out.alloc _
     have Z5:Hid (ag w (w2.alloc (.cells #[.string x.a,.string x.b] 27))):=HB2.out.alloc HB2.out.size _;go_wp2;exact⟨⟨1,by omega,rfl,HR,Z5⟩,by decide⟩
    obtain⟨o,ho⟩:∃o:Al,o=⟨x.a,x.b⟩:=⟨_,rfl⟩;have Zl:Hid (iG false xs x (0+1)=eu (iG false xs x 0) o):=by show _=_;rw[ho];rfl
    obtain⟨ys,hys⟩:∃ys,ys=iG false xs x 0:=⟨_,rfl⟩;rw[<-hys]at Zl WL hsl;obtain⟨ns,hns⟩:∃ns,ns=iG false xs x (0+1):=⟨_,rfl⟩;have Xu:Hid (∀(W:World) (v:Value),W.ownsRow w.heap.size 27 2 v ns.length (pairs ns)->W.ownsRow w.heap.size 27 2 v (iG false xs x (0+1)).length (pairs (iG false xs x (0+1)))):=fun W v h=>by rw[<-hns];exact h
    rw[<-hns]at Zl;clear hns;clear hys;have hx1:x.a=o.t:=by rw[ho]
    have hx2:x.b=o.s:=by rw[ho]
    clear ho;obtain⟨Yp,Ye,rfl,hsO⟩:=mh WL.out;have HSO:=aD hsO;obtain⟨W1,hW1⟩:∃W1,W1=w2.alloc (.cells #[.string o.t,.string o.s] 27):=⟨_,rfl⟩;have XY:=sH hW1;have hz1:w2.heap.size<W1.heap.size:=by rw[hW1];simp
    have d0:W1.cell? ⟨w2.heap.size,0,none⟩=some (.string o.t):=by rw[hW1];simp
    have d1:W1.cell? ⟨w2.heap.size,1,none⟩=some (.string o.s):=by rw[hW1];simp
    clear hsO;go_wp2_with fail;rw[<-hW1];clear hW1 t0 t1 t2 t3 t4 t5 hx1 hx2
   case' inr =>
    cases u
    case' true =>
     cases hz:x.s.toList.isEmpty;case false =>
      have hs2:(x.s.toList==[])=false:=by rw[rW];exact hz
      have HE:Hid (iG true xs x 2=iG true xs x 1):=by show cu xs x=xs;unfold cu;rw[hs2];rfl
      have HR:Hid ((w2.alloc (.cells #[.string x.c,.string x.d] 27)).ownsRow w.heap.size 27 2 u5 (iG true xs x 2).length (pairs (iG true xs x 2))):=by show World.ownsRow _ _ _ _ _ _ _;rw[HE.out];exact WL.out.alloc _
      have Z5:Hid (ag w (w2.alloc (.cells #[.string x.c,.string x.d] 27))):=HB2.out.alloc HB2.out.size _;go_wp2;exact⟨⟨2,by omega,rfl,HR,Z5⟩,by decide⟩
     have hs2:(x.s.toList==[])=true:=by rw[rW];exact hz
     obtain⟨o,ho⟩:∃o:Al,o=⟨x.c,x.d⟩:=⟨_,rfl⟩;have Zl:Hid (iG true xs x (1+1)=eu (iG true xs x 1) o):=by show _=_;rw[ho];show cu xs x=_;unfold cu;rw[hs2];rfl
     obtain⟨ys,hys⟩:∃ys,ys=iG true xs x 1:=⟨_,rfl⟩;rw[<-hys]at Zl WL hsl;obtain⟨ns,hns⟩:∃ns,ns=iG true xs x (1+1):=⟨_,rfl⟩;have Xu:Hid (∀(W:World) (v:Value),W.ownsRow w.heap.size 27 2 v ns.length (pairs ns)->W.ownsRow w.heap.size 27 2 v (iG true xs x (1+1)).length (pairs (iG true xs x (1+1)))):=fun W v h=>by rw[<-hns];exact h
     rw[<-hns]at Zl;clear hns;clear hys;have hx1:x.c=o.t:=by rw[ho]
     have hx2:x.d=o.s:=by rw[ho]
     clear ho;obtain⟨Yp,Ye,rfl,hsO⟩:=mh WL.out;have HSO:=aD hsO;obtain⟨W1,hW1⟩:∃W1,W1=w2.alloc (.cells #[.string o.t,.string o.s] 27):=⟨_,rfl⟩;have XY:=sH hW1;have hz1:w2.heap.size<W1.heap.size:=by rw[hW1];simp
     have d0:W1.cell? ⟨w2.heap.size,0,none⟩=some (.string o.t):=by rw[hW1];simp
     have d1:W1.cell? ⟨w2.heap.size,1,none⟩=some (.string o.s):=by rw[hW1];simp
     clear hsO;go_wp2_with fail;rw[<-hW1];clear hW1 t0 t1 t2 t3 t4 t5 hx1 hx2
    case' false =>
     obtain⟨o,ho⟩:∃o:Al,o=⟨x.c,x.d⟩:=⟨_,rfl⟩;have Zl:Hid (iG false xs x (1+1)=eu (iG false xs x 1) o):=by show _=_;rw[ho];rfl
     obtain⟨ys,hys⟩:∃ys,ys=iG false xs x 1:=⟨_,rfl⟩;rw[<-hys]at Zl WL hsl;obtain⟨ns,hns⟩:∃ns,ns=iG false xs x (1+1):=⟨_,rfl⟩;have Xu:Hid (∀(W:World) (v:Value),W.ownsRow w.heap.size 27 2 v ns.length (pairs ns)->W.ownsRow w.heap.size 27 2 v (iG false xs x (1+1)).length (pairs (iG false xs x (1+1)))):=fun W v h=>by rw[<-hns];exact h
     rw[<-hns]at Zl;clear hns;clear hys;have hx1:x.c=o.t:=by rw[ho]
     have hx2:x.d=o.s:=by rw[ho]
     clear ho;obtain⟨Yp,Ye,rfl,hsO⟩:=mh WL.out;have HSO:=aD hsO;obtain⟨W1,hW1⟩:∃W1,W1=w2.alloc (.cells #[.string o.t,.string o.s] 27):=⟨_,rfl⟩;have XY:=sH hW1;have hz1:w2.heap.size<W1.heap.size:=by rw[hW1];simp
     have d0:W1.cell? ⟨w2.heap.size,0,none⟩=some (.string o.t):=by rw[hW1];simp
     have d1:W1.cell? ⟨w2.heap.size,1,none⟩=some (.string o.s):=by rw[hW1];simp
     clear hsO;go_wp2_with fail;rw[<-hW1];clear hW1 t0 t1 t2 t3 t4 t5 hx1 hx2
   all_goals
    go_loopw[9,10] (fun ov j w3=>∃(m:Nat) (bb:Bool),m<=ys.length/\ov=.bool bb/\j=.int .i64 m/\Hid (bb=mR (ys.take m) o)/\Hid (ag W1 w3)) (fun _ j _=>ys.length-(intOf j).toNat);case atStart=>exact⟨0,false,Vv _,rfl,rfl,rfl,Vs _ _⟩
    obtain⟨m,bb,hm,rfl,rfl,Yu,HB3⟩:=hrel;have HBx:Hid (ag w2 wr):=XY.out.trans (HB3.out.mono XY.out.size);have HBw:Hid (ag w wr):=HB2.out.trans (HBx.out.mono HB2.out.size);have HOx:=aD (dw WL.out HBx.out);have c0:=mK HB3.out hz1 d0;have c1:=mK HB3.out hz1 d1;have hz3:w2.heap.size<wr.heap.size:=Vq hz1 HB3.out.size;by_cases hlm:m<ys.length
    ·obtain⟨bO,Xm,ZE,⟨s0,s1⟩,hbO⟩:=lu.at0 (HSO.out.below HBx.out) hlm;have hm1:=bC m;have hm2:(m:Int)<(ys.length:Int):=by omega
     have HTK:=aD (J7 (o:=o) hlm);cases bb;case true=>
      have Z6:Hid (true=mR (ys.take (m+1)) o):=by show _=_;rw[HTK.out,<-Yu.out];rfl
      clear s0 s1 c0 c1;go_wp2_with fail;go_quiet (fail);go_wp2;go_roundw;case rel=>exact⟨m+1,true,by omega,rfl,by go_num,Z6,below_drewN HB3.out _⟩
      simp[intOf]<;>omega
     cases hv:Ay ys[m].t ys[m].s o.t o.s;case true=>
      have heq:=jM _ _ _ _ hv;have Z6:Hid (true=mR (ys.take (m+1)) o):=by show _=_;rw[HTK.out,hv];simp
      clear hv;go_wp2_with fail;go_quiet (fail);go_wp2;go_roundw;case rel=>exact⟨m+1,true,by omega,rfl,by go_num,Z6,below_drewN HB3.out _⟩
      simp[intOf]<;>omega
     have heq:=jM _ _ _ _ hv;have Z6:Hid (false=mR (ys.take (m+1)) o):=by show _=_;rw[HTK.out,hv,<-Yu.out];rfl
     clear hv;go_wp2_with fail;go_quiet (fail);go_wp2;go_roundw;case rel=>exact⟨m+1,false,by omega,rfl,by go_num,Z6,below_drewN HB3.out _⟩
     simp[intOf]<;>omega
    have WX:Hid (bb=mR ys o):=by show _=_;rw[Yu.out,V8 (by omega)]
    cases bb;case true=>
     have HR:Hid (wr.ownsRow w.heap.size 27 2 (.slice Yp ys.length Ye) (ns).length (pairs (ns))):=by
      show World.ownsRow _ _ _ _ _ _ _;rw[Zl.out];unfold eu;rw[<-WX.out];exact HOx.out
     clear WX c0 c1;go_wp2;have HR2:=aD (Xu.out _ _ HR.out)
     first|exact⟨⟨0+1,by omega,rfl,HR2,HBw⟩,by decide⟩|exact⟨⟨1+1,by omega,rfl,HR2,HBw⟩,by decide⟩
    have HWE:Hid (eu ys o=ys++[o]):=by show _=_;unfold eu;rw[<-WX.out];rfl
    obtain⟨W4,XT⟩:∃W4,W4=wr.alloc (.cells #[.string o.t,.string o.s] 27):=⟨_,rfl⟩;have WZ:Hid (W4.ownsRow w.heap.size 27 2 (.slice Yp ys.length Ye) ys.length (pairs ys)):=by show World.ownsRow _ _ _ _ _ _ _;rw[XT];exact HOx.out.alloc _
    have HN4:Hid (∀j u,[Value.string o.t,.string o.s][j]?=some u->W4.cell? ((⟨wr.heap.size,0,none⟩:Addr).add j)=some u):=by rw[XT];exact TD wr o
    have Y7:Hid (ag w W4):=by show Below _ _ _;rw[XT];exact HBw.out.alloc HBw.out.size _
    have hsz4:w.heap.size<=W4.heap.size:=Y7.out.size;clear WX;go_wp2_with(at_builtin;rw[<-XT];clear XT;refine wpList_append_own_at _ rfl _ _ 192 rfl w.heap.size 27 iO (.agg #[.string ⟨#[]⟩,.string ⟨#[]⟩]) 2 32 underlying192 Zq.out.1 Zq.out.2.1 Zq.out.2.2.1 Zq.out.2.2.2 rfl (by decide) _ ys.length (pairs ys) rfl WZ.out ⟨wr.heap.size,0,none⟩ 1 1 [.string o.t,.string o.s] rfl rfl HN4.out (by simp[Value.oneCell']) (by unfold maxLen;omega) (by omega) hsz4 ?_);intro v' w5 hown hgr _ _;have HR:Hid (w5.ownsRow w.heap.size 27 2 v' (ns).length (pairs (ns))):=by
     show World.ownsRow _ _ _ _ _ _ _;rw[Zl.out,HWE.out,Vx];have:pairs (ys++[o])=pairs ys++[.string o.t,.string o.s]:=by simp[pairs]
     rw[this];exact hown
    have Z5:Hid (ag w w5):=Y7.out.grown hgr Y7.out.size (fun g hg=>(WZ.out.lt g hg).1);clear hown hgr c0 c1;go_wp2;have HR2:=aD (Xu.out _ _ HR.out)
    first|exact⟨⟨0+1,by omega,rfl,HR2,Z5⟩,by decide⟩|exact⟨⟨1+1,by omega,rfl,HR2,Z5⟩,by decide⟩
  have Xc:Hid (w2.ownsRow w.heap.size 27 2 u5 (fI u (ts.take (k+1))).length (pairs (fI u (ts.take (k+1))))):=by
   have e:q=2:=by omega
   have h2:=WL.out;rw[e]at h2;show World.ownsRow _ _ _ _ _ _ _;rw[HSU.out];exact h2
  go_wp2;go_roundw;case rel=>exact⟨k+1,by omega,by go_num,Xc,HB2⟩
  simp[intOf]<;>omega
 have HE:Hid (fI u (ts.take k)=fI u ts):=by show _=_;rw[V8 (by omega)]
 have Xc:Hid (wr.ownsRow w.heap.size 27 2 u5 (fI u ts).length (pairs (fI u ts))):=by show World.ownsRow _ _ _ _ _ _ _;rw[<-HE.out];exact HOW.out
 go_wp2;go_ret;exact⟨⟨_,rfl,Xc.out⟩,WP.out⟩
def jy(k:Tp):Value:=.agg #[.string k.a,.string k.b,.string k.r,.string k.c,.string k.d,.string k.s]
theorem Bj(x y:Tp)(h:jy x=jy y):x=y:=by
 unfold jy at h;injection h with h;have h1:=congrArg Array.toList h;simp at h1;obtain⟨xa,xb,xr,xc,xd,xs⟩:=x;obtain⟨ya,yb,yr,yc,yd,ys⟩:=y;simp only at h1;obtain⟨rfl,rfl,rfl,rfl,rfl,rfl⟩:=h1;rfl
theorem Nt:laidOutB prog=true:=by kernel_rfl
theorem Uj:(29:TypeId)<prog.types.size:=of_decide_eq_true (by kernel_rfl)
theorem Sa:(match prog.underlying 29 with|some (.array _ _)|some (.struct _)=>true|_=>false)=true:=by rw[underlying29]
set_option maxRecDepth 100000 in
theorem Sb:WideMaps.KeyLaw prog 29:=deep_law_laid Nt (m:=3) (by omega) Uj (by kernel_rfl) Sa
theorem ru:Keyed prog 29:=Keyed.of_law Sb
theorem LD:prog.keyType 29=true:=by kernel_rfl
theorem vY:prog.cellsOf 29=6:=by kernel_rfl
theorem Bl:prog.cellsOf 27=2:=by kernel_rfl
theorem xz:prog.cellsOf 9=1:=by kernel_rfl
theorem Qt:2<=prog.types.size:=of_decide_eq_true (by kernel_rfl)
theorem Bn:∃n,prog.types.size=n+2:=⟨prog.types.size-2,by have:=Qt;omega⟩
set_option maxRecDepth 100000 in
theorem Bo(k:Tp)(h:k.fits):∃kl,keyOf prog 29 (jy k)=some kl:=by
 obtain⟨n,hn⟩:=Bn;obtain⟨h0,h1,h2,h3,h4,h5⟩:=h;refine⟨.string (keyBytes [.string k.a.data.toList,.string k.b.data.toList,.string k.r.data.toList,.string k.c.data.toList,.string k.d.data.toList,.string k.s.data.toList]),?_⟩;unfold keyOf;rw[underlying29];simp only[LD,jy,Value.formed,underlying29,vY,hn,Value.cells];simp +decide [Program.keyLits,underlying29,underlying27,underlying9,vY,Bl,xz,h0,h1,h2,h3,h4,h5]
set_option maxRecDepth 100000 in
theorem Fp{d:Nat}{c:Value}{l:List Lit}(h:prog.keyLits (d+1) 9 [c]=some l):∃s,c=.string s/\s.size<=maxLen:=by
 unfold Program.keyLits at h;rw[underlying9]at h;cases c<;>simp at h;exact⟨_,rfl,h.1⟩
set_option maxRecDepth 100000 in
theorem Qu{d:Nat}{c c':Value}{l:List Lit}(h:prog.keyLits (d+2) 27 [c,c']=some l):(∃s,c=.string s/\s.size<=maxLen)/\∃s,c'=.string s/\s.size<=maxLen:=by
 unfold Program.keyLits at h;rw[underlying27]at h;simp[Bl,xz]at h;cases e1:prog.keyLits (d+1) 9 [c] with
 | none=>simp[e1]at h
 | some l1 =>
  cases e2:prog.keyLits (d+1) 9 [c'] with
  | none=>simp[e1,e2]at h
  | some l2=>exact⟨Fp e1,Fp e2⟩
set_option maxRecDepth 100000 in
theorem Nu{key:Value}{kl:Lit}(h:keyOf prog 29 key=some kl):∃x:Tp,key=jy x/\x.fits:=by
 obtain⟨n,hn⟩:=Bn;unfold keyOf at h;rw[underlying29]at h;simp only[LD,hn]at h;cases key;case agg cs=>
  simp only[Value.formed,underlying29,vY]at h;by_cases hs:cs.size=6
  ·obtain⟨cs⟩:=cs;simp only[List.size_toArray]at hs
   match cs,hs with
   | [c0,c1,c2,c3,c4,c5],_ =>
    unfold Program.keyLits at h;rw[underlying29]at h;simp[vY,Bl,xz,Value.cells]at h;cases e1:prog.keyLits (n+2) 27 [c0,c1] with
    | none=>simp[e1]at h
    | some l1 =>
     cases e2:prog.keyLits (n+2) 9 [c2] with
     | none=>simp[e1,e2]at h
     | some l2 =>
      cases e3:prog.keyLits (n+2) 27 [c3,c4] with
      | none=>simp[e1,e2,e3]at h
      | some l3 =>
       cases e4:prog.keyLits (n+2) 9 [c5] with
       | none=>simp[e1,e2,e3,e4]at h
       | some l4 =>
        obtain⟨⟨a,rfl,ha⟩,⟨b,rfl,hb⟩⟩:=Qu e1;obtain⟨r,rfl,hr⟩:=Fp e2;obtain⟨⟨c,rfl,hc⟩,⟨d,rfl,hd⟩⟩:=Qu e3;obtain⟨s,rfl,hs⟩:=Fp e4;exact⟨⟨a,b,r,c,d,s⟩,rfl,ha,hb,hr,hc,hd,hs⟩
  simp[hs]at h
 all_goals simp[Value.formed,underlying29]at h
end Go.Proofs.YtojjoblnpldniaaGreat
namespace Go.Proofs.YtojjoblnpldniaaGreat
set_option maxRecDepth 100000
open ChangeShapes WideShapes ChangeAt RowKit Maps Go.Shelf
open Pl
attribute [local go_sem] Oper.semAt_some
abbrev sj:={ t:Tp // t.ok=true }
theorem Fq{t:Tp}(h:t.ok=true):t.fits:=by
 obtain⟨h1,h2,h3,h4⟩:=iZ h;obtain⟨a1,a2⟩:=rG h1;obtain⟨c1,c2⟩:=rG h3;have r:=(lX h2).2;have s:=yS h4;unfold Tp.fits maxLen;omega
def Came(D:DataW Value)(left:Lit->Bool)(xs:List sj):Prop :=
 xs.Nodup/\∀(x:sj) (kl:Lit),keyOf prog 29 (jy x.1)=some kl->(x∈xs↔(Maps.has D kl=true/\left kl=false))
theorem Came.start(D:DataW Value):Came D (Maps.has D) []:=⟨List.nodup_nil,fun x kl _=>by cases Maps.has D kl<;>simp⟩
theorem Came.step{D:DataW Value}{left:Lit->Bool}{xs:List sj}(h:Came D left xs){x:sj}{kl:Lit}{y:DataW Value}(hk:keyOf prog 29 (jy x.1)=some kl)(hl:left kl=true)(hat:∀z,D.atKey kl z=y):
  Came D (fun z=>left z && !z.sameKey kl) (xs++[x]):=by
 have hhas:Maps.has D kl=true:=Maps.has_true_of_atKey hat;have hnew:x ∉ xs:=fun hx=>by have:=((h.2 x kl hk).1 hx).2;rw[hl]at this;cases this
 refine⟨List.nodup_append.2 ⟨h.1,by simp,fun a ha b hb=>by simp at hb;subst hb;exact fun e=>hnew (e ▸ ha)⟩,fun y ky hy=>?_⟩;by_cases e:y=x
 ·subst e;obtain rfl:ky=kl:=by rw[hk]at hy;injection hy with hy;exact hy.symm
  simp[hhas,WideAt.sameKey_self (ru.key hk)]
 have hne:ky≠kl:=fun e2=>e (Subtype.ext (Bj _ _ (ru.inj (by rw[e2]at hy;exact hy) hk)));simp only[VE,VD,e,or_false,Maps.sameKey_ne hne,Bool.not_false,Bool.and_true];exact h.2 y ky hy
def vZ(M:Tp->Option Value)(xs:List sj):Prop:=xs.Nodup/\∀x:sj,x∈xs↔(M x.1).isSome=true
theorem Came.all{D:DataW Value}{left:Lit->Bool}{xs:List sj}(h:Came D left xs){M:Tp->Option Value}(hM:∀x kl,keyOf prog 29 (jy x)=some kl->En D kl (M x))(hl:∀kl,left kl=false):vZ M xs:=by
 refine⟨h.1,fun x=>?_⟩;obtain⟨kl,hk⟩:=Bo x.1 (Fq x.2);rw[h.2 x kl hk];have h2:=hM x.1 kl hk;cases e:M x.1 with
 | none=>rw[e]at h2;simp[h2.1]
 | some v=>rw[e]at h2;simp[h2.1,hl kl]
set_option maxRecDepth 100000 in
theorem Uk(F:Fence)(n:Nat)(hf:F.fn 224)(hro:F.round=none)(hn:1<=n)(l Bm b nn:Nat)(D:DataW Value)(M:Tp->Option Value)(hM:∀x kl,keyOf prog 29 (jy x)=some kl->En D kl (M x))(hok:∀x,(M x).isSome=true->x.ok=true)
  (J Jx:List sj->World->Prop) (W:World) (hJ:AbidesFrom W.heap.size J)
  (hY:∀ pre x W1,J pre W1->pre.length<Maps.size D->YieldAt F (n-1) prog l #[jy x.1] W1 fun e W' =>
   (e=.returned (.bool true)/\J (pre++[x]) W'/\KeepsWalks W1 W')\/(e=.returned (.bool false)/\Jx (pre++[x]) W'))
  (hm:W.cell? ⟨Bm,0,none⟩=some (.map (some b))) (hown:W.ownsMap prog 29 zg b nn D) (h0:J [] W) :
  CallsIn F n prog 224 #[.func (.yield l) #[] #[],.pointer (some ⟨Bm,0,none⟩)] W fun e W'=>(∃v,e=.returned v)/\((∃xs,vZ M xs/\J xs W')\/(∃pre,True/\Jx pre W')):=by
 refine callsIn_of_wp func224 rfl hf ?_ hro;simp only[ntmps224,List.size_toArray,VS,Wv,Nat.reduceAdd,Nat.reduceSub,Array.replicate_succ,Array.replicate_zero,List.push_toArray,List.append_toArray,Ww,V9]
 gi_wp2_with (first
  | (gi_at_range;refine wpListIn_range_own _ rfl _ 105 rfl 29 107 ru underlying105 _ b nn _ rfl hown ?_;intro w0 hrg0 hg0 hs0)
  | gi_in)
 go_frame
 gi_loopw [3] (fun _ wr=>∃(left:Lit->Bool) (cnt:Nat) (ss:List sj),wr.ranges prog 29 zg b W.heap.size nn D left cnt/\ss.length+cnt<=Maps.size D/\Came D left ss/\J ss wr)
  (fun _ wr=>wr.rangeLeft b W.heap.size)
 case atStart =>
  exact⟨_,_,[],hrg0,by simp,Came.start D,hJ [] W w0 none h0 hg0 (fun r e=>by cases e)⟩
 obtain⟨left,cnt,ss,hrg,hcs,hC,hJs⟩:=hrel
 gi_wp2_with (first
  | (gi_at_next;refine wpListIn_next_ranges _ rfl _ rfl 29 ru zg jy id (fun key kl hk=>by obtain⟨x,hx,_⟩:=Nu hk;exact⟨x,hx⟩) (fun v _ _=>⟨v,rfl⟩) b W.heap.size nn _ _ _ rfl hrg ?_ ?_)
  | gi_in)
 ·intro hc0 hl0;gi_wp2
  go_end0
  exact⟨⟨_,rfl⟩,.inl ⟨ss,hC.all hM hl0,hJs⟩⟩
 intro x c kl yd yp w2 cnt2 hkey hlk hv hat hrg2 hlt hg2 hs2 hen;have hsome:(M x).isSome=true:=by
  have h2:=hM x kl hkey;have h3:=Maps.has_true_of_atKey hat;cases e:M x with
  | none=>rw[e]at h2;rw[h2.1]at h3;cases h3
  | some v=>rfl
 have hJ2:J ss w2:=hJ ss wr w2 (some W.heap.size) hJs hg2 (fun r e=>by cases e;exact⟨Vr _,hrg.iter_walk⟩);obtain⟨W4,XT⟩:∃W4,W4=w2.alloc (.cells #[.string x.a,.string x.b,.string x.r,.string x.c,.string x.d,.string x.s] 29):=⟨_,rfl⟩;have hJ4:J ss W4:=by rw[XT];exact hJ ss w2 _ none hJ2 (World.grownBy_alloc _ _ none) (fun r e=>by cases e)
 have hrg4:W4.ranges prog 29 zg b W.heap.size nn D (fun z=>left z && !z.sameKey kl) cnt2:=by rw[XT];exact hrg2.alloc _
 obtain⟨fn,tmps,assign,body,hy,hR⟩:=hY ss ⟨x,hok x hsome⟩ W4 hJ4 (by omega);simp only[jy]at hen hy;clear hs2 hv;subst XT;gi_wp2;refine hR.mono ?_;rintro e W3 (⟨rfl,hJ3,hk3⟩|⟨rfl,hJx3⟩)
 ·gi_wp2;have hrg3:=hrg4.of_walks hk3;go_roundw;case rel=>exact⟨_,cnt2,ss++[⟨x,hok x hsome⟩],hrg3,by simp;omega,hC.step hkey hlk hat,hJ3⟩
  rw[hrg3.left_eq,hrg.left_eq];exact hlt
 gi_wp2;refine bodyPost_ret (results_none rfl _ _ _) rfl ?_;exact⟨⟨_,rfl⟩,.inr ⟨_,trivial,hJx3⟩⟩
theorem Qv(F:Fence)(n:Nat)(hf:F.fn 151)(hro:F.round=none)(mb:Option Nat)(w:ae):
  CallsIn F n prog 151 #[.map mb] w fun e w'=>e=.returned (.func (.func 224) #[] #[.pointer (some ⟨w.heap.size,0,none⟩)])/\w'=w.alloc (.cells #[.map mb] 105):=by
 refine callsIn_of_wp func151 rfl hf ?_ hro;simp only[ntmps151,List.size_toArray,VS,Wv,Nat.reduceAdd,Nat.reduceSub,Array.replicate_succ,Array.replicate_zero,List.push_toArray,List.append_toArray,Ww,V9];gi_wp2;go_ret;exact⟨rfl,rfl⟩
theorem Hf(F:Fence)(n:Nat)(hf:F.fn 224)(hro:F.round=none)(hn:1<=n)(Bm b nn:Nat)(D:DataW Value)(M:Tp->Option Value)(w:ae)(hBm:Bm<w.heap.size)(hm:w.cell? ⟨Bm,0,none⟩=some (.map (some b)))
  (hown:w.ownsMap prog 29 zg b nn D) (hM:∀x kl,keyOf prog 29 (jy x)=some kl->En D kl (M x)) (hok:∀x,(M x).isSome=true->x.ok=true) :
  SeqStopsK F n prog 224 #[.pointer (some ⟨Bm,0,none⟩)] (fun x:sj=>#[jy x.1]) KeepsWalks (vZ M) (fun _=>True) (Maps.size D) w:=fun l J Jx W hW hJ _ hY h0=>by
 have hown':W.ownsMap prog 29 zg b nn D:=by
  have hbl:=hown.lt;obtain⟨es,clock,hb,Ft,hs,hD⟩:=hown;exact⟨es,clock,(hW.block b hbl).trans hb,Ft,hs,hD⟩
 exact Uk F n hf hro hn l Bm b nn D M hM hok J Jx W hJ hY ((hW.cell (p:=⟨Bm,0,none⟩) hBm).trans hm) hown' h0
end Go.Proofs.YtojjoblnpldniaaGreat
namespace Go.Proofs.YtojjoblnpldniaaGreat
set_option maxRecDepth 100000
open ChangeShapes WideShapes ChangeAt RowKit Maps Go.Shelf
open Pl
attribute [local go_sem] Oper.semAt_some
def Hg(W:World)(B:Nat)(t:Tp):Prop:=W.heap[B]?=some (.cells #[.string t.a,.string t.b,.string t.r,.string t.c,.string t.d,.string t.s] 29 (0,0))
theorem Hg.cells{W:ae}{B:Nat}{t:Tp}(h:Hg W B t):W.cell? ⟨B,0,none⟩=some (.string t.a)/\W.cell? ⟨B,1,none⟩=some (.string t.b)/\W.cell? ⟨B,2,none⟩=some (.string t.r)/\W.cell? ⟨B,3,none⟩=some (.string t.c)/\W.cell? ⟨B,4,none⟩=some (.string t.d)/\W.cell? ⟨B,5,none⟩=some (.string t.s):=by
 unfold Hg at h;refine⟨?_,?_,?_,?_,?_,?_⟩<;>simp[World.cell?,h]
theorem Qw{β:Type}(B:Nat)(f:β->Tp):Own (fun s W=>Hg W B (f s)):=fun s X Y row hs hg hrow=>by
 have hlt:B<X.heap.size:=(Vw.1 hs).1;refine(hg.block B hlt (fun e'=>?_)).trans hs;obtain⟨o,ho,hc⟩:=hrow B e'.symm;rw[show X.heap[B]?=_ from hs]at ho;cases ho;cases hc
def vals(xs:List sj):List Tp:=xs.map (·.1)
theorem Nv(xs:List sj)(x:sj):vals (xs++[x])=vals xs++[x.1]:=by simp[vals]
theorem Bp(xs:List sj):(vals xs).length=xs.length:=by simp[vals]
set_option maxRecDepth 100000 in
theorem Ct(F:Fence)(n:Nat)(hf:F.fn 279)(hro:F.round=none)(hn:2<=n)(g:Nat)(lb:Array Value)(hFg:F.fn g)(eg:∀args w,(callFunc g args).run prog w=.ok (.enter g args) w)
  (S:List sj->Prop) (N:Nat) (hN:N<=1000000) (w:World) (hseq:SeqStopsK F (n-1) prog g lb (fun x:sj=>#[jy x.1]) KeepsWalks S (fun _=>True) N w) :
  CallsIn F n prog 279 #[.slice none 0 0,.func (.func g) #[] lb] w fun e w'=>∃(v:Value) (xs:List sj),e=.returned v/\S xs/\w'.ownsRow w.heap.size 29 6 v xs.length (aZ (vals xs))/\(v=.slice none 0 0↔xs=[])/\ag w w':=by
 have h1:1<=n:=by omega
 obtain⟨iT,hiT,zT0,zT1,zT2⟩:=info_parts (P:=prog) (e:=29) (z:=.agg #[.string ⟨#[]⟩,.string ⟨#[]⟩,.string ⟨#[]⟩,.string ⟨#[]⟩,.string ⟨#[]⟩,.string ⟨#[]⟩]) (size:=6) (bytes:=96) (by kernel_rfl);refine callsIn_of_wp_marks func279 rfl hf ?_ hro;simp only[ntmps279,List.size_toArray,VS,Wv,Nat.reduceAdd,Nat.reduceSub,Array.replicate_succ,Array.replicate_zero,List.push_toArray,List.append_toArray,Ww,V9];gi_wp2;have bO:=Boxed.new w 25 (.slice none 0 0);have hB0:ag w (w.alloc (.cells #[.slice none 0 0] 25)):=(Vs _ w).alloc (Vr _) _;have hsz:(w.alloc (.cells #[.slice none 0 0] 25)).heap.size=w.heap.size+1:=by simp
 obtain⟨W0,hW0⟩:∃W0,w.alloc (.cells #[.slice none 0 0] 25)=W0:=⟨_,rfl⟩;rw[hW0]at bO hB0 hsz ⊢;clear hW0
 refine wpIn_rangeFunc_ownH hro h1 (gf:=g) (lb:=lb) rfl hFg eg hseq walksK_t walksK_b hB0 (fun _=>rfl)
  (fun pre W=>(∃v,Boxed W w.heap.size 25 v/\W.ownsRow w.heap.size 29 6 v pre.length (aZ (vals pre))/\(v=.slice none 0 0↔pre=[]))/\ag w W)
  (fun _ _ _=>False)
  (OwnFrom.and (Own.from (holdsRow_own w.heap.size w.heap.size 25 29 6 (fun pre:List sj=>pre.length) (fun pre=>aZ (vals pre)) (fun pre v=>v=.slice none 0 0↔pre=[])) _) (ownFrom_below (Vr _) (by omega)))
  (fun _ _ _ _ _ hs _ _=>hs)
  ⟨⟨_,bO,World.ownsRow_nil _ _ _ _,by simp⟩,hB0⟩
  (fun x a' W=>∃Bx,Hg W Bx x.1/\a'={ tmps:=#[.slice none 0 0,.func (.func g) #[] lb,.pointer (some ⟨w.heap.size,0,none⟩),undef,.slice none 0 0,.pointer (some ⟨Bx,0,none⟩),.func (.func g) #[] lb,jy x.1,undef,undef,undef,undef,undef],defers:=[] })
  (fun x a' s X Y row hs hg hr=>by obtain⟨Bx,h,e⟩:=hs;exact⟨Bx,Own.from (Qw Bx (fun _:Unit=>x.1)) W0.heap.size () X Y row h hg hr,e⟩) ?assign ?body ?done ?stop
 case assign =>
  rintro l pre x W K ⟨⟨v,hv,hrow,hnil⟩,hB⟩ hK;unfold jy;gi_wp2;exact hK _ _ ((KeepsOthers.alloc _ _).from _) (KeepsWalks.alloc _ _) ⟨⟨v,hv.alloc _,hrow.alloc _,hnil⟩,hB.alloc hB.size _⟩ ⟨W.heap.size,World.alloc_heap_new W _,rfl⟩
 case body =>
  rintro l pre x a' W hl hr ⟨⟨v,hv,hrow,hnil⟩,hB⟩ ⟨Bx,bX,rfl⟩ hlt;have hc:=hv.cell;obtain⟨c0,c1,c2,c3,c4,c5⟩:=bX.cells
  gi_wp2_with (gi_at_builtin;refine wpListIn_append_own _ rfl _ _ 25 rfl w.heap.size 29 iT (.agg #[.string ⟨#[]⟩,.string ⟨#[]⟩,.string ⟨#[]⟩,.string ⟨#[]⟩,.string ⟨#[]⟩,.string ⟨#[]⟩]) 6 96 underlying25 hiT zT0 zT1 zT2 rfl (by decide) _ _ _ rfl (hrow.alloc _) ⟨W.heap.size,0,none⟩ 1 1 x.1.row rfl rfl (wZ W x.1) (qR x.1) (by unfold maxLen;omega) (by omega) (by have:=hB.size;simp;omega) ?_;intro v' w1 hown' hgrow _;obtain⟨g',cap',rfl⟩:=ownsRow_succ hown';obtain⟨hv1,hv2,hr2,hk2,hb2⟩:=hv.appended (by decide) hrow hB.size (Vr _) hown' hgrow;have hc1:=hv1.cell;have hf1:=hv1.frozen)
  exact⟨hk2.from _,hk2.walks,⟨_,hv2,by rw[Nv,uu,Vx];exact hr2,by simp⟩,hB.trans hb2⟩
 case done =>
  rintro D ys W hD hS ⟨⟨v,hv,hrow,hnil⟩,hB⟩ hK;have hc:=hv.cell;gi_wp2;refine⟨by simp,.inl ⟨_,_,rfl,run_takeDeferred hK,?_⟩⟩;exact⟨_,results_tmp rfl _ _ _,v,ys,rfl,hS,ownsRow_putObj hrow _ hK rfl,hnil,hB.trans (belowK_b (w:=w) (Vr _) W D _ _ (by omega) hK rfl rfl)⟩
 case stop =>
  rintro D c pre W _ _ h _;exact h.elim
theorem Hl(F:Fence)(n:Nat)(hf:F.fn 222)(hf2:F.fn 279)(hro:F.round=none)(hn:3<=n)(g:Nat)(lb:Array Value)(hFg:F.fn g)(eg:∀args w,(callFunc g args).run prog w=.ok (.enter g args) w)
  (S:List sj->Prop) (N:Nat) (hN:N<=1000000) (w:World) (hseq:SeqStopsK F (n-1-1) prog g lb (fun x:sj=>#[jy x.1]) KeepsWalks S (fun _=>True) N w) :
  CallsIn F n prog 222 #[.func (.func g) #[] lb] w fun e w'=>∃(v:Value) (xs:List sj),e=.returned v/\S xs/\w'.ownsRow w.heap.size 29 6 v xs.length (aZ (vals xs))/\(v=.slice none 0 0↔xs=[])/\ag w w':=by
 have h1:1<=n:=by omega
 refine callsIn_of_wp func222 rfl hf ?_ hro;simp only[ntmps222,List.size_toArray,VS,Wv,Nat.reduceAdd,Nat.reduceSub,Array.replicate_succ,Array.replicate_zero,List.push_toArray,List.append_toArray,Ww,V9]
 gi_wp2_with (gi_at_call 279;refine(Ct F (n-1) hf2 hro (by omega) g lb hFg eg S N hN _ hseq).mono ?_;rintro e w' ⟨v,xs,rfl,hS,hrow,hnil,hb⟩)
 go_ret;exact⟨v,xs,rfl,hS,hrow,hnil,hb⟩
theorem Qx(Bm b nn:Nat)(M:Tp->Option Value)(w:ae)(hBm:Bm<w.heap.size)(hm:w.cell? ⟨Bm,0,none⟩=some (.map (some b)))(hV:aJ jy prog 29 w b nn M)(hn:nn<=1000)(hok:∀x,(M x).isSome=true->x.ok=true):
  Calls prog 222 #[.func (.func 224) #[] #[.pointer (some ⟨Bm,0,none⟩)]] w fun e w'=>∃(v:Value) (xs:List sj),e=.returned v/\vZ M xs/\w'.ownsRow w.heap.size 29 6 v xs.length (aZ (vals xs))/\(v=.slice none 0 0↔xs=[])/\ag w w':=by
 obtain⟨D,hown,hM⟩:=hV;have hsz:Maps.size D<=1000000:=by
  obtain⟨es,clock,hb,Ft,hs,hD⟩:=hown;rw[hD];have:((es.toList.map (Go.WideElems.rg prog 29 zg)).foldr DataW.insert []).length=es.size:=by
   rw[(Go.WideShapes.sorted_perm _).length_eq];simp
  show List.length _<=_;omega
 refine(callsIn_wide (n:=5)).1 ?_;exact Hl Fence.wide 5 trivial trivial rfl (by omega) _ _ trivial (enters_of func224 (by kernel_rfl) rfl) (vZ M) (Maps.size D) hsz w (Hf Fence.wide 3 trivial rfl (by omega) Bm b nn D M w hBm hm hown hM hok)
end Go.Proofs.YtojjoblnpldniaaGreat
namespace Go.Proofs.YtojjoblnpldniaaGreat
open ChangeShapes WideShapes ChangeAt RowKit
open Pl
open Maps
section
variable  [DecidableEq Tp]
def dZ(M:Tp->Option Value):List Tp->Tp->Option Value
 | []=>M
 | t::ts=>dZ (jO M t (some (.agg #[]))) ts
theorem Bq(M:Tp->Option Value)(xs ys:Q05):dZ M (xs++ys)=dZ (dZ M xs) ys:=by
 induction xs generalizing M with
 | nil=>rfl
 | cons x xs ih=>exact ih _
theorem Fs(M:Tp->Option Value)(ts:Q05)(k:Nat)(h:k<ts.length):dZ M (ts.take (k+1))=jO (dZ M (ts.take k)) ts[k] (some (.agg #[])):=by
 rw[Vu h,Bq];rfl
theorem Br(ts:Q05):∀(M:Tp->Option Value) (t:Tp),(dZ M ts t).isSome=true↔t∈ts\/(M t).isSome=true:=by
 induction ts with
 | nil=>intro M t;simp[dZ]
 | cons x xs ih =>
  intro M t;simp only[dZ];rw[ih];unfold jO;by_cases e:t=x
  ·simp[e]
  simp[e]
set_option maxRecDepth 100000 in
theorem Nw(ad:Q02)(cap:Nat)(ts:Q05)(w:ae)(hlen:ts.length<=40)(hs:Sl w ad ts)(hf:∀t∈ts,t.fits):
  Calls prog 65 #[.slice ad ts.length cap] w fun e w'=>e=.returned (.map (some w.heap.size))/\aJ jy prog 29 w' w.heap.size ts.length (dZ (fun _=>none) ts)/\ag w w':=by
 have HS:=aC hs;have WR:=aC hf;have HM0:Hid (aJ jy prog 29 (w.alloc (.map #[] 0)) w.heap.size 0 (fun _=>none)):=lI _ _ _ w;have HB0:Hid (ag w (w.alloc (.map #[] 0))):=(Vs _ _).alloc (Vr _) _;clear hs hf;have hmm:=@run_makeMap prog;go_enter func65,ntmps65;go_wp2_with fail;go_loopw[9] (fun i wr=>∃k:Nat,k<=ts.length/\i=.int .i64 k/\Hid (aJ jy prog 29 wr w.heap.size k (dZ (fun _=>none) (ts.take k)))/\Hid (ag w wr)) (fun i _=>ts.length-(intOf i).toNat);case atStart=>exact⟨0,Vv _,rfl,HM0,HB0⟩
 clear HM0 HB0 hmm;obtain⟨k,hk,rfl,HM,HB⟩:=hrel;by_cases hlt:k<ts.length
 ·rcases HS.out.below HB.out with hnil|⟨b,off,rfl,hb,hr⟩
  ·rw[hnil]at hlt;simp at hlt
  obtain⟨t0,t1,t2,t3,t4,t5⟩:=hr k hlt;have hk1:=bC k;have hk2:(k:Int)<(ts.length:Int):=by omega
  obtain⟨kl,hkl⟩:=Bo ts[k] (WR.out _ (Vp hlt));have Xw:Hid (keyOf prog 29 (jy ts[k])=some kl):=hkl;obtain⟨W1,hW1⟩:∃W1,W1=wr.alloc (.cells #[.string ts[k].a,.string ts[k].b,.string ts[k].r,.string ts[k].c,.string ts[k].d,.string ts[k].s] 29):=⟨_,rfl⟩;have hal:ag wr W1:=by rw[hW1];exact(Vs _ _).alloc (Vr _) _
  have YR:Hid (aJ jy prog 29 W1 w.heap.size k (dZ (fun _=>none) (ts.take k))):=HM.out.below hal;have HB1:=iJ HB hal;clear hr hkl HM hal;go_wp2_with(at_mapUpdate;rw[<-hW1];clear hW1;refine iK _ rfl _ _ _ 105 rfl 29 107 ru Bj underlying105 w.heap.size k _ rfl YR.out (by unfold maxLen;omega) ts[k] kl rfl Xw.out _ rfl ?_;intro w3 hV3 hg3);have HM4:Hid (aJ jy prog 29 w3 w.heap.size (k+1) (dZ (fun _=>none) (ts.take (k+1)))):=by
   show aJ _ _ _ _ _ _ _;rw[Fs _ _ _ hlt];exact hV3
  have Xt:Hid (ag w w3):=HB1.out.grown hg3 HB1.out.size (fun i hi=>by injection hi with hi;omega);clear hV3 hg3 YR HB1 t0 t1 t2 t3 t4 t5;go_wp2;go_roundw;case rel=>exact⟨k+1,by omega,by go_num,HM4,Xt⟩
  simp[intOf]<;>omega
 obtain rfl:k=ts.length:=by omega
 have HE:Hid (aJ jy prog 29 wr w.heap.size ts.length (dZ (fun _=>none) ts)):=by have:=HM.out;rw[VI]at this;exact this
 go_wp2;go_ret;exact⟨rfl,HE.out,HB.out⟩
end
theorem Qy{ts:Q05}(hu:Up ts)(hok:∀t∈ts,t.ok=true)(hl:ts.length<=40):dH ts=true:=by
 unfold dH sM;simp only[Vt,VF];refine⟨hl,VC.2 fun i hi=>?_⟩;have hi':i<ts.length:=List.mem_range.1 hi;cases i with
 | zero=>rw[rY hi'];exact hok _ (Vp _)
 | succ j =>
  rw[ol hi'];simp only[Vt];exact⟨hok _ (Vp _),List.pairwise_iff_getElem.1 hu j (j+1) (by omega) hi' (by omega)⟩
end Go.Proofs.YtojjoblnpldniaaGreat
