/- All facts, as the document finds them: stratum by stratum, round by round. -/
import Derived.Test.YtojjoblnpldniaaGreatSq
import Derived.Test.YtojjoblnpldniaaGreatJ24
import Derived.Test.YtojjoblnpldniaaGreatJ18
import Derived.Test.YtojjoblnpldniaaGreatSpecSchema10
open Go.Proofs.Tryz
set_option maxHeartbeats 80000000
namespace Go.Proofs.YtojjoblnpldniaaGreat
set_option linter.unusedVariables false
set_option linter.unusedSectionVars false
set_option maxRecDepth 100000
open ChangeShapes WideShapes ChangeAt RowKit Maps
open Pl
theorem Io{rs:Q06}(h:aY (af rs)=true){k:Q01}(hk:k∈ak (af rs)):∃es,fF (af rs) k.1 k.2=some es/\aK es=true:=by
 unfold ak at hk;obtain⟨T,hT,hk⟩:=VJ.1 hk;obtain⟨t,ht,rfl⟩:=VG.1 hT;unfold jI at hk;obtain⟨r,hr,rfl⟩:=VG.1 hk;obtain⟨q,hq,rfl⟩:=VG.1 hr;exact⟨aj q.rows,pJ h ht hq,((bq h).2.2 t ht q hq).1⟩
theorem Ut{wr W w':ae}{b o1 o2:Nat}{x y:Value}(h:W.cell? ⟨b,o1,none⟩=some x/\W.cell? ⟨b,o2,none⟩=some y/\ag wr W)(hb:ag W w'):w'.cell? ⟨b,o1,none⟩=some x/\w'.cell? ⟨b,o2,none⟩=some y/\ag wr w' :=
 ⟨bW hb (aI h.1) h.1,bW hb (aI h.2.1) h.2.1,h.2.2.trans (hb.mono h.2.2.size)⟩
def rz[DecidableEq Fc](st:Q00)(rs:Q06)(ts:Q05):List Fc:=kV (af rs) ts st (dW ts) (bH ts) ((ak (af rs)).length+1)
section
variable  [DecidableEq Fc]
theorem kL(st:Q00)(rs:Q06)(ts:Q05)(xo xu:Q0a):∀N,GoodO (af rs) xo xu (kV (af rs) ts st xo xu N)
 | 0=>⟨List.nodup_nil,fun g hg=>by cases hg⟩
 | N+1=>by
  refine⟨Dq _ _ _ _ _ _,fun g hg=>?_⟩;rw[iw]at hg;obtain⟨new,e,hn⟩:=wR (H:=fu (af rs) ts) (bF (af rs) st xo xu (N:Int)) (lY (bF (af rs) st xo xu (N:Int)) (kV (af rs) ts st xo xu N)+1) (kV (af rs) ts st xo xu N);unfold kz at hg;rw[e]at hg;rcases VE.1 hg with hg|hg
  ·exact(kL st rs ts xo xu N).sub g hg
  exact D9 (hn g hg)
theorem NZ(st:Q00)(ad:Q02)(cap:Nat)(rs:Q06)(WS:Q02)(cap':Nat)(ts:Q05)(w:ae)(hsp:bP (af rs))(hle:Least (af rs) st)(hs:mP w ad rs)(hl:∀r∈rs,r.light)(hlt:ts.length<=40)(hst:Sl w WS ts):
  Calls prog 61 #[.slice ad rs.length cap,.slice WS ts.length cap'] w fun e w'=>(∃v,e=.returned v/\w'.ownsRow w.heap.size 52 5 v (rz st rs ts).length (aH (rz st rs ts)))/\ag w w':=by
 obtain⟨iF,z0,z1,z2,z3⟩:=Fb;have HIF:=aD (And.intro z0 (And.intro z1 (And.intro z2 z3)));obtain⟨h6,Yt,hsf⟩:=bq hsp.1;have HSP:=aD hsp;have XA:=aD hle;have HS:=aD hs;have HL:=aD hl;have HST:=aD hst;have HSF:=aD hsf;have Ym:=aD Yt;have HND:=aD (Ku hsp.1);have aaa:(ak (af rs)).length<=36:=za h6 Yt;have htl:ts.length<=1048576:=by omega
 obtain⟨W0,hW0⟩:∃W0,W0=w.alloc (.cells #[] 52):=⟨_,rfl⟩;have HB0:=sH hW0;have Xx:Hid (W0.ownsRow w.heap.size 52 5 (.slice (some ⟨w.heap.size,0,none⟩) 0 0) 0 (aH [])):=by
  show World.ownsRow _ _ _ _ _ _ _;rw[hW0];exact World.ownsRow_lit w #[] 0 (Vr _) (by unfold maxLen;omega) (by simp)
 have HNC:Hid ((∀o,W0.cell? ⟨w.heap.size,o,none⟩=none)/\w.heap.size<W0.heap.size):=by
  show _/\_;rw[hW0];exact⟨fun o=>by simp,by simp⟩
 clear hsp hle hs hl hst hsf Yt z0 z1 z2 z3;go_enter func61,ntmps61;go_wp2_with fail;rw[<-hW0];clear hW0;refine(sV WS cap' ts false _ hlt (HST.out.below HB0.out)).mono ?_;rintro e w1 ⟨⟨vo,rfl,hvo⟩,hb1⟩;have HB1:=aD (HB0.out.trans (hb1.mono HB0.out.size));have HR1:=aD (dw Xx.out hb1);have HN1:Hid ((∀o,w1.cell? ⟨w.heap.size,o,none⟩=none)/\w.heap.size<w1.heap.size):=⟨fun o=>(hb1.cell (p:=⟨w.heap.size,o,none⟩) HNC.out.2).trans (HNC.out.1 o),Vq HNC.out.2 hb1.size⟩;obtain⟨Yp,Ye,rfl,hsO⟩:=mh hvo;have HSO:=aD hsO;clear hvo hb1 hsO HB0 Xx HNC;go_wp2_with fail;refine(sV WS cap' ts true _ hlt (HST.out.below HB1.out)).mono ?_;rintro e w2 ⟨⟨vu,rfl,hvu⟩,hb2⟩;have HB2:=aD (HB1.out.trans (hb2.mono HB1.out.size));have HR2:=aD (dw HR1.out hb2);have Yn:Hid ((∀o,w2.cell? ⟨w.heap.size,o,none⟩=none)/\w.heap.size<w2.heap.size):=⟨fun o=>(hb2.cell (p:=⟨w.heap.size,o,none⟩) HN1.out.2).trans (HN1.out.1 o),Vq HN1.out.2 hb2.size⟩;have HSO2:=aD (HSO.out.below hb2);obtain⟨XF,WU,rfl,hsU⟩:=mh hvu;have HSU:=aD hsU;clear hvu hb2 hsU HB1 HR1 HN1 HSO;go_wp2_with fail;refine(vz ad cap rs _ h6 (HS.out.below HB2.out) HL.out Ym.out (fun r hr q hq=>(HSF.out r hr q hq).2) (kG HSP.out.2.1)).mono ?_;rintro e W ⟨hres,hb3⟩;rcases hres with⟨adN,capN,sts,rfl,hsN,hkN,hlN⟩|⟨-,hno⟩;rotate_left
 ·exact absurd HSP.out.2.2 hno
 have HK:=aD hkN;have Zc:=aD hlN;have HB3:=aD (HB2.out.trans (hb3.mono HB2.out.size));have HSN:=aD hsN;have HSO3:=aD (HSO2.out.below hb3);have HSU3:=aD (HSU.out.below hb3);have hsl:sts.length=(ak (af rs)).length:=by rw[<-hkN,iy,Wy]
 have hs36:sts.length<=36:=by omega
 have HSLE:=aD hsl;obtain⟨xo,hxo⟩:∃xo,xo=dW ts:=⟨_,rfl⟩;obtain⟨xu,hxu⟩:∃xu,xu=bH ts:=⟨_,rfl⟩;have n0:fI false ts=xo:=by rw[hxo];rfl
 have n1:fI true ts=xu:=by rw[hxu];rfl
 rw[n0]at HSO3;rw[n1]at HSU3;rw[n0,n1];have hol:xo.length<=80:=by have:=oH ts;rw[hxo];omega
 have ZU:xu.length<=40:=by have:=mM ts;rw[hxu];omega
 have HXO:=aD hxo;have HXU:=aD hxu;have Z4:Hid (OutI w W W (.slice (some ⟨w.heap.size,0,none⟩) 0 0) []):=⟨dw HR2.out hb3,fun _ _ _ h=>h,Vr _,HB3.out,fun g hg o=>by
  have e:g=w.heap.size:=by simpa[Value.ownBlock] using hg.symm
  rw[e];exact(hb3.cell (p:=⟨w.heap.size,o,none⟩) Yn.out.2).trans (Yn.out.1 o)⟩
 clear hsN hkN hlN hb3 HB2 HR2 Yn HSO2 HSU n0 n1 hxo hxu hsl Ym;obtain⟨H,hH⟩:∃H,H=fu (af rs) ts:=⟨_,rfl⟩;obtain⟨A,hA⟩:∃A:Nat->List Fc,A=kV (af rs) ts (fJ sts) xo xu:=⟨_,rfl⟩;obtain⟨Q,hQ⟩:∃Q:Nat->List Fc,Q=fun(n:Nat)=>bF (af rs) (fJ sts) xo xu (n:Int):=⟨_,rfl⟩;have HA1:Hid (∀n,A (n+1)=kz H (Q n) (A n)):=fun n=>by rw[hA,hH,hQ];exact iw _ _ _ _ _ _
 have HAG:Hid (∀n,GoodO (af rs) xo xu (A n)):=fun n=>by rw[hA];exact kL _ _ _ _ _ n
 have HQS:Hid (∀n,∀g∈Q n,g∈Cw (af rs) xo xu):=fun n g hg=>by rw[hQ]at hg;exact D9 hg
 have HQI:Hid (∀n:Nat,sN sts xo xu (n:Int) xo.length=Q n):=fun n=>by rw[hQ];exact QW HK.out HND.out xo xu n
 have Xu:Hid (A (sts.length+1)=rz st rs ts):=by
  show _=_;rw[hA,HSLE.out,HXO.out,HXU.out];exact xD (fun k hk=>Zc.out.same XA.out k hk) _
 have HA0:Hid (A 0=[]):=by show _=_;rw[hA];rfl
 have HH:=aD hH;clear hH hA hQ;go_wp2;go_loopw[5,10] (fun v i wr=>∃(n:Nat),n<=sts.length+1/\i=.int .i64 n/\Hid (OutI w W wr v (A n))) (fun _ i _=>sts.length+1-(intOf i).toNat);case atStart=>exact⟨0,Vv _,rfl,by rw[HA0.out];exact Z4⟩
 clear Z4;obtain⟨n,hn,rfl,HO⟩:=hrel;by_cases hlt1:n<=sts.length
 ·go_wp2;go_loopw[5,11] (fun v m wr=>∃(bb:Bool) (out:Q04),m=.bool bb/\Hid (kz H (Q n) out=A (n+1))/\Hid (bb=false->bB H (Q n) out=out)/\Hid (OutI w W wr v out)/\Hid (GoodO (af rs) xo xu out)) (fun v m _=>2*(200000-Ue v)+Vg m);case atStart=>exact⟨true,A n,rfl,(HA1.out n).symm,(fun h=>by cases h),HO,HAG.out n⟩
  clear HO;obtain⟨bb,out,rfl,HLM,HDN,HO,HG⟩:=hrel;have hout:=HG.out.len hol aaa ZU;obtain⟨adF,XQ,rfl,-⟩:=oC HO.out.row;cases bb;case false=>
   have WL:Hid (OutI w W wr (.slice adF out.length XQ) (A (n+1))):=by
    show OutI _ _ _ _ _;rw[<-HLM.out,wQ (HDN.out rfl)];exact HO.out
   go_wp2;go_roundw;case rel=>exact⟨n+1,by omega,by go_num,WL⟩
   simp[intOf]<;>omega
  go_wp2;go_loopw[5,11,12] (fun v m i wr=>∃(q:Nat) (bb:Bool) (WN:Q04),q<=xo.length/\m=.bool bb/\i=.int .i64 q/\Hid (WN=bB H (sN sts xo xu (n:Int) q) out)/\Hid (bb=decide (out.length<WN.length))/\Hid (OutI w W wr v WN)/\Hid (GoodO (af rs) xo xu WN)) (fun _ _ i _=>xo.length-(intOf i).toNat);case atStart=>exact⟨0,false,out,Vv _,rfl,rfl,rfl,(decide_eq_false (Nat.lt_irrefl _)).symm,HO,HG⟩
  clear HO;obtain⟨q,bb,WN,hq,rfl,rfl,HR,Yu,WL,HG2⟩:=hrel;by_cases hlq:q<xo.length
  ·have HSU4:=aD (NQ (sts:=sts) (xu:=xu) (n:=(n:Int)) hlq);obtain⟨o,ho⟩:∃o,o=xo[q]:=⟨_,rfl⟩;rw[<-ho]at HSU4;have HOQ:=aD ho;clear ho;go_wp2;go_loopw[5,11,13] (fun v m i wr=>∃(p:Nat) (bb:Bool) (Yv:Q04),p<=sts.length/\m=.bool bb/\i=.int .i64 p/\Hid (Yv=bB H (sN sts xo xu (n:Int) q++kK sts xu (n:Int) o p) out)/\Hid (bb=decide (out.length<Yv.length))/\Hid (OutI w W wr v Yv)/\Hid (GoodO (af rs) xo xu Yv)) (fun _ _ i _=>sts.length-(intOf i).toNat);case atStart=>exact⟨0,bb,WN,Vv _,rfl,rfl,by show _=_;rw[NP,Wp];exact HR.out,Yu,WL,HG2⟩
   clear WL HR Yu HG2;obtain⟨p,bb,Yv,hp,rfl,rfl,HR,Yu,WL,HG2⟩:=hrel;by_cases hlp:p<sts.length
   ·obtain⟨bN,offN,hadN,⟨s0,s1,s2⟩,hbN⟩:=Jd.at0 (HSN.out.keepC WL.out.size WL.out.keep) hlp;obtain⟨bO,Xm,ZE,⟨o0,o1⟩,hbO⟩:=lu.at0 (HSO3.out.keepC WL.out.size WL.out.keep) hlq;rw[<-HOQ.out]at o0 o1;obtain⟨s,hsp⟩:∃s,s=sts[p]:=⟨_,rfl⟩;have HKN:Hid ((s.typ.toList==o.t.toList&&decide (s.n=(n:Int)))=false->kK sts xu (n:Int) o (p+1)=kK sts xu (n:Int) o p):=fun h=>Su hlp (by rw[<-hsp];exact h);have HKY:Hid ((s.typ.toList==o.t.toList&&decide (s.n=(n:Int)))=true->kK sts xu (n:Int) o (p+1)=kK sts xu (n:Int) o p++jc o s.rel xu):=fun h=>by rw[QV hlp (by rw[<-hsp];exact h),<-hsp]
    rw[<-hsp]at s0 s1 s2;have HSM:Hid (s.key∈ak (af rs)):=by show _∈_;rw[<-HK.out,hsp];exact VY (Vp hlp)
    have Y5:=aD hsp;have hq1:=bC q;have hq2:(q:Int)<(xo.length:Int):=by omega
    have hp1:=bC p;have hp2:(p:Int)<(sts.length:Int):=by omega
    subst hadN;subst ZE;clear hsp;cases ht:(s.typ.toList==o.t.toList);case false=>
     have HKE:Hid (kK sts xu (n:Int) o (p+1)=kK sts xu (n:Int) o p):=HKN.out (by rw[ht];rfl);have Xc:∀nq,Hid (OutI w W (wr.drewN nq) u5 Yv):=fun nq=>WL.out.below (below_drewN (Vs _ _) nq);go_wp2_with fail;go_quiet (fail);go_wp2;go_roundw;case rel=>exact⟨p+1,bb,Yv,by omega,rfl,by go_num,by rw[HKE.out];exact HR,Yu,Xc _,HG2⟩
     simp[intOf]<;>omega
    by_cases hn2:s.n=(n:Int)
    ·have hb1:(s.n==(n:Int))=true:=by simpa using hn2
     have HKE:=aD (HKY.out (by rw[ht,hn2];simp));have HTO:Hid (s.typ=o.t):=fC.1 ht;have hb2:decide (s.n=(n:Int))=true:=decide_eq_true hn2;replace hn2:Hid (s.n=(n:Int)):=hn2;have HREL:Hid (∀W':World,(W'.cell? ⟨bN,offN+p*3,none⟩=some (.string s.typ)/\W'.cell? ⟨bN,offN+p*3+1,none⟩=some (.string s.rel)/\ag wr W')->Calls prog 101 #[.slice ad rs.length cap,.string s.typ,.string s.rel] W' fun e w'=>(∃(rows:Q08) (WM:Q02) (capE:Nat),e=.returned (.slice WM rows.length capE)/\aj rows=az (af rs) s.typ s.rel/\pV rs WM rows)/\ag W' w'):=fun W' h=>by
      refine(jf ad cap rs s.typ s.rel W' (by omega) (HS.out.below (WL.out.bel.trans (h.2.2.mono WL.out.bel.size))) HL.out).mono ?_;rintro e w' ⟨⟨rows,WM,capE,he,hx,-,hf⟩,rfl⟩;exact⟨⟨rows,WM,capE,he,hx,hf⟩,Vs _ _⟩
     go_wp2_with fail;go_quiet (fail);go_wp2_with fail
     go_region_held3 (fun w'=>w'.cell? ⟨bN,offN+p*3,none⟩=some (.string s.typ)/\w'.cell? ⟨bN,offN+p*3+1,none⟩=some (.string s.rel)/\ag wr w')
      (first|assumption|exact Ut (by assumption) hbx|exact⟨s0,s1,Below.drew (below_drewN (Vs _ _) _)⟩)
      (first|(go_at_call 101;refine(HREL.out _ (by assumption)).mono ?_;rintro e w' ⟨⟨rows,WM,capE,rfl,hrx,hrf⟩,hbx⟩))
     rename_i hH;have WZ:=aD (WL.out.below hH.2.2);have HEX:Hid (aj rows=az (af rs) o.t s.rel):=by show _=_;rw[hrx,HTO.out]
     obtain⟨YD,hr1⟩:Hid (YW rows)/\1<=rows.length:=by
      obtain⟨es,e1,e2⟩:=Io HSP.out.1 HSM.out;have e3:aj rows=es:=by
       rw[hrx];unfold az;show(fF (af rs) s.key.1 s.key.2).getD []=es;rw[e1];rfl
      rw[<-e3]at e2;exact LH e2
     have HRF:=aD hrf;have hr1000:=YD.out.len;clear hH hbx hrx hrf HREL s0 s1 s2 o0 o1 hb1 hb2 WL HTO hbN hbO;go_wp2;go_loopw[5,11,15] (fun v m i wr=>∃(j:Nat) (bb:Bool) (WY:Q04),j<=xu.length/\m=.bool bb/\i=.int .i64 j/\Hid (WY=bB H (sN sts xo xu (n:Int) q++kK sts xu (n:Int) o p++jc o s.rel (xu.take j)) out)/\Hid (bb=decide (out.length<WY.length))/\Hid (OutI w W wr v WY)/\Hid (GoodO (af rs) xo xu WY)) (fun _ _ i _=>xu.length-(intOf i).toNat);case atStart=>exact⟨0,bb,Yv,Vv _,rfl,rfl,by show _=_;rw[List.take_zero];show _=bB H (_++[]) out;rw[Wp];exact HR.out,Yu,WZ,HG2⟩
     clear WZ HR Yu HG2;obtain⟨j,bb,WY,hj,rfl,rfl,HR,Yu,WL,HG2⟩:=hrel;by_cases hlj:j<xu.length
     ·obtain⟨bU,offU,hadU,⟨y0,y1⟩,hbU⟩:=lu.at0 (HSU3.out.keepC WL.out.size WL.out.keep) hlj;obtain⟨bN',offN',hadN',⟨s0,s1,s2⟩,hbN⟩:=Jd.at0 (HSN.out.keepC WL.out.size WL.out.keep) hlp;obtain⟨bO',offO',hadO',⟨o0,o1⟩,hbO⟩:=lu.at0 (HSO3.out.keepC WL.out.size WL.out.keep) hlq;injection hadN' with hadN';injection hadN' with e1 e2;subst e1;subst e2;injection hadO' with hadO';injection hadO' with e1 e2;subst e1;subst e2;rw[<-HOQ.out]at o0 o1;rw[<-Y5.out]at s0 s1 s2;obtain⟨f,hf⟩:∃f:Fc,f=⟨o.t,o.s,s.rel,xu[j].t,xu[j].s⟩:=⟨_,rfl⟩;have HAT:Hid (jc o s.rel (xu.take (j+1))=jc o s.rel (xu.take j)++[f]):=by show _=_;rw[hf];exact NR o s.rel hlj
      have HFQ:Hid (f∈Cw (af rs) xo xu):=by
       show _∈_;rw[hf];unfold Cw jc;refine VJ.2 ⟨o,by rw[HOQ.out];exact Vp hlq,VJ.2 ⟨s.key,HSM.out,VG.2 ⟨xu[j],Vp hlj,rfl⟩⟩⟩
      have hout4:=HG2.out.len hol aaa ZU;obtain⟨adF4,capF4,rfl,hsF⟩:=oC WL.out.row;have HSF4:=aD hsF;have f0:o.t=f.a:=by rw[hf]
      have f1:o.s=f.b:=by rw[hf]
      have f2:s.rel=f.r:=by rw[hf]
      have f3:xu[j].t=f.c:=by rw[hf]
      have f4:xu[j].s=f.d:=by rw[hf]
      have HEF:Hid (aj rows=az (af rs) f.a f.r):=by show _=_;rw[hf];exact HEX.out
      rw[f3]at y0;rw[f4]at y1;rw[f0]at o0;rw[f1]at o1;rw[f2]at s1;have hj1:=bC j;have hj2:(j:Int)<(xu.length:Int):=by omega
      subst hadU;clear hsF hf f0 f1 f2 f3 f4 s0 s2;obtain⟨W5,XW⟩:∃W5,W5=(wr.alloc (.cells #[.string f.a,.string f.b,.string f.r,.string f.c,.string f.d] 52)).drew:=⟨_,rfl⟩;have XY:Hid (ag wr W5):=by show Below _ _ _;rw[XW];exact((Vs _ _).alloc (Vr _) _).drew
      have g0:W5.cell? ⟨wr.heap.size,0,none⟩=some (.string f.a):=by rw[XW];simp
      have g1:W5.cell? ⟨wr.heap.size,1,none⟩=some (.string f.b):=by rw[XW];simp
      have g2:W5.cell? ⟨wr.heap.size,2,none⟩=some (.string f.r):=by rw[XW];simp
      have g3:W5.cell? ⟨wr.heap.size,3,none⟩=some (.string f.c):=by rw[XW];simp
      have g4:W5.cell? ⟨wr.heap.size,4,none⟩=some (.string f.d):=by rw[XW];simp
      have gl:wr.heap.size<W5.heap.size:=aI g0;have WV:=aD (WL.out.below XY.out);go_wp2_with fail
      go_region
      rw[<-XW];clear XW y0 y1 o0 o1 s1 hbU hbN hbO;go_wp2_with fail;refine(rV adF4 capF4 WY f W5 (by omega) (HSF4.out.below XY.out)).mono ?_;rintro e w6 ⟨rfl,hb6⟩;have Ze:=aD (XY.out.trans (hb6.mono XY.out.size));have XL:=aD (WV.out.below hb6);replace g0:=bW hb6 gl g0;replace g1:=bW hb6 gl g1;replace g2:=bW hb6 gl g2;replace g3:=bW hb6 gl g3;replace g4:=bW hb6 gl g4;replace gl:=Vq gl hb6.size;have HHF:Hid (H WY f=dK ts (aj rows) WY f rows.length WY (rows.length-1)):=by show _=_;rw[HH.out];unfold fu;rw[<-HEF.out,aX]
      have HRS:Hid (bB H (sN sts xo xu (n:Int) q++kK sts xu (n:Int) o p++jc o s.rel (xu.take (j+1))) out=dV H WY f):=by show _=_;rw[HAT.out,<-VU,sF,<-HR.out]
      clear hb6 XY WV;cases hh:df WY f;case true=>
       have HR2:Hid (WY=bB H (sN sts xo xu (n:Int) q++kK sts xu (n:Int) o p++jc o s.rel (xu.take (j+1))) out):=by show _=_;rw[HRS.out,wE (.inl hh)]
       go_wp2;go_roundw;case rel=>exact⟨j+1,bb,WY,by omega,rfl,by go_num,HR2,Yu,XL,HG2⟩
       simp[intOf]<;>omega
      have HHH:=aD hh;have hwr:IntKind.i64.wrap ((rows.length:Int)-1)=((rows.length-1:Nat):Int):=by rw[IntKind.wrap_i64];omega
      have Yj:=aD (yw (.slice ad rs.length cap) WS cap' ts WM capE rows adF4 capF4 WY f htl YD.out (by omega) rows.length (rows.length-1) adF4 capF4 WY w6 (by omega) (by omega) (by omega) ⟨HST.out.below XL.out.bel,HRF.out.sl (HS.out.below XL.out.bel),HSF4.out.below Ze.out,HSF4.out.below Ze.out⟩);clear hh;go_wp2_with fail;refine Yj.out.mono ?_;rintro e w7 ⟨he7,Y6⟩;rw[<-HHF.out]at he7;subst he7;have ZN:=aD (XL.out.below Y6);replace g0:=bW Y6 gl g0;replace g1:=bW Y6 gl g1;replace g2:=bW Y6 gl g2;replace g3:=bW Y6 gl g3;replace g4:=bW Y6 gl g4;replace gl:=Vq gl Y6.size;clear Y6 Yj XL Ze hwr;cases hv:H WY f;case false=>
       have HR2:Hid (WY=bB H (sN sts xo xu (n:Int) q++kK sts xu (n:Int) o p++jc o s.rel (xu.take (j+1))) out):=by show _=_;rw[HRS.out,wE (.inr hv)]
       go_wp2;go_roundw;case rel=>exact⟨j+1,bb,WY,by omega,rfl,by go_num,HR2,Yu,ZN,HG2⟩
       simp[intOf]<;>omega
      have HST2:Hid (dV H WY f=WY++[f]):=Eb HHH.out hv;have HR2:Hid (WY++[f]=bB H (sN sts xo xu (n:Int) q++kK sts xu (n:Int) o p++jc o s.rel (xu.take (j+1))) out):=by show _=_;rw[HRS.out,HST2.out]
      have Zz:Hid (GoodO (af rs) xo xu (WY++[f])):=by
       have h1:=HG2.out.run (H:=H) (qs:=[f]) (fun g hg=>by
        rw[VD]at hg;subst hg;exact HFQ.out)
       rw[show bB H [f] WY=dV H WY f from rfl,HST2.out]at h1;exact h1
      have Z6:Hid (true=decide (out.length<(WY++[f]).length)):=by
       show _=_;have h1:=Ii H (sN sts xo xu (n:Int) q++kK sts xu (n:Int) o p++jc o s.rel (xu.take j)) out;rw[<-HR.out]at h1;rw[Vx];exact(decide_eq_true (by simp;omega)).symm
      obtain⟨W8,YC⟩:∃W8,W8=w7.alloc (.cells #[.string f.a,.string f.b,.string f.r,.string f.c,.string f.d] 52):=⟨_,rfl⟩;have HO8:Hid (OutI w W W8 (.slice adF4 WY.length capF4) WY):=by show OutI _ _ _ _ _;rw[YC];exact ZN.out.below ((Vs _ _).alloc (Vr _) _)
      have HN8:Hid (∀j u,f.row[j]?=some u->W8.cell? ((⟨w7.heap.size,0,none⟩:Addr).add j)=some u):=by rw[YC];exact LC w7 f
      have hsz8:w.heap.size<=W8.heap.size:=HO8.out.bel.size;clear hv;go_wp2_with(at_builtin;rw[<-YC];clear YC;refine wpList_append_own_at _ rfl _ _ 44 rfl w.heap.size 52 iF (.agg #[.string ⟨#[]⟩,.string ⟨#[]⟩,.string ⟨#[]⟩,.string ⟨#[]⟩,.string ⟨#[]⟩]) 5 80 underlying44 HIF.out.1 HIF.out.2.1 HIF.out.2.2.1 HIF.out.2.2.2 rfl (by decide) _ WY.length (aH WY) rfl HO8.out.row ⟨w7.heap.size,0,none⟩ 1 1 f.row rfl rfl HN8.out (by simp[Fc.row,Value.oneCell']) (by unfold maxLen;omega) (by omega) hsz8 ?_);intro v' w9 hown hgr _ hat;have HO9:=aD (HO8.out.app hown hgr hat);clear hown hgr hat g0 g1 g2 g3 g4 gl;go_wp2;go_roundw;case rel=>exact⟨j+1,true,WY++[f],by omega,rfl,by go_num,HR2,Z6,HO9,Zz⟩
      simp[intOf]<;>omega
     have HR3:Hid (WY=bB H (sN sts xo xu (n:Int) q++kK sts xu (n:Int) o (p+1)) out):=by show _=_;rw[HKE.out,HR.out,show j=xu.length by omega,VI,VU]
     go_wp2;go_roundw;case rel=>exact⟨p+1,bb,WY,by omega,rfl,by go_num,HR3,Yu,WL,HG2⟩
     simp[intOf]<;>omega
    have hb1:(s.n==(n:Int))=false:=by simpa using hn2
    have hb2:decide (s.n=(n:Int))=false:=decide_eq_false hn2;have HKE:Hid (kK sts xu (n:Int) o (p+1)=kK sts xu (n:Int) o p):=HKN.out (by rw[hb2,Bool.and_false]);have Xc:∀nq,Hid (OutI w W (wr.drewN nq) u5 Yv):=fun nq=>WL.out.below (below_drewN (Vs _ _) nq);go_wp2_with fail;go_quiet (fail);go_wp2;go_roundw;case rel=>exact⟨p+1,bb,Yv,by omega,rfl,by go_num,by rw[HKE.out];exact HR,Yu,Xc _,HG2⟩
    simp[intOf]<;>omega
   have HR3:Hid (Yv=bB H (sN sts xo xu (n:Int) (q+1)) out):=by show _=_;rw[HSU4.out,HR.out,show p=sts.length by omega]
   go_wp2;go_roundw;case rel=>exact⟨q+1,bb,Yv,by omega,rfl,by go_num,HR3,Yu,WL,HG2⟩
   simp[intOf]<;>omega
  have hout2:=HG2.out.len hol aaa ZU;have HRQ:Hid (WN=bB H (Q n) out):=by show _=_;rw[HR.out,<-HQI.out n,show q=xo.length by omega]
  obtain⟨ad2,cap2,rfl,-⟩:=oC WL.out.row;have HLM2:Hid (kz H (Q n) WN=A (n+1)):=by show _=_;rw[HRQ.out,CV];exact HLM.out
  have hbl:=Ii H (Q n) out;have HDN2:Hid (bb=false->bB H (Q n) WN=WN):=fun hb=>by
   have e:WN=out:=by
    rw[HRQ.out];refine KA ?_;rw[<-HRQ.out,<-Yu.out];exact hb
   rw[e];rw[HRQ.out]at e;exact e
  have hm:2*(200000-WN.length)+Vg (.bool bb)<2*(200000-out.length)+1:=by
   have h1:=Yu.out;rw[<-HRQ.out]at hbl;cases bb;case true=>have:=of_decide_eq_true h1.symm;simp only[Vg];omega
   have:=of_decide_eq_false h1.symm;simp only[Vg];omega
  have HM:=aD hm;clear hm hbl;go_wp2;go_roundw;case rel=>exact⟨bb,WN,rfl,HLM2,HDN2,WL,HG2⟩
  exact HM.out
 have hne:n=sts.length+1:=by omega
 have WL:Hid (wr.ownsRow w.heap.size 52 5 u5 (rz st rs ts).length (aH (rz st rs ts))):=by
  show World.ownsRow _ _ _ _ _ _ _;rw[<-Xu.out,<-hne];exact HO.out.row
 have HBE:=aD HO.out.bel;clear HO;go_wp2;go_ret;exact⟨⟨_,rfl,WL.out⟩,HBE.out⟩
end
end Go.Proofs.YtojjoblnpldniaaGreat
