/- All facts, as the document finds them: stratum by stratum, round by round. -/
import Derived.Test.YtcgdckphpjfmhaaGreatDoorSq
import Derived.Test.YtcgdckphpjfmhaaGreatDoorJ20
import Derived.Test.YtcgdckphpjfmhaaGreatDoorJ13
open Go.Proofs.Tryz
set_option maxHeartbeats 80000000
namespace Go.Proofs.YtcgdckphpjfmhaaGreatDoor
set_option linter.unusedVariables false
set_option linter.unusedSectionVars false
set_option maxRecDepth 100000
open ChangeShapes WideShapes ChangeAt RowKit Maps
open Pl
theorem QK{rs:Q06}(h:bQ (ag rs)=true){k:Q01}(hk:k∈av (ag rs)):∃es,gm (ag rs) k.1 k.2=some es/\aP es=true:=by
 unfold av at hk;obtain⟨T,hT,hk⟩:=VZ.1 hk;obtain⟨t,ht,rfl⟩:=VQ.1 hT;unfold kE at hk;obtain⟨r,hr,rfl⟩:=VQ.1 hk;obtain⟨q,hq,rfl⟩:=VQ.1 hr;exact⟨aj q.rows,pM h ht hq,((bu h).2.2 t ht q hq).1⟩
theorem Ut{wr W w':ae}{b o1 o2:Nat}{x y:Value}(h:W.cell? ⟨b,o1,none⟩=some x/\W.cell? ⟨b,o2,none⟩=some y/\af wr W)(hb:af W w'):w'.cell? ⟨b,o1,none⟩=some x/\w'.cell? ⟨b,o2,none⟩=some y/\af wr w' :=
 ⟨bP hb (aM h.1) h.1,bP hb (aM h.2.1) h.2.1,h.2.2.trans (hb.mono h.2.2.size)⟩
def rE[DecidableEq Fc](st:Q00)(rs:Q06)(ts:Q05):List Fc:=mW (ag rs) ts st (iJ ts) (fo ts) ((av (ag rs)).length+1)
section
variable  [DecidableEq Fc]
theorem rF(st:Q00)(rs:Q06)(ts:Q05)(xo xu:Q0a):∀N,GoodO (ag rs) xo xu (mW (ag rs) ts st xo xu N)
 | 0=>⟨List.nodup_nil,fun g hg=>by cases hg⟩
 | N+1=>by
  refine⟨CY _ _ _ _ _ _,fun g hg=>?_⟩;rw[jZ]at hg;obtain⟨new,e,hn⟩:=Cx (H:=iY (ag rs) ts) (dw (ag rs) st xo xu (N:Int)) (nu (dw (ag rs) st xo xu (N:Int)) (mW (ag rs) ts st xo xu N)+1) (mW (ag rs) ts st xo xu N);unfold oW at hg;rw[e]at hg;rcases VL.1 hg with hg|hg
  ·exact(rF st rs ts xo xu N).sub g hg
  exact DK (hn g hg)
theorem Ns(st:Q00)(ad:Q02)(cap:Nat)(rs:Q06)(WY:Q02)(cap':Nat)(ts:Q05)(w:ae)(hsp:bI (ag rs))(hle:Least (ag rs) st)(hs:jP w ad rs)(hl:∀r∈rs,r.light)(hlt:ts.length<=40)(hst:Sl w WY ts):
  Calls prog 71 #[.slice ad rs.length cap,.slice WY ts.length cap'] w fun e w'=>(∃v,e=.returned v/\w'.ownsRow w.heap.size 43 5 v (rE st rs ts).length (fF (rE st rs ts)))/\af w w':=by
 obtain⟨iF,z0,z1,z2,z3⟩:=KQ;have HIF:=ax (And.intro z0 (And.intro z1 (And.intro z2 z3)));obtain⟨h6,YH,hsf⟩:=bu hsp.1;have HSP:=ax hsp;have XM:=ax hle;have HS:=ax hs;have HL:=ax hl;have HST:=ax hst;have HSF:=ax hsf;have Yv:=ax YH;have HND:=ax (Ka hsp.1);have hE36:(av (ag rs)).length<=36:=zf h6 YH;have htl:ts.length<=1048576:=by omega
 obtain⟨W0,hW0⟩:∃W0,W0=w.alloc (.cells #[] 43):=⟨_,rfl⟩;have HB0:=oQ hW0;have XA:Hid (W0.ownsRow w.heap.size 43 5 (.slice (some ⟨w.heap.size,0,none⟩) 0 0) 0 (fF [])):=by
  show World.ownsRow _ _ _ _ _ _ _;rw[hW0];exact World.ownsRow_lit w #[] 0 (VC _) (by unfold maxLen;omega) (by simp)
 have HNC:Hid ((∀o,W0.cell? ⟨w.heap.size,o,none⟩=none)/\w.heap.size<W0.heap.size):=by
  show _/\_;rw[hW0];exact⟨fun o=>by simp,by simp⟩
 clear hsp hle hs hl hst hsf YH z0 z1 z2 z3;go_enter func71,ntmps71;go_wp2_with fail;rw[<-hW0];clear hW0;refine(sV WY cap' ts false _ hlt (HST.out.below HB0.out)).mono ?_;rintro e w1 ⟨⟨vo,rfl,hvo⟩,hb1⟩;have HB1:=ax (HB0.out.trans (hb1.mono HB0.out.size));have HR1:=ax (aJ XA.out hb1);have HN1:Hid ((∀o,w1.cell? ⟨w.heap.size,o,none⟩=none)/\w.heap.size<w1.heap.size):=⟨fun o=>(hb1.cell (p:=⟨w.heap.size,o,none⟩) HNC.out.2).trans (HNC.out.1 o),Vy HNC.out.2 hb1.size⟩;obtain⟨Yw,X0,rfl,hsO⟩:=mq hvo;have HSO:=ax hsO;clear hvo hb1 hsO HB0 XA HNC;go_wp2_with fail;refine(sV WY cap' ts true _ hlt (HST.out.below HB1.out)).mono ?_;rintro e w2 ⟨⟨vu,rfl,hvu⟩,hb2⟩;have HB2:=ax (HB1.out.trans (hb2.mono HB1.out.size));have HR2:=ax (aJ HR1.out hb2);have Yr:Hid ((∀o,w2.cell? ⟨w.heap.size,o,none⟩=none)/\w.heap.size<w2.heap.size):=⟨fun o=>(hb2.cell (p:=⟨w.heap.size,o,none⟩) HN1.out.2).trans (HN1.out.1 o),Vy HN1.out.2 hb2.size⟩;have HSO2:=ax (HSO.out.below hb2);obtain⟨XO,Xg,rfl,hsU⟩:=mq hvu;have HSU:=ax hsU;clear hvu hb2 hsU HB1 HR1 HN1 HSO;go_wp2_with fail;refine(vG ad cap rs _ h6 (HS.out.below HB2.out) HL.out Yv.out (fun r hr q hq=>(HSF.out r hr q hq).2) (mi HSP.out.2.1)).mono ?_;rintro e W ⟨hres,hb3⟩;rcases hres with⟨adN,capN,sts,rfl,hsN,hkN,hlN⟩|⟨-,hno⟩;rotate_left
 ·exact absurd HSP.out.2.2 hno
 have HK:=ax hkN;have Z8:=ax hlN;have HB3:=ax (HB2.out.trans (hb3.mono HB2.out.size));have HSN:=ax hsN;have HSO3:=ax (HSO2.out.below hb3);have HSU3:=ax (HSU.out.below hb3);have hsl:sts.length=(av (ag rs)).length:=by rw[<-hkN,iG,WC]
 have hs36:sts.length<=36:=by omega
 have HSLE:=ax hsl;obtain⟨xo,hxo⟩:∃xo,xo=iJ ts:=⟨_,rfl⟩;obtain⟨xu,hxu⟩:∃xu,xu=fo ts:=⟨_,rfl⟩;have n0:fM false ts=xo:=by rw[hxo];rfl
 have n1:fM true ts=xu:=by rw[hxu];rfl
 rw[n0]at HSO3;rw[n1]at HSU3;rw[n0,n1];have hol:xo.length<=80:=by have:=oM ts;rw[hxo];omega
 have hul:xu.length<=40:=by have:=mR ts;rw[hxu];omega
 have HXO:=ax hxo;have HXU:=ax hxu;have HOUT:Hid (OutI w W W (.slice (some ⟨w.heap.size,0,none⟩) 0 0) []):=⟨aJ HR2.out hb3,fun _ _ _ h=>h,VC _,HB3.out,fun g hg o=>by
  have e:g=w.heap.size:=by simpa[Value.ownBlock] using hg.symm
  rw[e];exact(hb3.cell (p:=⟨w.heap.size,o,none⟩) Yr.out.2).trans (Yr.out.1 o)⟩
 clear hsN hkN hlN hb3 HB2 HR2 Yr HSO2 HSU n0 n1 hxo hxu hsl Yv;obtain⟨H,hH⟩:∃H,H=iY (ag rs) ts:=⟨_,rfl⟩;obtain⟨A,hA⟩:∃A:Nat->List Fc,A=mW (ag rs) ts (fP sts) xo xu:=⟨_,rfl⟩;obtain⟨Q,hQ⟩:∃Q:Nat->List Fc,Q=fun(n:Nat)=>dw (ag rs) (fP sts) xo xu (n:Int):=⟨_,rfl⟩;have HA1:Hid (∀n,A (n+1)=oW H (Q n) (A n)):=fun n=>by rw[hA,hH,hQ];exact jZ _ _ _ _ _ _
 have HAG:Hid (∀n,GoodO (ag rs) xo xu (A n)):=fun n=>by rw[hA];exact rF _ _ _ _ _ n
 have HQS:Hid (∀n,∀g∈Q n,g∈Hu (ag rs) xo xu):=fun n g hg=>by rw[hQ]at hg;exact DK hg
 have HQI:Hid (∀n:Nat,sI sts xo xu (n:Int) xo.length=Q n):=fun n=>by rw[hQ];exact QH HK.out HND.out xo xu n
 have XG:Hid (A (sts.length+1)=rE st rs ts):=by
  show _=_;rw[hA,HSLE.out,HXO.out,HXU.out];exact xy (fun k hk=>Z8.out.same XM.out k hk) _
 have HA0:Hid (A 0=[]):=by show _=_;rw[hA];rfl
 have HH:=ax hH;clear hH hA hQ;go_wp2;go_loopw[5,10] (fun v i wr=>∃(n:Nat),n<=sts.length+1/\i=.int .i64 n/\Hid (OutI w W wr v (A n))) (fun _ i _=>sts.length+1-(intOf i).toNat);case atStart=>exact⟨0,VG _,rfl,by rw[HA0.out];exact HOUT⟩
 clear HOUT;obtain⟨n,hn,rfl,HO⟩:=hrel;by_cases hlt1:n<=sts.length
 ·go_wp2;go_loopw[5,11] (fun v m wr=>∃(bb:Bool) (out:Q04),m=.bool bb/\Hid (oW H (Q n) out=A (n+1))/\Hid (bb=false->bY H (Q n) out=out)/\Hid (OutI w W wr v out)/\Hid (GoodO (ag rs) xo xu out)) (fun v m _=>2*(200000-TP v)+Vn m);case atStart=>exact⟨true,A n,rfl,(HA1.out n).symm,(fun h=>by cases h),HO,HAG.out n⟩
  clear HO;obtain⟨bb,out,rfl,HLM,HDN,HO,HG⟩:=hrel;have hout:=HG.out.len hol hE36 hul;obtain⟨adF,X8,rfl,-⟩:=sQ HO.out.row;cases bb;case false=>
   have WV:Hid (OutI w W wr (.slice adF out.length X8) (A (n+1))):=by
    show OutI _ _ _ _ _;rw[<-HLM.out,wI (HDN.out rfl)];exact HO.out
   go_wp2;go_roundw;case rel=>exact⟨n+1,by omega,by go_num,WV⟩
   simp[intOf]<;>omega
  go_wp2;go_loopw[5,11,12] (fun v m i wr=>∃(q:Nat) (bb:Bool) (WX:Q04),q<=xo.length/\m=.bool bb/\i=.int .i64 q/\Hid (WX=bY H (sI sts xo xu (n:Int) q) out)/\Hid (bb=decide (out.length<WX.length))/\Hid (OutI w W wr v WX)/\Hid (GoodO (ag rs) xo xu WX)) (fun _ _ i _=>xo.length-(intOf i).toNat);case atStart=>exact⟨0,false,out,VG _,rfl,rfl,rfl,(decide_eq_false (Nat.lt_irrefl _)).symm,HO,HG⟩
  clear HO;obtain⟨q,bb,WX,hq,rfl,rfl,HR,YK,WV,HG2⟩:=hrel;by_cases hlq:q<xo.length
  ·have HSU4:=ax (Np (sts:=sts) (xu:=xu) (n:=(n:Int)) hlq);obtain⟨o,ho⟩:∃o,o=xo[q]:=⟨_,rfl⟩;rw[<-ho]at HSU4;have HOQ:=ax ho;clear ho;go_wp2;go_loopw[5,11,13] (fun v m i wr=>∃(p:Nat) (bb:Bool) (YM:Q04),p<=sts.length/\m=.bool bb/\i=.int .i64 p/\Hid (YM=bY H (sI sts xo xu (n:Int) q++kJ sts xu (n:Int) o p) out)/\Hid (bb=decide (out.length<YM.length))/\Hid (OutI w W wr v YM)/\Hid (GoodO (ag rs) xo xu YM)) (fun _ _ i _=>sts.length-(intOf i).toNat);case atStart=>exact⟨0,bb,WX,VG _,rfl,rfl,by show _=_;rw[Nn,Ww];exact HR.out,YK,WV,HG2⟩
   clear WV HR YK HG2;obtain⟨p,bb,YM,hp,rfl,rfl,HR,YK,WV,HG2⟩:=hrel;by_cases hlp:p<sts.length
   ·obtain⟨bN,offN,hadN,⟨s0,s1,s2⟩,hbN⟩:=IU.at0 (HSN.out.keepC WV.out.size WV.out.keep) hlp;obtain⟨bO,Xy,ZW,⟨o0,o1⟩,hbO⟩:=ll.at0 (HSO3.out.keepC WV.out.size WV.out.keep) hlq;rw[<-HOQ.out]at o0 o1;obtain⟨s,hsp⟩:∃s,s=sts[p]:=⟨_,rfl⟩;have HKN:Hid ((s.typ.toList==o.t.toList&&decide (s.n=(n:Int)))=false->kJ sts xu (n:Int) o (p+1)=kJ sts xu (n:Int) o p):=fun h=>R9 hlp (by rw[<-hsp];exact h);have HKY:Hid ((s.typ.toList==o.t.toList&&decide (s.n=(n:Int)))=true->kJ sts xu (n:Int) o (p+1)=kJ sts xu (n:Int) o p++jY o s.rel xu):=fun h=>by rw[QG hlp (by rw[<-hsp];exact h),<-hsp]
    rw[<-hsp]at s0 s1 s2;have HSM:Hid (s.key∈av (ag rs)):=by show _∈_;rw[<-HK.out,hsp];exact Wd (Vz hlp)
    have Zo:=ax hsp;have hq1:=bq q;have hq2:(q:Int)<(xo.length:Int):=by omega
    have hp1:=bq p;have hp2:(p:Int)<(sts.length:Int):=by omega
    subst hadN;subst ZW;clear hsp;cases ht:(s.typ.toList==o.t.toList);case false=>
     have HKE:Hid (kJ sts xu (n:Int) o (p+1)=kJ sts xu (n:Int) o p):=HKN.out (by rw[ht];rfl);have Xm:∀nq,Hid (OutI w W (wr.drewN nq) u5 YM):=fun nq=>WV.out.below (below_drewN (VD _ _) nq);go_wp2_with fail;go_quiet (fail);go_wp2;go_roundw;case rel=>exact⟨p+1,bb,YM,by omega,rfl,by go_num,by rw[HKE.out];exact HR,YK,Xm _,HG2⟩
     simp[intOf]<;>omega
    by_cases hn2:s.n=(n:Int)
    ·have hb1:(s.n==(n:Int))=true:=by simpa using hn2
     have HKE:=ax (HKY.out (by rw[ht,hn2];simp));have HTO:Hid (s.typ=o.t):=eZ.1 ht;have hb2:decide (s.n=(n:Int))=true:=decide_eq_true hn2;replace hn2:Hid (s.n=(n:Int)):=hn2;have HREL:Hid (∀W':World,(W'.cell? ⟨bN,offN+p*3,none⟩=some (.string s.typ)/\W'.cell? ⟨bN,offN+p*3+1,none⟩=some (.string s.rel)/\af wr W')->Calls prog 118 #[.slice ad rs.length cap,.string s.typ,.string s.rel] W' fun e w'=>(∃(rows:Q08) (WW:Q02) (capE:Nat),e=.returned (.slice WW rows.length capE)/\aj rows=aK (ag rs) s.typ s.rel/\pX rs WW rows)/\af W' w'):=fun W' h=>by
      refine(jf ad cap rs s.typ s.rel W' (by omega) (HS.out.below (WV.out.bel.trans (h.2.2.mono WV.out.bel.size))) HL.out).mono ?_;rintro e w' ⟨⟨rows,WW,capE,he,hx,-,hf⟩,rfl⟩;exact⟨⟨rows,WW,capE,he,hx,hf⟩,VD _ _⟩
     go_wp2_with fail;go_quiet (fail);go_wp2_with fail
     go_region_held3 (fun w'=>w'.cell? ⟨bN,offN+p*3,none⟩=some (.string s.typ)/\w'.cell? ⟨bN,offN+p*3+1,none⟩=some (.string s.rel)/\af wr w')
      (first|assumption|exact Ut (by assumption) hbx|exact⟨s0,s1,Below.drew (below_drewN (VD _ _) _)⟩)
      (first|(go_at_call 118;refine(HREL.out _ (by assumption)).mono ?_;rintro e w' ⟨⟨rows,WW,capE,rfl,hrx,hrf⟩,hbx⟩))
     rename_i hH;have Xk:=ax (WV.out.below hH.2.2);have HEX:Hid (aj rows=aK (ag rs) o.t s.rel):=by show _=_;rw[hrx,HTO.out]
     obtain⟨YZ,hr1⟩:Hid (Zi rows)/\1<=rows.length:=by
      obtain⟨es,e1,e2⟩:=QK HSP.out.1 HSM.out;have e3:aj rows=es:=by
       rw[hrx];unfold aK;show(gm (ag rs) s.key.1 s.key.2).getD []=es;rw[e1];rfl
      rw[<-e3]at e2;exact KZ e2
     have HRF:=ax hrf;have hr1000:=YZ.out.len;clear hH hbx hrx hrf HREL s0 s1 s2 o0 o1 hb1 hb2 WV HTO hbN hbO;go_wp2;go_loopw[5,11,15] (fun v m i wr=>∃(j:Nat) (bb:Bool) (Xh:Q04),j<=xu.length/\m=.bool bb/\i=.int .i64 j/\Hid (Xh=bY H (sI sts xo xu (n:Int) q++kJ sts xu (n:Int) o p++jY o s.rel (xu.take j)) out)/\Hid (bb=decide (out.length<Xh.length))/\Hid (OutI w W wr v Xh)/\Hid (GoodO (ag rs) xo xu Xh)) (fun _ _ i _=>xu.length-(intOf i).toNat);case atStart=>exact⟨0,bb,YM,VG _,rfl,rfl,by show _=_;rw[List.take_zero];show _=bY H (_++[]) out;rw[Ww];exact HR.out,YK,Xk,HG2⟩
     clear Xk HR YK HG2;obtain⟨j,bb,Xh,hj,rfl,rfl,HR,YK,WV,HG2⟩:=hrel;by_cases hlj:j<xu.length
     ·obtain⟨bU,offU,hadU,⟨y0,y1⟩,hbU⟩:=ll.at0 (HSU3.out.keepC WV.out.size WV.out.keep) hlj;obtain⟨bN',offN',hadN',⟨s0,s1,s2⟩,hbN⟩:=IU.at0 (HSN.out.keepC WV.out.size WV.out.keep) hlp;obtain⟨bO',offO',hadO',⟨o0,o1⟩,hbO⟩:=ll.at0 (HSO3.out.keepC WV.out.size WV.out.keep) hlq;injection hadN' with hadN';injection hadN' with e1 e2;subst e1;subst e2;injection hadO' with hadO';injection hadO' with e1 e2;subst e1;subst e2;rw[<-HOQ.out]at o0 o1;rw[<-Zo.out]at s0 s1 s2;obtain⟨f,hf⟩:∃f:Fc,f=⟨o.t,o.s,s.rel,xu[j].t,xu[j].s⟩:=⟨_,rfl⟩;have HAT:Hid (jY o s.rel (xu.take (j+1))=jY o s.rel (xu.take j)++[f]):=by show _=_;rw[hf];exact Nq o s.rel hlj
      have HFQ:Hid (f∈Hu (ag rs) xo xu):=by
       show _∈_;rw[hf];unfold Hu jY;refine VZ.2 ⟨o,by rw[HOQ.out];exact Vz hlq,VZ.2 ⟨s.key,HSM.out,VQ.2 ⟨xu[j],Vz hlj,rfl⟩⟩⟩
      have hout4:=HG2.out.len hol hE36 hul;obtain⟨adF4,capF4,rfl,hsF⟩:=sQ WV.out.row;have HSF4:=ax hsF;have f0:o.t=f.a:=by rw[hf]
      have f1:o.s=f.b:=by rw[hf]
      have f2:s.rel=f.r:=by rw[hf]
      have f3:xu[j].t=f.c:=by rw[hf]
      have f4:xu[j].s=f.d:=by rw[hf]
      have HEF:Hid (aj rows=aK (ag rs) f.a f.r):=by show _=_;rw[hf];exact HEX.out
      rw[f3]at y0;rw[f4]at y1;rw[f0]at o0;rw[f1]at o1;rw[f2]at s1;have hj1:=bq j;have hj2:(j:Int)<(xu.length:Int):=by omega
      subst hadU;clear hsF hf f0 f1 f2 f3 f4 s0 s2;obtain⟨W5,YG⟩:∃W5,W5=(wr.alloc (.cells #[.string f.a,.string f.b,.string f.r,.string f.c,.string f.d] 43)).drew:=⟨_,rfl⟩;have Yf:Hid (af wr W5):=by show Below _ _ _;rw[YG];exact((VD _ _).alloc (VC _) _).drew
      have g0:W5.cell? ⟨wr.heap.size,0,none⟩=some (.string f.a):=by rw[YG];simp
      have g1:W5.cell? ⟨wr.heap.size,1,none⟩=some (.string f.b):=by rw[YG];simp
      have g2:W5.cell? ⟨wr.heap.size,2,none⟩=some (.string f.r):=by rw[YG];simp
      have g3:W5.cell? ⟨wr.heap.size,3,none⟩=some (.string f.c):=by rw[YG];simp
      have g4:W5.cell? ⟨wr.heap.size,4,none⟩=some (.string f.d):=by rw[YG];simp
      have gl:wr.heap.size<W5.heap.size:=aM g0;have Xi:=ax (WV.out.below Yf.out);go_wp2_with fail
      go_region
      rw[<-YG];clear YG y0 y1 o0 o1 s1 hbU hbN hbO;go_wp2_with fail;refine(oq adF4 capF4 Xh f W5 (by omega) (HSF4.out.below Yf.out)).mono ?_;rintro e w6 ⟨rfl,hb6⟩;have Yq:=ax (Yf.out.trans (hb6.mono Yf.out.size));have XD:=ax (Xi.out.below hb6);replace g0:=bP hb6 gl g0;replace g1:=bP hb6 gl g1;replace g2:=bP hb6 gl g2;replace g3:=bP hb6 gl g3;replace g4:=bP hb6 gl g4;replace gl:=Vy gl hb6.size;have HHF:Hid (H Xh f=jG ts (aj rows) Xh f rows.length Xh (rows.length-1)):=by show _=_;rw[HH.out];unfold iY;rw[<-HEF.out,aZ]
      have HRS:Hid (bY H (sI sts xo xu (n:Int) q++kJ sts xu (n:Int) o p++jY o s.rel (xu.take (j+1))) out=fO H Xh f):=by show _=_;rw[HAT.out,<-V8,sw,<-HR.out]
      clear hb6 Yf Xi;cases hh:bR Xh f;case true=>
       have HR2:Hid (Xh=bY H (sI sts xo xu (n:Int) q++kJ sts xu (n:Int) o p++jY o s.rel (xu.take (j+1))) out):=by show _=_;rw[HRS.out,wu (.inl hh)]
       go_wp2;go_roundw;case rel=>exact⟨j+1,bb,Xh,by omega,rfl,by go_num,HR2,YK,XD,HG2⟩
       simp[intOf]<;>omega
      have HHH:=ax hh;have hwr:IntKind.i64.wrap ((rows.length:Int)-1)=((rows.length-1:Nat):Int):=by rw[IntKind.wrap_i64];omega
      have Xe:=ax (yu (.slice ad rs.length cap) WY cap' ts WW capE rows adF4 capF4 Xh f htl YZ.out (by omega) rows.length (rows.length-1) adF4 capF4 Xh w6 (by omega) (by omega) (by omega) ⟨HST.out.below XD.out.bel,HRF.out.sl (HS.out.below XD.out.bel),HSF4.out.below Yq.out,HSF4.out.below Yq.out⟩);clear hh;go_wp2_with fail;refine Xe.out.mono ?_;rintro e w7 ⟨he7,YL⟩;rw[<-HHF.out]at he7;subst he7;have YD:=ax (XD.out.below YL);replace g0:=bP YL gl g0;replace g1:=bP YL gl g1;replace g2:=bP YL gl g2;replace g3:=bP YL gl g3;replace g4:=bP YL gl g4;replace gl:=Vy gl YL.size;clear YL Xe XD Yq hwr;cases hv:H Xh f;case false=>
       have HR2:Hid (Xh=bY H (sI sts xo xu (n:Int) q++kJ sts xu (n:Int) o p++jY o s.rel (xu.take (j+1))) out):=by show _=_;rw[HRS.out,wu (.inr hv)]
       go_wp2;go_roundw;case rel=>exact⟨j+1,bb,Xh,by omega,rfl,by go_num,HR2,YK,YD,HG2⟩
       simp[intOf]<;>omega
      have HST2:Hid (fO H Xh f=Xh++[f]):=DR HHH.out hv;have HR2:Hid (Xh++[f]=bY H (sI sts xo xu (n:Int) q++kJ sts xu (n:Int) o p++jY o s.rel (xu.take (j+1))) out):=by show _=_;rw[HRS.out,HST2.out]
      have ZR:Hid (GoodO (ag rs) xo xu (Xh++[f])):=by
       have h1:=HG2.out.run (H:=H) (qs:=[f]) (fun g hg=>by
        rw[VK]at hg;subst hg;exact HFQ.out)
       rw[show bY H [f] Xh=fO H Xh f from rfl,HST2.out]at h1;exact h1
      have HBB2:Hid (true=decide (out.length<(Xh++[f]).length)):=by
       show _=_;have h1:=H5 H (sI sts xo xu (n:Int) q++kJ sts xu (n:Int) o p++jY o s.rel (xu.take j)) out;rw[<-HR.out]at h1;rw[VI];exact(decide_eq_true (by simp;omega)).symm
      obtain⟨W8,YV⟩:∃W8,W8=w7.alloc (.cells #[.string f.a,.string f.b,.string f.r,.string f.c,.string f.d] 43):=⟨_,rfl⟩;have HO8:Hid (OutI w W W8 (.slice adF4 Xh.length capF4) Xh):=by show OutI _ _ _ _ _;rw[YV];exact YD.out.below ((VD _ _).alloc (VC _) _)
      have HN8:Hid (∀j u,f.row[j]?=some u->W8.cell? ((⟨w7.heap.size,0,none⟩:Addr).add j)=some u):=by rw[YV];exact SS w7 f
      have hsz8:w.heap.size<=W8.heap.size:=HO8.out.bel.size;clear hv;go_wp2_with(at_builtin;rw[<-YV];clear YV;refine wpList_append_own_at _ rfl _ _ 34 rfl w.heap.size 43 iF (.agg #[.string ⟨#[]⟩,.string ⟨#[]⟩,.string ⟨#[]⟩,.string ⟨#[]⟩,.string ⟨#[]⟩]) 5 80 underlying34 HIF.out.1 HIF.out.2.1 HIF.out.2.2.1 HIF.out.2.2.2 rfl (by decide) _ Xh.length (fF Xh) rfl HO8.out.row ⟨w7.heap.size,0,none⟩ 1 1 f.row rfl rfl HN8.out (by simp[Fc.row,Value.oneCell']) (by unfold maxLen;omega) (by omega) hsz8 ?_);intro v' w9 hown hgr _ hat;have HO9:=ax (HO8.out.app hown hgr hat);clear hown hgr hat g0 g1 g2 g3 g4 gl;go_wp2;go_roundw;case rel=>exact⟨j+1,true,Xh++[f],by omega,rfl,by go_num,HR2,HBB2,HO9,ZR⟩
      simp[intOf]<;>omega
     have HR3:Hid (Xh=bY H (sI sts xo xu (n:Int) q++kJ sts xu (n:Int) o (p+1)) out):=by show _=_;rw[HKE.out,HR.out,show j=xu.length by omega,VP,V8]
     go_wp2;go_roundw;case rel=>exact⟨p+1,bb,Xh,by omega,rfl,by go_num,HR3,YK,WV,HG2⟩
     simp[intOf]<;>omega
    have hb1:(s.n==(n:Int))=false:=by simpa using hn2
    have hb2:decide (s.n=(n:Int))=false:=decide_eq_false hn2;have HKE:Hid (kJ sts xu (n:Int) o (p+1)=kJ sts xu (n:Int) o p):=HKN.out (by rw[hb2,Bool.and_false]);have Xm:∀nq,Hid (OutI w W (wr.drewN nq) u5 YM):=fun nq=>WV.out.below (below_drewN (VD _ _) nq);go_wp2_with fail;go_quiet (fail);go_wp2;go_roundw;case rel=>exact⟨p+1,bb,YM,by omega,rfl,by go_num,by rw[HKE.out];exact HR,YK,Xm _,HG2⟩
    simp[intOf]<;>omega
   have HR3:Hid (YM=bY H (sI sts xo xu (n:Int) (q+1)) out):=by show _=_;rw[HSU4.out,HR.out,show p=sts.length by omega]
   go_wp2;go_roundw;case rel=>exact⟨q+1,bb,YM,by omega,rfl,by go_num,HR3,YK,WV,HG2⟩
   simp[intOf]<;>omega
  have hout2:=HG2.out.len hol hE36 hul;have HRQ:Hid (WX=bY H (Q n) out):=by show _=_;rw[HR.out,<-HQI.out n,show q=xo.length by omega]
  obtain⟨ad2,cap2,rfl,-⟩:=sQ WV.out.row;have HLM2:Hid (oW H (Q n) WX=A (n+1)):=by show _=_;rw[HRQ.out,Cw];exact HLM.out
  have hbl:=H5 H (Q n) out;have HDN2:Hid (bb=false->bY H (Q n) WX=WX):=fun hb=>by
   have e:WX=out:=by
    rw[HRQ.out];refine Ki ?_;rw[<-HRQ.out,<-YK.out];exact hb
   rw[e];rw[HRQ.out]at e;exact e
  have hm:2*(200000-WX.length)+Vn (.bool bb)<2*(200000-out.length)+1:=by
   have h1:=YK.out;rw[<-HRQ.out]at hbl;cases bb;case true=>have:=of_decide_eq_true h1.symm;simp only[Vn];omega
   have:=of_decide_eq_false h1.symm;simp only[Vn];omega
  have HM:=ax hm;clear hm hbl;go_wp2;go_roundw;case rel=>exact⟨bb,WX,rfl,HLM2,HDN2,WV,HG2⟩
  exact HM.out
 have hne:n=sts.length+1:=by omega
 have WV:Hid (wr.ownsRow w.heap.size 43 5 u5 (rE st rs ts).length (fF (rE st rs ts))):=by
  show World.ownsRow _ _ _ _ _ _ _;rw[<-XG.out,<-hne];exact HO.out.row
 have HBE:=ax HO.out.bel;clear HO;go_wp2;go_ret;exact⟨⟨_,rfl,WV.out⟩,HBE.out⟩
end
end Go.Proofs.YtcgdckphpjfmhaaGreatDoor
