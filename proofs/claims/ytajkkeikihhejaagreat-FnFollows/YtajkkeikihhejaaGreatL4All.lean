/- All facts, as the document finds them: stratum by stratum, round by round. -/
import Derived.Test.YtajkkeikihhejaaGreatSq
import Derived.Test.YtajkkeikihhejaaGreatJ28
import Derived.Test.YtajkkeikihhejaaGreatJ23
import Derived.Test.YtajkkeikihhejaaGreatSpecSchema10
open Go.Proofs.Tryz
set_option maxHeartbeats 80000000
namespace Go.Proofs.YtajkkeikihhejaaGreat
set_option linter.unusedVariables false
set_option linter.unusedSectionVars false
set_option maxRecDepth 100000
open ChangeShapes WideShapes ChangeAt RowKit Maps
open Pl
theorem Ii{rs:Q06}(h:bu (ag rs)=true){k:Q01}(hk:k∈au (ag rs)):∃es,eG (ag rs) k.1 k.2=some es/\aL es=true:=by
 unfold au at hk;obtain⟨T,hT,hk⟩:=U8.1 hk;obtain⟨t,ht,rfl⟩:=U7.1 hT;unfold jL at hk;obtain⟨r,hr,rfl⟩:=U7.1 hk;obtain⟨q,hq,rfl⟩:=U7.1 hr;exact⟨ak q.rows,pz h ht hq,((bF h).2.2 t ht q hq).1⟩
theorem TU{wr W w':af}{b o1 o2:Nat}{x y:Value}(h:W.cell? ⟨b,o1,none⟩=some x/\W.cell? ⟨b,o2,none⟩=some y/\ae wr W)(hb:ae W w'):w'.cell? ⟨b,o1,none⟩=some x/\w'.cell? ⟨b,o2,none⟩=some y/\ae wr w' :=
 ⟨aJ hb (aF h.1) h.1,aJ hb (aF h.2.1) h.2.1,h.2.2.trans (hb.mono h.2.2.size)⟩
def pI[DecidableEq Fc](st:Q00)(rs:Q06)(ts:Q05):List Fc:=lJ (ag rs) ts st (dM ts) (bP ts) ((au (ag rs)).length+1)
section
variable  [DecidableEq Fc]
theorem kN(st:Q00)(rs:Q06)(ts:Q05)(xo xu:Q0a):∀N,GoodO (ag rs) xo xu (lJ (ag rs) ts st xo xu N)
 | 0=>⟨List.nodup_nil,fun g hg=>by cases hg⟩
 | N+1=>by
  refine⟨Dy _ _ _ _ _ _,fun g hg=>?_⟩;rw[jy]at hg;obtain⟨new,e,hn⟩:=xe (H:=fT (ag rs) ts) (df (ag rs) st xo xu (N:Int)) (l6 (df (ag rs) st xo xu (N:Int)) (lJ (ag rs) ts st xo xu N)+1) (lJ (ag rs) ts st xo xu N);unfold kH at hg;rw[e]at hg;rcases U6.1 hg with hg|hg
  ·exact(kN st rs ts xo xu N).sub g hg
  exact D6 (hn g hg)
theorem Eg(st:Q00)(ad:Q02)(cap:Nat)(rs:Q06)(We:Q02)(cap':Nat)(ts:Q05)(w:af)(hsp:cu (ag rs))(hle:Least (ag rs) st)(hs:kU w ad rs)(hl:∀r∈rs,r.light)(hlt:ts.length<=40)(hst:Sl w We ts):
  Calls prog 57 #[.slice ad rs.length cap,.slice We ts.length cap'] w fun e w'=>(∃v,e=.returned v/\w'.ownsRow w.heap.size 29 5 v (pI st rs ts).length (aA (pI st rs ts)))/\ae w w':=by
 obtain⟨iF,z0,z1,z2,z3⟩:=pq;have XN:=aG (And.intro z0 (And.intro z1 (And.intro z2 z3)));obtain⟨h6,X9,hsf⟩:=bF hsp.1;have HSP:=aG hsp;have WR:=aG hle;have HS:=aG hs;have HL:=aG hl;have HST:=aG hst;have Ze:=aG hsf;have XG:=aG X9;have HND:=aG (Kc hsp.1);have Yt:(au (ag rs)).length<=36:=wH h6 X9;have htl:ts.length<=1048576:=by omega
 obtain⟨W0,hW0⟩:∃W0,W0=w.alloc (.cells #[] 29):=⟨_,rfl⟩;have HB0:=mI hW0;have WP:Hid (W0.ownsRow w.heap.size 29 5 (.slice (some ⟨w.heap.size,0,none⟩) 0 0) 0 (aA [])):=by
  show World.ownsRow _ _ _ _ _ _ _;rw[hW0];exact World.ownsRow_lit w #[] 0 (UU _) (by unfold maxLen;omega) (by simp)
 have HNC:Hid ((∀o,W0.cell? ⟨w.heap.size,o,none⟩=none)/\w.heap.size<W0.heap.size):=by
  show _/\_;rw[hW0];exact⟨fun o=>by simp,by simp⟩
 clear hsp hle hs hl hst hsf X9 z0 z1 z2 z3;go_enter func57,ntmps57;go_wp2_with fail;rw[<-hW0];clear hW0;refine(sU We cap' ts false _ hlt (HST.out.below HB0.out)).mono ?_;rintro e w1 ⟨⟨vo,rfl,hvo⟩,hb1⟩;have HB1:=aG (HB0.out.trans (hb1.mono HB0.out.size));have HR1:=aG (aY WP.out hb1);have HN1:Hid ((∀o,w1.cell? ⟨w.heap.size,o,none⟩=none)/\w.heap.size<w1.heap.size):=⟨fun o=>(hb1.cell (p:=⟨w.heap.size,o,none⟩) HNC.out.2).trans (HNC.out.1 o),UT HNC.out.2 hb1.size⟩;obtain⟨X7,XM,rfl,hsO⟩:=kK hvo;have HSO:=aG hsO;clear hvo hb1 hsO HB0 WP HNC;go_wp2_with fail;refine(sU We cap' ts true _ hlt (HST.out.below HB1.out)).mono ?_;rintro e w2 ⟨⟨vu,rfl,hvu⟩,hb2⟩;have HB2:=aG (HB1.out.trans (hb2.mono HB1.out.size));have HR2:=aG (aY HR1.out hb2);have YG:Hid ((∀o,w2.cell? ⟨w.heap.size,o,none⟩=none)/\w.heap.size<w2.heap.size):=⟨fun o=>(hb2.cell (p:=⟨w.heap.size,o,none⟩) HN1.out.2).trans (HN1.out.1 o),UT HN1.out.2 hb2.size⟩;have HSO2:=aG (HSO.out.below hb2);obtain⟨Xc,Wn,rfl,hsU⟩:=kK hvu;have HSU:=aG hsU;clear hvu hb2 hsU HB1 HR1 HN1 HSO;go_wp2_with fail;refine(vk ad cap rs _ h6 (HS.out.below HB2.out) HL.out XG.out (fun r hr q hq=>(Ze.out r hr q hq).2) (jM HSP.out.2.1)).mono ?_;rintro e W ⟨hres,hb3⟩;rcases hres with⟨adN,capN,sts,rfl,hsN,hkN,hlN⟩|⟨-,hno⟩;rotate_left
 ·exact absurd HSP.out.2.2 hno
 have HK:=aG hkN;have Yu:=aG hlN;have HB3:=aG (HB2.out.trans (hb3.mono HB2.out.size));have HSN:=aG hsN;have HSO3:=aG (HSO2.out.below hb3);have HSU3:=aG (HSU.out.below hb3);have hsl:sts.length=(au (ag rs)).length:=by rw[<-hkN,iM,Vt]
 have hs36:sts.length<=36:=by omega
 have HSLE:=aG hsl;obtain⟨xo,hxo⟩:∃xo,xo=dM ts:=⟨_,rfl⟩;obtain⟨xu,hxu⟩:∃xu,xu=bP ts:=⟨_,rfl⟩;have n0:fP false ts=xo:=by rw[hxo];rfl
 have n1:fP true ts=xu:=by rw[hxu];rfl
 rw[n0]at HSO3;rw[n1]at HSU3;rw[n0,n1];have hol:xo.length<=80:=by have:=kr ts;rw[hxo];omega
 have Zt:xu.length<=40:=by have:=jh ts;rw[hxu];omega
 have HXO:=aG hxo;have HXU:=aG hxu;have ZT:Hid (OutI w W W (.slice (some ⟨w.heap.size,0,none⟩) 0 0) []):=⟨aY HR2.out hb3,fun _ _ _ h=>h,UU _,HB3.out,fun g hg o=>by
  have e:g=w.heap.size:=by simpa[Value.ownBlock] using hg.symm
  rw[e];exact(hb3.cell (p:=⟨w.heap.size,o,none⟩) YG.out.2).trans (YG.out.1 o)⟩
 clear hsN hkN hlN hb3 HB2 HR2 YG HSO2 HSU n0 n1 hxo hxu hsl XG;obtain⟨H,hH⟩:∃H,H=fT (ag rs) ts:=⟨_,rfl⟩;obtain⟨A,hA⟩:∃A:Nat->List Fc,A=lJ (ag rs) ts (fQ sts) xo xu:=⟨_,rfl⟩;obtain⟨Q,hQ⟩:∃Q:Nat->List Fc,Q=fun(n:Nat)=>df (ag rs) (fQ sts) xo xu (n:Int):=⟨_,rfl⟩;have HA1:Hid (∀n,A (n+1)=kH H (Q n) (A n)):=fun n=>by rw[hA,hH,hQ];exact jy _ _ _ _ _ _
 have HAG:Hid (∀n,GoodO (ag rs) xo xu (A n)):=fun n=>by rw[hA];exact kN _ _ _ _ _ n
 have HQS:Hid (∀n,∀g∈Q n,g∈BM (ag rs) xo xu):=fun n g hg=>by rw[hQ]at hg;exact D6 hg
 have HQI:Hid (∀n:Nat,sI sts xo xu (n:Int) xo.length=Q n):=fun n=>by rw[hQ];exact Qp HK.out HND.out xo xu n
 have WK:Hid (A (sts.length+1)=pI st rs ts):=by
  show _=_;rw[hA,HSLE.out,HXO.out,HXU.out];exact si (fun k hk=>Yu.out.same WR.out k hk) _
 have HA0:Hid (A 0=[]):=by show _=_;rw[hA];rfl
 have HH:=aG hH;clear hH hA hQ;go_wp2;go_loopw[5,10] (fun v i wr=>∃(n:Nat),n<=sts.length+1/\i=.int .i64 n/\Hid (OutI w W wr v (A n))) (fun _ i _=>sts.length+1-(intOf i).toNat);case atStart=>exact⟨0,UY _,rfl,by rw[HA0.out];exact ZT⟩
 clear ZT;obtain⟨n,hn,rfl,HO⟩:=hrel;by_cases hlt1:n<=sts.length
 ·go_wp2;go_loopw[5,11] (fun v m wr=>∃(bb:Bool) (out:Q04),m=.bool bb/\Hid (kH H (Q n) out=A (n+1))/\Hid (bb=false->bR H (Q n) out=out)/\Hid (OutI w W wr v out)/\Hid (GoodO (ag rs) xo xu out)) (fun v m _=>2*(200000-TE v)+UK m);case atStart=>exact⟨true,A n,rfl,(HA1.out n).symm,(fun h=>by cases h),HO,HAG.out n⟩
  clear HO;obtain⟨bb,out,rfl,HLM,HDN,HO,HG⟩:=hrel;have hout:=HG.out.len hol Yt Zt;obtain⟨WX,Wi,rfl,-⟩:=iP HO.out.row;cases bb;case false=>
   have V7:Hid (OutI w W wr (.slice WX out.length Wi) (A (n+1))):=by
    show OutI _ _ _ _ _;rw[<-HLM.out,wZ (HDN.out rfl)];exact HO.out
   go_wp2;go_roundw;case rel=>exact⟨n+1,by omega,by go_num,V7⟩
   simp[intOf]<;>omega
  go_wp2;go_loopw[5,11,12] (fun v m i wr=>∃(q:Nat) (bb:Bool) (Wd:Q04),q<=xo.length/\m=.bool bb/\i=.int .i64 q/\Hid (Wd=bR H (sI sts xo xu (n:Int) q) out)/\Hid (bb=decide (out.length<Wd.length))/\Hid (OutI w W wr v Wd)/\Hid (GoodO (ag rs) xo xu Wd)) (fun _ _ i _=>xo.length-(intOf i).toNat);case atStart=>exact⟨0,false,out,UY _,rfl,rfl,rfl,(decide_eq_false (Nat.lt_irrefl _)).symm,HO,HG⟩
  clear HO;obtain⟨q,bb,Wd,hq,rfl,rfl,HR,Ya,V7,HG2⟩:=hrel;by_cases hlq:q<xo.length
  ·have HSU4:=aG (Nr (sts:=sts) (xu:=xu) (n:=(n:Int)) hlq);obtain⟨o,ho⟩:∃o,o=xo[q]:=⟨_,rfl⟩;rw[<-ho]at HSU4;have HOQ:=aG ho;clear ho;go_wp2;go_loopw[5,11,13] (fun v m i wr=>∃(p:Nat) (bb:Bool) (Yd:Q04),p<=sts.length/\m=.bool bb/\i=.int .i64 p/\Hid (Yd=bR H (sI sts xo xu (n:Int) q++kM sts xu (n:Int) o p) out)/\Hid (bb=decide (out.length<Yd.length))/\Hid (OutI w W wr v Yd)/\Hid (GoodO (ag rs) xo xu Yd)) (fun _ _ i _=>sts.length-(intOf i).toNat);case atStart=>exact⟨0,bb,Wd,UY _,rfl,rfl,by show _=_;rw[Nq,VK];exact HR.out,Ya,V7,HG2⟩
   clear V7 HR Ya HG2;obtain⟨p,bb,Yd,hp,rfl,rfl,HR,Ya,V7,HG2⟩:=hrel;by_cases hlp:p<sts.length
   ·obtain⟨bN,offN,hadN,⟨s0,s1,s2⟩,hbN⟩:=I5.at0 (HSN.out.keepC V7.out.size V7.out.keep) hlp;obtain⟨bO,WT,Zh,⟨o0,o1⟩,hbO⟩:=lq.at0 (HSO3.out.keepC V7.out.size V7.out.keep) hlq;rw[<-HOQ.out]at o0 o1;obtain⟨s,hsp⟩:∃s,s=sts[p]:=⟨_,rfl⟩;have HKN:Hid ((s.typ.toList==o.t.toList&&decide (s.n=(n:Int)))=false->kM sts xu (n:Int) o (p+1)=kM sts xu (n:Int) o p):=fun h=>RU hlp (by rw[<-hsp];exact h);have HKY:Hid ((s.typ.toList==o.t.toList&&decide (s.n=(n:Int)))=true->kM sts xu (n:Int) o (p+1)=kM sts xu (n:Int) o p++jg o s.rel xu):=fun h=>by rw[Qo hlp (by rw[<-hsp];exact h),<-hsp]
    rw[<-hsp]at s0 s1 s2;have HSM:Hid (s.key∈au (ag rs)):=by show _∈_;rw[<-HK.out,hsp];exact Vp (UR hlp)
    have Yv:=aG hsp;have hq1:=bG q;have hq2:(q:Int)<(xo.length:Int):=by omega
    have hp1:=bG p;have hp2:(p:Int)<(sts.length:Int):=by omega
    subst hadN;subst Zh;clear hsp;cases ht:(s.typ.toList==o.t.toList);case false=>
     have Z4:Hid (kM sts xu (n:Int) o (p+1)=kM sts xu (n:Int) o p):=HKN.out (by rw[ht];rfl);have Ww:∀nq,Hid (OutI w W (wr.drewN nq) u5 Yd):=fun nq=>V7.out.below (below_drewN (UV _ _) nq);go_wp2_with fail;go_quiet (fail);go_wp2;go_roundw;case rel=>exact⟨p+1,bb,Yd,by omega,rfl,by go_num,by rw[Z4.out];exact HR,Ya,Ww _,HG2⟩
     simp[intOf]<;>omega
    by_cases hn2:s.n=(n:Int)
    ·have hb1:(s.n==(n:Int))=true:=by simpa using hn2
     have Z4:=aG (HKY.out (by rw[ht,hn2];simp));have HTO:Hid (s.typ=o.t):=fE.1 ht;have hb2:decide (s.n=(n:Int))=true:=decide_eq_true hn2;replace hn2:Hid (s.n=(n:Int)):=hn2;have HREL:Hid (∀W':World,(W'.cell? ⟨bN,offN+p*3,none⟩=some (.string s.typ)/\W'.cell? ⟨bN,offN+p*3+1,none⟩=some (.string s.rel)/\ae wr W')->Calls prog 97 #[.slice ad rs.length cap,.string s.typ,.string s.rel] W' fun e w'=>(∃(rows:Q08) (V5:Q02) (capE:Nat),e=.returned (.slice V5 rows.length capE)/\ak rows=aB (ag rs) s.typ s.rel/\nQ rs V5 rows)/\ae W' w'):=fun W' h=>by
      refine(iK ad cap rs s.typ s.rel W' (by omega) (HS.out.below (V7.out.bel.trans (h.2.2.mono V7.out.bel.size))) HL.out).mono ?_;rintro e w' ⟨⟨rows,V5,capE,he,hx,-,hf⟩,rfl⟩;exact⟨⟨rows,V5,capE,he,hx,hf⟩,UV _ _⟩
     go_wp2_with fail;go_quiet (fail);go_wp2_with fail
     go_region_held3 (fun w'=>w'.cell? ⟨bN,offN+p*3,none⟩=some (.string s.typ)/\w'.cell? ⟨bN,offN+p*3+1,none⟩=some (.string s.rel)/\ae wr w')
      (first|assumption|exact TU (by assumption) hbx|exact⟨s0,s1,Below.drew (below_drewN (UV _ _) _)⟩)
      (first|(go_at_call 97;refine(HREL.out _ (by assumption)).mono ?_;rintro e w' ⟨⟨rows,V5,capE,rfl,hrx,hrf⟩,hbx⟩))
     rename_i hH;have Wo:=aG (V7.out.below hH.2.2);have HEX:Hid (ak rows=aB (ag rs) o.t s.rel):=by show _=_;rw[hrx,HTO.out]
     obtain⟨Xu,hr1⟩:Hid (XZ rows)/\1<=rows.length:=by
      obtain⟨es,e1,e2⟩:=Ii HSP.out.1 HSM.out;have e3:ak rows=es:=by
       rw[hrx];unfold aB;show(eG (ag rs) s.key.1 s.key.2).getD []=es;rw[e1];rfl
      rw[<-e3]at e2;exact zn e2
     have HRF:=aG hrf;have ZX:=Xu.out.len;clear hH hbx hrx hrf HREL s0 s1 s2 o0 o1 hb1 hb2 V7 HTO hbN hbO;go_wp2;go_loopw[5,11,15] (fun v m i wr=>∃(j:Nat) (bb:Bool) (Wt:Q04),j<=xu.length/\m=.bool bb/\i=.int .i64 j/\Hid (Wt=bR H (sI sts xo xu (n:Int) q++kM sts xu (n:Int) o p++jg o s.rel (xu.take j)) out)/\Hid (bb=decide (out.length<Wt.length))/\Hid (OutI w W wr v Wt)/\Hid (GoodO (ag rs) xo xu Wt)) (fun _ _ i _=>xu.length-(intOf i).toNat);case atStart=>exact⟨0,bb,Yd,UY _,rfl,rfl,by show _=_;rw[List.take_zero];show _=bR H (_++[]) out;rw[VK];exact HR.out,Ya,Wo,HG2⟩
     clear Wo HR Ya HG2;obtain⟨j,bb,Wt,hj,rfl,rfl,HR,Ya,V7,HG2⟩:=hrel;by_cases hlj:j<xu.length
     ·obtain⟨bU,offU,hadU,⟨y0,y1⟩,hbU⟩:=lq.at0 (HSU3.out.keepC V7.out.size V7.out.keep) hlj;obtain⟨bN',offN',hadN',⟨s0,s1,s2⟩,hbN⟩:=I5.at0 (HSN.out.keepC V7.out.size V7.out.keep) hlp;obtain⟨bO',offO',hadO',⟨o0,o1⟩,hbO⟩:=lq.at0 (HSO3.out.keepC V7.out.size V7.out.keep) hlq;injection hadN' with hadN';injection hadN' with e1 e2;subst e1;subst e2;injection hadO' with hadO';injection hadO' with e1 e2;subst e1;subst e2;rw[<-HOQ.out]at o0 o1;rw[<-Yv.out]at s0 s1 s2;obtain⟨f,hf⟩:∃f:Fc,f=⟨o.t,o.s,s.rel,xu[j].t,xu[j].s⟩:=⟨_,rfl⟩;have HAT:Hid (jg o s.rel (xu.take (j+1))=jg o s.rel (xu.take j)++[f]):=by show _=_;rw[hf];exact Ns o s.rel hlj
      have HFQ:Hid (f∈BM (ag rs) xo xu):=by
       show _∈_;rw[hf];unfold BM jg;refine U8.2 ⟨o,by rw[HOQ.out];exact UR hlq,U8.2 ⟨s.key,HSM.out,U7.2 ⟨xu[j],UR hlj,rfl⟩⟩⟩
      have hout4:=HG2.out.len hol Yt Zt;obtain⟨adF4,capF4,rfl,hsF⟩:=iP V7.out.row;have HSF4:=aG hsF;have f0:o.t=f.a:=by rw[hf]
      have f1:o.s=f.b:=by rw[hf]
      have f2:s.rel=f.r:=by rw[hf]
      have f3:xu[j].t=f.c:=by rw[hf]
      have f4:xu[j].s=f.d:=by rw[hf]
      have HEF:Hid (ak rows=aB (ag rs) f.a f.r):=by show _=_;rw[hf];exact HEX.out
      rw[f3]at y0;rw[f4]at y1;rw[f0]at o0;rw[f1]at o1;rw[f2]at s1;have hj1:=bG j;have hj2:(j:Int)<(xu.length:Int):=by omega
      subst hadU;clear hsF hf f0 f1 f2 f3 f4 s0 s2;obtain⟨W5,WL⟩:∃W5,W5=(wr.alloc (.cells #[.string f.a,.string f.b,.string f.r,.string f.c,.string f.d] 29)).drew:=⟨_,rfl⟩;have WM:Hid (ae wr W5):=by show Below _ _ _;rw[WL];exact((UV _ _).alloc (UU _) _).drew
      have g0:W5.cell? ⟨wr.heap.size,0,none⟩=some (.string f.a):=by rw[WL];simp
      have g1:W5.cell? ⟨wr.heap.size,1,none⟩=some (.string f.b):=by rw[WL];simp
      have g2:W5.cell? ⟨wr.heap.size,2,none⟩=some (.string f.r):=by rw[WL];simp
      have g3:W5.cell? ⟨wr.heap.size,3,none⟩=some (.string f.c):=by rw[WL];simp
      have g4:W5.cell? ⟨wr.heap.size,4,none⟩=some (.string f.d):=by rw[WL];simp
      have gl:wr.heap.size<W5.heap.size:=aF g0;have Wm:=aG (V7.out.below WM.out);go_wp2_with fail
      go_region
      rw[<-WL];clear WL y0 y1 o0 o1 s1 hbU hbN hbO;go_wp2_with fail;refine(rU adF4 capF4 Wt f W5 (by omega) (HSF4.out.below WM.out)).mono ?_;rintro e w6 ⟨rfl,hb6⟩;have YF:=aG (WM.out.trans (hb6.mono WM.out.size));have WY:=aG (Wm.out.below hb6);replace g0:=aJ hb6 gl g0;replace g1:=aJ hb6 gl g1;replace g2:=aJ hb6 gl g2;replace g3:=aJ hb6 gl g3;replace g4:=aJ hb6 gl g4;replace gl:=UT gl hb6.size;have HHF:Hid (H Wt f=di ts (ak rows) Wt f rows.length Wt (rows.length-1)):=by show _=_;rw[HH.out];unfold fT;rw[<-HEF.out,aQ]
      have HRS:Hid (bR H (sI sts xo xu (n:Int) q++kM sts xu (n:Int) o p++jg o s.rel (xu.take (j+1))) out=eF H Wt f):=by show _=_;rw[HAT.out,<-Vm,sj,<-HR.out]
      clear hb6 WM Wm;cases hh:bB Wt f;case true=>
       have HR2:Hid (Wt=bR H (sI sts xo xu (n:Int) q++kM sts xu (n:Int) o p++jg o s.rel (xu.take (j+1))) out):=by show _=_;rw[HRS.out,wJ (.inl hh)]
       go_wp2;go_roundw;case rel=>exact⟨j+1,bb,Wt,by omega,rfl,by go_num,HR2,Ya,WY,HG2⟩
       simp[intOf]<;>omega
      have HHH:=aG hh;have hwr:IntKind.i64.wrap ((rows.length:Int)-1)=((rows.length-1:Nat):Int):=by rw[IntKind.wrap_i64];omega
      have Xw:=aG (qZ (.slice ad rs.length cap) We cap' ts V5 capE rows adF4 capF4 Wt f htl Xu.out (by omega) rows.length (rows.length-1) adF4 capF4 Wt w6 (by omega) (by omega) (by omega) ⟨HST.out.below WY.out.bel,HRF.out.sl (HS.out.below WY.out.bel),HSF4.out.below YF.out,HSF4.out.below YF.out⟩);clear hh;go_wp2_with fail;refine Xw.out.mono ?_;rintro e w7 ⟨he7,ZU⟩;rw[<-HHF.out]at he7;subst he7;have Yf:=aG (WY.out.below ZU);replace g0:=aJ ZU gl g0;replace g1:=aJ ZU gl g1;replace g2:=aJ ZU gl g2;replace g3:=aJ ZU gl g3;replace g4:=aJ ZU gl g4;replace gl:=UT gl ZU.size;clear ZU Xw WY YF hwr;cases hv:H Wt f;case false=>
       have HR2:Hid (Wt=bR H (sI sts xo xu (n:Int) q++kM sts xu (n:Int) o p++jg o s.rel (xu.take (j+1))) out):=by show _=_;rw[HRS.out,wJ (.inr hv)]
       go_wp2;go_roundw;case rel=>exact⟨j+1,bb,Wt,by omega,rfl,by go_num,HR2,Ya,Yf,HG2⟩
       simp[intOf]<;>omega
      have HST2:Hid (eF H Wt f=Wt++[f]):=Ea HHH.out hv;have HR2:Hid (Wt++[f]=bR H (sI sts xo xu (n:Int) q++kM sts xu (n:Int) o p++jg o s.rel (xu.take (j+1))) out):=by show _=_;rw[HRS.out,HST2.out]
      have Za:Hid (GoodO (ag rs) xo xu (Wt++[f])):=by
       have h1:=HG2.out.run (H:=H) (qs:=[f]) (fun g hg=>by
        rw[U4]at hg;subst hg;exact HFQ.out)
       rw[show bR H [f] Wt=eF H Wt f from rfl,HST2.out]at h1;exact h1
      have ZR:Hid (true=decide (out.length<(Wt++[f]).length)):=by
       show _=_;have h1:=H7 H (sI sts xo xu (n:Int) q++kM sts xu (n:Int) o p++jg o s.rel (xu.take j)) out;rw[<-HR.out]at h1;rw[U2];exact(decide_eq_true (by simp;omega)).symm
      obtain⟨W8,Yg⟩:∃W8,W8=w7.alloc (.cells #[.string f.a,.string f.b,.string f.r,.string f.c,.string f.d] 29):=⟨_,rfl⟩;have HO8:Hid (OutI w W W8 (.slice adF4 Wt.length capF4) Wt):=by show OutI _ _ _ _ _;rw[Yg];exact Yf.out.below ((UV _ _).alloc (UU _) _)
      have HN8:Hid (∀j u,f.row[j]?=some u->W8.cell? ((⟨w7.heap.size,0,none⟩:Addr).add j)=some u):=by rw[Yg];exact wC w7 f
      have hsz8:w.heap.size<=W8.heap.size:=HO8.out.bel.size;clear hv;go_wp2_with(at_builtin;rw[<-Yg];clear Yg;refine wpList_append_own_at _ rfl _ _ 40 rfl w.heap.size 29 iF (.agg #[.string ⟨#[]⟩,.string ⟨#[]⟩,.string ⟨#[]⟩,.string ⟨#[]⟩,.string ⟨#[]⟩]) 5 80 underlying40 XN.out.1 XN.out.2.1 XN.out.2.2.1 XN.out.2.2.2 rfl (by decide) _ Wt.length (aA Wt) rfl HO8.out.row ⟨w7.heap.size,0,none⟩ 1 1 f.row rfl rfl HN8.out (by simp[Fc.row,Value.oneCell']) (by unfold maxLen;omega) (by omega) hsz8 ?_);intro v' w9 hown hgr _ hat;have HO9:=aG (HO8.out.app hown hgr hat);clear hown hgr hat g0 g1 g2 g3 g4 gl;go_wp2;go_roundw;case rel=>exact⟨j+1,true,Wt++[f],by omega,rfl,by go_num,HR2,ZR,HO9,Za⟩
      simp[intOf]<;>omega
     have HR3:Hid (Wt=bR H (sI sts xo xu (n:Int) q++kM sts xu (n:Int) o (p+1)) out):=by show _=_;rw[Z4.out,HR.out,show j=xu.length by omega,Va,Vm]
     go_wp2;go_roundw;case rel=>exact⟨p+1,bb,Wt,by omega,rfl,by go_num,HR3,Ya,V7,HG2⟩
     simp[intOf]<;>omega
    have hb1:(s.n==(n:Int))=false:=by simpa using hn2
    have hb2:decide (s.n=(n:Int))=false:=decide_eq_false hn2;have Z4:Hid (kM sts xu (n:Int) o (p+1)=kM sts xu (n:Int) o p):=HKN.out (by rw[hb2,Bool.and_false]);have Ww:∀nq,Hid (OutI w W (wr.drewN nq) u5 Yd):=fun nq=>V7.out.below (below_drewN (UV _ _) nq);go_wp2_with fail;go_quiet (fail);go_wp2;go_roundw;case rel=>exact⟨p+1,bb,Yd,by omega,rfl,by go_num,by rw[Z4.out];exact HR,Ya,Ww _,HG2⟩
    simp[intOf]<;>omega
   have HR3:Hid (Yd=bR H (sI sts xo xu (n:Int) (q+1)) out):=by show _=_;rw[HSU4.out,HR.out,show p=sts.length by omega]
   go_wp2;go_roundw;case rel=>exact⟨q+1,bb,Yd,by omega,rfl,by go_num,HR3,Ya,V7,HG2⟩
   simp[intOf]<;>omega
  have hout2:=HG2.out.len hol Yt Zt;have HRQ:Hid (Wd=bR H (Q n) out):=by show _=_;rw[HR.out,<-HQI.out n,show q=xo.length by omega]
  obtain⟨ad2,cap2,rfl,-⟩:=iP V7.out.row;have HLM2:Hid (kH H (Q n) Wd=A (n+1)):=by show _=_;rw[HRQ.out,CW];exact HLM.out
  have hbl:=H7 H (Q n) out;have HDN2:Hid (bb=false->bR H (Q n) Wd=Wd):=fun hb=>by
   have e:Wd=out:=by
    rw[HRQ.out];refine Ki ?_;rw[<-HRQ.out,<-Ya.out];exact hb
   rw[e];rw[HRQ.out]at e;exact e
  have hm:2*(200000-Wd.length)+UK (.bool bb)<2*(200000-out.length)+1:=by
   have h1:=Ya.out;rw[<-HRQ.out]at hbl;cases bb;case true=>have:=of_decide_eq_true h1.symm;simp only[UK];omega
   have:=of_decide_eq_false h1.symm;simp only[UK];omega
  have HM:=aG hm;clear hm hbl;go_wp2;go_roundw;case rel=>exact⟨bb,Wd,rfl,HLM2,HDN2,V7,HG2⟩
  exact HM.out
 have hne:n=sts.length+1:=by omega
 have V7:Hid (wr.ownsRow w.heap.size 29 5 u5 (pI st rs ts).length (aA (pI st rs ts))):=by
  show World.ownsRow _ _ _ _ _ _ _;rw[<-WK.out,<-hne];exact HO.out.row
 have ZW:=aG HO.out.bel;clear HO;go_wp2;go_ret;exact⟨⟨_,rfl,V7.out⟩,ZW.out⟩
end
end Go.Proofs.YtajkkeikihhejaaGreat
