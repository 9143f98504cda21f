/- All facts, as the document finds them: stratum by stratum, round by round. -/
import Derived.Test.YtajkkeikihhejaaGreatSq
import Derived.Test.YtajkkeikihhejaaGreatJ18
open Go.Proofs.Tryz
set_option maxHeartbeats 80000000
namespace Go.Proofs.YtajkkeikihhejaaGreat
set_option linter.unusedVariables false
set_option linter.unusedSectionVars false
set_option maxRecDepth 100000
open ChangeShapes WideShapes ChangeAt RowKit Maps
open Pl
theorem Iy{rs:Q06}(h:bq (ag rs)=true){k:Q01}(hk:k∈au (ag rs)):∃es,eD (ag rs) k.1 k.2=some es/\aN es=true:=by
 unfold au at hk;obtain⟨T,hT,hk⟩:=Vp.1 hk;obtain⟨t,ht,rfl⟩:=Vo.1 hT;unfold jN at hk;obtain⟨r,hr,rfl⟩:=Vo.1 hk;obtain⟨q,hq,rfl⟩:=Vo.1 hr;exact⟨ak q.rows,pU h ht hq,((bG h).2.2 t ht q hq).1⟩
theorem Ue{wr W w':af}{b o1 o2:Nat}{x y:Value}(h:W.cell? ⟨b,o1,none⟩=some x/\W.cell? ⟨b,o2,none⟩=some y/\ae wr W)(hb:ae W w'):w'.cell? ⟨b,o1,none⟩=some x/\w'.cell? ⟨b,o2,none⟩=some y/\ae wr w' :=
 ⟨aI hb (aC h.1) h.1,aI hb (aC h.2.1) h.2.1,h.2.2.trans (hb.mono h.2.2.size)⟩
def pY[DecidableEq Fc](st:Q00)(rs:Q06)(ts:Q05):List Fc:=lY (ag rs) ts st (dN ts) (bQ ts) ((au (ag rs)).length+1)
section
variable  [DecidableEq Fc]
theorem kZ(st:Q00)(rs:Q06)(ts:Q05)(xo xu:Q0a):∀N,GoodO (ag rs) xo xu (lY (ag rs) ts st xo xu N)
 | 0=>⟨List.nodup_nil,fun g hg=>by cases hg⟩
 | N+1=>by
  refine⟨Dy _ _ _ _ _ _,fun g hg=>?_⟩;rw[jy]at hg;obtain⟨new,e,hn⟩:=xG (H:=fU (ag rs) ts) (cZ (ag rs) st xo xu (N:Int)) (mJ (cZ (ag rs) st xo xu (N:Int)) (lY (ag rs) ts st xo xu N)+1) (lY (ag rs) ts st xo xu N);unfold kU at hg;rw[e]at hg;rcases Vn.1 hg with hg|hg
  ·exact(kZ st rs ts xo xu N).sub g hg
  exact Ej (hn g hg)
theorem sK(st:Q00)(ad:Q02)(cap:Nat)(rs:Q06)(Wv:Q02)(cap':Nat)(ts:Q05)(w:af)(hsp:cz (ag rs))(hle:Least (ag rs) st)(hs:j5 w ad rs)(hl:∀r∈rs,r.light)(hlt:ts.length<=40)(hst:Sl w Wv ts):
  Calls prog 57 #[.slice ad rs.length cap,.slice Wv ts.length cap'] w fun e w'=>(∃v,e=.returned v/\w'.ownsRow w.heap.size 29 5 v (pY st rs ts).length (av (pY st rs ts)))/\ae w w':=by
 obtain⟨iF,z0,z1,z2,z3⟩:=pQ;have Zo:=aH (And.intro z0 (And.intro z1 (And.intro z2 z3)));obtain⟨h6,Yr,hsf⟩:=bG hsp.1;have HSP:=aH hsp;have Xl:=aH hle;have HS:=aH hs;have HL:=aH hl;have HST:=aH hst;have HSF:=aH hsf;have Yw:=aH Yr;have HND:=aH (Kj hsp.1);have YO:(au (ag rs)).length<=36:=wR h6 Yr;have htl:ts.length<=1048576:=by omega
 obtain⟨W0,hW0⟩:∃W0,W0=w.alloc (.cells #[] 29):=⟨_,rfl⟩;have HB0:=mi hW0;have WU:Hid (W0.ownsRow w.heap.size 29 5 (.slice (some ⟨w.heap.size,0,none⟩) 0 0) 0 (av [])):=by
  show World.ownsRow _ _ _ _ _ _ _;rw[hW0];exact World.ownsRow_lit w #[] 0 (Va _) (by unfold maxLen;omega) (by simp)
 have HNC:Hid ((∀o,W0.cell? ⟨w.heap.size,o,none⟩=none)/\w.heap.size<W0.heap.size):=by
  show _/\_;rw[hW0];exact⟨fun o=>by simp,by simp⟩
 clear hsp hle hs hl hst hsf Yr z0 z1 z2 z3;go_enter func57,ntmps57;go_wp2_with fail;rw[<-hW0];clear hW0;refine(tN Wv cap' ts false _ hlt (HST.out.below HB0.out)).mono ?_;rintro e w1 ⟨⟨vo,rfl,hvo⟩,hb1⟩;have HB1:=aH (HB0.out.trans (hb1.mono HB0.out.size));have HR1:=aH (bu WU.out hb1);have HN1:Hid ((∀o,w1.cell? ⟨w.heap.size,o,none⟩=none)/\w.heap.size<w1.heap.size):=⟨fun o=>(hb1.cell (p:=⟨w.heap.size,o,none⟩) HNC.out.2).trans (HNC.out.1 o),U9 HNC.out.2 hb1.size⟩;obtain⟨Yp,Yc,rfl,hsO⟩:=kV hvo;have HSO:=aH hsO;clear hvo hb1 hsO HB0 WU HNC;go_wp2_with fail;refine(tN Wv cap' ts true _ hlt (HST.out.below HB1.out)).mono ?_;rintro e w2 ⟨⟨vu,rfl,hvu⟩,hb2⟩;have HB2:=aH (HB1.out.trans (hb2.mono HB1.out.size));have HR2:=aH (bu HR1.out hb2);have Yy:Hid ((∀o,w2.cell? ⟨w.heap.size,o,none⟩=none)/\w.heap.size<w2.heap.size):=⟨fun o=>(hb2.cell (p:=⟨w.heap.size,o,none⟩) HN1.out.2).trans (HN1.out.1 o),U9 HN1.out.2 hb2.size⟩;have HSO2:=aH (HSO.out.below hb2);obtain⟨Xw,WH,rfl,hsU⟩:=kV hvu;have YS:=aH hsU;clear hvu hb2 hsU HB1 HR1 HN1 HSO;go_wp2_with fail;refine(wC ad cap rs _ h6 (HS.out.below HB2.out) HL.out Yw.out (fun r hr q hq=>(HSF.out r hr q hq).2) (jO HSP.out.2.1)).mono ?_;rintro e W ⟨hres,hb3⟩;rcases hres with⟨adN,capN,sts,rfl,hsN,hkN,hlN⟩|⟨-,hno⟩;rotate_left
 ·exact absurd HSP.out.2.2 hno
 have HK:=aH hkN;have YQ:=aH hlN;have HB3:=aH (HB2.out.trans (hb3.mono HB2.out.size));have HSN:=aH hsN;have HSO3:=aH (HSO2.out.below hb3);have HSU3:=aH (YS.out.below hb3);have hsl:sts.length=(au (ag rs)).length:=by rw[<-hkN,iU,VN]
 have hs36:sts.length<=36:=by omega
 have HSLE:=aH hsl;obtain⟨xo,hxo⟩:∃xo,xo=dN ts:=⟨_,rfl⟩;obtain⟨xu,hxu⟩:∃xu,xu=bQ ts:=⟨_,rfl⟩;have n0:fO false ts=xo:=by rw[hxo];rfl
 have n1:fO true ts=xu:=by rw[hxu];rfl
 rw[n0]at HSO3;rw[n1]at HSU3;rw[n0,n1];have hol:xo.length<=80:=by have:=kD ts;rw[hxo];omega
 have ZV:xu.length<=40:=by have:=jm ts;rw[hxu];omega
 have HXO:=aH hxo;have HXU:=aH hxu;have HOUT:Hid (OutI w W W (.slice (some ⟨w.heap.size,0,none⟩) 0 0) []):=⟨bu HR2.out hb3,fun _ _ _ h=>h,Va _,HB3.out,fun g hg o=>by
  have e:g=w.heap.size:=by simpa[Value.ownBlock] using hg.symm
  rw[e];exact(hb3.cell (p:=⟨w.heap.size,o,none⟩) Yy.out.2).trans (Yy.out.1 o)⟩
 clear hsN hkN hlN hb3 HB2 HR2 Yy HSO2 YS n0 n1 hxo hxu hsl Yw;obtain⟨H,hH⟩:∃H,H=fU (ag rs) ts:=⟨_,rfl⟩;obtain⟨A,hA⟩:∃A:Nat->List Fc,A=lY (ag rs) ts (fT sts) xo xu:=⟨_,rfl⟩;obtain⟨Q,hQ⟩:∃Q:Nat->List Fc,Q=fun(n:Nat)=>cZ (ag rs) (fT sts) xo xu (n:Int):=⟨_,rfl⟩;have HA1:Hid (∀n,A (n+1)=kU H (Q n) (A n)):=fun n=>by rw[hA,hH,hQ];exact jy _ _ _ _ _ _
 have HAG:Hid (∀n,GoodO (ag rs) xo xu (A n)):=fun n=>by rw[hA];exact kZ _ _ _ _ _ n
 have HQS:Hid (∀n,∀g∈Q n,g∈BU (ag rs) xo xu):=fun n g hg=>by rw[hQ]at hg;exact Ej hg
 have HQI:Hid (∀n:Nat,sU sts xo xu (n:Int) xo.length=Q n):=fun n=>by rw[hQ];exact QB HK.out HND.out xo xu n
 have Xc:Hid (A (sts.length+1)=pY st rs ts):=by
  show _=_;rw[hA,HSLE.out,HXO.out,HXU.out];exact sI (fun k hk=>YQ.out.same Xl.out k hk) _
 have HA0:Hid (A 0=[]):=by show _=_;rw[hA];rfl
 have HH:=aH hH;clear hH hA hQ;go_wp2;go_loopw[5,10] (fun v i wr=>∃(n:Nat),n<=sts.length+1/\i=.int .i64 n/\Hid (OutI w W wr v (A n))) (fun _ i _=>sts.length+1-(intOf i).toNat);case atStart=>exact⟨0,Vf _,rfl,by rw[HA0.out];exact HOUT⟩
 clear HOUT;obtain⟨n,hn,rfl,HO⟩:=hrel;by_cases hlt1:n<=sts.length
 ·go_wp2;go_loopw[5,11] (fun v m wr=>∃(bb:Bool) (out:Q04),m=.bool bb/\Hid (kU H (Q n) out=A (n+1))/\Hid (bb=false->bZ H (Q n) out=out)/\Hid (OutI w W wr v out)/\Hid (GoodO (ag rs) xo xu out)) (fun v m _=>2*(200000-TS v)+U2 m);case atStart=>exact⟨true,A n,rfl,(HA1.out n).symm,(fun h=>by cases h),HO,HAG.out n⟩
  clear HO;obtain⟨bb,out,rfl,HLM,HDN,HO,HG⟩:=hrel;have hout:=HG.out.len hol YO ZV;obtain⟨Xq,WC,rfl,-⟩:=gI HO.out.row;cases bb;case false=>
   have Wu:Hid (OutI w W wr (.slice Xq out.length WC) (A (n+1))):=by
    show OutI _ _ _ _ _;rw[<-HLM.out,xE (HDN.out rfl)];exact HO.out
   go_wp2;go_roundw;case rel=>exact⟨n+1,by omega,by go_num,Wu⟩
   simp[intOf]<;>omega
  go_wp2;go_loopw[5,11,12] (fun v m i wr=>∃(q:Nat) (bb:Bool) (Wy:Q04),q<=xo.length/\m=.bool bb/\i=.int .i64 q/\Hid (Wy=bZ H (sU sts xo xu (n:Int) q) out)/\Hid (bb=decide (out.length<Wy.length))/\Hid (OutI w W wr v Wy)/\Hid (GoodO (ag rs) xo xu Wy)) (fun _ _ i _=>xo.length-(intOf i).toNat);case atStart=>exact⟨0,false,out,Vf _,rfl,rfl,rfl,(decide_eq_false (Nat.lt_irrefl _)).symm,HO,HG⟩
  clear HO;obtain⟨q,bb,Wy,hq,rfl,rfl,HR,Yq,Wu,HG2⟩:=hrel;by_cases hlq:q<xo.length
  ·have HSU4:=aH (NA (sts:=sts) (xu:=xu) (n:=(n:Int)) hlq);obtain⟨o,ho⟩:∃o,o=xo[q]:=⟨_,rfl⟩;rw[<-ho]at HSU4;have HOQ:=aH ho;clear ho;go_wp2;go_loopw[5,11,13] (fun v m i wr=>∃(p:Nat) (bb:Bool) (Yv:Q04),p<=sts.length/\m=.bool bb/\i=.int .i64 p/\Hid (Yv=bZ H (sU sts xo xu (n:Int) q++kY sts xu (n:Int) o p) out)/\Hid (bb=decide (out.length<Yv.length))/\Hid (OutI w W wr v Yv)/\Hid (GoodO (ag rs) xo xu Yv)) (fun _ _ i _=>sts.length-(intOf i).toNat);case atStart=>exact⟨0,bb,Wy,Vf _,rfl,rfl,by show _=_;rw[Nz,V4];exact HR.out,Yq,Wu,HG2⟩
   clear Wu HR Yq HG2;obtain⟨p,bb,Yv,hp,rfl,rfl,HR,Yq,Wu,HG2⟩:=hrel;by_cases hlp:p<sts.length
   ·obtain⟨bN,offN,hadN,⟨s0,s1,s2⟩,hbN⟩:=I6.at0 (HSN.out.keepC Wu.out.size Wu.out.keep) hlp;obtain⟨bO,Xn,ZW,⟨o0,o1⟩,hbO⟩:=lK.at0 (HSO3.out.keepC Wu.out.size Wu.out.keep) hlq;rw[<-HOQ.out]at o0 o1;obtain⟨s,hsp⟩:∃s,s=sts[p]:=⟨_,rfl⟩;have HKN:Hid ((s.typ.toList==o.t.toList&&decide (s.n=(n:Int)))=false->kY sts xu (n:Int) o (p+1)=kY sts xu (n:Int) o p):=fun h=>Si hlp (by rw[<-hsp];exact h);have HKY:Hid ((s.typ.toList==o.t.toList&&decide (s.n=(n:Int)))=true->kY sts xu (n:Int) o (p+1)=kY sts xu (n:Int) o p++jl o s.rel xu):=fun h=>by rw[QA hlp (by rw[<-hsp];exact h),<-hsp]
    rw[<-hsp]at s0 s1 s2;have HSM:Hid (s.key∈au (ag rs)):=by show _∈_;rw[<-HK.out,hsp];exact VK (U8 hlp)
    have Yx:=aH hsp;have hq1:=bC q;have hq2:(q:Int)<(xo.length:Int):=by omega
    have hp1:=bC p;have hp2:(p:Int)<(sts.length:Int):=by omega
    subst hadN;subst ZW;clear hsp;cases ht:(s.typ.toList==o.t.toList);case false=>
     have HKE:Hid (kY sts xu (n:Int) o (p+1)=kY sts xu (n:Int) o p):=HKN.out (by rw[ht];rfl);have WO:∀nq,Hid (OutI w W (wr.drewN nq) u5 Yv):=fun nq=>Wu.out.below (below_drewN (Vb _ _) nq);go_wp2_with fail;go_quiet (fail);go_wp2;go_roundw;case rel=>exact⟨p+1,bb,Yv,by omega,rfl,by go_num,by rw[HKE.out];exact HR,Yq,WO _,HG2⟩
     simp[intOf]<;>omega
    by_cases hn2:s.n=(n:Int)
    ·have hb1:(s.n==(n:Int))=true:=by simpa using hn2
     have HKE:=aH (HKY.out (by rw[ht,hn2];simp));have HTO:Hid (s.typ=o.t):=fD.1 ht;have hb2:decide (s.n=(n:Int))=true:=decide_eq_true hn2;replace hn2:Hid (s.n=(n:Int)):=hn2;have HREL:Hid (∀W':World,(W'.cell? ⟨bN,offN+p*3,none⟩=some (.string s.typ)/\W'.cell? ⟨bN,offN+p*3+1,none⟩=some (.string s.rel)/\ae wr W')->Calls prog 97 #[.slice ad rs.length cap,.string s.typ,.string s.rel] W' fun e w'=>(∃(rows:Q08) (Ws:Q02) (capE:Nat),e=.returned (.slice Ws rows.length capE)/\ak rows=aB (ag rs) s.typ s.rel/\nY rs Ws rows)/\ae W' w'):=fun W' h=>by
      refine(iM ad cap rs s.typ s.rel W' (by omega) (HS.out.below (Wu.out.bel.trans (h.2.2.mono Wu.out.bel.size))) HL.out).mono ?_;rintro e w' ⟨⟨rows,Ws,capE,he,hx,-,hf⟩,rfl⟩;exact⟨⟨rows,Ws,capE,he,hx,hf⟩,Vb _ _⟩
     go_wp2_with fail;go_quiet (fail);go_wp2_with fail
     go_region_held3 (fun w'=>w'.cell? ⟨bN,offN+p*3,none⟩=some (.string s.typ)/\w'.cell? ⟨bN,offN+p*3+1,none⟩=some (.string s.rel)/\ae wr w')
      (first|assumption|exact Ue (by assumption) hbx|exact⟨s0,s1,Below.drew (below_drewN (Vb _ _) _)⟩)
      (first|(go_at_call 97;refine(HREL.out _ (by assumption)).mono ?_;rintro e w' ⟨⟨rows,Ws,capE,rfl,hrx,hrf⟩,hbx⟩))
     rename_i hH;have WG:=aH (Wu.out.below hH.2.2);have HEX:Hid (ak rows=aB (ag rs) o.t s.rel):=by show _=_;rw[hrx,HTO.out]
     obtain⟨XI,hr1⟩:Hid (Ym rows)/\1<=rows.length:=by
      obtain⟨es,e1,e2⟩:=Iy HSP.out.1 HSM.out;have e3:ak rows=es:=by
       rw[hrx];unfold aB;show(eD (ag rs) s.key.1 s.key.2).getD []=es;rw[e1];rfl
      rw[<-e3]at e2;exact zC e2
     have HRF:=aH hrf;have hr1000:=XI.out.len;clear hH hbx hrx hrf HREL s0 s1 s2 o0 o1 hb1 hb2 Wu HTO hbN hbO;go_wp2;go_loopw[5,11,15] (fun v m i wr=>∃(j:Nat) (bb:Bool) (WN:Q04),j<=xu.length/\m=.bool bb/\i=.int .i64 j/\Hid (WN=bZ H (sU sts xo xu (n:Int) q++kY sts xu (n:Int) o p++jl o s.rel (xu.take j)) out)/\Hid (bb=decide (out.length<WN.length))/\Hid (OutI w W wr v WN)/\Hid (GoodO (ag rs) xo xu WN)) (fun _ _ i _=>xu.length-(intOf i).toNat);case atStart=>exact⟨0,bb,Yv,Vf _,rfl,rfl,by show _=_;rw[List.take_zero];show _=bZ H (_++[]) out;rw[V4];exact HR.out,Yq,WG,HG2⟩
     clear WG HR Yq HG2;obtain⟨j,bb,WN,hj,rfl,rfl,HR,Yq,Wu,HG2⟩:=hrel;by_cases hlj:j<xu.length
     ·obtain⟨bU,offU,hadU,⟨y0,y1⟩,hbU⟩:=lK.at0 (HSU3.out.keepC Wu.out.size Wu.out.keep) hlj;obtain⟨bN',offN',hadN',⟨s0,s1,s2⟩,hbN⟩:=I6.at0 (HSN.out.keepC Wu.out.size Wu.out.keep) hlp;obtain⟨bO',offO',hadO',⟨o0,o1⟩,hbO⟩:=lK.at0 (HSO3.out.keepC Wu.out.size Wu.out.keep) hlq;injection hadN' with hadN';injection hadN' with e1 e2;subst e1;subst e2;injection hadO' with hadO';injection hadO' with e1 e2;subst e1;subst e2;rw[<-HOQ.out]at o0 o1;rw[<-Yx.out]at s0 s1 s2;obtain⟨f,hf⟩:∃f:Fc,f=⟨o.t,o.s,s.rel,xu[j].t,xu[j].s⟩:=⟨_,rfl⟩;have HAT:Hid (jl o s.rel (xu.take (j+1))=jl o s.rel (xu.take j)++[f]):=by show _=_;rw[hf];exact NC o s.rel hlj
      have HFQ:Hid (f∈BU (ag rs) xo xu):=by
       show _∈_;rw[hf];unfold BU jl;refine Vp.2 ⟨o,by rw[HOQ.out];exact U8 hlq,Vp.2 ⟨s.key,HSM.out,Vo.2 ⟨xu[j],U8 hlj,rfl⟩⟩⟩
      have hout4:=HG2.out.len hol YO ZV;obtain⟨adF4,capF4,rfl,hsF⟩:=gI Wu.out.row;have HSF4:=aH hsF;have f0:o.t=f.a:=by rw[hf]
      have f1:o.s=f.b:=by rw[hf]
      have f2:s.rel=f.r:=by rw[hf]
      have f3:xu[j].t=f.c:=by rw[hf]
      have f4:xu[j].s=f.d:=by rw[hf]
      have HEF:Hid (ak rows=aB (ag rs) f.a f.r):=by show _=_;rw[hf];exact HEX.out
      rw[f3]at y0;rw[f4]at y1;rw[f0]at o0;rw[f1]at o1;rw[f2]at s1;have hj1:=bC j;have hj2:(j:Int)<(xu.length:Int):=by omega
      subst hadU;clear hsF hf f0 f1 f2 f3 f4 s0 s2;obtain⟨W5,Yb⟩:∃W5,W5=(wr.alloc (.cells #[.string f.a,.string f.b,.string f.r,.string f.c,.string f.d] 29)).drew:=⟨_,rfl⟩;have WZ:Hid (ae wr W5):=by show Below _ _ _;rw[Yb];exact((Vb _ _).alloc (Va _) _).drew
      have g0:W5.cell? ⟨wr.heap.size,0,none⟩=some (.string f.a):=by rw[Yb];simp
      have g1:W5.cell? ⟨wr.heap.size,1,none⟩=some (.string f.b):=by rw[Yb];simp
      have g2:W5.cell? ⟨wr.heap.size,2,none⟩=some (.string f.r):=by rw[Yb];simp
      have g3:W5.cell? ⟨wr.heap.size,3,none⟩=some (.string f.c):=by rw[Yb];simp
      have g4:W5.cell? ⟨wr.heap.size,4,none⟩=some (.string f.d):=by rw[Yb];simp
      have gl:wr.heap.size<W5.heap.size:=aC g0;have WF:=aH (Wu.out.below WZ.out);go_wp2_with fail
      go_region
      rw[<-Yb];clear Yb y0 y1 o0 o1 s1 hbU hbN hbO;go_wp2_with fail;refine(oz adF4 capF4 WN f W5 (by omega) (HSF4.out.below WZ.out)).mono ?_;rintro e w6 ⟨rfl,hb6⟩;have Ye:=aH (WZ.out.trans (hb6.mono WZ.out.size));have Xy:=aH (WF.out.below hb6);replace g0:=aI hb6 gl g0;replace g1:=aI hb6 gl g1;replace g2:=aI hb6 gl g2;replace g3:=aI hb6 gl g3;replace g4:=aI hb6 gl g4;replace gl:=U9 gl hb6.size;have HHF:Hid (H WN f=dh ts (ak rows) WN f rows.length WN (rows.length-1)):=by show _=_;rw[HH.out];unfold fU;rw[<-HEF.out,aR]
      have HRS:Hid (bZ H (sU sts xo xu (n:Int) q++kY sts xu (n:Int) o p++jl o s.rel (xu.take (j+1))) out=dV H WN f):=by show _=_;rw[HAT.out,<-VD,sJ,<-HR.out]
      clear hb6 WZ WF;cases hh:bB WN f;case true=>
       have HR2:Hid (WN=bZ H (sU sts xo xu (n:Int) q++kY sts xu (n:Int) o p++jl o s.rel (xu.take (j+1))) out):=by show _=_;rw[HRS.out,wY (.inl hh)]
       go_wp2;go_roundw;case rel=>exact⟨j+1,bb,WN,by omega,rfl,by go_num,HR2,Yq,Xy,HG2⟩
       simp[intOf]<;>omega
      have HHH:=aH hh;have hwr:IntKind.i64.wrap ((rows.length:Int)-1)=((rows.length-1:Nat):Int):=by rw[IntKind.wrap_i64];omega
      have XQ:=aH (rE (.slice ad rs.length cap) Wv cap' ts Ws capE rows adF4 capF4 WN f htl XI.out (by omega) rows.length (rows.length-1) adF4 capF4 WN w6 (by omega) (by omega) (by omega) ⟨HST.out.below Xy.out.bel,HRF.out.sl (HS.out.below Xy.out.bel),HSF4.out.below Ye.out,HSF4.out.below Ye.out⟩);clear hh;go_wp2_with fail;refine XQ.out.mono ?_;rintro e w7 ⟨he7,Z0⟩;rw[<-HHF.out]at he7;subst he7;have Y8:=aH (Xy.out.below Z0);replace g0:=aI Z0 gl g0;replace g1:=aI Z0 gl g1;replace g2:=aI Z0 gl g2;replace g3:=aI Z0 gl g3;replace g4:=aI Z0 gl g4;replace gl:=U9 gl Z0.size;clear Z0 XQ Xy Ye hwr;cases hv:H WN f;case false=>
       have HR2:Hid (WN=bZ H (sU sts xo xu (n:Int) q++kY sts xu (n:Int) o p++jl o s.rel (xu.take (j+1))) out):=by show _=_;rw[HRS.out,wY (.inr hv)]
       go_wp2;go_roundw;case rel=>exact⟨j+1,bb,WN,by omega,rfl,by go_num,HR2,Yq,Y8,HG2⟩
       simp[intOf]<;>omega
      have HST2:Hid (dV H WN f=WN++[f]):=Es HHH.out hv;have HR2:Hid (WN++[f]=bZ H (sU sts xo xu (n:Int) q++kY sts xu (n:Int) o p++jl o s.rel (xu.take (j+1))) out):=by show _=_;rw[HRS.out,HST2.out]
      have ZC:Hid (GoodO (ag rs) xo xu (WN++[f])):=by
       have h1:=HG2.out.run (H:=H) (qs:=[f]) (fun g hg=>by
        rw[Vl]at hg;subst hg;exact HFQ.out)
       rw[show bZ H [f] WN=dV H WN f from rfl,HST2.out]at h1;exact h1
      have HBB2:Hid (true=decide (out.length<(WN++[f]).length)):=by
       show _=_;have h1:=Il H (sU sts xo xu (n:Int) q++kY sts xu (n:Int) o p++jl o s.rel (xu.take j)) out;rw[<-HR.out]at h1;rw[Vh];exact(decide_eq_true (by simp;omega)).symm
      obtain⟨W8,YE⟩:∃W8,W8=w7.alloc (.cells #[.string f.a,.string f.b,.string f.r,.string f.c,.string f.d] 29):=⟨_,rfl⟩;have HO8:Hid (OutI w W W8 (.slice adF4 WN.length capF4) WN):=by show OutI _ _ _ _ _;rw[YE];exact Y8.out.below ((Vb _ _).alloc (Va _) _)
      have HN8:Hid (∀j u,f.row[j]?=some u->W8.cell? ((⟨w7.heap.size,0,none⟩:Addr).add j)=some u):=by rw[YE];exact wM w7 f
      have hsz8:w.heap.size<=W8.heap.size:=HO8.out.bel.size;clear hv;go_wp2_with(at_builtin;rw[<-YE];clear YE;refine wpList_append_own_at _ rfl _ _ 40 rfl w.heap.size 29 iF (.agg #[.string ⟨#[]⟩,.string ⟨#[]⟩,.string ⟨#[]⟩,.string ⟨#[]⟩,.string ⟨#[]⟩]) 5 80 underlying40 Zo.out.1 Zo.out.2.1 Zo.out.2.2.1 Zo.out.2.2.2 rfl (by decide) _ WN.length (av WN) rfl HO8.out.row ⟨w7.heap.size,0,none⟩ 1 1 f.row rfl rfl HN8.out (by simp[Fc.row,Value.oneCell']) (by unfold maxLen;omega) (by omega) hsz8 ?_);intro v' w9 hown hgr _ hat;have Zp:=aH (HO8.out.app hown hgr hat);clear hown hgr hat g0 g1 g2 g3 g4 gl;go_wp2;go_roundw;case rel=>exact⟨j+1,true,WN++[f],by omega,rfl,by go_num,HR2,HBB2,Zp,ZC⟩
      simp[intOf]<;>omega
     have HR3:Hid (WN=bZ H (sU sts xo xu (n:Int) q++kY sts xu (n:Int) o (p+1)) out):=by show _=_;rw[HKE.out,HR.out,show j=xu.length by omega,Vs,VD]
     go_wp2;go_roundw;case rel=>exact⟨p+1,bb,WN,by omega,rfl,by go_num,HR3,Yq,Wu,HG2⟩
     simp[intOf]<;>omega
    have hb1:(s.n==(n:Int))=false:=by simpa using hn2
    have hb2:decide (s.n=(n:Int))=false:=decide_eq_false hn2;have HKE:Hid (kY sts xu (n:Int) o (p+1)=kY sts xu (n:Int) o p):=HKN.out (by rw[hb2,Bool.and_false]);have WO:∀nq,Hid (OutI w W (wr.drewN nq) u5 Yv):=fun nq=>Wu.out.below (below_drewN (Vb _ _) nq);go_wp2_with fail;go_quiet (fail);go_wp2;go_roundw;case rel=>exact⟨p+1,bb,Yv,by omega,rfl,by go_num,by rw[HKE.out];exact HR,Yq,WO _,HG2⟩
    simp[intOf]<;>omega
   have HR3:Hid (Yv=bZ H (sU sts xo xu (n:Int) (q+1)) out):=by show _=_;rw[HSU4.out,HR.out,show p=sts.length by omega]
   go_wp2;go_roundw;case rel=>exact⟨q+1,bb,Yv,by omega,rfl,by go_num,HR3,Yq,Wu,HG2⟩
   simp[intOf]<;>omega
  have hout2:=HG2.out.len hol YO ZV;have HRQ:Hid (Wy=bZ H (Q n) out):=by show _=_;rw[HR.out,<-HQI.out n,show q=xo.length by omega]
  obtain⟨ad2,cap2,rfl,-⟩:=gI Wu.out.row;have HLM2:Hid (kU H (Q n) Wy=A (n+1)):=by show _=_;rw[HRQ.out,Dv];exact HLM.out
  have hbl:=Il H (Q n) out;have HDN2:Hid (bb=false->bZ H (Q n) Wy=Wy):=fun hb=>by
   have e:Wy=out:=by
    rw[HRQ.out];refine Kv ?_;rw[<-HRQ.out,<-Yq.out];exact hb
   rw[e];rw[HRQ.out]at e;exact e
  have hm:2*(200000-Wy.length)+U2 (.bool bb)<2*(200000-out.length)+1:=by
   have h1:=Yq.out;rw[<-HRQ.out]at hbl;cases bb;case true=>have:=of_decide_eq_true h1.symm;simp only[U2];omega
   have:=of_decide_eq_false h1.symm;simp only[U2];omega
  have HM:=aH hm;clear hm hbl;go_wp2;go_roundw;case rel=>exact⟨bb,Wy,rfl,HLM2,HDN2,Wu,HG2⟩
  exact HM.out
 have hne:n=sts.length+1:=by omega
 have Wu:Hid (wr.ownsRow w.heap.size 29 5 u5 (pY st rs ts).length (av (pY st rs ts))):=by
  show World.ownsRow _ _ _ _ _ _ _;rw[<-Xc.out,<-hne];exact HO.out.row
 have YM:=aH HO.out.bel;clear HO;go_wp2;go_ret;exact⟨⟨_,rfl,Wu.out⟩,YM.out⟩
end
end Go.Proofs.YtajkkeikihhejaaGreat
