/- All facts, as the document finds them: stratum by stratum, round by round. -/
import Derived.Test.YtajkkeikihhejaaGreatSq
import Derived.Test.YtajkkeikihhejaaGreatJ29
import Derived.Test.YtajkkeikihhejaaGreatSpecSchema10
open Go.Proofs.Tryz
set_option maxHeartbeats 80000000
namespace Go.Proofs.YtajkkeikihhejaaGreat
set_option linter.unusedVariables false
set_option linter.unusedSectionVars false
set_option maxRecDepth 100000
open Go.ChangeShapes Go.WideShapes Go.ChangeAt Go.RowKit Go.Maps
open Pl
theorem Hf {rs:List TR} (h:bi (ae rs)=true) {k:ByteArray × ByteArray} (hk:k ∈ ak (ae rs)):∃ es,fI (ae rs) k.1 k.2=some es∧aK es=true:=by
 unfold ak at hk;obtain ⟨T,hT,hk⟩:=Uf.1 hk;obtain ⟨t,ht,rfl⟩:=Ue.1 hT;unfold jG at hk;obtain ⟨r,hr,rfl⟩:=Ue.1 hk;obtain ⟨q,hq,rfl⟩:=Ue.1 hr;exact ⟨aj q.rows,pE h ht hq,((bq h).2.2 t ht q hq).1⟩
theorem SS {wr W w':af} {b o1 o2:Nat} {x y:Value} (h:W.cell? ⟨b,o1,none⟩=some x∧W.cell? ⟨b,o2,none⟩=some y∧ag wr W) (hb:ag W w'):w'.cell? ⟨b,o1,none⟩=some x∧w'.cell? ⟨b,o2,none⟩=some y∧ag wr w' :=
 ⟨bf hb (aF h.1) h.1,bf hb (aF h.2.1) h.2.1,h.2.2.trans (hb.mono h.2.2.size)⟩
def qX [DecidableEq Fc] (st:ByteArray × ByteArray→Int) (rs:List TR) (ts:List Tp):List Fc:=ma (ae rs) ts st (eB ts) (cZ ts) ((ak (ae rs)).length + 1)
section
variable [DecidableEq Fc]
theorem kF (st:ByteArray × ByteArray→Int) (rs:List TR) (ts:List Tp) (xo xu:List Al):∀ N,GoodO (ae rs) xo xu (ma (ae rs) ts st xo xu N)
 | 0=>⟨List.nodup_nil,fun g hg=>by cases hg⟩
 | N + 1=>by
  refine ⟨CY _ _ _ _ _ _,fun g hg=>?_⟩;rw [jl] at hg;obtain ⟨new,e,hn⟩:=wy (H:=fC (ae rs) ts) (bY (ae rs) st xo xu (N:Int)) (lY (bY (ae rs) st xo xu (N:Int)) (ma (ae rs) ts st xo xu N) + 1) (ma (ae rs) ts st xo xu N);unfold kr at hg;rw [e] at hg;rcases Uc.1 hg with hg | hg
  ·exact (kF st rs ts xo xu N).sub g hg
  exact Dq (hn g hg)
theorem DI (st:ByteArray × ByteArray→Int) (ad:Option Addr) (cap:Nat) (rs:List TR) (UJ:Option Addr) (cap':Nat) (ts:List Tp) (w:af) (hsp:bR (ae rs)) (hle:Least (ae rs) st) (hs:kW w ad rs) (hl:∀ r ∈ rs,r.light) (hlt:ts.length≤40) (hst:Sl w UJ ts) :
  Calls prog 57 #[.slice ad rs.length cap,.slice UJ ts.length cap'] w fun e w'=>(∃ v,e=.returned v∧w'.ownsRow w.heap.size 29 5 v (qX st rs ts).length (aH (qX st rs ts)))∧ag w w':=by
 obtain ⟨iF,z0,z1,z2,z3⟩:=Et;have HIF:=aD (And.intro z0 (And.intro z1 (And.intro z2 z3)));obtain ⟨h6,Wd,hsf⟩:=bq hsp.1;have HSP:=aD hsp;have Vj:=aD hle;have HS:=aD hs;have HL:=aD hl;have HST:=aD hst;have Y7:=aD hsf;have V5:=aD Wd;have HND:=aD (JA hsp.1);have Yk:(ak (ae rs)).length≤36:=yK h6 Wd;have htl:ts.length≤1048576:=by omega
 obtain ⟨W0,hW0⟩:∃ W0,W0=w.alloc (.cells #[] 29):=⟨_,rfl⟩;have HB0:=qY hW0;have Vg:Hid (W0.ownsRow w.heap.size 29 5 (.slice (some ⟨w.heap.size,0,none⟩) 0 0) 0 (aH [])):=by
  show World.ownsRow _ _ _ _ _ _ _;rw [hW0];exact World.ownsRow_lit w #[] 0 (TS _) (by unfold maxLen; omega) (by simp)
 have HNC:Hid ((∀ o,W0.cell? ⟨w.heap.size,o,none⟩=none)∧w.heap.size < W0.heap.size):=by
  show _∧_;rw [hW0];exact ⟨fun o=>by simp,by simp⟩
 clear hsp hle hs hl hst hsf Wd z0 z1 z2 z3;go_enter func57,ntmps57;go_wp2_with fail;rw [← hW0];clear hW0;refine (sj UJ cap' ts false _ hlt (HST.out.below HB0.out)).mono ?_;rintro e w1 ⟨⟨vo,rfl,hvo⟩,hb1⟩;have HB1:=aD (HB0.out.trans (hb1.mono HB0.out.size));have HR1:=aD (cO Vg.out hb1);have HN1:Hid ((∀ o,w1.cell? ⟨w.heap.size,o,none⟩=none)∧w.heap.size < w1.heap.size):=⟨fun o=>(hb1.cell (p:=⟨w.heap.size,o,none⟩) HNC.out.2).trans (HNC.out.1 o),TP HNC.out.2 hb1.size⟩;obtain ⟨V7,VT,rfl,hsO⟩:=kC hvo;have HSO:=aD hsO;clear hvo hb1 hsO HB0 Vg HNC;go_wp2_with fail;refine (sj UJ cap' ts true _ hlt (HST.out.below HB1.out)).mono ?_;rintro e w2 ⟨⟨vu,rfl,hvu⟩,hb2⟩;have HB2:=aD (HB1.out.trans (hb2.mono HB1.out.size));have HR2:=aD (cO HR1.out hb2);have VY:Hid ((∀ o,w2.cell? ⟨w.heap.size,o,none⟩=none)∧w.heap.size < w2.heap.size):=⟨fun o=>(hb2.cell (p:=⟨w.heap.size,o,none⟩) HN1.out.2).trans (HN1.out.1 o),TP HN1.out.2 hb2.size⟩;have HSO2:=aD (HSO.out.below hb2);obtain ⟨Vq,UM,rfl,hsU⟩:=kC hvu;have Zu:=aD hsU;clear hvu hb2 hsU HB1 HR1 HN1 HSO;go_wp2_with fail;refine (uS ad cap rs _ h6 (HS.out.below HB2.out) HL.out V5.out (fun r hr q hq=>(Y7.out r hr q hq).2) (kw HSP.out.2.1)).mono ?_;rintro e W ⟨hres,hb3⟩;rcases hres with ⟨adN,capN,sts,rfl,hsN,hkN,hlN⟩ | ⟨-,hno⟩;rotate_left
 ·exact absurd HSP.out.2.2 hno
 have HK:=aD hkN;have WG:=aD hlN;have HB3:=aD (HB2.out.trans (hb3.mono HB2.out.size));have HSN:=aD hsN;have HSO3:=aD (HSO2.out.below hb3);have HSU3:=aD (Zu.out.below hb3);have hsl:sts.length=(ak (ae rs)).length:=by rw [← hkN,iE,Uy]
 have hs36:sts.length≤36:=by omega
 have HSLE:=aD hsl;obtain ⟨xo,hxo⟩:∃ xo,xo=eB ts:=⟨_,rfl⟩;obtain ⟨xu,hxu⟩:∃ xu,xu=cZ ts:=⟨_,rfl⟩;have n0:fM false ts=xo:=by rw [hxo]; rfl
 have n1:fM true ts=xu:=by rw [hxu]; rfl
 rw [n0] at HSO3;rw [n1] at HSU3;rw [n0,n1];have hol:xo.length≤80:=by have:=oz ts; rw [hxo]; omega
 have XX:xu.length≤40:=by have:=mr ts; rw [hxu]; omega
 have ZO:=aD hxo;have HXU:=aD hxu;have Yc:Hid (OutI w W W (.slice (some ⟨w.heap.size,0,none⟩) 0 0) []):=⟨cO HR2.out hb3,fun _ _ _ h=>h,TS _,HB3.out,fun g hg o=>by
  have e:g=w.heap.size:=by simpa [Value.ownBlock] using hg.symm
  rw [e]; exact (hb3.cell (p:=⟨w.heap.size,o,none⟩) VY.out.2).trans (VY.out.1 o)⟩
 clear hsN hkN hlN hb3 HB2 HR2 VY HSO2 Zu n0 n1 hxo hxu hsl V5;obtain ⟨H,hH⟩:∃ H,H=fC (ae rs) ts:=⟨_,rfl⟩;obtain ⟨A,hA⟩:∃ A:Nat→List Fc,A=ma (ae rs) ts (fO sts) xo xu:=⟨_,rfl⟩;obtain ⟨Q,hQ⟩:∃ Q:Nat→List Fc,Q=fun (n:Nat)=>bY (ae rs) (fO sts) xo xu (n:Int):=⟨_,rfl⟩;have HA1:Hid (∀ n,A (n + 1)=kr H (Q n) (A n)):=fun n=>by rw [hA,hH,hQ]; exact jl _ _ _ _ _ _
 have HAG:Hid (∀ n,GoodO (ae rs) xo xu (A n)):=fun n=>by rw [hA]; exact kF _ _ _ _ _ n
 have HQS:Hid (∀ n,∀ g ∈ Q n,g ∈ BI (ae rs) xo xu):=fun n g hg=>by rw [hQ] at hg; exact Dq hg
 have HQI:Hid (∀ n:Nat,rW sts xo xu (n:Int) xo.length=Q n):=fun n=>by rw [hQ]; exact PQ HK.out HND.out xo xu n
 have U6:Hid (A (sts.length + 1)=qX st rs ts):=by
  show _=_;rw [hA,HSLE.out,ZO.out,HXU.out];exact wT (fun k hk=>WG.out.same Vj.out k hk) _
 have HA0:Hid (A 0=[]):=by show _=_; rw [hA]; rfl
 have HH:=aD hH;clear hH hA hQ;go_wp2;go_loopw [5,10] (fun v i wr=>∃ (n:Nat),n≤sts.length + 1∧i=.int .i64 n∧Hid (OutI w W wr v (A n))) (fun _ i _=>sts.length + 1 - (intOf i).toNat);case atStart=>exact ⟨0,TW _,rfl,by rw [HA0.out]; exact Yc⟩
 clear Yc;obtain ⟨n,hn,rfl,HO⟩:=hrel;by_cases hlt1:n≤sts.length
 ·go_wp2;go_loopw [5,11] (fun v m wr=>∃ (bb:Bool) (out:List Fc),m=.bool bb∧Hid (kr H (Q n) out=A (n + 1))∧Hid (bb=false→bF H (Q n) out=out)∧Hid (OutI w W wr v out)∧Hid (GoodO (ae rs) xo xu out)) (fun v m _=>2 * (200000 - Sn v) + TG m);case atStart=>exact ⟨true,A n,rfl,(HA1.out n).symm,(fun h=>by cases h),HO,HAG.out n⟩
  clear HO;obtain ⟨bb,out,rfl,HLM,YN,HO,HG⟩:=hrel;have hout:=HG.out.len hol Yk XX;obtain ⟨XU,Vr,rfl,-⟩:=mW HO.out.row;cases bb;case false=>
   have UB:Hid (OutI w W wr (.slice XU out.length Vr) (A (n + 1))):=by
    show OutI _ _ _ _ _;rw [← HLM.out,ww (YN.out rfl)]; exact HO.out
   go_wp2;go_roundw;case rel=>exact ⟨n + 1,by omega,by go_num,UB⟩
   simp [intOf] <;> omega
  go_wp2;go_loopw [5,11,12] (fun v m i wr=>∃ (q:Nat) (bb:Bool) (UE:List Fc),q≤xo.length∧m=.bool bb∧i=.int .i64 q∧Hid (UE=bF H (rW sts xo xu (n:Int) q) out)∧Hid (bb=decide (out.length < UE.length))∧Hid (OutI w W wr v UE)∧Hid (GoodO (ae rs) xo xu UE)) (fun _ _ i _=>xo.length - (intOf i).toNat);case atStart=>exact ⟨0,false,out,TW _,rfl,rfl,rfl,(decide_eq_false (Nat.lt_irrefl _)).symm,HO,HG⟩
  clear HO;obtain ⟨q,bb,UE,hq,rfl,rfl,HR,We,UB,HG2⟩:=hrel;by_cases hlq:q < xo.length
  ·have HSU4:=aD (MM (sts:=sts) (xu:=xu) (n:=(n:Int)) hlq);obtain ⟨o,ho⟩:∃ o,o=xo[q]:=⟨_,rfl⟩;rw [← ho] at HSU4;have HOQ:=aD ho;clear ho;go_wp2;go_loopw [5,11,13] (fun v m i wr=>∃ (p:Nat) (bb:Bool) (Wh:List Fc),p≤sts.length∧m=.bool bb∧i=.int .i64 p∧Hid (Wh=bF H (rW sts xo xu (n:Int) q ++ kE sts xu (n:Int) o p) out)∧Hid (bb=decide (out.length < Wh.length))∧Hid (OutI w W wr v Wh)∧Hid (GoodO (ae rs) xo xu Wh)) (fun _ _ i _=>sts.length - (intOf i).toNat);case atStart=>exact ⟨0,bb,UE,TW _,rfl,rfl,by show _=_; rw [MK,List.append_nil]; exact HR.out,We,UB,HG2⟩
   clear UB HR We HG2;obtain ⟨p,bb,Wh,hp,rfl,rfl,HR,We,UB,HG2⟩:=hrel;by_cases hlp:p < sts.length
   ·obtain ⟨bN,offN,hadN,⟨s0,s1,s2⟩,hbN⟩:=Iq.at0 (HSN.out.keepC UB.out.size UB.out.keep) hlp;obtain ⟨bO,U8,Xx,⟨o0,o1⟩,hbO⟩:=jN.at0 (HSO3.out.keepC UB.out.size UB.out.keep) hlq;rw [← HOQ.out] at o0 o1;obtain ⟨s,hsp⟩:∃ s,s=sts[p]:=⟨_,rfl⟩;have ZN:Hid ((s.typ.toList == o.t.toList && decide (s.n=(n:Int)))=false→kE sts xu (n:Int) o (p + 1)=kE sts xu (n:Int) o p):=fun h=>QY hlp (by rw [← hsp]; exact h);have HKY:Hid ((s.typ.toList == o.t.toList && decide (s.n=(n:Int)))=true→kE sts xu (n:Int) o (p + 1)=kE sts xu (n:Int) o p ++ ja o s.rel xu):=fun h=>by rw [PP hlp (by rw [← hsp]; exact h),← hsp]
    rw [← hsp] at s0 s1 s2;have ZI:Hid (s.key ∈ ak (ae rs)):=by show _ ∈ _; rw [← HK.out,hsp]; exact List.mem_map_of_mem (TQ hlp)
    have WA:=aD hsp;have hq1:=bB q;have hq2:(q:Int) < (xo.length:Int):=by omega
    have hp1:=bB p;have hp2:(p:Int) < (sts.length:Int):=by omega
    subst hadN;subst Xx;clear hsp;cases ht:(s.typ.toList == o.t.toList);case false=>
     have YY:Hid (kE sts xu (n:Int) o (p + 1)=kE sts xu (n:Int) o p):=ZN.out (by rw [ht]; rfl);have UX:∀ nq,Hid (OutI w W (wr.drewN nq) u5 Wh):=fun nq=>UB.out.below (below_drewN (TT _ _) nq);go_wp2_with fail;go_quiet (fail);go_wp2;go_roundw;case rel=>exact ⟨p + 1,bb,Wh,by omega,rfl,by go_num,by rw [YY.out]; exact HR,We,UX _,HG2⟩
     simp [intOf] <;> omega
    by_cases hn2:s.n=(n:Int)
    ·have hb1:(s.n == (n:Int))=true:=by simpa using hn2
     have YY:=aD (HKY.out (by rw [ht,hn2]; simp));have HTO:Hid (s.typ=o.t):=fo.1 ht;have hb2:decide (s.n=(n:Int))=true:=decide_eq_true hn2;replace hn2:Hid (s.n=(n:Int)):=hn2;have HREL:Hid (∀ W':World,(W'.cell? ⟨bN,offN + p * 3,none⟩=some (.string s.typ)∧W'.cell? ⟨bN,offN + p * 3 + 1,none⟩=some (.string s.rel)∧ag wr W')→Calls prog 97 #[.slice ad rs.length cap,.string s.typ,.string s.rel] W' fun e w'=>(∃ (rows:List ER) (UC:Option Addr) (capE:Nat),e=.returned (.slice UC rows.length capE)∧aj rows=aA (ae rs) s.typ s.rel∧pO rs UC rows)∧ag W' w'):=fun W' h=>by
      refine (jd ad cap rs s.typ s.rel W' (by omega) (HS.out.below (UB.out.bel.trans (h.2.2.mono UB.out.bel.size))) HL.out).mono ?_;rintro e w' ⟨⟨rows,UC,capE,he,hx,-,hf⟩,rfl⟩;exact ⟨⟨rows,UC,capE,he,hx,hf⟩,TT _ _⟩
     go_wp2_with fail;go_quiet (fail);go_wp2_with fail
     go_region_held3 (fun w'=>w'.cell? ⟨bN,offN + p * 3,none⟩=some (.string s.typ)∧w'.cell? ⟨bN,offN + p * 3 + 1,none⟩=some (.string s.rel)∧ag wr w')
      (first | assumption | exact SS (by assumption) hbx | exact ⟨s0,s1,Below.drew (below_drewN (TT _ _) _)⟩)
      (first | (go_at_call 97; refine (HREL.out _ (by assumption)).mono ?_; rintro e w' ⟨⟨rows,UC,capE,rfl,hrx,hrf⟩,hbx⟩))
     rename_i hH;have UR:=aD (UB.out.below hH.2.2);have Zx:Hid (aj rows=aA (ae rs) o.t s.rel):=by show _=_; rw [hrx,HTO.out]
     obtain ⟨Wt,hr1⟩:Hid (WP rows)∧1≤rows.length:=by
      obtain ⟨es,e1,e2⟩:=Hf HSP.out.1 ZI.out;have e3:aj rows=es:=by
       rw [hrx]; unfold aA;show (fI (ae rs) s.key.1 s.key.2).getD []=es;rw [e1]; rfl
      rw [← e3] at e2;exact KF e2
     have HRF:=aD hrf;have hr1000:=Wt.out.len;clear hH hbx hrx hrf HREL s0 s1 s2 o0 o1 hb1 hb2 UB HTO hbN hbO;go_wp2;go_loopw [5,11,15] (fun v m i wr=>∃ (j:Nat) (bb:Bool) (UQ:List Fc),j≤xu.length∧m=.bool bb∧i=.int .i64 j∧Hid (UQ=bF H (rW sts xo xu (n:Int) q ++ kE sts xu (n:Int) o p ++ ja o s.rel (xu.take j)) out)∧Hid (bb=decide (out.length < UQ.length))∧Hid (OutI w W wr v UQ)∧Hid (GoodO (ae rs) xo xu UQ)) (fun _ _ i _=>xu.length - (intOf i).toNat);case atStart=>exact ⟨0,bb,Wh,TW _,rfl,rfl,by show _=_; rw [List.take_zero]; show _=bF H (_ ++ []) out; rw [List.append_nil]; exact HR.out,We,UR,HG2⟩
     clear UR HR We HG2;obtain ⟨j,bb,UQ,hj,rfl,rfl,HR,We,UB,HG2⟩:=hrel;by_cases hlj:j < xu.length
     ·obtain ⟨bU,offU,hadU,⟨y0,y1⟩,hbU⟩:=jN.at0 (HSU3.out.keepC UB.out.size UB.out.keep) hlj;obtain ⟨bN',offN',ZC,⟨s0,s1,s2⟩,hbN⟩:=Iq.at0 (HSN.out.keepC UB.out.size UB.out.keep) hlp;obtain ⟨bO',offO',ZE,⟨o0,o1⟩,hbO⟩:=jN.at0 (HSO3.out.keepC UB.out.size UB.out.keep) hlq;injection ZC with ZC; injection ZC with e1 e2; subst e1; subst e2;injection ZE with ZE; injection ZE with e1 e2; subst e1; subst e2;rw [← HOQ.out] at o0 o1;rw [← WA.out] at s0 s1 s2;obtain ⟨f,hf⟩:∃ f:Fc,f=⟨o.t,o.s,s.rel,xu[j].t,xu[j].s⟩:=⟨_,rfl⟩;have HAT:Hid (ja o s.rel (xu.take (j + 1))=ja o s.rel (xu.take j) ++ [f]):=by show _=_; rw [hf]; exact MN o s.rel hlj
      have HFQ:Hid (f ∈ BI (ae rs) xo xu):=by
       show _ ∈ _;rw [hf];unfold BI ja;refine Uf.2 ⟨o,by rw [HOQ.out]; exact TQ hlq,Uf.2 ⟨s.key,ZI.out,Ue.2 ⟨xu[j],TQ hlj,rfl⟩⟩⟩
      have hout4:=HG2.out.len hol Yk XX;obtain ⟨adF4,Yv,rfl,hsF⟩:=mW UB.out.row;have HSF4:=aD hsF;have f0:o.t=f.a:=by rw [hf]
      have f1:o.s=f.b:=by rw [hf]
      have f2:s.rel=f.r:=by rw [hf]
      have f3:xu[j].t=f.c:=by rw [hf]
      have f4:xu[j].s=f.d:=by rw [hf]
      have HEF:Hid (aj rows=aA (ae rs) f.a f.r):=by show _=_; rw [hf]; exact Zx.out
      rw [f3] at y0;rw [f4] at y1;rw [f0] at o0;rw [f1] at o1;rw [f2] at s1;have hj1:=bB j;have hj2:(j:Int) < (xu.length:Int):=by omega
      subst hadU;clear hsF hf f0 f1 f2 f3 f4 s0 s2;obtain ⟨W5,Vb⟩:∃ W5,W5=(wr.alloc (.cells #[.string f.a,.string f.b,.string f.r,.string f.c,.string f.d] 29)).drew:=⟨_,rfl⟩;have VM:Hid (ag wr W5):=by show Below _ _ _; rw [Vb]; exact ((TT _ _).alloc (TS _) _).drew
      have g0:W5.cell? ⟨wr.heap.size,0,none⟩=some (.string f.a):=by rw [Vb]; simp
      have g1:W5.cell? ⟨wr.heap.size,1,none⟩=some (.string f.b):=by rw [Vb]; simp
      have g2:W5.cell? ⟨wr.heap.size,2,none⟩=some (.string f.r):=by rw [Vb]; simp
      have g3:W5.cell? ⟨wr.heap.size,3,none⟩=some (.string f.c):=by rw [Vb]; simp
      have g4:W5.cell? ⟨wr.heap.size,4,none⟩=some (.string f.d):=by rw [Vb]; simp
      have gl:wr.heap.size < W5.heap.size:=aF g0;have UK:=aD (UB.out.below VM.out);go_wp2_with fail
      go_region
      rw [← Vb];clear Vb y0 y1 o0 o1 s1 hbU hbN hbO;go_wp2_with fail;refine (om adF4 Yv UQ f W5 (by omega) (HSF4.out.below VM.out)).mono ?_;rintro e w6 ⟨rfl,hb6⟩;have WJ:=aD (VM.out.trans (hb6.mono VM.out.size));have Vh:=aD (UK.out.below hb6);replace g0:=bf hb6 gl g0;replace g1:=bf hb6 gl g1;replace g2:=bf hb6 gl g2;replace g3:=bf hb6 gl g3;replace g4:=bf hb6 gl g4;replace gl:=TP gl hb6.size;have HHF:Hid (H UQ f=dS ts (aj rows) UQ f rows.length UQ (rows.length - 1)):=by show _=_; rw [HH.out]; unfold fC; rw [← HEF.out,aT]
      have HRS:Hid (bF H (rW sts xo xu (n:Int) q ++ kE sts xu (n:Int) o p ++ ja o s.rel (xu.take (j + 1))) out=dR H UQ f):=by show _=_; rw [HAT.out,← List.append_assoc,rQ,← HR.out]
      clear hb6 VM UK;cases hh:bP UQ f;case true=>
       have HR2:Hid (UQ=bF H (rW sts xo xu (n:Int) q ++ kE sts xu (n:Int) o p ++ ja o s.rel (xu.take (j + 1))) out):=by show _=_; rw [HRS.out,vP (.inl hh)]
       go_wp2;go_roundw;case rel=>exact ⟨j + 1,bb,UQ,by omega,rfl,by go_num,HR2,We,Vh,HG2⟩
       simp [intOf] <;> omega
      have HHH:=aD hh;have hwr:IntKind.i64.wrap ((rows.length:Int) - 1)=((rows.length - 1:Nat):Int):=by rw [IntKind.wrap_i64]; omega
      have VG:=aD (xW (.slice ad rs.length cap) UJ cap' ts UC capE rows adF4 Yv UQ f htl Wt.out (by omega) rows.length (rows.length - 1) adF4 Yv UQ w6 (by omega) (by omega) (by omega) ⟨HST.out.below Vh.out.bel,HRF.out.sl (HS.out.below Vh.out.bel),HSF4.out.below WJ.out,HSF4.out.below WJ.out⟩);clear hh;go_wp2_with fail;refine VG.out.mono ?_;rintro e w7 ⟨he7,Y8⟩;rw [← HHF.out] at he7;subst he7;have WN:=aD (Vh.out.below Y8);replace g0:=bf Y8 gl g0;replace g1:=bf Y8 gl g1;replace g2:=bf Y8 gl g2;replace g3:=bf Y8 gl g3;replace g4:=bf Y8 gl g4;replace gl:=TP gl Y8.size;clear Y8 VG Vh WJ hwr;cases hv:H UQ f;case false=>
       have HR2:Hid (UQ=bF H (rW sts xo xu (n:Int) q ++ kE sts xu (n:Int) o p ++ ja o s.rel (xu.take (j + 1))) out):=by show _=_; rw [HRS.out,vP (.inr hv)]
       go_wp2;go_roundw;case rel=>exact ⟨j + 1,bb,UQ,by omega,rfl,by go_num,HR2,We,WN,HG2⟩
       simp [intOf] <;> omega
      have HST2:Hid (dR H UQ f=UQ ++ [f]):=Dy HHH.out hv;have HR2:Hid (UQ ++ [f]=bF H (rW sts xo xu (n:Int) q ++ kE sts xu (n:Int) o p ++ ja o s.rel (xu.take (j + 1))) out):=by show _=_; rw [HRS.out,HST2.out]
      have Xv:Hid (GoodO (ae rs) xo xu (UQ ++ [f])):=by
       have h1:=HG2.out.run (H:=H) (qs:=[f]) (fun g hg=>by
        rw [Ua] at hg;subst hg;exact HFQ.out)
       rw [show bF H [f] UQ=dR H UQ f from rfl,HST2.out] at h1;exact h1
      have Ye:Hid (true=decide (out.length < (UQ ++ [f]).length)):=by
       show _=_;have h1:=GV H (rW sts xo xu (n:Int) q ++ kE sts xu (n:Int) o p ++ ja o s.rel (xu.take j)) out;rw [← HR.out] at h1;rw [T9];exact (decide_eq_true (by simp; omega)).symm
      obtain ⟨W8,Wn⟩:∃ W8,W8=w7.alloc (.cells #[.string f.a,.string f.b,.string f.r,.string f.c,.string f.d] 29):=⟨_,rfl⟩;have HO8:Hid (OutI w W W8 (.slice adF4 UQ.length Yv) UQ):=by show OutI _ _ _ _ _; rw [Wn]; exact WN.out.below ((TT _ _).alloc (TS _) _)
      have HN8:Hid (∀ j u,f.row[j]?=some u→W8.cell? ((⟨w7.heap.size,0,none⟩:Addr).add j)=some u):=by rw [Wn]; exact Kv w7 f
      have hsz8:w.heap.size≤W8.heap.size:=HO8.out.bel.size;clear hv;go_wp2_with (at_builtin; rw [← Wn]; clear Wn; refine wpList_append_own_at _ rfl _ _ 40 rfl w.heap.size 29 iF (.agg #[.string ⟨#[]⟩,.string ⟨#[]⟩,.string ⟨#[]⟩,.string ⟨#[]⟩,.string ⟨#[]⟩]) 5 80 underlying40 HIF.out.1 HIF.out.2.1 HIF.out.2.2.1 HIF.out.2.2.2 rfl (by decide) _ UQ.length (aH UQ) rfl HO8.out.row ⟨w7.heap.size,0,none⟩ 1 1 f.row rfl rfl HN8.out (by simp [Fc.row,Value.oneCell']) (by unfold maxLen; omega) (by omega) hsz8 ?_);intro v' w9 hown hgr _ hat;have HO9:=aD (HO8.out.app hown hgr hat);clear hown hgr hat g0 g1 g2 g3 g4 gl;go_wp2;go_roundw;case rel=>exact ⟨j + 1,true,UQ ++ [f],by omega,rfl,by go_num,HR2,Ye,HO9,Xv⟩
      simp [intOf] <;> omega
     have HR3:Hid (UQ=bF H (rW sts xo xu (n:Int) q ++ kE sts xu (n:Int) o (p + 1)) out):=by show _=_; rw [YY.out,HR.out,show j=xu.length by omega,Ug,List.append_assoc]
     go_wp2;go_roundw;case rel=>exact ⟨p + 1,bb,UQ,by omega,rfl,by go_num,HR3,We,UB,HG2⟩
     simp [intOf] <;> omega
    have hb1:(s.n == (n:Int))=false:=by simpa using hn2
    have hb2:decide (s.n=(n:Int))=false:=decide_eq_false hn2;have YY:Hid (kE sts xu (n:Int) o (p + 1)=kE sts xu (n:Int) o p):=ZN.out (by rw [hb2,Bool.and_false]);have UX:∀ nq,Hid (OutI w W (wr.drewN nq) u5 Wh):=fun nq=>UB.out.below (below_drewN (TT _ _) nq);go_wp2_with fail;go_quiet (fail);go_wp2;go_roundw;case rel=>exact ⟨p + 1,bb,Wh,by omega,rfl,by go_num,by rw [YY.out]; exact HR,We,UX _,HG2⟩
    simp [intOf] <;> omega
   have HR3:Hid (Wh=bF H (rW sts xo xu (n:Int) (q + 1)) out):=by show _=_; rw [HSU4.out,HR.out,show p=sts.length by omega]
   go_wp2;go_roundw;case rel=>exact ⟨q + 1,bb,Wh,by omega,rfl,by go_num,HR3,We,UB,HG2⟩
   simp [intOf] <;> omega
  have hout2:=HG2.out.len hol Yk XX;have HRQ:Hid (UE=bF H (Q n) out):=by show _=_; rw [HR.out,← HQI.out n,show q=xo.length by omega]
  obtain ⟨ad2,cap2,rfl,-⟩:=mW UB.out.row;have HLM2:Hid (kr H (Q n) UE=A (n + 1)):=by show _=_; rw [HRQ.out,Cs]; exact HLM.out
  have hbl:=GV H (Q n) out;have HDN2:Hid (bb=false→bF H (Q n) UE=UE):=fun hb=>by
   have e:UE=out:=by
    rw [HRQ.out];refine JQ ?_;rw [← HRQ.out,← We.out]; exact hb
   rw [e]; rw [HRQ.out] at e; exact e
  have hm:2 * (200000 - UE.length) + TG (.bool bb) < 2 * (200000 - out.length) + 1:=by
   have h1:=We.out;rw [← HRQ.out] at hbl;cases bb;case true=>have:=of_decide_eq_true h1.symm; simp only [TG]; omega
   have:=of_decide_eq_false h1.symm; simp only [TG]; omega
  have HM:=aD hm;clear hm hbl;go_wp2;go_roundw;case rel=>exact ⟨bb,UE,rfl,HLM2,HDN2,UB,HG2⟩
  exact HM.out
 have hne:n=sts.length + 1:=by omega
 have UB:Hid (wr.ownsRow w.heap.size 29 5 u5 (qX st rs ts).length (aH (qX st rs ts))):=by
  show World.ownsRow _ _ _ _ _ _ _;rw [← U6.out,← hne]; exact HO.out.row
 have HBE:=aD HO.out.bel;clear HO;go_wp2;go_ret;exact ⟨⟨_,rfl,UB.out⟩,HBE.out⟩
end
end Go.Proofs.YtajkkeikihhejaaGreat
