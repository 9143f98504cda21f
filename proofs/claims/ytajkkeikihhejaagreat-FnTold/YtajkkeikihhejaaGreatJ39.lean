/- All facts, as the document finds them: stratum by stratum, round by round. -/
import Derived.Test.YtajkkeikihhejaaGreatSq
import Derived.Test.YtajkkeikihhejaaGreatJ38
open Go.Proofs.Tryz
set_option maxHeartbeats 80000000
namespace Go.Proofs.YtajkkeikihhejaaGreat
set_option linter.unusedVariables false
set_option linter.unusedSectionVars false
set_option maxRecDepth 100000
open Go.ChangeShapes Go.WideShapes Go.ChangeAt Go.RowKit Go.Maps
open Pl
theorem G9 {rs:List TR} (h:bf (ae rs)=true) {k:ByteArray × ByteArray} (hk:k ∈ au (ae rs)):∃ es,fI (ae rs) k.1 k.2=some es∧aK es=true:=by
 unfold au at hk;obtain ⟨T,hT,hk⟩:=Uf.1 hk;obtain ⟨t,ht,rfl⟩:=Ue.1 hT;unfold jE at hk;obtain ⟨r,hr,rfl⟩:=Ue.1 hk;obtain ⟨q,hq,rfl⟩:=Ue.1 hr;exact ⟨ak q.rows,pz h ht hq,((bq h).2.2 t ht q hq).1⟩
theorem SK {wr W w':af} {b o1 o2:Nat} {x y:Value} (h:W.cell? ⟨b,o1,none⟩=some x∧W.cell? ⟨b,o2,none⟩=some y∧ag wr W) (hb:ag W w'):w'.cell? ⟨b,o1,none⟩=some x∧w'.cell? ⟨b,o2,none⟩=some y∧ag wr w' :=
 ⟨bi hb (aF h.1) h.1,bi hb (aF h.2.1) h.2.1,h.2.2.trans (hb.mono h.2.2.size)⟩
def qU [DecidableEq Fc] (st:ByteArray × ByteArray→Int) (rs:List TR) (ts:List Tp):List Fc:=mD (ae rs) ts st (eD ts) (cZ ts) ((au (ae rs)).length + 1)
section
variable [DecidableEq Fc]
theorem kG (st:ByteArray × ByteArray→Int) (rs:List TR) (ts:List Tp) (xo xu:List Al):∀ N,GoodO (ae rs) xo xu (mD (ae rs) ts st xo xu N)
 | 0=>⟨List.nodup_nil,fun g hg=>by cases hg⟩
 | N + 1=>by
  refine ⟨Dt _ _ _ _ _ _,fun g hg=>?_⟩;rw [jm] at hg;obtain ⟨new,e,hn⟩:=wP (H:=fC (ae rs) ts) (bY (ae rs) st xo xu (N:Int)) (mr (bY (ae rs) st xo xu (N:Int)) (mD (ae rs) ts st xo xu N) + 1) (mD (ae rs) ts st xo xu N);unfold kD at hg;rw [e] at hg;rcases Uc.1 hg with hg | hg
  ·exact (kG st rs ts xo xu N).sub g hg
  exact Dy (hn g hg)
theorem DK (st:ByteArray × ByteArray→Int) (ad:Option Addr) (cap:Nat) (rs:List TR) (UJ:Option Addr) (cap':Nat) (ts:List Tp) (w:af) (hsp:bR (ae rs)) (hle:Least (ae rs) st) (hs:kX w ad rs) (hl:∀ r ∈ rs,r.light) (hlt:ts.length≤40) (hst:Sl w UJ ts) :
  Calls prog 57 #[.slice ad rs.length cap,.slice UJ ts.length cap'] w fun e w'=>(∃ v,e=.returned v∧w'.ownsRow w.heap.size 29 5 v (qU st rs ts).length (aH (qU st rs ts)))∧ag w w':=by
 obtain ⟨iF,z0,z1,z2,z3⟩:=EN;have HIF:=aD (And.intro z0 (And.intro z1 (And.intro z2 z3)));obtain ⟨h6,Wh,hsf⟩:=bq hsp.1;have HSP:=aD hsp;have Vl:=aD hle;have HS:=aD hs;have HL:=aD hl;have HST:=aD hst;have Y9:=aD hsf;have We:=aD Wh;have HND:=aD (JC hsp.1);have Ym:(au (ae rs)).length≤36:=yN h6 Wh;have htl:ts.length≤1048576:=by omega
 obtain ⟨W0,hW0⟩:∃ W0,W0=w.alloc (.cells #[] 29):=⟨_,rfl⟩;have HB0:=qZ hW0;have Vi:Hid (W0.ownsRow w.heap.size 29 5 (.slice (some ⟨w.heap.size,0,none⟩) 0 0) 0 (aH [])):=by
  show World.ownsRow _ _ _ _ _ _ _;rw [hW0];exact World.ownsRow_lit w #[] 0 (TS _) (by unfold maxLen; omega) (by simp)
 have HNC:Hid ((∀ o,W0.cell? ⟨w.heap.size,o,none⟩=none)∧w.heap.size < W0.heap.size):=by
  show _∧_;rw [hW0];exact ⟨fun o=>by simp,by simp⟩
 clear hsp hle hs hl hst hsf Wh z0 z1 z2 z3;go_enter func57,ntmps57;go_wp2_with fail;rw [← hW0];clear hW0;refine (sG UJ cap' ts false _ hlt (HST.out.below HB0.out)).mono ?_;rintro e w1 ⟨⟨vo,rfl,hvo⟩,hb1⟩;have HB1:=aD (HB0.out.trans (hb1.mono HB0.out.size));have HR1:=aD (cO Vi.out hb1);have HN1:Hid ((∀ o,w1.cell? ⟨w.heap.size,o,none⟩=none)∧w.heap.size < w1.heap.size):=⟨fun o=>(hb1.cell (p:=⟨w.heap.size,o,none⟩) HNC.out.2).trans (HNC.out.1 o),TP HNC.out.2 hb1.size⟩;obtain ⟨Wj,VW,rfl,hsO⟩:=kE hvo;have HSO:=aD hsO;clear hvo hb1 hsO HB0 Vi HNC;go_wp2_with fail;refine (sG UJ cap' ts true _ hlt (HST.out.below HB1.out)).mono ?_;rintro e w2 ⟨⟨vu,rfl,hvu⟩,hb2⟩;have HB2:=aD (HB1.out.trans (hb2.mono HB1.out.size));have HR2:=aD (cO HR1.out hb2);have V9:Hid ((∀ o,w2.cell? ⟨w.heap.size,o,none⟩=none)∧w.heap.size < w2.heap.size):=⟨fun o=>(hb2.cell (p:=⟨w.heap.size,o,none⟩) HN1.out.2).trans (HN1.out.1 o),TP HN1.out.2 hb2.size⟩;have HSO2:=aD (HSO.out.below hb2);obtain ⟨Vt,UM,rfl,hsU⟩:=kE hvu;have Zw:=aD hsU;clear hvu hb2 hsU HB1 HR1 HN1 HSO;go_wp2_with fail;refine (uL ad cap rs _ h6 (HS.out.below HB2.out) HL.out We.out (fun r hr q hq=>(Y9.out r hr q hq).2) (kw HSP.out.2.1)).mono ?_;rintro e W ⟨hres,hb3⟩;rcases hres with ⟨adN,capN,sts,rfl,hsN,hkN,hlN⟩ | ⟨-,hno⟩;rotate_left
 ·exact absurd HSP.out.2.2 hno
 have HK:=aD hkN;have WQ:=aD hlN;have HB3:=aD (HB2.out.trans (hb3.mono HB2.out.size));have HSN:=aD hsN;have HSO3:=aD (HSO2.out.below hb3);have HSU3:=aD (Zw.out.below hb3);have hsl:sts.length=(au (ae rs)).length:=by rw [← hkN,iE,Uy]
 have hs36:sts.length≤36:=by omega
 have HSLE:=aD hsl;obtain ⟨xo,hxo⟩:∃ xo,xo=eD ts:=⟨_,rfl⟩;obtain ⟨xu,hxu⟩:∃ xu,xu=cZ ts:=⟨_,rfl⟩;have n0:fM false ts=xo:=by rw [hxo]; rfl
 have n1:fM true ts=xu:=by rw [hxu]; rfl
 rw [n0] at HSO3;rw [n1] at HSU3;rw [n0,n1];have hol:xo.length≤80:=by have:=oq ts; rw [hxo]; omega
 have Yd:xu.length≤40:=by have:=mF ts; rw [hxu]; omega
 have Z4:=aD hxo;have HXU:=aD hxu;have Yb:Hid (OutI w W W (.slice (some ⟨w.heap.size,0,none⟩) 0 0) []):=⟨cO HR2.out hb3,fun _ _ _ h=>h,TS _,HB3.out,fun g hg o=>by
  have e:g=w.heap.size:=by simpa [Value.ownBlock] using hg.symm
  rw [e]; exact (hb3.cell (p:=⟨w.heap.size,o,none⟩) V9.out.2).trans (V9.out.1 o)⟩
 clear hsN hkN hlN hb3 HB2 HR2 V9 HSO2 Zw n0 n1 hxo hxu hsl We;obtain ⟨H,hH⟩:∃ H,H=fC (ae rs) ts:=⟨_,rfl⟩;obtain ⟨A,hA⟩:∃ A:Nat→List Fc,A=mD (ae rs) ts (fO sts) xo xu:=⟨_,rfl⟩;obtain ⟨Q,hQ⟩:∃ Q:Nat→List Fc,Q=fun (n:Nat)=>bY (ae rs) (fO sts) xo xu (n:Int):=⟨_,rfl⟩;have HA1:Hid (∀ n,A (n + 1)=kD H (Q n) (A n)):=fun n=>by rw [hA,hH,hQ]; exact jm _ _ _ _ _ _
 have HAG:Hid (∀ n,GoodO (ae rs) xo xu (A n)):=fun n=>by rw [hA]; exact kG _ _ _ _ _ n
 have HQS:Hid (∀ n,∀ g ∈ Q n,g ∈ BQ (ae rs) xo xu):=fun n g hg=>by rw [hQ] at hg; exact Dy hg
 have HQI:Hid (∀ n:Nat,rX sts xo xu (n:Int) xo.length=Q n):=fun n=>by rw [hQ]; exact PM HK.out HND.out xo xu n
 have U7:Hid (A (sts.length + 1)=qU st rs ts):=by
  show _=_;rw [hA,HSLE.out,Z4.out,HXU.out];exact wU (fun k hk=>WQ.out.same Vl.out k hk) _
 have HA0:Hid (A 0=[]):=by show _=_; rw [hA]; rfl
 have HH:=aD hH;clear hH hA hQ;go_wp2;go_loopw [5,10] (fun v i wr=>∃ (n:Nat),n≤sts.length + 1∧i=.int .i64 n∧Hid (OutI w W wr v (A n))) (fun _ i _=>sts.length + 1 - (intOf i).toNat);case atStart=>exact ⟨0,TW _,rfl,by rw [HA0.out]; exact Yb⟩
 clear Yb;obtain ⟨n,hn,rfl,HO⟩:=hrel;by_cases hlt1:n≤sts.length
 ·go_wp2;go_loopw [5,11] (fun v m wr=>∃ (bb:Bool) (out:List Fc),m=.bool bb∧Hid (kD H (Q n) out=A (n + 1))∧Hid (bb=false→bG H (Q n) out=out)∧Hid (OutI w W wr v out)∧Hid (GoodO (ae rs) xo xu out)) (fun v m _=>2 * (200000 - Su v) + TG m);case atStart=>exact ⟨true,A n,rfl,(HA1.out n).symm,(fun h=>by cases h),HO,HAG.out n⟩
  clear HO;obtain ⟨bb,out,rfl,HLM,YU,HO,HG⟩:=hrel;have hout:=HG.out.len hol Ym Yd;obtain ⟨XW,Vu,rfl,-⟩:=mZ HO.out.row;cases bb;case false=>
   have UB:Hid (OutI w W wr (.slice XW out.length Vu) (A (n + 1))):=by
    show OutI _ _ _ _ _;rw [← HLM.out,wO (YU.out rfl)]; exact HO.out
   go_wp2;go_roundw;case rel=>exact ⟨n + 1,by omega,by go_num,UB⟩
   simp [intOf] <;> omega
  go_wp2;go_loopw [5,11,12] (fun v m i wr=>∃ (q:Nat) (bb:Bool) (UE:List Fc),q≤xo.length∧m=.bool bb∧i=.int .i64 q∧Hid (UE=bG H (rX sts xo xu (n:Int) q) out)∧Hid (bb=decide (out.length < UE.length))∧Hid (OutI w W wr v UE)∧Hid (GoodO (ae rs) xo xu UE)) (fun _ _ i _=>xo.length - (intOf i).toNat);case atStart=>exact ⟨0,false,out,TW _,rfl,rfl,rfl,(decide_eq_false (Nat.lt_irrefl _)).symm,HO,HG⟩
  clear HO;obtain ⟨q,bb,UE,hq,rfl,rfl,HR,Wn,UB,HG2⟩:=hrel;by_cases hlq:q < xo.length
  ·have HSU4:=aD (MM (sts:=sts) (xu:=xu) (n:=(n:Int)) hlq);obtain ⟨o,ho⟩:∃ o,o=xo[q]:=⟨_,rfl⟩;rw [← ho] at HSU4;have HOQ:=aD ho;clear ho;go_wp2;go_loopw [5,11,13] (fun v m i wr=>∃ (p:Nat) (bb:Bool) (Wo:List Fc),p≤sts.length∧m=.bool bb∧i=.int .i64 p∧Hid (Wo=bG H (rX sts xo xu (n:Int) q ++ kF sts xu (n:Int) o p) out)∧Hid (bb=decide (out.length < Wo.length))∧Hid (OutI w W wr v Wo)∧Hid (GoodO (ae rs) xo xu Wo)) (fun _ _ i _=>sts.length - (intOf i).toNat);case atStart=>exact ⟨0,bb,UE,TW _,rfl,rfl,by show _=_; rw [MK,List.append_nil]; exact HR.out,Wn,UB,HG2⟩
   clear UB HR Wn HG2;obtain ⟨p,bb,Wo,hp,rfl,rfl,HR,Wn,UB,HG2⟩:=hrel;by_cases hlp:p < sts.length
   ·obtain ⟨bN,offN,hadN,⟨s0,s1,s2⟩,hbN⟩:=Iz.at0 (HSN.out.keepC UB.out.size UB.out.keep) hlp;obtain ⟨bO,U9,XG,⟨o0,o1⟩,hbO⟩:=jM.at0 (HSO3.out.keepC UB.out.size UB.out.keep) hlq;rw [← HOQ.out] at o0 o1;obtain ⟨s,hsp⟩:∃ s,s=sts[p]:=⟨_,rfl⟩;have ZW:Hid ((s.typ.toList == o.t.toList && decide (s.n=(n:Int)))=false→kF sts xu (n:Int) o (p + 1)=kF sts xu (n:Int) o p):=fun h=>QT hlp (by rw [← hsp]; exact h);have HKY:Hid ((s.typ.toList == o.t.toList && decide (s.n=(n:Int)))=true→kF sts xu (n:Int) o (p + 1)=kF sts xu (n:Int) o p ++ iZ o s.rel xu):=fun h=>by rw [PK hlp (by rw [← hsp]; exact h),← hsp]
    rw [← hsp] at s0 s1 s2;have ZT:Hid (s.key ∈ au (ae rs)):=by show _ ∈ _; rw [← HK.out,hsp]; exact List.mem_map_of_mem (TQ hlp)
    have WK:=aD hsp;have hq1:=bB q;have hq2:(q:Int) < (xo.length:Int):=by omega
    have hp1:=bB p;have hp2:(p:Int) < (sts.length:Int):=by omega
    subst hadN;subst XG;clear hsp;cases ht:(s.typ.toList == o.t.toList);case false=>
     have Y6:Hid (kF sts xu (n:Int) o (p + 1)=kF sts xu (n:Int) o p):=ZW.out (by rw [ht]; rfl);have UY:∀ nq,Hid (OutI w W (wr.drewN nq) u5 Wo):=fun nq=>UB.out.below (below_drewN (TT _ _) nq);go_wp2_with fail;go_quiet (fail);go_wp2;go_roundw;case rel=>exact ⟨p + 1,bb,Wo,by omega,rfl,by go_num,by rw [Y6.out]; exact HR,Wn,UY _,HG2⟩
     simp [intOf] <;> omega
    by_cases hn2:s.n=(n:Int)
    ·have hb1:(s.n == (n:Int))=true:=by simpa using hn2
     have Y6:=aD (HKY.out (by rw [ht,hn2]; simp));have HTO:Hid (s.typ=o.t):=fo.1 ht;have hb2:decide (s.n=(n:Int))=true:=decide_eq_true hn2;replace hn2:Hid (s.n=(n:Int)):=hn2;have HREL:Hid (∀ W':World,(W'.cell? ⟨bN,offN + p * 3,none⟩=some (.string s.typ)∧W'.cell? ⟨bN,offN + p * 3 + 1,none⟩=some (.string s.rel)∧ag wr W')→Calls prog 97 #[.slice ad rs.length cap,.string s.typ,.string s.rel] W' fun e w'=>(∃ (rows:List ER) (UD:Option Addr) (capE:Nat),e=.returned (.slice UD rows.length capE)∧ak rows=aA (ae rs) s.typ s.rel∧pO rs UD rows)∧ag W' w'):=fun W' h=>by
      refine (jd ad cap rs s.typ s.rel W' (by omega) (HS.out.below (UB.out.bel.trans (h.2.2.mono UB.out.bel.size))) HL.out).mono ?_;rintro e w' ⟨⟨rows,UD,capE,he,hx,-,hf⟩,rfl⟩;exact ⟨⟨rows,UD,capE,he,hx,hf⟩,TT _ _⟩
     go_wp2_with fail;go_quiet (fail);go_wp2_with fail
     go_region_held3 (fun w'=>w'.cell? ⟨bN,offN + p * 3,none⟩=some (.string s.typ)∧w'.cell? ⟨bN,offN + p * 3 + 1,none⟩=some (.string s.rel)∧ag wr w')
      (first | assumption | exact SK (by assumption) hbx | exact ⟨s0,s1,Below.drew (below_drewN (TT _ _) _)⟩)
      (first | (go_at_call 97; refine (HREL.out _ (by assumption)).mono ?_; rintro e w' ⟨⟨rows,UD,capE,rfl,hrx,hrf⟩,hbx⟩))
     rename_i hH;have UT:=aD (UB.out.below hH.2.2);have Zq:Hid (ak rows=aA (ae rs) o.t s.rel):=by show _=_; rw [hrx,HTO.out]
     obtain ⟨Wz,hr1⟩:Hid (WV rows)∧1≤rows.length:=by
      obtain ⟨es,e1,e2⟩:=G9 HSP.out.1 ZT.out;have e3:ak rows=es:=by
       rw [hrx]; unfold aA;show (fI (ae rs) s.key.1 s.key.2).getD []=es;rw [e1]; rfl
      rw [← e3] at e2;exact Kw e2
     have HRF:=aD hrf;have hr1000:=Wz.out.len;clear hH hbx hrx hrf HREL s0 s1 s2 o0 o1 hb1 hb2 UB HTO hbN hbO;go_wp2;go_loopw [5,11,15] (fun v m i wr=>∃ (j:Nat) (bb:Bool) (UR:List Fc),j≤xu.length∧m=.bool bb∧i=.int .i64 j∧Hid (UR=bG H (rX sts xo xu (n:Int) q ++ kF sts xu (n:Int) o p ++ iZ o s.rel (xu.take j)) out)∧Hid (bb=decide (out.length < UR.length))∧Hid (OutI w W wr v UR)∧Hid (GoodO (ae rs) xo xu UR)) (fun _ _ i _=>xu.length - (intOf i).toNat);case atStart=>exact ⟨0,bb,Wo,TW _,rfl,rfl,by show _=_; rw [List.take_zero]; show _=bG H (_ ++ []) out; rw [List.append_nil]; exact HR.out,Wn,UT,HG2⟩
     clear UT HR Wn HG2;obtain ⟨j,bb,UR,hj,rfl,rfl,HR,Wn,UB,HG2⟩:=hrel;by_cases hlj:j < xu.length
     ·obtain ⟨bU,offU,hadU,⟨y0,y1⟩,hbU⟩:=jM.at0 (HSU3.out.keepC UB.out.size UB.out.keep) hlj;obtain ⟨bN',offN',ZJ,⟨s0,s1,s2⟩,hbN⟩:=Iz.at0 (HSN.out.keepC UB.out.size UB.out.keep) hlp;obtain ⟨bO',offO',ZK,⟨o0,o1⟩,hbO⟩:=jM.at0 (HSO3.out.keepC UB.out.size UB.out.keep) hlq;injection ZJ with ZJ; injection ZJ with e1 e2; subst e1; subst e2;injection ZK with ZK; injection ZK with e1 e2; subst e1; subst e2;rw [← HOQ.out] at o0 o1;rw [← WK.out] at s0 s1 s2;obtain ⟨f,hf⟩:∃ f:Fc,f=⟨o.t,o.s,s.rel,xu[j].t,xu[j].s⟩:=⟨_,rfl⟩;have HAT:Hid (iZ o s.rel (xu.take (j + 1))=iZ o s.rel (xu.take j) ++ [f]):=by show _=_; rw [hf]; exact MN o s.rel hlj
      have HFQ:Hid (f ∈ BQ (ae rs) xo xu):=by
       show _ ∈ _;rw [hf];unfold BQ iZ;refine Uf.2 ⟨o,by rw [HOQ.out]; exact TQ hlq,Uf.2 ⟨s.key,ZT.out,Ue.2 ⟨xu[j],TQ hlj,rfl⟩⟩⟩
      have hout4:=HG2.out.len hol Ym Yd;obtain ⟨adF4,Yy,rfl,hsF⟩:=mZ UB.out.row;have HSF4:=aD hsF;have f0:o.t=f.a:=by rw [hf]
      have f1:o.s=f.b:=by rw [hf]
      have f2:s.rel=f.r:=by rw [hf]
      have f3:xu[j].t=f.c:=by rw [hf]
      have f4:xu[j].s=f.d:=by rw [hf]
      have HEF:Hid (ak rows=aA (ae rs) f.a f.r):=by show _=_; rw [hf]; exact Zq.out
      rw [f3] at y0;rw [f4] at y1;rw [f0] at o0;rw [f1] at o1;rw [f2] at s1;have hj1:=bB j;have hj2:(j:Int) < (xu.length:Int):=by omega
      subst hadU;clear hsF hf f0 f1 f2 f3 f4 s0 s2;obtain ⟨W5,Va⟩:∃ W5,W5=(wr.alloc (.cells #[.string f.a,.string f.b,.string f.r,.string f.c,.string f.d] 29)).drew:=⟨_,rfl⟩;have VO:Hid (ag wr W5):=by show Below _ _ _; rw [Va]; exact ((TT _ _).alloc (TS _) _).drew
      have g0:W5.cell? ⟨wr.heap.size,0,none⟩=some (.string f.a):=by rw [Va]; simp
      have g1:W5.cell? ⟨wr.heap.size,1,none⟩=some (.string f.b):=by rw [Va]; simp
      have g2:W5.cell? ⟨wr.heap.size,2,none⟩=some (.string f.r):=by rw [Va]; simp
      have g3:W5.cell? ⟨wr.heap.size,3,none⟩=some (.string f.c):=by rw [Va]; simp
      have g4:W5.cell? ⟨wr.heap.size,4,none⟩=some (.string f.d):=by rw [Va]; simp
      have gl:wr.heap.size < W5.heap.size:=aF g0;have UK:=aD (UB.out.below VO.out);go_wp2_with fail
      go_region
      rw [← Va];clear Va y0 y1 o0 o1 s1 hbU hbN hbO;go_wp2_with fail;refine (ow adF4 Yy UR f W5 (by omega) (HSF4.out.below VO.out)).mono ?_;rintro e w6 ⟨rfl,hb6⟩;have WS:=aD (VO.out.trans (hb6.mono VO.out.size));have Vj:=aD (UK.out.below hb6);replace g0:=bi hb6 gl g0;replace g1:=bi hb6 gl g1;replace g2:=bi hb6 gl g2;replace g3:=bi hb6 gl g3;replace g4:=bi hb6 gl g4;replace gl:=TP gl hb6.size;have HHF:Hid (H UR f=dS ts (ak rows) UR f rows.length UR (rows.length - 1)):=by show _=_; rw [HH.out]; unfold fC; rw [← HEF.out,aT]
      have HRS:Hid (bG H (rX sts xo xu (n:Int) q ++ kF sts xu (n:Int) o p ++ iZ o s.rel (xu.take (j + 1))) out=dR H UR f):=by show _=_; rw [HAT.out,← List.append_assoc,rQ,← HR.out]
      clear hb6 VO UK;cases hh:bP UR f;case true=>
       have HR2:Hid (UR=bG H (rX sts xo xu (n:Int) q ++ kF sts xu (n:Int) o p ++ iZ o s.rel (xu.take (j + 1))) out):=by show _=_; rw [HRS.out,vM (.inl hh)]
       go_wp2;go_roundw;case rel=>exact ⟨j + 1,bb,UR,by omega,rfl,by go_num,HR2,Wn,Vj,HG2⟩
       simp [intOf] <;> omega
      have HHH:=aD hh;have hwr:IntKind.i64.wrap ((rows.length:Int) - 1)=((rows.length - 1:Nat):Int):=by rw [IntKind.wrap_i64]; omega
      have VH:=aD (x8 (.slice ad rs.length cap) UJ cap' ts UD capE rows adF4 Yy UR f htl Wz.out (by omega) rows.length (rows.length - 1) adF4 Yy UR w6 (by omega) (by omega) (by omega) ⟨HST.out.below Vj.out.bel,HRF.out.sl (HS.out.below Vj.out.bel),HSF4.out.below WS.out,HSF4.out.below WS.out⟩);clear hh;go_wp2_with fail;refine VH.out.mono ?_;rintro e w7 ⟨he7,Za⟩;rw [← HHF.out] at he7;subst he7;have WM:=aD (Vj.out.below Za);replace g0:=bi Za gl g0;replace g1:=bi Za gl g1;replace g2:=bi Za gl g2;replace g3:=bi Za gl g3;replace g4:=bi Za gl g4;replace gl:=TP gl Za.size;clear Za VH Vj WS hwr;cases hv:H UR f;case false=>
       have HR2:Hid (UR=bG H (rX sts xo xu (n:Int) q ++ kF sts xu (n:Int) o p ++ iZ o s.rel (xu.take (j + 1))) out):=by show _=_; rw [HRS.out,vM (.inr hv)]
       go_wp2;go_roundw;case rel=>exact ⟨j + 1,bb,UR,by omega,rfl,by go_num,HR2,Wn,WM,HG2⟩
       simp [intOf] <;> omega
      have HST2:Hid (dR H UR f=UR ++ [f]):=DI HHH.out hv;have HR2:Hid (UR ++ [f]=bG H (rX sts xo xu (n:Int) q ++ kF sts xu (n:Int) o p ++ iZ o s.rel (xu.take (j + 1))) out):=by show _=_; rw [HRS.out,HST2.out]
      have Xw:Hid (GoodO (ae rs) xo xu (UR ++ [f])):=by
       have h1:=HG2.out.run (H:=H) (qs:=[f]) (fun g hg=>by
        rw [Ua] at hg;subst hg;exact HFQ.out)
       rw [show bG H [f] UR=dR H UR f from rfl,HST2.out] at h1;exact h1
      have Yk:Hid (true=decide (out.length < (UR ++ [f]).length)):=by
       show _=_;have h1:=G5 H (rX sts xo xu (n:Int) q ++ kF sts xu (n:Int) o p ++ iZ o s.rel (xu.take j)) out;rw [← HR.out] at h1;rw [T9];exact (decide_eq_true (by simp; omega)).symm
      obtain ⟨W8,Wu⟩:∃ W8,W8=w7.alloc (.cells #[.string f.a,.string f.b,.string f.r,.string f.c,.string f.d] 29):=⟨_,rfl⟩;have HO8:Hid (OutI w W W8 (.slice adF4 UR.length Yy) UR):=by show OutI _ _ _ _ _; rw [Wu]; exact WM.out.below ((TT _ _).alloc (TS _) _)
      have HN8:Hid (∀ j u,f.row[j]?=some u→W8.cell? ((⟨w7.heap.size,0,none⟩:Addr).add j)=some u):=by rw [Wu]; exact Kq w7 f
      have hsz8:w.heap.size≤W8.heap.size:=HO8.out.bel.size;clear hv;go_wp2_with (at_builtin; rw [← Wu]; clear Wu; refine wpList_append_own_at _ rfl _ _ 40 rfl w.heap.size 29 iF (.agg #[.string ⟨#[]⟩,.string ⟨#[]⟩,.string ⟨#[]⟩,.string ⟨#[]⟩,.string ⟨#[]⟩]) 5 80 underlying40 HIF.out.1 HIF.out.2.1 HIF.out.2.2.1 HIF.out.2.2.2 rfl (by decide) _ UR.length (aH UR) rfl HO8.out.row ⟨w7.heap.size,0,none⟩ 1 1 f.row rfl rfl HN8.out (by simp [Fc.row,Value.oneCell']) (by unfold maxLen; omega) (by omega) hsz8 ?_);intro v' w9 hown hgr _ hat;have HO9:=aD (HO8.out.app hown hgr hat);clear hown hgr hat g0 g1 g2 g3 g4 gl;go_wp2;go_roundw;case rel=>exact ⟨j + 1,true,UR ++ [f],by omega,rfl,by go_num,HR2,Yk,HO9,Xw⟩
      simp [intOf] <;> omega
     have HR3:Hid (UR=bG H (rX sts xo xu (n:Int) q ++ kF sts xu (n:Int) o (p + 1)) out):=by show _=_; rw [Y6.out,HR.out,show j=xu.length by omega,Ug,List.append_assoc]
     go_wp2;go_roundw;case rel=>exact ⟨p + 1,bb,UR,by omega,rfl,by go_num,HR3,Wn,UB,HG2⟩
     simp [intOf] <;> omega
    have hb1:(s.n == (n:Int))=false:=by simpa using hn2
    have hb2:decide (s.n=(n:Int))=false:=decide_eq_false hn2;have Y6:Hid (kF sts xu (n:Int) o (p + 1)=kF sts xu (n:Int) o p):=ZW.out (by rw [hb2,Bool.and_false]);have UY:∀ nq,Hid (OutI w W (wr.drewN nq) u5 Wo):=fun nq=>UB.out.below (below_drewN (TT _ _) nq);go_wp2_with fail;go_quiet (fail);go_wp2;go_roundw;case rel=>exact ⟨p + 1,bb,Wo,by omega,rfl,by go_num,by rw [Y6.out]; exact HR,Wn,UY _,HG2⟩
    simp [intOf] <;> omega
   have HR3:Hid (Wo=bG H (rX sts xo xu (n:Int) (q + 1)) out):=by show _=_; rw [HSU4.out,HR.out,show p=sts.length by omega]
   go_wp2;go_roundw;case rel=>exact ⟨q + 1,bb,Wo,by omega,rfl,by go_num,HR3,Wn,UB,HG2⟩
   simp [intOf] <;> omega
  have hout2:=HG2.out.len hol Ym Yd;have HRQ:Hid (UE=bG H (Q n) out):=by show _=_; rw [HR.out,← HQI.out n,show q=xo.length by omega]
  obtain ⟨ad2,cap2,rfl,-⟩:=mZ UB.out.row;have HLM2:Hid (kD H (Q n) UE=A (n + 1)):=by show _=_; rw [HRQ.out,Dq]; exact HLM.out
  have hbl:=G5 H (Q n) out;have HDN2:Hid (bb=false→bG H (Q n) UE=UE):=fun hb=>by
   have e:UE=out:=by
    rw [HRQ.out];refine JO ?_;rw [← HRQ.out,← Wn.out]; exact hb
   rw [e]; rw [HRQ.out] at e; exact e
  have hm:2 * (200000 - UE.length) + TG (.bool bb) < 2 * (200000 - out.length) + 1:=by
   have h1:=Wn.out;rw [← HRQ.out] at hbl;cases bb;case true=>have:=of_decide_eq_true h1.symm; simp only [TG]; omega
   have:=of_decide_eq_false h1.symm; simp only [TG]; omega
  have HM:=aD hm;clear hm hbl;go_wp2;go_roundw;case rel=>exact ⟨bb,UE,rfl,HLM2,HDN2,UB,HG2⟩
  exact HM.out
 have hne:n=sts.length + 1:=by omega
 have UB:Hid (wr.ownsRow w.heap.size 29 5 u5 (qU st rs ts).length (aH (qU st rs ts))):=by
  show World.ownsRow _ _ _ _ _ _ _;rw [← U7.out,← hne]; exact HO.out.row
 have HBE:=aD HO.out.bel;clear HO;go_wp2;go_ret;exact ⟨⟨_,rfl,UB.out⟩,HBE.out⟩
end
end Go.Proofs.YtajkkeikihhejaaGreat
namespace Go.Proofs.YtajkkeikihhejaaGreat
set_option linter.unusedVariables false
set_option maxRecDepth 100000
open Go.ChangeShapes Go.WideShapes Go.ChangeAt Go.RowKit Go.Maps Go.Shelf
open Pl
attribute [local go_sem] Oper.semAt_some
def EZ (X:World) (B:Nat):Nat:=match X.cell? ⟨B,0,none⟩ with
 | some x=>Su x
 | none=>0
theorem E5 {X:af} {B n c:Nat} {ad:Option Addr} {T:TypeId} (h:gV X B (.slice ad n c) T):EZ X B=n:=by
 unfold EZ; rw [h.c]; rfl
section
variable [DecidableEq Fc]
theorem MR (w:af) (rs:List TR) (Vy:Option Addr) (D br bp bt:Nat) (N:Nat) (nr:Nat) (Mr:KL→Option Value) (st:ByteArray × ByteArray→Int) (ts:List Tp) (xo xu:List Al) (np:Nat) (Mp:K3→Option Value) (vo vu:Value) (hD:DatA w rs D br bp bt (N:Int) nr Mr (eY st rs) (dK ts) xo xu np Mp vo vu) (hs:kX w Vy rs) (hN:N≤1000) (hol:xo.length≤80) (Yd:xu.length≤40) (hE:(au (ae rs)).length≤36) (hrl:∀ k,(G.lookL (eY st rs) k).length≤1000) (hsh:bf (ae rs)=true) (hts:∀ t ∈ ts,t.fits) (htl:ts.length≤1000) (hof:∀ o ∈ xo,o.t.size≤maxLen∧o.s.size≤maxLen) (huf:∀ o ∈ xu,o.t.size≤maxLen∧o.s.size≤maxLen) (hrf:∀ k ∈ au (ae rs),k.2.size≤maxLen) :
  Calls prog 59 #[.pointer (some ⟨D,0,none⟩)] w fun e w'=>(∃ v,e=.returned v∧w'.ownsRow w.heap.size 29 5 v (mD (ae rs) ts st xo xu N).length (aH (mD (ae rs) ts st xo xu N)))∧ag w w':=by
 obtain ⟨iF,z0,z1,z2,z3⟩:=EN;obtain ⟨W0,hW0⟩:∃ W0,W0=((w.alloc (.cells #[.slice none 0 0] 40)).alloc (.map #[] 0)).alloc (.cells #[.map (some (w.heap.size + 1))] 107):=⟨_,rfl⟩;obtain ⟨Wj,VW,rfl,-⟩:=kE hD.dat.objs;have hlD:=hD.dat.lt;have d1:=hD.dat.c1;have h00:FoW w W0 (.slice none 0 0) []∧gV W0 (w.heap.size + 1 + 1) (.map (some (w.heap.size + 1))) 107:=by
  obtain ⟨V1,e1⟩:∃ V,V=w.alloc (.cells #[.slice none 0 0] 40):=⟨_,rfl⟩;obtain ⟨V2,e2⟩:∃ V,V=V1.alloc (.map #[] 0):=⟨_,rfl⟩;rw [← e1,← e2] at hW0;have t1:V1.heap.size=w.heap.size + 1:=by rw [e1,World.size_alloc]
  have t2:V2.heap.size=w.heap.size + 1 + 1:=by rw [e2,World.size_alloc,t1]
  have f1:ag w V1:=by rw [e1]; exact (TT _ _).alloc (TS _) _
  have f2:ag V1 V2:=by rw [e2]; exact (TT _ _).alloc (TS _) _
  have f3:ag V2 W0:=by rw [hW0]; exact (TT _ _).alloc (TS _) _
  have f12:ag w V2:=f1.trans (f2.mono f1.size);have g1:gV V1 w.heap.size (.slice none 0 0) 40:=by rw [e1]; exact World.alloc_heap_new w _
  have g2:aM om prog 29 V2 (w.heap.size + 1) 0 (fun _=>none):=by
   have:=nM om prog 29 V1;rw [← e2,t1] at this; exact this
  have g3:gV W0 (w.heap.size + 1 + 1) (.map (some (w.heap.size + 1))) 107:=by rw [hW0,← t2]; exact World.alloc_heap_new V2 _
  have ek:BR []=fun _=>none:=rfl;exact ⟨⟨f12.trans (f3.mono f12.size),(g1.bel f2).bel f3,World.ownsRow_nil _ _ _ _,by rw [ek]; exact g2.below f3⟩,g3⟩
 have hmm:=@run_makeMap prog;have hl1:D < w.heap.size + 1:=by omega
 have hl2:D < w.heap.size + 1 + 1:=by omega
 refine (callsIn_wide (n:=12)).1 ?_;refine callsIn_of_wp_marks func59 rfl trivial ?_ rfl;simp only [ntmps59,List.size_toArray,List.length_cons,List.length_nil,Nat.reduceAdd,Nat.reduceSub,Array.replicate_succ,Array.replicate_zero,List.push_toArray,List.append_toArray,List.nil_append,List.cons_append];gi_wp2;rw [← hW0];clear hW0 hmm;obtain ⟨H,hH⟩:∃ H,H=fC (ae rs) ts:=⟨_,rfl⟩;obtain ⟨A,hA⟩:∃ A:Nat→List Fc,A=mD (ae rs) ts st xo xu:=⟨_,rfl⟩;obtain ⟨Q,hQ⟩:∃ Q:Nat→List Fc,Q=fun (n:Nat)=>bY (ae rs) st xo xu (n:Int):=⟨_,rfl⟩;have hA1:∀ n,A (n + 1)=kD H (Q n) (A n):=fun n=>by rw [hA,hH,hQ]; exact jm _ _ _ _ _ _
 have hAG:∀ n,GoodO (ae rs) xo xu (A n):=fun n=>by rw [hA]; exact kG _ _ _ _ _ n
 have hA0:A 0=[]:=by rw [hA]; rfl
 have hAN:mD (ae rs) ts st xo xu N=A N:=by rw [hA]
 refine wpIn_loop (fun a' X=>∃ (q:Nat) (rl:List Nat) (v:Value) (u5 u6 u7 u8 u15 u16 u17 u18 u19 u20 u21 u22 u23 u24 u25 u26 u27 u28 u29 u30 u31 u32 u33 u34 u35 u36 u37 u38 u39 u40 u41 u42 u43 u44:Value),a'={ tmps:=List.toArray (.pointer (some ⟨D,0,none⟩)::undef::.slice none 0 0::.pointer (some ⟨w.heap.size,0,none⟩)::.pointer (some ⟨w.heap.size + 1 + 1,0,none⟩)::u5::u6::u7::u8::.map (some (w.heap.size + 1))::.pointer (some ⟨D,0,none⟩)::.pointer (some ⟨D,0,none⟩)::.pointer (some ⟨D,1,none⟩)::.int .i64 (N:Int)::.int .i64 (q:Int)::u15::u16::u17::u18::u19::u20::u21::u22::u23::u24::u25::u26::u27::u28::u29::u30::u31::u32::u33::u34::u35::u36::u37::u38::u39::u40::u41::u42::u43::u44::undef::[]),defers:=marks rl }∧q≤N∧FoW w X v (A q)∧gV X (w.heap.size + 1 + 1) (.map (some (w.heap.size + 1))) 107∧iX X rl∧(∀ r ∈ rl,w.heap.size + 1 + 1 < r)) (fun a' _=>N - (intOf (a'.tmps.getD 14 undef)).toNat) ⟨0,[],.slice none 0 0,_,_,_,_,_,_,_,_,_,_,_,_,_,_,_,_,_,_,_,_,_,_,_,_,_,_,_,_,_,_,_,_,_,_,rfl,TW _,by rw [hA0]; exact h00.1,h00.2,⟨List.nodup_nil,fun r hr=>by cases hr⟩,fun r hr=>by cases hr⟩ ?_;rintro a1 X ⟨q,rl,v,u5,u6,u7,u8,u15,u16,u17,u18,u19,u20,u21,u22,u23,u24,u25,u26,u27,u28,u29,u30,u31,u32,u33,u34,u35,u36,u37,u38,u39,u40,u41,u42,u43,u44,rfl,hq,hF,hB,hMk,hMn⟩;clear h00;by_cases hlq:q < N
 ·have hDX:=hD.below hF.bel;have d5:=hDX.dat.c5;have d5l:=hDX.dat.lt;obtain ⟨adV,Yl,rfl,-⟩:=kE hDX.dat.users;gi_wp2;refine wpIn_loop (fun a' X=>∃ (us:List Al) (Vt:Option Addr) (UM:Nat) (out:List Fc) (rl:List Nat) (v:Value) (base:Nat) (u7 u8 u21 u22 u23 u24 u25 u26 u27 u28 u29 u30 u31 u32 u33 u34 u35 u36 u37 u38 u39 u40 u41 u42 u43 u44:Value),a'={ tmps:=List.toArray (.pointer (some ⟨D,0,none⟩)::undef::.slice none 0 0::.pointer (some ⟨w.heap.size,0,none⟩)::.pointer (some ⟨w.heap.size + 1 + 1,0,none⟩)::.int .i64 (q:Int)::.slice Vt us.length UM::u7::u8::.map (some (w.heap.size + 1))::.pointer (some ⟨D,0,none⟩)::.pointer (some ⟨D,0,none⟩)::.pointer (some ⟨D,1,none⟩)::.int .i64 (N:Int)::.int .i64 (q:Int)::.bool true::.int .i64 (q:Int)::.pointer (some ⟨D,0,none⟩)::.pointer (some ⟨D,0,none⟩)::.pointer (some ⟨D,5,none⟩)::.slice adV xu.length Yl::u21::u22::u23::u24::u25::u26::u27::u28::u29::u30::u31::u32::u33::u34::u35::u36::u37::u38::u39::u40::u41::u42::u43::u44::undef::[]),defers:=marks rl }∧FewA (ae rs) ts st xo xu (q:Int) us out∧kD H (Q q) out=A (q + 1)∧GoodO (ae rs) xo xu out∧FoW w X v out∧gV X (w.heap.size + 1 + 1) (.map (some (w.heap.size + 1))) 107∧iX X rl∧(∀ r ∈ rl,w.heap.size + 1 + 1 < r)∧X.ownsRow base 27 2 (.slice Vt us.length UM) us.length (pairs us)∧us.length≤40∧∀ o ∈ us,o.t.size≤maxLen∧o.s.size≤maxLen) (fun a' Y=>2 * (200000 - EZ Y w.heap.size) + min 1 (Su (a'.tmps.getD 6 undef))) ⟨xu,adV,Yl,A q,rl,v,bp + 1,_,_,_,_,_,_,_,_,_,_,_,_,_,_,_,_,_,_,_,_,_,_,_,_,_,_,rfl,FewA.start _,(hA1 q).symm,hAG q,hF,hB,hMk,hMn,hDX.dat.users,Yd,huf⟩ ?_;clear hDX d5 d5l hF hB hMk hMn;rintro a2 X2 ⟨us,Vt,UM,out,rl2,v2,base,u7,u8,u21,u22,u23,u24,u25,u26,u27,u28,u29,u30,u31,u32,u33,u34,u35,u36,u37,u38,u39,u40,u41,u42,u43,u44,rfl,hFew,hLim,hG,hF2,hB2,hMk2,hMn2,hU,hul2,huf2⟩;obtain ⟨XW,Vu,rfl,-⟩:=mZ hF2.row;have hmu:=E5 hF2.box;have hout:=hG.len hol hE Yd;by_cases hne:us=[]
  ·subst hne;have hAq:A (q + 1)=out:=by rw [← hLim,hH,hQ]; exact hFew.done
   have XX:FoW w X2 (.slice XW out.length Vu) (A (q + 1)):=by rw [hAq]; exact hF2
   gi_wp2;exact ⟨⟨q + 1,rl2,_,_,_,_,_,_,_,_,_,_,_,_,_,_,_,_,_,_,_,_,_,_,_,_,_,_,_,_,_,_,_,_,_,_,_,rfl,by omega,XX,hB2,hMk2,hMn2⟩,by simp [intOf]; omega⟩
  have hpos:0 < us.length:=by cases us with | nil=>exact absurd rfl hne | cons a l=>simp
  have hposI:(0:Int) < (us.length:Int):=by omega
  have bc:=hF2.box.c;have kc:=hB2.c
  gi_wp2_with fail
  refine ⟨trivial,(callsIn_wide.2 (EY D (q:Int) Vt us.length UM (w.heap.size + 1) X2)).mono ?_⟩;rintro e X3 ⟨rfl,hX3⟩;obtain ⟨hBX,XQ,hs3⟩:=QZ X2 D (q:Int) (.slice Vt us.length UM) (w.heap.size + 1) hX3;have XX:=hF2.below XQ;have hU3:=cO hU XQ;have hB3:=hB2.bel XQ;have hMk3:=hMk2.bel XQ;have hsB:w.heap.size + 1 + 1 < X2.heap.size:=(Array.getElem?_eq_some_iff.1 hB2).1;clear hX3 bc kc;gi_wp2
  refine qM (α:=Fc) rfl (by omega) (gf:=144) (lb:=#[.pointer (some ⟨X2.heap.size,0,none⟩),.pointer (some ⟨X2.heap.size + 1,0,none⟩),.pointer (some ⟨X2.heap.size + 1 + 1,0,none⟩),.pointer (some ⟨X2.heap.size + 1 + 1 + 1,0,none⟩)]) rfl trivial (enters_of func144 (by kernel_rfl) rfl)
   (MP 11 (by omega) rs Vy D br bp bt (N:Int) nr Mr st ts Wj VW xo xu np Mp (.slice adV xu.length Yl) (w.heap.size + 1) out X2.heap.size (X2.heap.size + 1) (X2.heap.size + 1 + 1) (X2.heap.size + 1 + 1 + 1) (q:Int) Vt UM us X3 (by omega) (by omega) (by omega) (by omega) hrl hsh hts htl hof huf2 hrf) (TT _ _) (fun _=>rfl) (fun h k=>h.trans k) (fun Y lx o o' h1 h2=>KpO.put h1 h2)
   (fun pre Y=>∃ v',FoW w Y v' (out ++ pre)∧KpO (w.heap.size + 1) X3.heap.size X3 Y∧GoodO (ae rs) xo xu (out ++ pre))
   ?own ?tell ⟨_,by rw [List.append_nil]; exact XX,KpO.below (TT _ _),by rw [List.append_nil]; exact hG⟩
   (fun x a' Y=>∃ Bx,vO Y Bx x∧a'={ tmps:=List.toArray (.pointer (some ⟨D,0,none⟩)::undef::.slice none 0 0::.pointer (some ⟨w.heap.size,0,none⟩)::.pointer (some ⟨w.heap.size + 1 + 1,0,none⟩)::.int .i64 (q:Int)::.slice Vt us.length UM::.int .i64 (out.length:Int)::.pointer (some ⟨Bx,0,none⟩)::.map (some (w.heap.size + 1))::.pointer (some ⟨D,0,none⟩)::.pointer (some ⟨D,0,none⟩)::.pointer (some ⟨D,1,none⟩)::.int .i64 (N:Int)::.int .i64 (q:Int)::.bool true::.int .i64 (q:Int)::.pointer (some ⟨D,0,none⟩)::.pointer (some ⟨D,0,none⟩)::.pointer (some ⟨D,5,none⟩)::.slice adV xu.length Yl::.slice Vt us.length UM::.int .i64 (us.length:Int)::.bool true::.slice XW out.length Vu::.int .i64 (out.length:Int)::.pointer (some ⟨D,0,none⟩)::.int .i64 (q:Int)::.slice Vt us.length UM::.map (some (w.heap.size + 1))::.func (.func 144) #[] #[.pointer (some ⟨X2.heap.size,0,none⟩),.pointer (some ⟨X2.heap.size + 1,0,none⟩),.pointer (some ⟨X2.heap.size + 1 + 1,0,none⟩),.pointer (some ⟨X2.heap.size + 1 + 1 + 1,0,none⟩)]::.agg #[.string x.a,.string x.b,.string x.r,.string x.c,.string x.d]::u32::u33::u34::u35::u36::u37::u38::u39::u40::u41::u42::u43::u44::undef::[]),defers:=[] })
   (fun x a' s Y Z row hs hg hr=>by obtain ⟨Bx,h,e⟩:=hs; exact ⟨Bx,G6 (B0:=X3.heap.size) (g:=Bx) (x:=x) () Y Z row h hg hr,e⟩) ?assign ?body ?done
  case own =>
   intro pre Y Z row hs hg hr;obtain ⟨v',h1,h2,h3⟩:=hs;exact ⟨v',h1.kept hg fun r e=>⟨by have:=(hr r e).1; omega,(hr r e).2⟩,Q0 (β:=Unit) () Y Z row h2 hg hr,h3⟩
  case tell =>
   rintro pre Y ⟨v',h1,h2,h3⟩;have hb:=hBX.kp h2;obtain ⟨ad2,cap2,e,hsa⟩:=kE (Kz hU3 h2 (by decide) (by decide));injection e with ea eb ec;exact ⟨hD.below h1.bel,hs.below h1.bel,⟨_,h1.map⟩,hb.d.c,hb.s.c,hb.u.c,hb.k.c,by rw [ea]; exact hsa⟩
  case assign =>
   rintro l' pre x Y K ⟨v',h1,h2,h3⟩ hKK;unfold DF;gi_wp2;have hbl:ag Y (Y.alloc (.cells #[.string x.a,.string x.b,.string x.r,.string x.c,.string x.d] 29)):=(TT _ _).alloc (TS _) _;exact hKK _ _ ((KeepsOthers.alloc _ _).from _) (KpO.below hbl) ⟨v',h1.below hbl,h2.trans (KpO.below hbl),h3⟩ ⟨Y.heap.size,World.alloc_heap_new Y _,rfl⟩
  case body =>
   rintro l' pre x a' Y hl ⟨hEx,hnew⟩ ⟨v',hFY,hKY,hGY⟩ ⟨Bx,bX,rfl⟩;obtain ⟨hkey,YO⟩:=G7 hof huf2 hrf hEx;obtain ⟨kl,hkl⟩:=Gx x YO;obtain ⟨c0,c1,c2,c3,c4,cl⟩:=bX.c;have hGX:GoodO (ae rs) xo xu (out ++ (pre ++ [x])):=by
    refine ⟨?_,fun g hg=>?_⟩
    ·rw [← List.append_assoc];exact List.nodup_append.2 ⟨hGY.once,by simp,fun a ha b hb e=>by
      rw [Ua] at hb;rw [← hb,← e] at hnew;exact hnew ha⟩
    rw [← List.append_assoc] at hg;rcases Uc.1 hg with hg | hg
    ·exact hGY.sub g hg
    rw [Ua] at hg;subst hg;unfold bY vD at hEx;obtain ⟨o,ho,h1⟩:=Uf.1 hEx;obtain ⟨k,hk,h1⟩:=Uf.1 h1;obtain ⟨u,hu,e⟩:=Ue.1 h1;have hux:u ∈ xu:=by rw [hFew.sub] at hu; exact (Ux.1 hu).1
    exact Uf.2 ⟨o,ho,Uf.2 ⟨k,(Ux.1 hk).1,Ue.2 ⟨u,hux,e⟩⟩⟩
   have hlen:=hGX.len hol hE Yd;rw [← List.append_assoc,T9,List.length_singleton] at hlen;obtain ⟨os,hos⟩:∃ os,os=out ++ pre:=⟨_,rfl⟩;rw [← hos] at hFY hlen;have HOS:=aC hos;clear hos;have kc:=(hB3.kp hKY (by decide) (by decide)).c;have kl2:=aF kc;obtain ⟨adY,capY,rfl,-⟩:=mZ hFY.row;have hmap:=hFY.map;have bcY:=hFY.box.c;have hbxl:=aF bcY;have hblk:=hFY.box;obtain ⟨es,cc,hmb⟩:=pE hFY.map;have hne1:Bx ≠ w.heap.size + 1:=fun e=>by
    have h:=bX;unfold vO at h;rw [e,hmb] at h; cases h
   have hrow:=hFY.row;have hvB:(Value.slice adY os.length capY).ownBlock ≠ some w.heap.size:=fun e=>by have:=(hrow.lt _ e).1; omega
   have hvM:(Value.slice adY os.length capY).ownBlock ≠ some (w.heap.size + 1):=fun e=>EP hrow e hmb;have hbYs:=hFY.bel.size
   gi_wp2_with (first
    | (gi_at_mapUpdate; refine yB _ rfl _ _ _ 107 rfl 29 113 Pf Pd underlying107 (w.heap.size + 1) _ _ rfl hmap (by unfold maxLen; omega) x kl rfl hkl (.agg #[]) rfl ?_; intro Y1 hM1 hg1; have q0:=(kC hg1 ⟨cl,hne1⟩ 0).trans c0; have q1:=(kC hg1 ⟨cl,hne1⟩ 1).trans c1; have q2:=(kC hg1 ⟨cl,hne1⟩ 2).trans c2; have q3:=(kC hg1 ⟨cl,hne1⟩ 3).trans c3; have q4:=(kC hg1 ⟨cl,hne1⟩ 4).trans c4; have qb:=(kC hg1 ⟨hbxl,Nat.ne_of_lt (Nat.lt_succ_self _)⟩ 0).trans bcY; have ql:=aF q0; have qbl:=aF qb; have hrow1:=hrow.kept hg1 (.inr hvM); have hYs1:=hg1.size)
    | (gi_at_builtin; refine wpListIn_append_own_at _ rfl _ _ 40 rfl (w.heap.size + 1) 29 iF (.agg #[.string ⟨#[]⟩,.string ⟨#[]⟩,.string ⟨#[]⟩,.string ⟨#[]⟩,.string ⟨#[]⟩]) 5 80 underlying40 z0 z1 z2 z3 rfl (by decide) _ os.length (aH os) rfl (hrow1.alloc _) ⟨Y1.heap.size,0,none⟩ 1 1 x.row rfl rfl (Kq Y1 x) (by simp [Fc.row,Value.oneCell']) (by unfold maxLen; omega) (by omega) (by simp; omega) ?_; intro v2 V hown hgr _ hat; obtain ⟨g2,cap2,rfl⟩:=ownsRow_succ hown; have HAT:=aC hat; clear hat; have hY2:ag Y1 (Y1.alloc (.cells #[.string x.a,.string x.b,.string x.r,.string x.c,.string x.d] 29)):=(TT _ _).alloc (TS _) _; have hVb:=PP hblk hg1 hY2 hgr hvB; have vc:=hVb.c; have vf:=gJ hVb 0; have vl:=aF vc)
    | gi_in)
   obtain ⟨r1,r2,r3⟩:=FoW.step hFY hM1 hg1 hY2 hown hgr HAT.out l';have eos:out ++ (pre ++ [x])=os ++ [x]:=by rw [HOS.out,List.append_assoc]
   exact ⟨PQ r3 (by omega),r2,_,by rw [eos]; exact r1,hKY.after r2 hl,hGX⟩
  case done =>
   rintro Dd xs X5 hDd hS ⟨v5,hF5,hK5,hG5⟩ hKd;have hl5:=hG5.len hol hE Yd;have hlx:(out ++ xs).length=out.length + xs.length:=T9;have hxs:(out ++ xs).drop out.length=xs:=List.drop_left;obtain ⟨o5,ho5⟩:∃ o5,o5=out ++ xs:=⟨_,rfl⟩;rw [← ho5] at hF5 hG5 hl5 hlx hxs;have UK:=aC ho5;have Wq:=aC hxs;have ZL:=hFew.next (by rw [← hH] at hS ⊢; exact hS);have hLim5:kD H (Q q) o5=A (q + 1):=by
    rw [← hLim,← Dq (H:=H) (Q q) out];congr 1;rw [ho5,← hS,← hH,hQ,hH];exact hFew.round
   rw [← ho5] at ZL;obtain ⟨adP,capP,rfl,hsF5⟩:=mZ hF5.row;have bc5:=hF5.box.c;have bl5:=aF bc5;have i1:(0:Int)≤(out.length:Int):=by omega
   have i2:(out.length:Int)≤(o5.length:Int):=by omega
   have hcap5:o5.length≤capP:=Q3 hF5.row;have hU5:=Kz hU3 hK5 (by decide) (by decide);obtain ⟨ad2,cap2,eU,hsU5⟩:=kE hU5;injection eU with ea eb ec;rw [← ea] at hsU5;have hMk5:iX X5 (Dd::rl2):=by
    have h1:=hMk3.kp hK5 (fun hm=>by have:=hMk3.lt hm; omega) (fun hm=>by have:=hMn2 _ hm; omega);refine ⟨List.nodup_cons.2 ⟨fun hm=>by have:=hMk3.lt hm; omega,h1.1⟩,fun r hr=>?_⟩;rcases List.mem_cons.1 hr with rfl | hr
    ·exact hKd
    exact h1.2 r hr
   have hMn5:∀ r ∈ Dd::rl2,w.heap.size + 1 + 1 < r:=fun r hr=>by
    rcases List.mem_cons.1 hr with rfl | hr
    ·omega
    exact hMn2 r hr
   have hkl:(fe us xs).length≤us.length:=DJ us xs;have hkz:xs.length=0→(fe us xs).length=0:=fun h=>by rw [Ui.1 h,JD]; rfl
   have hsx:∀ ad3,ad3=Option.map (fun x=>Addr.add x (out.length * 5)) adP→BA X5 ad3 xs:=fun ad3 e=>by
    rw [e,← Wq.out];exact BA.dropF hsF5 out.length
   clear ho5 hxs ea eb ec hS
   gi_wp2_with fail
   ·refine ⟨trivial,(callsIn_wide.2 (qR Vt UM us adP 0 xs X5 (by omega) (by omega) hsU5 (.inl (Ui.1 (by omega))))).mono ?_⟩;rintro e X6 ⟨⟨v6,rfl,WW⟩,hb6⟩;have U6:EZ X6 w.heap.size=o5.length:=E5 (hF5.below hb6).box;have hF6:=hF5.below hb6;have XY:=(hB3.kp hK5 (by decide) (by decide)).bel hb6;obtain ⟨ad6,cap6,rfl,-⟩:=kE WW;gi_wp2;exact ⟨⟨fe us xs,ad6,cap6,o5,Dd::rl2,_,X5.heap.size,_,_,_,_,_,_,_,_,_,_,_,_,_,_,_,_,_,_,_,_,_,_,_,_,_,_,rfl,ZL,hLim5,hG5,hF6,XY,hMk5.bel hb6,hMn5,WW,by omega,fun o ho=>huf2 o (Ux.1 ho).1⟩,by
     show 2 * (200000 - EZ X6 w.heap.size) + min 1 (fe us xs).length < 2 * (200000 - EZ X2 w.heap.size) + min 1 us.length;rw [U6,hmu];omega⟩
   refine ⟨trivial,(callsIn_wide.2 (qR Vt UM us _ _ xs X5 (by omega) (by omega) hsU5 (hsx _ rfl))).mono ?_⟩;rintro e X6 ⟨⟨v6,rfl,WW⟩,hb6⟩;have U6:EZ X6 w.heap.size=o5.length:=E5 (hF5.below hb6).box;have hF6:=hF5.below hb6;have XY:=(hB3.kp hK5 (by decide) (by decide)).bel hb6;obtain ⟨ad6,cap6,rfl,-⟩:=kE WW;gi_wp2;exact ⟨⟨fe us xs,ad6,cap6,o5,Dd::rl2,_,X5.heap.size,_,_,_,_,_,_,_,_,_,_,_,_,_,_,_,_,_,_,_,_,_,_,_,_,_,_,rfl,ZL,hLim5,hG5,hF6,XY,hMk5.bel hb6,hMn5,WW,by omega,fun o ho=>huf2 o (Ux.1 ho).1⟩,by
    show 2 * (200000 - EZ X6 w.heap.size) + min 1 (fe us xs).length < 2 * (200000 - EZ X2 w.heap.size) + min 1 us.length;rw [U6,hmu];omega⟩
 have hqN:q=N:=by omega
 subst hqN;obtain ⟨XW,Vu,rfl,-⟩:=mZ hF.row;have bc:=hF.box.c;have hR:X.ownsRow (w.heap.size + 1) 29 5 (.slice XW (A q).length Vu) (mD (ae rs) ts st xo xu q).length (aH (mD (ae rs) ts st xo xu q)):=by rw [hAN]; exact hF.row
 have hBl:=hF.bel;have hsz:w.heap.size < X.heap.size:=aF bc;clear hF hB hD;gi_wp2;refine vP (w.heap.size + 1 + 1) (fun Y=>Y.ownsRow w.heap.size 29 5 (.slice XW (A q).length Vu) (mD (ae rs) ts st xo xu q).length (aH (mD (ae rs) ts st xo xu q))∧ag w Y) (fun Y r hr hY hd=>⟨ed hY.1 fun g hg=>ol fun e=>?_,?_⟩) (fun Y hY=>⟨_,results_tmp rfl _ _ _,⟨_,rfl,hY.1⟩,hY.2⟩) rl X hMk hMn ⟨fB hR (Nat.le_succ _),hBl⟩
 ·obtain ⟨cur,e2⟩:=jH hY.1 hg;rw [e,hd] at e2; cases e2
 exact hY.2.grown (grownBy_putObj' Y r _) hY.2.size (fun g e=>by injection e with e; omega)
end
end Go.Proofs.YtajkkeikihhejaaGreat
