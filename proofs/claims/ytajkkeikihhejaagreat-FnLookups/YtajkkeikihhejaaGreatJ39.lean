/- All facts, as the document finds them: stratum by stratum, round by round. -/
import Derived.Test.YtajkkeikihhejaaGreatSq
import Derived.Test.YtajkkeikihhejaaGreatJ38
open Go.Proofs.Tryz
set_option maxHeartbeats 80000000
namespace Go.Proofs.YtajkkeikihhejaaGreat
set_option linter.unusedVariables false
set_option linter.unusedSectionVars false
set_option maxRecDepth 100000
open Go.ChangeShapes Go.WideShapes Go.ChangeAt Go.RowKit Go.Maps
open Pl
theorem OZ {rs:List TR} (h:bz (ah rs)=true) {k:ByteArray × ByteArray} (hk:k ∈ au (ah rs)):∃ es,gm (ah rs) k.1 k.2=some es∧aN es=true:=by
 unfold au at hk;obtain ⟨T,hT,hk⟩:=SY.1 hk;obtain ⟨t,ht,rfl⟩:=SK.1 hT;unfold jL at hk;obtain ⟨r,hr,rfl⟩:=SK.1 hk;obtain ⟨q,hq,rfl⟩:=SK.1 hr;exact ⟨ak q.rows,o6 h ht hq,((bP h).2.2 t ht q hq).1⟩
theorem Rn {wr W w':ae} {b o1 o2:Nat} {x y:Value} (h:W.cell? ⟨b,o1,none⟩=some x∧W.cell? ⟨b,o2,none⟩=some y∧af wr W) (hb:af W w'):w'.cell? ⟨b,o1,none⟩=some x∧w'.cell? ⟨b,o2,none⟩=some y∧af wr w' :=
 ⟨aG hb (aB h.1) h.1,aG hb (aB h.2.1) h.2.1,h.2.2.trans (hb.mono h.2.2.size)⟩
def qL [DecidableEq Fc] (st:ByteArray × ByteArray→Int) (rs:List TR) (ts:List Tp):List Fc:=mG (ah rs) ts st (gQ ts) (dP ts) ((au (ah rs)).length + 1)
section
variable [DecidableEq Fc]
theorem mo (st:ByteArray × ByteArray→Int) (rs:List TR) (ts:List Tp) (xo xu:List Al):∀ N,GoodO (ah rs) xo xu (mG (ah rs) ts st xo xu N)
 | 0=>⟨List.nodup_nil,fun g hg=>by cases hg⟩
 | N + 1=>by
  refine ⟨CR _ _ _ _ _ _,fun g hg=>?_⟩;rw [jW] at hg;obtain ⟨new,e,hn⟩:=CP (H:=iX (ah rs) ts) (dx (ah rs) st xo xu (N:Int)) (mV (dx (ah rs) st xo xu (N:Int)) (mG (ah rs) ts st xo xu N) + 1) (mG (ah rs) ts st xo xu N);unfold o7 at hg;rw [e] at hg;rcases SI.1 hg with hg | hg
  ·exact (mo st rs ts xo xu N).sub g hg
  exact CX (hn g hg)
theorem LW (st:ByteArray × ByteArray→Int) (ad:Option Addr) (cap:Nat) (rs:List TR) (TH:Option Addr) (cap':Nat) (ts:List Tp) (w:ae) (hsp:bI (ah rs)) (hle:Least (ah rs) st) (hs:mD w ad rs) (hl:∀ r ∈ rs,r.light) (hlt:ts.length≤40) (hst:Sl w TH ts) :
  Calls prog 57 #[.slice ad rs.length cap,.slice TH ts.length cap'] w fun e w'=>(∃ v,e=.returned v∧w'.ownsRow w.heap.size 29 5 v (qL st rs ts).length (aF (qL st rs ts)))∧af w w':=by
 obtain ⟨iF,z0,z1,z2,z3⟩:=Ec;have HIF:=ax (And.intro z0 (And.intro z1 (And.intro z2 z3)));obtain ⟨h6,VL,hsf⟩:=bP hsp.1;have HSP:=ax hsp;have UH:=ax hle;have HS:=ax hs;have HL:=ax hl;have HST:=ax hst;have VI:=ax hsf;have Vv:=ax VL;have HND:=ax (IQ hsp.1);have Xx:(au (ah rs)).length≤36:=yB h6 VL;have htl:ts.length≤1048576:=by omega
 obtain ⟨W0,hW0⟩:∃ W0,W0=w.alloc (.cells #[] 29):=⟨_,rfl⟩;have HB0:=nA hW0;have Uw:Hid (W0.ownsRow w.heap.size 29 5 (.slice (some ⟨w.heap.size,0,none⟩) 0 0) 0 (aF [])):=by
  show World.ownsRow _ _ _ _ _ _ _;rw [hW0];exact World.ownsRow_lit w #[] 0 (Sy _) (by unfold maxLen; omega) (by simp)
 have HNC:Hid ((∀ o,W0.cell? ⟨w.heap.size,o,none⟩=none)∧w.heap.size < W0.heap.size):=by
  show _∧_;rw [hW0];exact ⟨fun o=>by simp,by simp⟩
 clear hsp hle hs hl hst hsf VL z0 z1 z2 z3;go_enter func57,ntmps57;go_wp2_with fail;rw [← hW0];clear hW0;refine (sj TH cap' ts false _ hlt (HST.out.below HB0.out)).mono ?_;rintro e w1 ⟨⟨vo,rfl,hvo⟩,hb1⟩;have HB1:=ax (HB0.out.trans (hb1.mono HB0.out.size));have HR1:=ax (aK Uw.out hb1);have HN1:Hid ((∀ o,w1.cell? ⟨w.heap.size,o,none⟩=none)∧w.heap.size < w1.heap.size):=⟨fun o=>(hb1.cell (p:=⟨w.heap.size,o,none⟩) HNC.out.2).trans (HNC.out.1 o),Sv HNC.out.2 hb1.size⟩;obtain ⟨UZ,Ux,rfl,hsO⟩:=gP hvo;have YF:=ax hsO;clear hvo hb1 hsO HB0 Uw HNC;go_wp2_with fail;refine (sj TH cap' ts true _ hlt (HST.out.below HB1.out)).mono ?_;rintro e w2 ⟨⟨vu,rfl,hvu⟩,hb2⟩;have HB2:=ax (HB1.out.trans (hb2.mono HB1.out.size));have HR2:=ax (aK HR1.out hb2);have V6:Hid ((∀ o,w2.cell? ⟨w.heap.size,o,none⟩=none)∧w.heap.size < w2.heap.size):=⟨fun o=>(hb2.cell (p:=⟨w.heap.size,o,none⟩) HN1.out.2).trans (HN1.out.1 o),Sv HN1.out.2 hb2.size⟩;have HSO2:=ax (YF.out.below hb2);obtain ⟨UB,TM,rfl,hsU⟩:=gP hvu;have YL:=ax hsU;clear hvu hb2 hsU HB1 HR1 HN1 YF;go_wp2_with fail;refine (uF ad cap rs _ h6 (HS.out.below HB2.out) HL.out Vv.out (fun r hr q hq=>(VI.out r hr q hq).2) (l6 HSP.out.2.1)).mono ?_;rintro e W ⟨hres,hb3⟩;rcases hres with ⟨adN,capN,sts,rfl,hsN,hkN,hlN⟩ | ⟨-,hno⟩;rotate_left
 ·exact absurd HSP.out.2.2 hno
 have HK:=ax hkN;have VM:=ax hlN;have HB3:=ax (HB2.out.trans (hb3.mono HB2.out.size));have HSN:=ax hsN;have HSO3:=ax (HSO2.out.below hb3);have HSU3:=ax (YL.out.below hb3);have hsl:sts.length=(au (ah rs)).length:=by rw [← hkN,iG,Tk]
 have hs36:sts.length≤36:=by omega
 have HSLE:=ax hsl;obtain ⟨xo,hxo⟩:∃ xo,xo=gQ ts:=⟨_,rfl⟩;obtain ⟨xu,hxu⟩:∃ xu,xu=dP ts:=⟨_,rfl⟩;have n0:fG false ts=xo:=by rw [hxo]; rfl
 have n1:fG true ts=xu:=by rw [hxu]; rfl
 rw [n0] at HSO3;rw [n1] at HSU3;rw [n0,n1];have hol:xo.length≤80:=by have:=og ts; rw [hxo]; omega
 have Xn:xu.length≤40:=by have:=mi ts; rw [hxu]; omega
 have Zi:=ax hxo;have HXU:=ax hxu;have Xk:Hid (OutI w W W (.slice (some ⟨w.heap.size,0,none⟩) 0 0) []):=⟨aK HR2.out hb3,fun _ _ _ h=>h,Sy _,HB3.out,fun g hg o=>by
  have e:g=w.heap.size:=by simpa [Value.ownBlock] using hg.symm
  rw [e]; exact (hb3.cell (p:=⟨w.heap.size,o,none⟩) V6.out.2).trans (V6.out.1 o)⟩
 clear hsN hkN hlN hb3 HB2 HR2 V6 HSO2 YL n0 n1 hxo hxu hsl Vv;obtain ⟨H,hH⟩:∃ H,H=iX (ah rs) ts:=⟨_,rfl⟩;obtain ⟨A,hA⟩:∃ A:Nat→List Fc,A=mG (ah rs) ts (fH sts) xo xu:=⟨_,rfl⟩;obtain ⟨Q,hQ⟩:∃ Q:Nat→List Fc,Q=fun (n:Nat)=>dx (ah rs) (fH sts) xo xu (n:Int):=⟨_,rfl⟩;have HA1:Hid (∀ n,A (n + 1)=o7 H (Q n) (A n)):=fun n=>by rw [hA,hH,hQ]; exact jW _ _ _ _ _ _
 have HAG:Hid (∀ n,GoodO (ah rs) xo xu (A n)):=fun n=>by rw [hA]; exact mo _ _ _ _ _ n
 have HQS:Hid (∀ n,∀ g ∈ Q n,g ∈ Eg (ah rs) xo xu):=fun n g hg=>by rw [hQ] at hg; exact CX hg
 have HQI:Hid (∀ n:Nat,rR sts xo xu (n:Int) xo.length=Q n):=fun n=>by rw [hQ]; exact OU HK.out HND.out xo xu n
 have Uz:Hid (A (sts.length + 1)=qL st rs ts):=by
  show _=_;rw [hA,HSLE.out,Zi.out,HXU.out];exact wM (fun k hk=>VM.out.same UH.out k hk) _
 have HA0:Hid (A 0=[]):=by show _=_; rw [hA]; rfl
 have HH:=ax hH;clear hH hA hQ;go_wp2;go_loopw [5,10] (fun v i wr=>∃ (n:Nat),n≤sts.length + 1∧i=.int .i64 n∧Hid (OutI w W wr v (A n))) (fun _ i _=>sts.length + 1 - (intOf i).toNat);case atStart=>exact ⟨0,SC _,rfl,by rw [HA0.out]; exact Xk⟩
 clear Xk;obtain ⟨n,hn,rfl,HO⟩:=hrel;by_cases hlt1:n≤sts.length
 ·go_wp2;go_loopw [5,11] (fun v m wr=>∃ (bb:Bool) (out:List Fc),m=.bool bb∧Hid (o7 H (Q n) out=A (n + 1))∧Hid (bb=false→bY H (Q n) out=out)∧Hid (OutI w W wr v out)∧Hid (GoodO (ah rs) xo xu out)) (fun v m _=>2 * (200000 - Q7 v) + Sj m);case atStart=>exact ⟨true,A n,rfl,(HA1.out n).symm,(fun h=>by cases h),HO,HAG.out n⟩
  clear HO;obtain ⟨bb,out,rfl,HLM,Ya,HO,HG⟩:=hrel;have hout:=HG.out.len hol Xx Xn;obtain ⟨Xc,UG,rfl,-⟩:=kJ HO.out.row;cases bb;case false=>
   have Tx:Hid (OutI w W wr (.slice Xc out.length UG) (A (n + 1))):=by
    show OutI _ _ _ _ _;rw [← HLM.out,wG (Ya.out rfl)]; exact HO.out
   go_wp2;go_roundw;case rel=>exact ⟨n + 1,by omega,by go_num,Tx⟩
   simp [intOf] <;> omega
  go_wp2;go_loopw [5,11,12] (fun v m i wr=>∃ (q:Nat) (bb:Bool) (TD:List Fc),q≤xo.length∧m=.bool bb∧i=.int .i64 q∧Hid (TD=bY H (rR sts xo xu (n:Int) q) out)∧Hid (bb=decide (out.length < TD.length))∧Hid (OutI w W wr v TD)∧Hid (GoodO (ah rs) xo xu TD)) (fun _ _ i _=>xo.length - (intOf i).toNat);case atStart=>exact ⟨0,false,out,SC _,rfl,rfl,rfl,(decide_eq_false (Nat.lt_irrefl _)).symm,HO,HG⟩
  clear HO;obtain ⟨q,bb,TD,hq,rfl,rfl,HR,UR,Tx,HG2⟩:=hrel;by_cases hlq:q < xo.length
  ·have HSU4:=ax (LM (sts:=sts) (xu:=xu) (n:=(n:Int)) hlq);obtain ⟨o,ho⟩:∃ o,o=xo[q]:=⟨_,rfl⟩;rw [← ho] at HSU4;have HOQ:=ax ho;clear ho;go_wp2;go_loopw [5,11,13] (fun v m i wr=>∃ (p:Nat) (bb:Bool) (Vs:List Fc),p≤sts.length∧m=.bool bb∧i=.int .i64 p∧Hid (Vs=bY H (rR sts xo xu (n:Int) q ++ kK sts xu (n:Int) o p) out)∧Hid (bb=decide (out.length < Vs.length))∧Hid (OutI w W wr v Vs)∧Hid (GoodO (ah rs) xo xu Vs)) (fun _ _ i _=>sts.length - (intOf i).toNat);case atStart=>exact ⟨0,bb,TD,SC _,rfl,rfl,by show _=_; rw [LJ,List.append_nil]; exact HR.out,UR,Tx,HG2⟩
   clear Tx HR UR HG2;obtain ⟨p,bb,Vs,hp,rfl,rfl,HR,UR,Tx,HG2⟩:=hrel;by_cases hlp:p < sts.length
   ·obtain ⟨bN,ZX,hadN,⟨s0,s1,s2⟩,hbN⟩:=G8.at0 (HSN.out.keepC Tx.out.size Tx.out.keep) hlp;obtain ⟨bO,Uj,VU,⟨o0,o1⟩,hbO⟩:=kw.at0 (HSO3.out.keepC Tx.out.size Tx.out.keep) hlq;rw [← HOQ.out] at o0 o1;obtain ⟨s,hsp⟩:∃ s,s=sts[p]:=⟨_,rfl⟩;have YE:Hid ((s.typ.toList == o.t.toList && decide (s.n=(n:Int)))=false→kK sts xu (n:Int) o (p + 1)=kK sts xu (n:Int) o p):=fun h=>PZ hlp (by rw [← hsp]; exact h);have HKY:Hid ((s.typ.toList == o.t.toList && decide (s.n=(n:Int)))=true→kK sts xu (n:Int) o (p + 1)=kK sts xu (n:Int) o p ++ jG o s.rel xu):=fun h=>by rw [OT hlp (by rw [← hsp]; exact h),← hsp]
    rw [← hsp] at s0 s1 s2;have Zc:Hid (s.key ∈ au (ah rs)):=by show _ ∈ _; rw [← HK.out,hsp]; exact List.mem_map_of_mem (Sw hlp)
    have Wj:=ax hsp;have hq1:=bq q;have hq2:(q:Int) < (xo.length:Int):=by omega
    have hp1:=bq p;have hp2:(p:Int) < (sts.length:Int):=by omega
    subst hadN;subst VU;clear hsp;cases ht:(s.typ.toList == o.t.toList);case false=>
     have Yk:Hid (kK sts xu (n:Int) o (p + 1)=kK sts xu (n:Int) o p):=YE.out (by rw [ht]; rfl);have Ub:∀ nq,Hid (OutI w W (wr.drewN nq) u5 Vs):=fun nq=>Tx.out.below (below_drewN (Sz _ _) nq);go_wp2_with fail;go_quiet (fail);go_wp2;go_roundw;case rel=>exact ⟨p + 1,bb,Vs,by omega,rfl,by go_num,by rw [Yk.out]; exact HR,UR,Ub _,HG2⟩
     simp [intOf] <;> omega
    by_cases hn2:s.n=(n:Int)
    ·have hb1:(s.n == (n:Int))=true:=by simpa using hn2
     have Yk:=ax (HKY.out (by rw [ht,hn2]; simp));have HTO:Hid (s.typ=o.t):=eZ.1 ht;have hb2:decide (s.n=(n:Int))=true:=decide_eq_true hn2;replace hn2:Hid (s.n=(n:Int)):=hn2;have HREL:Hid (∀ W':World,(W'.cell? ⟨bN,ZX + p * 3,none⟩=some (.string s.typ)∧W'.cell? ⟨bN,ZX + p * 3 + 1,none⟩=some (.string s.rel)∧af wr W')→Calls prog 97 #[.slice ad rs.length cap,.string s.typ,.string s.rel] W' fun e w'=>(∃ (rows:List ER) (TA:Option Addr) (capE:Nat),e=.returned (.slice TA rows.length capE)∧ak rows=aL (ah rs) s.typ s.rel∧pz rs TA rows)∧af W' w'):=fun W' h=>by
      refine (jc ad cap rs s.typ s.rel W' (by omega) (HS.out.below (Tx.out.bel.trans (h.2.2.mono Tx.out.bel.size))) HL.out).mono ?_;rintro e w' ⟨⟨rows,TA,capE,he,hx,-,hf⟩,rfl⟩;exact ⟨⟨rows,TA,capE,he,hx,hf⟩,Sz _ _⟩
     go_wp2_with fail;go_quiet (fail);go_wp2_with fail
     go_region_held3 (fun w'=>w'.cell? ⟨bN,ZX + p * 3,none⟩=some (.string s.typ)∧w'.cell? ⟨bN,ZX + p * 3 + 1,none⟩=some (.string s.rel)∧af wr w')
      (first | assumption | exact Rn (by assumption) hbx | exact ⟨s0,s1,Below.drew (below_drewN (Sz _ _) _)⟩)
      (first | (go_at_call 97; refine (HREL.out _ (by assumption)).mono ?_; rintro e w' ⟨⟨rows,TA,capE,rfl,hrx,hrf⟩,hbx⟩))
     rename_i hH;have TI:=ax (Tx.out.below hH.2.2);have ZA:Hid (ak rows=aL (ah rs) o.t s.rel):=by show _=_; rw [hrx,HTO.out]
     obtain ⟨VF,hr1⟩:Hid (V9 rows)∧1≤rows.length:=by
      obtain ⟨es,e1,e2⟩:=OZ HSP.out.1 Zc.out;have e3:ak rows=es:=by
       rw [hrx]; unfold aL;show (gm (ah rs) s.key.1 s.key.2).getD []=es;rw [e1]; rfl
      rw [← e3] at e2;exact JG e2
     have HRF:=ax hrf;have hr1000:=VF.out.len;clear hH hbx hrx hrf HREL s0 s1 s2 o0 o1 hb1 hb2 Tx HTO hbN hbO;go_wp2;go_loopw [5,11,15] (fun v m i wr=>∃ (j:Nat) (bb:Bool) (TV:List Fc),j≤xu.length∧m=.bool bb∧i=.int .i64 j∧Hid (TV=bY H (rR sts xo xu (n:Int) q ++ kK sts xu (n:Int) o p ++ jG o s.rel (xu.take j)) out)∧Hid (bb=decide (out.length < TV.length))∧Hid (OutI w W wr v TV)∧Hid (GoodO (ah rs) xo xu TV)) (fun _ _ i _=>xu.length - (intOf i).toNat);case atStart=>exact ⟨0,bb,Vs,SC _,rfl,rfl,by show _=_; rw [List.take_zero]; show _=bY H (_ ++ []) out; rw [List.append_nil]; exact HR.out,UR,TI,HG2⟩
     clear TI HR UR HG2;obtain ⟨j,bb,TV,hj,rfl,rfl,HR,UR,Tx,HG2⟩:=hrel;by_cases hlj:j < xu.length
     ·obtain ⟨bU,offU,hadU,⟨y0,y1⟩,hbU⟩:=kw.at0 (HSU3.out.keepC Tx.out.size Tx.out.keep) hlj;obtain ⟨bN',offN',Y0,⟨s0,s1,s2⟩,hbN⟩:=G8.at0 (HSN.out.keepC Tx.out.size Tx.out.keep) hlp;obtain ⟨bO',offO',Y3,⟨o0,o1⟩,hbO⟩:=kw.at0 (HSO3.out.keepC Tx.out.size Tx.out.keep) hlq;injection Y0 with Y0; injection Y0 with e1 e2; subst e1; subst e2;injection Y3 with Y3; injection Y3 with e1 e2; subst e1; subst e2;rw [← HOQ.out] at o0 o1;rw [← Wj.out] at s0 s1 s2;obtain ⟨f,hf⟩:∃ f:Fc,f=⟨o.t,o.s,s.rel,xu[j].t,xu[j].s⟩:=⟨_,rfl⟩;have HAT:Hid (jG o s.rel (xu.take (j + 1))=jG o s.rel (xu.take j) ++ [f]):=by show _=_; rw [hf]; exact LP o s.rel hlj
      have HFQ:Hid (f ∈ Eg (ah rs) xo xu):=by
       show _ ∈ _;rw [hf];unfold Eg jG;refine SY.2 ⟨o,by rw [HOQ.out]; exact Sw hlq,SY.2 ⟨s.key,Zc.out,SK.2 ⟨xu[j],Sw hlj,rfl⟩⟩⟩
      have hout4:=HG2.out.len hol Xx Xn;obtain ⟨ZY,XI,rfl,hsF⟩:=kJ Tx.out.row;have HSF4:=ax hsF;have f0:o.t=f.a:=by rw [hf]
      have f1:o.s=f.b:=by rw [hf]
      have f2:s.rel=f.r:=by rw [hf]
      have f3:xu[j].t=f.c:=by rw [hf]
      have f4:xu[j].s=f.d:=by rw [hf]
      have HEF:Hid (ak rows=aL (ah rs) f.a f.r):=by show _=_; rw [hf]; exact ZA.out
      rw [f3] at y0;rw [f4] at y1;rw [f0] at o0;rw [f1] at o1;rw [f2] at s1;have hj1:=bq j;have hj2:(j:Int) < (xu.length:Int):=by omega
      subst hadU;clear hsF hf f0 f1 f2 f3 f4 s0 s2;obtain ⟨W5,Uk⟩:∃ W5,W5=(wr.alloc (.cells #[.string f.a,.string f.b,.string f.r,.string f.c,.string f.d] 29)).drew:=⟨_,rfl⟩;have TJ:Hid (af wr W5):=by show Below _ _ _; rw [Uk]; exact ((Sz _ _).alloc (Sy _) _).drew
      have g0:W5.cell? ⟨wr.heap.size,0,none⟩=some (.string f.a):=by rw [Uk]; simp
      have g1:W5.cell? ⟨wr.heap.size,1,none⟩=some (.string f.b):=by rw [Uk]; simp
      have g2:W5.cell? ⟨wr.heap.size,2,none⟩=some (.string f.r):=by rw [Uk]; simp
      have g3:W5.cell? ⟨wr.heap.size,3,none⟩=some (.string f.c):=by rw [Uk]; simp
      have g4:W5.cell? ⟨wr.heap.size,4,none⟩=some (.string f.d):=by rw [Uk]; simp
      have gl:wr.heap.size < W5.heap.size:=aB g0;have TK:=ax (Tx.out.below TJ.out);go_wp2_with fail
      go_region
      rw [← Uk];clear Uk y0 y1 o0 o1 s1 hbU hbN hbO;go_wp2_with fail;refine (rD ZY XI TV f W5 (by omega) (HSF4.out.below TJ.out)).mono ?_;rintro e w6 ⟨rfl,hb6⟩;have V4:=ax (TJ.out.trans (hb6.mono TJ.out.size));have Uq:=ax (TK.out.below hb6);replace g0:=aG hb6 gl g0;replace g1:=aG hb6 gl g1;replace g2:=aG hb6 gl g2;replace g3:=aG hb6 gl g3;replace g4:=aG hb6 gl g4;replace gl:=Sv gl hb6.size;have HHF:Hid (H TV f=jB ts (ak rows) TV f rows.length TV (rows.length - 1)):=by show _=_; rw [HH.out]; unfold iX; rw [← HEF.out,bi]
      have HRS:Hid (bY H (rR sts xo xu (n:Int) q ++ kK sts xu (n:Int) o p ++ jG o s.rel (xu.take (j + 1))) out=fZ H TV f):=by show _=_; rw [HAT.out,← List.append_assoc,rG,← HR.out]
      clear hb6 TJ TK;cases hh:cZ TV f;case true=>
       have HR2:Hid (TV=bY H (rR sts xo xu (n:Int) q ++ kK sts xu (n:Int) o p ++ jG o s.rel (xu.take (j + 1))) out):=by show _=_; rw [HRS.out,vw (.inl hh)]
       go_wp2;go_roundw;case rel=>exact ⟨j + 1,bb,TV,by omega,rfl,by go_num,HR2,UR,Uq,HG2⟩
       simp [intOf] <;> omega
      have HHH:=ax hh;have hwr:IntKind.i64.wrap ((rows.length:Int) - 1)=((rows.length - 1:Nat):Int):=by rw [IntKind.wrap_i64]; omega
      have UU:=ax (xN (.slice ad rs.length cap) TH cap' ts TA capE rows ZY XI TV f htl VF.out (by omega) rows.length (rows.length - 1) ZY XI TV w6 (by omega) (by omega) (by omega) ⟨HST.out.below Uq.out.bel,HRF.out.sl (HS.out.below Uq.out.bel),HSF4.out.below V4.out,HSF4.out.below V4.out⟩);clear hh;go_wp2_with fail;refine UU.out.mono ?_;rintro e w7 ⟨he7,Wl⟩;rw [← HHF.out] at he7;subst he7;have Vt:=ax (Uq.out.below Wl);replace g0:=aG Wl gl g0;replace g1:=aG Wl gl g1;replace g2:=aG Wl gl g2;replace g3:=aG Wl gl g3;replace g4:=aG Wl gl g4;replace gl:=Sv gl Wl.size;clear Wl UU Uq V4 hwr;cases hv:H TV f;case false=>
       have HR2:Hid (TV=bY H (rR sts xo xu (n:Int) q ++ kK sts xu (n:Int) o p ++ jG o s.rel (xu.take (j + 1))) out):=by show _=_; rw [HRS.out,vw (.inr hv)]
       go_wp2;go_roundw;case rel=>exact ⟨j + 1,bb,TV,by omega,rfl,by go_num,HR2,UR,Vt,HG2⟩
       simp [intOf] <;> omega
      have HST2:Hid (fZ H TV f=TV ++ [f]):=Dc HHH.out hv;have HR2:Hid (TV ++ [f]=bY H (rR sts xo xu (n:Int) q ++ kK sts xu (n:Int) o p ++ jG o s.rel (xu.take (j + 1))) out):=by show _=_; rw [HRS.out,HST2.out]
      have VY:Hid (GoodO (ah rs) xo xu (TV ++ [f])):=by
       have h1:=HG2.out.run (H:=H) (qs:=[f]) (fun g hg=>by
        rw [SG] at hg;subst hg;exact HFQ.out)
       rw [show bY H [f] TV=fZ H TV f from rfl,HST2.out] at h1;exact h1
      have UA:Hid (true=decide (out.length < (TV ++ [f]).length)):=by
       show _=_;have h1:=Gg H (rR sts xo xu (n:Int) q ++ kK sts xu (n:Int) o p ++ jG o s.rel (xu.take j)) out;rw [← HR.out] at h1;rw [SE];exact (decide_eq_true (by simp; omega)).symm
      obtain ⟨W8,Vw⟩:∃ W8,W8=w7.alloc (.cells #[.string f.a,.string f.b,.string f.r,.string f.c,.string f.d] 29):=⟨_,rfl⟩;have HO8:Hid (OutI w W W8 (.slice ZY TV.length XI) TV):=by show OutI _ _ _ _ _; rw [Vw]; exact Vt.out.below ((Sz _ _).alloc (Sy _) _)
      have HN8:Hid (∀ j u,f.row[j]?=some u→W8.cell? ((⟨w7.heap.size,0,none⟩:Addr).add j)=some u):=by rw [Vw]; exact JB w7 f
      have hsz8:w.heap.size≤W8.heap.size:=HO8.out.bel.size;clear hv;go_wp2_with (at_builtin; rw [← Vw]; clear Vw; refine wpList_append_own_at _ rfl _ _ 40 rfl w.heap.size 29 iF (.agg #[.string ⟨#[]⟩,.string ⟨#[]⟩,.string ⟨#[]⟩,.string ⟨#[]⟩,.string ⟨#[]⟩]) 5 80 underlying40 HIF.out.1 HIF.out.2.1 HIF.out.2.2.1 HIF.out.2.2.2 rfl (by decide) _ TV.length (aF TV) rfl HO8.out.row ⟨w7.heap.size,0,none⟩ 1 1 f.row rfl rfl HN8.out (by simp [Fc.row,Value.oneCell']) (by unfold maxLen; omega) (by omega) hsz8 ?_);intro v' w9 hown hgr _ hat;have ZL:=ax (HO8.out.app hown hgr hat);clear hown hgr hat g0 g1 g2 g3 g4 gl;go_wp2;go_roundw;case rel=>exact ⟨j + 1,true,TV ++ [f],by omega,rfl,by go_num,HR2,UA,ZL,VY⟩
      simp [intOf] <;> omega
     have HR3:Hid (TV=bY H (rR sts xo xu (n:Int) q ++ kK sts xu (n:Int) o (p + 1)) out):=by show _=_; rw [Yk.out,HR.out,show j=xu.length by omega,SS,List.append_assoc]
     go_wp2;go_roundw;case rel=>exact ⟨p + 1,bb,TV,by omega,rfl,by go_num,HR3,UR,Tx,HG2⟩
     simp [intOf] <;> omega
    have hb1:(s.n == (n:Int))=false:=by simpa using hn2
    have hb2:decide (s.n=(n:Int))=false:=decide_eq_false hn2;have Yk:Hid (kK sts xu (n:Int) o (p + 1)=kK sts xu (n:Int) o p):=YE.out (by rw [hb2,Bool.and_false]);have Ub:∀ nq,Hid (OutI w W (wr.drewN nq) u5 Vs):=fun nq=>Tx.out.below (below_drewN (Sz _ _) nq);go_wp2_with fail;go_quiet (fail);go_wp2;go_roundw;case rel=>exact ⟨p + 1,bb,Vs,by omega,rfl,by go_num,by rw [Yk.out]; exact HR,UR,Ub _,HG2⟩
    simp [intOf] <;> omega
   have HR3:Hid (Vs=bY H (rR sts xo xu (n:Int) (q + 1)) out):=by show _=_; rw [HSU4.out,HR.out,show p=sts.length by omega]
   go_wp2;go_roundw;case rel=>exact ⟨q + 1,bb,Vs,by omega,rfl,by go_num,HR3,UR,Tx,HG2⟩
   simp [intOf] <;> omega
  have hout2:=HG2.out.len hol Xx Xn;have HRQ:Hid (TD=bY H (Q n) out):=by show _=_; rw [HR.out,← HQI.out n,show q=xo.length by omega]
  obtain ⟨ad2,cap2,rfl,-⟩:=kJ Tx.out.row;have HLM2:Hid (o7 H (Q n) TD=A (n + 1)):=by show _=_; rw [HRQ.out,CO]; exact HLM.out
  have hbl:=Gg H (Q n) out;have HDN2:Hid (bb=false→bY H (Q n) TD=TD):=fun hb=>by
   have e:TD=out:=by
    rw [HRQ.out];refine I6 ?_;rw [← HRQ.out,← UR.out]; exact hb
   rw [e]; rw [HRQ.out] at e; exact e
  have hm:2 * (200000 - TD.length) + Sj (.bool bb) < 2 * (200000 - out.length) + 1:=by
   have h1:=UR.out;rw [← HRQ.out] at hbl;cases bb;case true=>have:=of_decide_eq_true h1.symm; simp only [Sj]; omega
   have:=of_decide_eq_false h1.symm; simp only [Sj]; omega
  have HM:=ax hm;clear hm hbl;go_wp2;go_roundw;case rel=>exact ⟨bb,TD,rfl,HLM2,HDN2,Tx,HG2⟩
  exact HM.out
 have hne:n=sts.length + 1:=by omega
 have Tx:Hid (wr.ownsRow w.heap.size 29 5 u5 (qL st rs ts).length (aF (qL st rs ts))):=by
  show World.ownsRow _ _ _ _ _ _ _;rw [← Uz.out,← hne]; exact HO.out.row
 have YT:=ax HO.out.bel;clear HO;go_wp2;go_ret;exact ⟨⟨_,rfl,Tx.out⟩,YT.out⟩
end
end Go.Proofs.YtajkkeikihhejaaGreat
namespace Go.Proofs.YtajkkeikihhejaaGreat
set_option linter.unusedVariables false
set_option maxRecDepth 100000
open Go.ChangeShapes Go.WideShapes Go.ChangeAt Go.RowKit Go.Maps Go.Shelf
open Pl
attribute [local go_sem] Oper.semAt_some
def En (X:World) (B:Nat):Nat:=match X.cell? ⟨B,0,none⟩ with
 | some x=>Q7 x
 | none=>0
theorem Eo {X:ae} {B n c:Nat} {ad:Option Addr} {T:TypeId} (h:gZ X B (.slice ad n c) T):En X B=n:=by
 unfold En; rw [h.c]; rfl
section
variable [DecidableEq Fc]
theorem LX (w:ae) (rs:List TR) (Ui:Option Addr) (D br bp bt:Nat) (N:Nat) (nr:Nat) (Mr:KL→Option Value) (st:ByteArray × ByteArray→Int) (ts:List Tp) (xo xu:List Al) (np:Nat) (Mp:K3→Option Value) (vo vu:Value) (hD:DatA w rs D br bp bt (N:Int) nr Mr (eH st rs) (dJ ts) xo xu np Mp vo vu) (hs:mD w Ui rs) (hN:N≤1000) (hol:xo.length≤80) (Xn:xu.length≤40) (hE:(au (ah rs)).length≤36) (hrl:∀ k,(G.lookL (eH st rs) k).length≤1000) (hsh:bz (ah rs)=true) (hts:∀ t ∈ ts,t.fits) (htl:ts.length≤1000) (hof:∀ o ∈ xo,o.t.size≤maxLen∧o.s.size≤maxLen) (huf:∀ o ∈ xu,o.t.size≤maxLen∧o.s.size≤maxLen) (hrf:∀ k ∈ au (ah rs),k.2.size≤maxLen) :
  Calls prog 59 #[.pointer (some ⟨D,0,none⟩)] w fun e w'=>(∃ v,e=.returned v∧w'.ownsRow w.heap.size 29 5 v (mG (ah rs) ts st xo xu N).length (aF (mG (ah rs) ts st xo xu N)))∧af w w':=by
 obtain ⟨iF,z0,z1,z2,z3⟩:=Ec;obtain ⟨W0,hW0⟩:∃ W0,W0=((w.alloc (.cells #[.slice none 0 0] 40)).alloc (.map #[] 0)).alloc (.cells #[.map (some (w.heap.size + 1))] 107):=⟨_,rfl⟩;obtain ⟨UZ,Ux,rfl,-⟩:=gP hD.dat.objs;have hlD:=hD.dat.lt;have d1:=hD.dat.c1;have h00:FoW w W0 (.slice none 0 0) []∧gZ W0 (w.heap.size + 1 + 1) (.map (some (w.heap.size + 1))) 107:=by
  obtain ⟨V1,e1⟩:∃ V,V=w.alloc (.cells #[.slice none 0 0] 40):=⟨_,rfl⟩;obtain ⟨V2,e2⟩:∃ V,V=V1.alloc (.map #[] 0):=⟨_,rfl⟩;rw [← e1,← e2] at hW0;have t1:V1.heap.size=w.heap.size + 1:=by rw [e1,World.size_alloc]
  have t2:V2.heap.size=w.heap.size + 1 + 1:=by rw [e2,World.size_alloc,t1]
  have f1:af w V1:=by rw [e1]; exact (Sz _ _).alloc (Sy _) _
  have f2:af V1 V2:=by rw [e2]; exact (Sz _ _).alloc (Sy _) _
  have f3:af V2 W0:=by rw [hW0]; exact (Sz _ _).alloc (Sy _) _
  have f12:af w V2:=f1.trans (f2.mono f1.size);have g1:gZ V1 w.heap.size (.slice none 0 0) 40:=by rw [e1]; exact World.alloc_heap_new w _
  have g2:aO nY prog 29 V2 (w.heap.size + 1) 0 (fun _=>none):=by
   have:=nH nY prog 29 V1;rw [← e2,t1] at this; exact this
  have g3:gZ W0 (w.heap.size + 1 + 1) (.map (some (w.heap.size + 1))) 107:=by rw [hW0,← t2]; exact World.alloc_heap_new V2 _
  have ek:Bt []=fun _=>none:=rfl;exact ⟨⟨f12.trans (f3.mono f12.size),(g1.bel f2).bel f3,World.ownsRow_nil _ _ _ _,by rw [ek]; exact g2.below f3⟩,g3⟩
 have hmm:=@run_makeMap prog;have hl1:D < w.heap.size + 1:=by omega
 have hl2:D < w.heap.size + 1 + 1:=by omega
 refine (callsIn_wide (n:=12)).1 ?_;refine callsIn_of_wp_marks func59 rfl trivial ?_ rfl;simp only [ntmps59,List.size_toArray,List.length_cons,List.length_nil,Nat.reduceAdd,Nat.reduceSub,Array.replicate_succ,Array.replicate_zero,List.push_toArray,List.append_toArray,List.nil_append,List.cons_append];gi_wp2;rw [← hW0];clear hW0 hmm;obtain ⟨H,hH⟩:∃ H,H=iX (ah rs) ts:=⟨_,rfl⟩;obtain ⟨A,hA⟩:∃ A:Nat→List Fc,A=mG (ah rs) ts st xo xu:=⟨_,rfl⟩;obtain ⟨Q,hQ⟩:∃ Q:Nat→List Fc,Q=fun (n:Nat)=>dx (ah rs) st xo xu (n:Int):=⟨_,rfl⟩;have hA1:∀ n,A (n + 1)=o7 H (Q n) (A n):=fun n=>by rw [hA,hH,hQ]; exact jW _ _ _ _ _ _
 have hAG:∀ n,GoodO (ah rs) xo xu (A n):=fun n=>by rw [hA]; exact mo _ _ _ _ _ n
 have hA0:A 0=[]:=by rw [hA]; rfl
 have hAN:mG (ah rs) ts st xo xu N=A N:=by rw [hA]
 refine wpIn_loop (fun a' X=>∃ (q:Nat) (rl:List Nat) (v:Value) (u5 u6 u7 u8 u15 u16 u17 u18 u19 u20 u21 u22 u23 u24 u25 u26 u27 u28 u29 u30 u31 u32 u33 u34 u35 u36 u37 u38 u39 u40 u41 u42 u43 u44:Value),a'={ tmps:=List.toArray (.pointer (some ⟨D,0,none⟩)::undef::.slice none 0 0::.pointer (some ⟨w.heap.size,0,none⟩)::.pointer (some ⟨w.heap.size + 1 + 1,0,none⟩)::u5::u6::u7::u8::.map (some (w.heap.size + 1))::.pointer (some ⟨D,0,none⟩)::.pointer (some ⟨D,0,none⟩)::.pointer (some ⟨D,1,none⟩)::.int .i64 (N:Int)::.int .i64 (q:Int)::u15::u16::u17::u18::u19::u20::u21::u22::u23::u24::u25::u26::u27::u28::u29::u30::u31::u32::u33::u34::u35::u36::u37::u38::u39::u40::u41::u42::u43::u44::undef::[]),defers:=marks rl }∧q≤N∧FoW w X v (A q)∧gZ X (w.heap.size + 1 + 1) (.map (some (w.heap.size + 1))) 107∧iY X rl∧(∀ r ∈ rl,w.heap.size + 1 + 1 < r)) (fun a' _=>N - (intOf (a'.tmps.getD 14 undef)).toNat) ⟨0,[],.slice none 0 0,_,_,_,_,_,_,_,_,_,_,_,_,_,_,_,_,_,_,_,_,_,_,_,_,_,_,_,_,_,_,_,_,_,_,rfl,SC _,by rw [hA0]; exact h00.1,h00.2,⟨List.nodup_nil,fun r hr=>by cases hr⟩,fun r hr=>by cases hr⟩ ?_;rintro a1 X ⟨q,rl,v,u5,u6,u7,u8,u15,u16,u17,u18,u19,u20,u21,u22,u23,u24,u25,u26,u27,u28,u29,u30,u31,u32,u33,u34,u35,u36,u37,u38,u39,u40,u41,u42,u43,u44,rfl,hq,hF,hB,hMk,ZV⟩;clear h00;by_cases hlq:q < N
 ·have hDX:=hD.below hF.bel;have d5:=hDX.dat.c5;have d5l:=hDX.dat.lt;obtain ⟨Vd,T9,rfl,-⟩:=gP hDX.dat.users;gi_wp2;refine wpIn_loop (fun a' X=>∃ (us:List Al) (UB:Option Addr) (TM:Nat) (out:List Fc) (rl:List Nat) (v:Value) (base:Nat) (u7 u8 u21 u22 u23 u24 u25 u26 u27 u28 u29 u30 u31 u32 u33 u34 u35 u36 u37 u38 u39 u40 u41 u42 u43 u44:Value),a'={ tmps:=List.toArray (.pointer (some ⟨D,0,none⟩)::undef::.slice none 0 0::.pointer (some ⟨w.heap.size,0,none⟩)::.pointer (some ⟨w.heap.size + 1 + 1,0,none⟩)::.int .i64 (q:Int)::.slice UB us.length TM::u7::u8::.map (some (w.heap.size + 1))::.pointer (some ⟨D,0,none⟩)::.pointer (some ⟨D,0,none⟩)::.pointer (some ⟨D,1,none⟩)::.int .i64 (N:Int)::.int .i64 (q:Int)::.bool true::.int .i64 (q:Int)::.pointer (some ⟨D,0,none⟩)::.pointer (some ⟨D,0,none⟩)::.pointer (some ⟨D,5,none⟩)::.slice Vd xu.length T9::u21::u22::u23::u24::u25::u26::u27::u28::u29::u30::u31::u32::u33::u34::u35::u36::u37::u38::u39::u40::u41::u42::u43::u44::undef::[]),defers:=marks rl }∧FewA (ah rs) ts st xo xu (q:Int) us out∧o7 H (Q q) out=A (q + 1)∧GoodO (ah rs) xo xu out∧FoW w X v out∧gZ X (w.heap.size + 1 + 1) (.map (some (w.heap.size + 1))) 107∧iY X rl∧(∀ r ∈ rl,w.heap.size + 1 + 1 < r)∧X.ownsRow base 27 2 (.slice UB us.length TM) us.length (pairs us)∧us.length≤40∧∀ o ∈ us,o.t.size≤maxLen∧o.s.size≤maxLen) (fun a' Y=>2 * (200000 - En Y w.heap.size) + min 1 (Q7 (a'.tmps.getD 6 undef))) ⟨xu,Vd,T9,A q,rl,v,bp + 1,_,_,_,_,_,_,_,_,_,_,_,_,_,_,_,_,_,_,_,_,_,_,_,_,_,_,rfl,FewA.start _,(hA1 q).symm,hAG q,hF,hB,hMk,ZV,hDX.dat.users,Xn,huf⟩ ?_;clear hDX d5 d5l hF hB hMk ZV;rintro a2 X2 ⟨us,UB,TM,out,rl2,v2,base,u7,u8,u21,u22,u23,u24,u25,u26,u27,u28,u29,u30,u31,u32,u33,u34,u35,u36,u37,u38,u39,u40,u41,u42,u43,u44,rfl,ZZ,hLim,hG,hF2,hB2,hMk2,hMn2,hU,hul2,Z0⟩;obtain ⟨Xc,UG,rfl,-⟩:=kJ hF2.row;have hmu:=Eo hF2.box;have hout:=hG.len hol hE Xn;by_cases hne:us=[]
  ·subst hne;have hAq:A (q + 1)=out:=by rw [← hLim,hH,hQ]; exact ZZ.done
   have Xd:FoW w X2 (.slice Xc out.length UG) (A (q + 1)):=by rw [hAq]; exact hF2
   gi_wp2;exact ⟨⟨q + 1,rl2,_,_,_,_,_,_,_,_,_,_,_,_,_,_,_,_,_,_,_,_,_,_,_,_,_,_,_,_,_,_,_,_,_,_,_,rfl,by omega,Xd,hB2,hMk2,hMn2⟩,by simp [intOf]; omega⟩
  have hpos:0 < us.length:=by cases us with | nil=>exact absurd rfl hne | cons a l=>simp
  have hposI:(0:Int) < (us.length:Int):=by omega
  have bc:=hF2.box.c;have kc:=hB2.c
  gi_wp2_with fail
  refine ⟨trivial,(callsIn_wide.2 (Em D (q:Int) UB us.length TM (w.heap.size + 1) X2)).mono ?_⟩;rintro e X3 ⟨rfl,hX3⟩;obtain ⟨hBX,WZ,hs3⟩:=Qa X2 D (q:Int) (.slice UB us.length TM) (w.heap.size + 1) hX3;have Xd:=hF2.below WZ;have hU3:=aK hU WZ;have hB3:=hB2.bel WZ;have hMk3:=hMk2.bel WZ;have hsB:w.heap.size + 1 + 1 < X2.heap.size:=(Array.getElem?_eq_some_iff.1 hB2).1;clear hX3 bc kc;gi_wp2
  refine qF (α:=Fc) rfl (by omega) (gf:=144) (lb:=#[.pointer (some ⟨X2.heap.size,0,none⟩),.pointer (some ⟨X2.heap.size + 1,0,none⟩),.pointer (some ⟨X2.heap.size + 1 + 1,0,none⟩),.pointer (some ⟨X2.heap.size + 1 + 1 + 1,0,none⟩)]) rfl trivial (enters_of func144 (by kernel_rfl) rfl)
   (LU 11 (by omega) rs Ui D br bp bt (N:Int) nr Mr st ts UZ Ux xo xu np Mp (.slice Vd xu.length T9) (w.heap.size + 1) out X2.heap.size (X2.heap.size + 1) (X2.heap.size + 1 + 1) (X2.heap.size + 1 + 1 + 1) (q:Int) UB TM us X3 (by omega) (by omega) (by omega) (by omega) hrl hsh hts htl hof Z0 hrf) (Sz _ _) (fun _=>rfl) (fun h k=>h.trans k) (fun Y lx o o' h1 h2=>KpO.put h1 h2)
   (fun pre Y=>∃ v',FoW w Y v' (out ++ pre)∧KpO (w.heap.size + 1) X3.heap.size X3 Y∧GoodO (ah rs) xo xu (out ++ pre))
   ?own ?tell ⟨_,by rw [List.append_nil]; exact Xd,KpO.below (Sz _ _),by rw [List.append_nil]; exact hG⟩
   (fun x a' Y=>∃ Bx,wN Y Bx x∧a'={ tmps:=List.toArray (.pointer (some ⟨D,0,none⟩)::undef::.slice none 0 0::.pointer (some ⟨w.heap.size,0,none⟩)::.pointer (some ⟨w.heap.size + 1 + 1,0,none⟩)::.int .i64 (q:Int)::.slice UB us.length TM::.int .i64 (out.length:Int)::.pointer (some ⟨Bx,0,none⟩)::.map (some (w.heap.size + 1))::.pointer (some ⟨D,0,none⟩)::.pointer (some ⟨D,0,none⟩)::.pointer (some ⟨D,1,none⟩)::.int .i64 (N:Int)::.int .i64 (q:Int)::.bool true::.int .i64 (q:Int)::.pointer (some ⟨D,0,none⟩)::.pointer (some ⟨D,0,none⟩)::.pointer (some ⟨D,5,none⟩)::.slice Vd xu.length T9::.slice UB us.length TM::.int .i64 (us.length:Int)::.bool true::.slice Xc out.length UG::.int .i64 (out.length:Int)::.pointer (some ⟨D,0,none⟩)::.int .i64 (q:Int)::.slice UB us.length TM::.map (some (w.heap.size + 1))::.func (.func 144) #[] #[.pointer (some ⟨X2.heap.size,0,none⟩),.pointer (some ⟨X2.heap.size + 1,0,none⟩),.pointer (some ⟨X2.heap.size + 1 + 1,0,none⟩),.pointer (some ⟨X2.heap.size + 1 + 1 + 1,0,none⟩)]::.agg #[.string x.a,.string x.b,.string x.r,.string x.c,.string x.d]::u32::u33::u34::u35::u36::u37::u38::u39::u40::u41::u42::u43::u44::undef::[]),defers:=[] })
   (fun x a' s Y Z row hs hg hr=>by obtain ⟨Bx,h,e⟩:=hs; exact ⟨Bx,Gh (B0:=X3.heap.size) (g:=Bx) (x:=x) () Y Z row h hg hr,e⟩) ?assign ?body ?done
  case own =>
   intro pre Y Z row hs hg hr;obtain ⟨v',h1,h2,h3⟩:=hs;exact ⟨v',h1.kept hg fun r e=>⟨by have:=(hr r e).1; omega,(hr r e).2⟩,Qb (β:=Unit) () Y Z row h2 hg hr,h3⟩
  case tell =>
   rintro pre Y ⟨v',h1,h2,h3⟩;have hb:=hBX.kp h2;obtain ⟨ad2,cap2,e,hsa⟩:=gP (JH hU3 h2 (by decide) (by decide));injection e with ea eb ec;exact ⟨hD.below h1.bel,hs.below h1.bel,⟨_,h1.map⟩,hb.d.c,hb.s.c,hb.u.c,hb.k.c,by rw [ea]; exact hsa⟩
  case assign =>
   rintro l' pre x Y K ⟨v',h1,h2,h3⟩ hKK;unfold Db;gi_wp2;have hbl:af Y (Y.alloc (.cells #[.string x.a,.string x.b,.string x.r,.string x.c,.string x.d] 29)):=(Sz _ _).alloc (Sy _) _;exact hKK _ _ ((KeepsOthers.alloc _ _).from _) (KpO.below hbl) ⟨v',h1.below hbl,h2.trans (KpO.below hbl),h3⟩ ⟨Y.heap.size,World.alloc_heap_new Y _,rfl⟩
  case body =>
   rintro l' pre x a' Y hl ⟨hEx,hnew⟩ ⟨v',Z4,hKY,hGY⟩ ⟨Bx,bX,rfl⟩;obtain ⟨hkey,XW⟩:=Gi hof Z0 hrf hEx;obtain ⟨kl,hkl⟩:=FT x XW;obtain ⟨c0,c1,c2,c3,c4,cl⟩:=bX.c;have hGX:GoodO (ah rs) xo xu (out ++ (pre ++ [x])):=by
    refine ⟨?_,fun g hg=>?_⟩
    ·rw [← List.append_assoc];exact List.nodup_append.2 ⟨hGY.once,by simp,fun a ha b hb e=>by
      rw [SG] at hb;rw [← hb,← e] at hnew;exact hnew ha⟩
    rw [← List.append_assoc] at hg;rcases SI.1 hg with hg | hg
    ·exact hGY.sub g hg
    rw [SG] at hg;subst hg;unfold dx x9 at hEx;obtain ⟨o,ho,h1⟩:=SY.1 hEx;obtain ⟨k,hk,h1⟩:=SY.1 h1;obtain ⟨u,hu,e⟩:=SK.1 h1;have hux:u ∈ xu:=by rw [ZZ.sub] at hu; exact (Tm.1 hu).1
    exact SY.2 ⟨o,ho,SY.2 ⟨k,(Tm.1 hk).1,SK.2 ⟨u,hux,e⟩⟩⟩
   have hlen:=hGX.len hol hE Xn;rw [← List.append_assoc,SE,List.length_singleton] at hlen;obtain ⟨os,hos⟩:∃ os,os=out ++ pre:=⟨_,rfl⟩;rw [← hos] at Z4 hlen;have HOS:=aC hos;clear hos;have kc:=(hB3.kp hKY (by decide) (by decide)).c;have kl2:=aB kc;obtain ⟨adY,capY,rfl,-⟩:=kJ Z4.row;have hmap:=Z4.map;have bcY:=Z4.box.c;have hbxl:=aB bcY;have hblk:=Z4.box;obtain ⟨es,cc,hmb⟩:=o8 Z4.map;have hne1:Bx ≠ w.heap.size + 1:=fun e=>by
    have h:=bX;unfold wN at h;rw [e,hmb] at h; cases h
   have hrow:=Z4.row;have hvB:(Value.slice adY os.length capY).ownBlock ≠ some w.heap.size:=fun e=>by have:=(hrow.lt _ e).1; omega
   have hvM:(Value.slice adY os.length capY).ownBlock ≠ some (w.heap.size + 1):=fun e=>Ee hrow e hmb;have hbYs:=Z4.bel.size
   gi_wp2_with (first
    | (gi_at_mapUpdate; refine yg _ rfl _ _ _ 107 rfl 29 113 Oq Om underlying107 (w.heap.size + 1) _ _ rfl hmap (by unfold maxLen; omega) x kl rfl hkl (.agg #[]) rfl ?_; intro Y1 hM1 hg1; have q0:=(kH hg1 ⟨cl,hne1⟩ 0).trans c0; have q1:=(kH hg1 ⟨cl,hne1⟩ 1).trans c1; have q2:=(kH hg1 ⟨cl,hne1⟩ 2).trans c2; have q3:=(kH hg1 ⟨cl,hne1⟩ 3).trans c3; have q4:=(kH hg1 ⟨cl,hne1⟩ 4).trans c4; have qb:=(kH hg1 ⟨hbxl,Nat.ne_of_lt (Nat.lt_succ_self _)⟩ 0).trans bcY; have ql:=aB q0; have qbl:=aB qb; have hrow1:=hrow.kept hg1 (.inr hvM); have hYs1:=hg1.size)
    | (gi_at_builtin; refine wpListIn_append_own_at _ rfl _ _ 40 rfl (w.heap.size + 1) 29 iF (.agg #[.string ⟨#[]⟩,.string ⟨#[]⟩,.string ⟨#[]⟩,.string ⟨#[]⟩,.string ⟨#[]⟩]) 5 80 underlying40 z0 z1 z2 z3 rfl (by decide) _ os.length (aF os) rfl (hrow1.alloc _) ⟨Y1.heap.size,0,none⟩ 1 1 x.row rfl rfl (JB Y1 x) (by simp [Fc.row,Value.oneCell']) (by unfold maxLen; omega) (by omega) (by simp; omega) ?_; intro v2 V hown hgr _ hat; obtain ⟨g2,cap2,rfl⟩:=ownsRow_succ hown; have HAT:=aC hat; clear hat; have hY2:af Y1 (Y1.alloc (.cells #[.string x.a,.string x.b,.string x.r,.string x.c,.string x.d] 29)):=(Sz _ _).alloc (Sy _) _; have hVb:=OX hblk hg1 hY2 hgr hvB; have vc:=hVb.c; have vf:=gT hVb 0; have vl:=aB vc)
    | gi_in)
   obtain ⟨r1,r2,r3⟩:=FoW.step Z4 hM1 hg1 hY2 hown hgr HAT.out l';have eos:out ++ (pre ++ [x])=os ++ [x]:=by rw [HOS.out,List.append_assoc]
   exact ⟨OY r3 (by omega),r2,_,by rw [eos]; exact r1,hKY.after r2 hl,hGX⟩
  case done =>
   rintro Dd xs X5 hDd hS ⟨v5,hF5,hK5,hG5⟩ hKd;have hl5:=hG5.len hol hE Xn;have hlx:(out ++ xs).length=out.length + xs.length:=SE;have hxs:(out ++ xs).drop out.length=xs:=List.drop_left;obtain ⟨o5,ho5⟩:∃ o5,o5=out ++ xs:=⟨_,rfl⟩;rw [← ho5] at hF5 hG5 hl5 hlx hxs;have TK:=aC ho5;have WN:=aC hxs;have Y4:=ZZ.next (by rw [← hH] at hS ⊢; exact hS);have hLim5:o7 H (Q q) o5=A (q + 1):=by
    rw [← hLim,← CO (H:=H) (Q q) out];congr 1;rw [ho5,← hS,← hH,hQ,hH];exact ZZ.round
   rw [← ho5] at Y4;obtain ⟨adP,capP,rfl,hsF5⟩:=kJ hF5.row;have bc5:=hF5.box.c;have bl5:=aB bc5;have i1:(0:Int)≤(out.length:Int):=by omega
   have i2:(out.length:Int)≤(o5.length:Int):=by omega
   have hcap5:o5.length≤capP:=Qc hF5.row;have hU5:=JH hU3 hK5 (by decide) (by decide);obtain ⟨ad2,cap2,eU,hsU5⟩:=gP hU5;injection eU with ea eb ec;rw [← ea] at hsU5;have hMk5:iY X5 (Dd::rl2):=by
    have h1:=hMk3.kp hK5 (fun hm=>by have:=hMk3.lt hm; omega) (fun hm=>by have:=hMn2 _ hm; omega);refine ⟨List.nodup_cons.2 ⟨fun hm=>by have:=hMk3.lt hm; omega,h1.1⟩,fun r hr=>?_⟩;rcases List.mem_cons.1 hr with rfl | hr
    ·exact hKd
    exact h1.2 r hr
   have hMn5:∀ r ∈ Dd::rl2,w.heap.size + 1 + 1 < r:=fun r hr=>by
    rcases List.mem_cons.1 hr with rfl | hr
    ·omega
    exact hMn2 r hr
   have hkl:(eY us xs).length≤us.length:=De us xs;have hkz:xs.length=0→(eY us xs).length=0:=fun h=>by rw [SX.1 h,IR]; rfl
   have hsx:∀ ad3,ad3=Option.map (fun x=>Addr.add x (out.length * 5)) adP→wK X5 ad3 xs:=fun ad3 e=>by
    rw [e,← WN.out];exact wK.dropF hsF5 out.length
   clear ho5 hxs ea eb ec hS
   gi_wp2_with fail
   ·refine ⟨trivial,(callsIn_wide.2 (qK UB TM us adP 0 xs X5 (by omega) (by omega) hsU5 (.inl (SX.1 (by omega))))).mono ?_⟩;rintro e X6 ⟨⟨v6,rfl,Wd⟩,hb6⟩;have Uf:En X6 w.heap.size=o5.length:=Eo (hF5.below hb6).box;have Zw:=hF5.below hb6;have Xe:=(hB3.kp hK5 (by decide) (by decide)).bel hb6;obtain ⟨ad6,cap6,rfl,-⟩:=gP Wd;gi_wp2;exact ⟨⟨eY us xs,ad6,cap6,o5,Dd::rl2,_,X5.heap.size,_,_,_,_,_,_,_,_,_,_,_,_,_,_,_,_,_,_,_,_,_,_,_,_,_,_,rfl,Y4,hLim5,hG5,Zw,Xe,hMk5.bel hb6,hMn5,Wd,by omega,fun o ho=>Z0 o (Tm.1 ho).1⟩,by
     show 2 * (200000 - En X6 w.heap.size) + min 1 (eY us xs).length < 2 * (200000 - En X2 w.heap.size) + min 1 us.length;rw [Uf,hmu];omega⟩
   refine ⟨trivial,(callsIn_wide.2 (qK UB TM us _ _ xs X5 (by omega) (by omega) hsU5 (hsx _ rfl))).mono ?_⟩;rintro e X6 ⟨⟨v6,rfl,Wd⟩,hb6⟩;have Uf:En X6 w.heap.size=o5.length:=Eo (hF5.below hb6).box;have Zw:=hF5.below hb6;have Xe:=(hB3.kp hK5 (by decide) (by decide)).bel hb6;obtain ⟨ad6,cap6,rfl,-⟩:=gP Wd;gi_wp2;exact ⟨⟨eY us xs,ad6,cap6,o5,Dd::rl2,_,X5.heap.size,_,_,_,_,_,_,_,_,_,_,_,_,_,_,_,_,_,_,_,_,_,_,_,_,_,_,rfl,Y4,hLim5,hG5,Zw,Xe,hMk5.bel hb6,hMn5,Wd,by omega,fun o ho=>Z0 o (Tm.1 ho).1⟩,by
    show 2 * (200000 - En X6 w.heap.size) + min 1 (eY us xs).length < 2 * (200000 - En X2 w.heap.size) + min 1 us.length;rw [Uf,hmu];omega⟩
 have hqN:q=N:=by omega
 subst hqN;obtain ⟨Xc,UG,rfl,-⟩:=kJ hF.row;have bc:=hF.box.c;have hR:X.ownsRow (w.heap.size + 1) 29 5 (.slice Xc (A q).length UG) (mG (ah rs) ts st xo xu q).length (aF (mG (ah rs) ts st xo xu q)):=by rw [hAN]; exact hF.row
 have hBl:=hF.bel;have hsz:w.heap.size < X.heap.size:=aB bc;clear hF hB hD;gi_wp2;refine vz (w.heap.size + 1 + 1) (fun Y=>Y.ownsRow w.heap.size 29 5 (.slice Xc (A q).length UG) (mG (ah rs) ts st xo xu q).length (aF (mG (ah rs) ts st xo xu q))∧af w Y) (fun Y r hr hY hd=>⟨dY hY.1 fun g hg=>nX fun e=>?_,?_⟩) (fun Y hY=>⟨_,results_tmp rfl _ _ _,⟨_,rfl,hY.1⟩,hY.2⟩) rl X hMk ZV ⟨dC hR (Nat.le_succ _),hBl⟩
 ·obtain ⟨cur,e2⟩:=jC hY.1 hg;rw [e,hd] at e2; cases e2
 exact hY.2.grown (grownBy_putObj' Y r _) hY.2.size (fun g e=>by injection e with e; omega)
end
end Go.Proofs.YtajkkeikihhejaaGreat
