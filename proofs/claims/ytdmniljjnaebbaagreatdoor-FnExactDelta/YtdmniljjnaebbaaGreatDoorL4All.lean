/- All facts, as the document finds them: stratum by stratum, round by round. -/
import Derived.Test.YtdmniljjnaebbaaGreatDoorSq
import Derived.Test.YtdmniljjnaebbaaGreatDoorJ24
import Derived.Test.YtdmniljjnaebbaaGreatDoorJ17
import Derived.Test.YtdmniljjnaebbaaGreatDoorL4Obj
import Derived.Test.YtdmniljjnaebbaaGreatDoorSpecSchema10
open Go.Proofs.Tryz
set_option maxHeartbeats 80000000
namespace Go.Proofs.YtdmniljjnaebbaaGreatDoor
set_option linter.unusedVariables false
set_option linter.unusedSectionVars false
set_option maxRecDepth 100000
open Go.ChangeShapes Go.WideShapes Go.ChangeAt Go.RowKit Go.Maps
open Pl
theorem NL {rs:List TR} (h:bq (ag rs)=true) {k:ByteArray × ByteArray} (hk:k ∈ ak (ag rs)):∃ es,fC (ag rs) k.1 k.2=some es∧aY es=true:=by
 unfold ak at hk;obtain ⟨T,hT,hk⟩:=SB.1 hk;obtain ⟨t,ht,rfl⟩:=Sy.1 hT;unfold jd at hk;obtain ⟨r,hr,rfl⟩:=Sy.1 hk;obtain ⟨q,hq,rfl⟩:=Sy.1 hr;exact ⟨ai q.rows,nW h ht hq,((bR h).2.2 t ht q hq).1⟩
theorem QV {wr W w':af} {b o1 o2:Nat} {x y:Value} (h:W.cell? ⟨b,o1,none⟩=some x∧W.cell? ⟨b,o2,none⟩=some y∧aa wr W) (hb:aa W w'):w'.cell? ⟨b,o1,none⟩=some x∧w'.cell? ⟨b,o2,none⟩=some y∧aa wr w' :=
 ⟨aO hb (aC h.1) h.1,aO hb (aC h.2.1) h.2.1,h.2.2.trans (hb.mono h.2.2.size)⟩
def nY [DecidableEq Fc] (st:ByteArray × ByteArray→Int) (rs:List TR) (ts:List Tp):List Fc:=kR (ag rs) ts st (fG ts) (dA ts) ((ak (ag rs)).length + 1)
section
variable [DecidableEq Fc]
theorem kL (st:ByteArray × ByteArray→Int) (rs:List TR) (ts:List Tp) (xo xu:List Al):∀ N,GoodO (ag rs) xo xu (kR (ag rs) ts st xo xu N)
 | 0=>⟨List.nodup_nil,fun g hg=>by cases hg⟩
 | N + 1=>by
  refine ⟨Bw _ _ _ _ _ _,fun g hg=>?_⟩;rw [jl] at hg;obtain ⟨new,e,hn⟩:=AU (H:=ib (ag rs) ts) (cB (ag rs) st xo xu (N:Int)) (kX (cB (ag rs) st xo xu (N:Int)) (kR (ag rs) ts st xo xu N) + 1) (kR (ag rs) ts st xo xu N);unfold ny at hg;rw [e] at hg;rcases Sz.1 hg with hg | hg
  ·exact (kL st rs ts xo xu N).sub g hg
  exact BG (hn g hg)
theorem K6 (st:ByteArray × ByteArray→Int) (ad:Option Addr) (cap:Nat) (rs:List TR) (Ti:Option Addr) (cap':Nat) (ts:List Tp) (w:af) (hsp:bG (ag rs)) (hle:Least (ag rs) st) (hs:iN w ad rs) (hl:∀ r ∈ rs,r.light) (hlt:ts.length≤40) (hst:Sl w Ti ts) :
  Calls prog 53 #[.slice ad rs.length cap,.slice Ti ts.length cap'] w fun e w'=>(∃ v,e=.returned v∧w'.ownsRow w.heap.size 63 5 v (nY st rs ts).length (av (nY st rs ts)))∧aa w w':=by
 obtain ⟨iF,z0,z1,z2,z3⟩:=sI;have Xk:=au (And.intro z0 (And.intro z1 (And.intro z2 z3)));obtain ⟨h6,Xh,hsf⟩:=bR hsp.1;have HSP:=au hsp;have Uk:=au hle;have HS:=au hs;have HL:=au hl;have HST:=au hst;have WQ:=au hsf;have WP:=au Xh;have HND:=au (H8 hsp.1);have WU:(ak (ag rs)).length≤36:=xg h6 Xh;have htl:ts.length≤1048576:=by omega
 obtain ⟨W0,hW0⟩:∃ W0,W0=w.alloc (.cells #[] 63):=⟨_,rfl⟩;have HB0:=mY hW0;have TG:Hid (W0.ownsRow w.heap.size 63 5 (.slice (some ⟨w.heap.size,0,none⟩) 0 0) 0 (av [])):=by
  show World.ownsRow _ _ _ _ _ _ _;rw [hW0];exact World.ownsRow_lit w #[] 0 (Sj _) (by unfold maxLen; omega) (by simp)
 have HNC:Hid ((∀ o,W0.cell? ⟨w.heap.size,o,none⟩=none)∧w.heap.size < W0.heap.size):=by
  show _∧_;rw [hW0];exact ⟨fun o=>by simp,by simp⟩
 clear hsp hle hs hl hst hsf Xh z0 z1 z2 z3;go_enter func53,ntmps53;go_wp2_with fail;rw [← hW0];clear hW0;refine (qB Ti cap' ts false _ hlt (HST.out.below HB0.out)).mono ?_;rintro e w1 ⟨⟨vo,rfl,hvo⟩,hb1⟩;have HB1:=au (HB0.out.trans (hb1.mono HB0.out.size));have HR1:=au (aB TG.out hb1);have WC:Hid ((∀ o,w1.cell? ⟨w.heap.size,o,none⟩=none)∧w.heap.size < w1.heap.size):=⟨fun o=>(hb1.cell (p:=⟨w.heap.size,o,none⟩) HNC.out.2).trans (HNC.out.1 o),Sg HNC.out.2 hb1.size⟩;obtain ⟨U1,UG,rfl,hsO⟩:=jG hvo;have Zp:=au hsO;clear hvo hb1 hsO HB0 TG HNC;go_wp2_with fail;refine (qB Ti cap' ts true _ hlt (HST.out.below HB1.out)).mono ?_;rintro e w2 ⟨⟨vu,rfl,hvu⟩,hb2⟩;have HB2:=au (HB1.out.trans (hb2.mono HB1.out.size));have HR2:=au (aB HR1.out hb2);have UZ:Hid ((∀ o,w2.cell? ⟨w.heap.size,o,none⟩=none)∧w.heap.size < w2.heap.size):=⟨fun o=>(hb2.cell (p:=⟨w.heap.size,o,none⟩) WC.out.2).trans (WC.out.1 o),Sg WC.out.2 hb2.size⟩;have HSO2:=au (Zp.out.below hb2);obtain ⟨Ua,Tw,rfl,hsU⟩:=jG hvu;have Ym:=au hsU;clear hvu hb2 hsU HB1 HR1 WC Zp;go_wp2_with fail;refine (sM ad cap rs _ h6 (HS.out.below HB2.out) HL.out WP.out (fun r hr q hq=>(WQ.out r hr q hq).2) (kH HSP.out.2.1)).mono ?_;rintro e W ⟨hres,hb3⟩;rcases hres with ⟨adN,capN,sts,rfl,hsN,hkN,hlN⟩ | ⟨-,hno⟩;rotate_left
 ·exact absurd HSP.out.2.2 hno
 have HK:=au hkN;have Uj:=au hlN;have HB3:=au (HB2.out.trans (hb3.mono HB2.out.size));have HSN:=au hsN;have HSO3:=au (HSO2.out.below hb3);have HSU3:=au (Ym.out.below hb3);have hsl:sts.length=(ak (ag rs)).length:=by rw [← hkN,gy,Ta]
 have hs36:sts.length≤36:=by omega
 have HSLE:=au hsl;obtain ⟨xo,hxo⟩:∃ xo,xo=fG ts:=⟨_,rfl⟩;obtain ⟨xu,hxu⟩:∃ xu,xu=dA ts:=⟨_,rfl⟩;have n0:eD false ts=xo:=by rw [hxo]; rfl
 have n1:eD true ts=xu:=by rw [hxu]; rfl
 rw [n0] at HSO3;rw [n1] at HSU3;rw [n0,n1];have hol:xo.length≤80:=by have:=mJ ts; rw [hxo]; omega
 have XV:xu.length≤40:=by have:=kK ts; rw [hxu]; omega
 have Zh:=au hxo;have HXU:=au hxu;have HOUT:Hid (OutI w W W (.slice (some ⟨w.heap.size,0,none⟩) 0 0) []):=⟨aB HR2.out hb3,fun _ _ _ h=>h,Sj _,HB3.out,fun g hg o=>by
  have e:g=w.heap.size:=by simpa [Value.ownBlock] using hg.symm
  rw [e]; exact (hb3.cell (p:=⟨w.heap.size,o,none⟩) UZ.out.2).trans (UZ.out.1 o)⟩
 clear hsN hkN hlN hb3 HB2 HR2 UZ HSO2 Ym n0 n1 hxo hxu hsl WP;obtain ⟨H,hH⟩:∃ H,H=ib (ag rs) ts:=⟨_,rfl⟩;obtain ⟨A,hA⟩:∃ A:Nat→List Fc,A=kR (ag rs) ts (eG sts) xo xu:=⟨_,rfl⟩;obtain ⟨Q,hQ⟩:∃ Q:Nat→List Fc,Q=fun (n:Nat)=>cB (ag rs) (eG sts) xo xu (n:Int):=⟨_,rfl⟩;have HA1:Hid (∀ n,A (n + 1)=ny H (Q n) (A n)):=fun n=>by rw [hA,hH,hQ]; exact jl _ _ _ _ _ _
 have HAG:Hid (∀ n,GoodO (ag rs) xo xu (A n)):=fun n=>by rw [hA]; exact kL _ _ _ _ _ n
 have HQS:Hid (∀ n,∀ g ∈ Q n,g ∈ C8 (ag rs) xo xu):=fun n g hg=>by rw [hQ] at hg; exact BG hg
 have HQI:Hid (∀ n:Nat,qp sts xo xu (n:Int) xo.length=Q n):=fun n=>by rw [hQ]; exact NF HK.out HND.out xo xu n
 have XH:Hid (A (sts.length + 1)=nY st rs ts):=by
  show _=_;rw [hA,HSLE.out,Zh.out,HXU.out];exact uF (fun k hk=>Uj.out.same Uk.out k hk) _
 have HA0:Hid (A 0=[]):=by show _=_; rw [hA]; rfl
 have HH:=au hH;clear hH hA hQ;go_wp2;go_loopw [5,10] (fun v i wr=>∃ (n:Nat),n≤sts.length + 1∧i=.int .i64 n∧Hid (OutI w W wr v (A n))) (fun _ i _=>sts.length + 1 - (intOf i).toNat);case atStart=>exact ⟨0,Sm _,rfl,by rw [HA0.out]; exact HOUT⟩
 clear HOUT;obtain ⟨n,hn,rfl,HO⟩:=hrel;by_cases hlt1:n≤sts.length
 ·go_wp2;go_loopw [5,11] (fun v m wr=>∃ (bb:Bool) (out:List Fc),m=.bool bb∧Hid (ny H (Q n) out=A (n + 1))∧Hid (bb=false→bI H (Q n) out=out)∧Hid (OutI w W wr v out)∧Hid (GoodO (ag rs) xo xu out)) (fun v m _=>2 * (200000 - QG v) + RY m);case atStart=>exact ⟨true,A n,rfl,(HA1.out n).symm,(fun h=>by cases h),HO,HAG.out n⟩
  clear HO;obtain ⟨bb,out,rfl,HLM,XA,HO,HG⟩:=hrel;have hout:=HG.out.len hol WU XV;obtain ⟨Xj,Un,rfl,-⟩:=iD HO.out.row;cases bb;case false=>
   have Tj:Hid (OutI w W wr (.slice Xj out.length Un) (A (n + 1))):=by
    show OutI _ _ _ _ _;rw [← HLM.out,tX (XA.out rfl)]; exact HO.out
   go_wp2;go_roundw;case rel=>exact ⟨n + 1,by omega,by go_num,Tj⟩
   simp [intOf] <;> omega
  go_wp2;go_loopw [5,11,12] (fun v m i wr=>∃ (q:Nat) (bb:Bool) (Tn:List Fc),q≤xo.length∧m=.bool bb∧i=.int .i64 q∧Hid (Tn=bI H (qp sts xo xu (n:Int) q) out)∧Hid (bb=decide (out.length < Tn.length))∧Hid (OutI w W wr v Tn)∧Hid (GoodO (ag rs) xo xu Tn)) (fun _ _ i _=>xo.length - (intOf i).toNat);case atStart=>exact ⟨0,false,out,Sm _,rfl,rfl,rfl,(decide_eq_false (Nat.lt_irrefl _)).symm,HO,HG⟩
  clear HO;obtain ⟨q,bb,Tn,hq,rfl,rfl,HR,U3,Tj,HG2⟩:=hrel;by_cases hlq:q < xo.length
  ·have HSU4:=au (KT (sts:=sts) (xu:=xu) (n:=(n:Int)) hlq);obtain ⟨o,ho⟩:∃ o,o=xo[q]:=⟨_,rfl⟩;rw [← ho] at HSU4;have HOQ:=au ho;clear ho;go_wp2;go_loopw [5,11,13] (fun v m i wr=>∃ (p:Nat) (bb:Bool) (U4:List Fc),p≤sts.length∧m=.bool bb∧i=.int .i64 p∧Hid (U4=bI H (qp sts xo xu (n:Int) q ++ jL sts xu (n:Int) o p) out)∧Hid (bb=decide (out.length < U4.length))∧Hid (OutI w W wr v U4)∧Hid (GoodO (ag rs) xo xu U4)) (fun _ _ i _=>sts.length - (intOf i).toNat);case atStart=>exact ⟨0,bb,Tn,Sm _,rfl,rfl,by show _=_; rw [KS,List.append_nil]; exact HR.out,U3,Tj,HG2⟩
   clear Tj HR U3 HG2;obtain ⟨p,bb,U4,hp,rfl,rfl,HR,U3,Tj,HG2⟩:=hrel;by_cases hlp:p < sts.length
   ·obtain ⟨bN,ZR,hadN,⟨s0,s1,s2⟩,hbN⟩:=Gy.at0 (HSN.out.keepC Tj.out.size Tj.out.keep) hlp;obtain ⟨bO,TK,Wm,⟨o0,o1⟩,hbO⟩:=gP.at0 (HSO3.out.keepC Tj.out.size Tj.out.keep) hlq;rw [← HOQ.out] at o0 o1;obtain ⟨s,hsp⟩:∃ s,s=sts[p]:=⟨_,rfl⟩;have WB:Hid ((s.typ.toList == o.t.toList && decide (s.n=(n:Int)))=false→jL sts xu (n:Int) o (p + 1)=jL sts xu (n:Int) o p):=fun h=>Pq hlp (by rw [← hsp]; exact h);have HKY:Hid ((s.typ.toList == o.t.toList && decide (s.n=(n:Int)))=true→jL sts xu (n:Int) o (p + 1)=jL sts xu (n:Int) o p ++ ja o s.rel xu):=fun h=>by rw [NE hlp (by rw [← hsp]; exact h),← hsp]
    rw [← hsp] at s0 s1 s2;have XP:Hid (s.key ∈ ak (ag rs)):=by show _ ∈ _; rw [← HK.out,hsp]; exact List.mem_map_of_mem (Sd hlp)
    have VA:=au hsp;have hq1:=bH q;have hq2:(q:Int) < (xo.length:Int):=by omega
    have hp1:=bH p;have hp2:(p:Int) < (sts.length:Int):=by omega
    subst hadN;subst Wm;clear hsp;cases ht:(s.typ.toList == o.t.toList);case false=>
     have VW:Hid (jL sts xu (n:Int) o (p + 1)=jL sts xu (n:Int) o p):=WB.out (by rw [ht]; rfl);have TD:∀ nq,Hid (OutI w W (wr.drewN nq) u5 U4):=fun nq=>Tj.out.below (below_drewN (Si _ _) nq);go_wp2_with fail;go_quiet (fail);go_wp2;go_roundw;case rel=>exact ⟨p + 1,bb,U4,by omega,rfl,by go_num,by rw [VW.out]; exact HR,U3,TD _,HG2⟩
     simp [intOf] <;> omega
    by_cases hn2:s.n=(n:Int)
    ·have hb1:(s.n == (n:Int))=true:=by simpa using hn2
     have VW:=au (HKY.out (by rw [ht,hn2]; simp));have HTO:Hid (s.typ=o.t):=dY.1 ht;have hb2:decide (s.n=(n:Int))=true:=decide_eq_true hn2;replace hn2:Hid (s.n=(n:Int)):=hn2;have HREL:Hid (∀ W':World,(W'.cell? ⟨bN,ZR + p * 3,none⟩=some (.string s.typ)∧W'.cell? ⟨bN,ZR + p * 3 + 1,none⟩=some (.string s.rel)∧aa wr W')→Calls prog 84 #[.slice ad rs.length cap,.string s.typ,.string s.rel] W' fun e w'=>(∃ (rows:List ER) (Tm:Option Addr) (capE:Nat),e=.returned (.slice Tm rows.length capE)∧ai rows=aH (ag rs) s.typ s.rel∧oo rs Tm rows)∧aa W' w'):=fun W' h=>by
      refine (iq ad cap rs s.typ s.rel W' (by omega) (HS.out.below (Tj.out.bel.trans (h.2.2.mono Tj.out.bel.size))) HL.out).mono ?_;rintro e w' ⟨⟨rows,Tm,capE,he,hx,-,hf⟩,rfl⟩;exact ⟨⟨rows,Tm,capE,he,hx,hf⟩,Si _ _⟩
     go_wp2_with fail;go_quiet (fail);go_wp2_with fail
     go_region_held3 (fun w'=>w'.cell? ⟨bN,ZR + p * 3,none⟩=some (.string s.typ)∧w'.cell? ⟨bN,ZR + p * 3 + 1,none⟩=some (.string s.rel)∧aa wr w')
      (first | assumption | exact QV (by assumption) hbx | exact ⟨s0,s1,Below.drew (below_drewN (Si _ _) _)⟩)
      (first | (go_at_call 84; refine (HREL.out _ (by assumption)).mono ?_; rintro e w' ⟨⟨rows,Tm,capE,rfl,hrx,hrf⟩,hbx⟩))
     rename_i hH;have TJ:=au (Tj.out.below hH.2.2);have HEX:Hid (ai rows=aH (ag rs) o.t s.rel):=by show _=_; rw [hrx,HTO.out]
     obtain ⟨HNO,hr1⟩:Hid (Vt rows)∧1≤rows.length:=by
      obtain ⟨es,e1,e2⟩:=NL HSP.out.1 XP.out;have e3:ai rows=es:=by
       rw [hrx]; unfold aH;show (fC (ag rs) s.key.1 s.key.2).getD []=es;rw [e1]; rfl
      rw [← e3] at e2;exact Jq e2
     have HRF:=au hrf;have hr1000:=HNO.out.len;clear hH hbx hrx hrf HREL s0 s1 s2 o0 o1 hb1 hb2 Tj HTO hbN hbO;go_wp2;go_loopw [5,11,15] (fun v m i wr=>∃ (j:Nat) (bb:Bool) (Tz:List Fc),j≤xu.length∧m=.bool bb∧i=.int .i64 j∧Hid (Tz=bI H (qp sts xo xu (n:Int) q ++ jL sts xu (n:Int) o p ++ ja o s.rel (xu.take j)) out)∧Hid (bb=decide (out.length < Tz.length))∧Hid (OutI w W wr v Tz)∧Hid (GoodO (ag rs) xo xu Tz)) (fun _ _ i _=>xu.length - (intOf i).toNat);case atStart=>exact ⟨0,bb,U4,Sm _,rfl,rfl,by show _=_; rw [List.take_zero]; show _=bI H (_ ++ []) out; rw [List.append_nil]; exact HR.out,U3,TJ,HG2⟩
     clear TJ HR U3 HG2;obtain ⟨j,bb,Tz,hj,rfl,rfl,HR,U3,Tj,HG2⟩:=hrel;by_cases hlj:j < xu.length
     ·obtain ⟨bU,offU,hadU,⟨y0,y1⟩,hbU⟩:=gP.at0 (HSU3.out.keepC Tj.out.size Tj.out.keep) hlj;obtain ⟨bN',offN',YW,⟨s0,s1,s2⟩,hbN⟩:=Gy.at0 (HSN.out.keepC Tj.out.size Tj.out.keep) hlp;obtain ⟨bO',offO',YX,⟨o0,o1⟩,hbO⟩:=gP.at0 (HSO3.out.keepC Tj.out.size Tj.out.keep) hlq;injection YW with YW; injection YW with e1 e2; subst e1; subst e2;injection YX with YX; injection YX with e1 e2; subst e1; subst e2;rw [← HOQ.out] at o0 o1;rw [← VA.out] at s0 s1 s2;obtain ⟨f,hf⟩:∃ f:Fc,f=⟨o.t,o.s,s.rel,xu[j].t,xu[j].s⟩:=⟨_,rfl⟩;have HAT:Hid (ja o s.rel (xu.take (j + 1))=ja o s.rel (xu.take j) ++ [f]):=by show _=_; rw [hf]; exact KU o s.rel hlj
      have HFQ:Hid (f ∈ C8 (ag rs) xo xu):=by
       show _ ∈ _;rw [hf];unfold C8 ja;refine SB.2 ⟨o,by rw [HOQ.out]; exact Sd hlq,SB.2 ⟨s.key,XP.out,Sy.2 ⟨xu[j],Sd hlj,rfl⟩⟩⟩
      have hout4:=HG2.out.len hol WU XV;obtain ⟨ZT,Xl,rfl,hsF⟩:=iD Tj.out.row;have HSF4:=au hsF;have f0:o.t=f.a:=by rw [hf]
      have f1:o.s=f.b:=by rw [hf]
      have f2:s.rel=f.r:=by rw [hf]
      have f3:xu[j].t=f.c:=by rw [hf]
      have f4:xu[j].s=f.d:=by rw [hf]
      have HEF:Hid (ai rows=aH (ag rs) f.a f.r):=by show _=_; rw [hf]; exact HEX.out
      rw [f3] at y0;rw [f4] at y1;rw [f0] at o0;rw [f1] at o1;rw [f2] at s1;have hj1:=bH j;have hj2:(j:Int) < (xu.length:Int):=by omega
      subst hadU;clear hsF hf f0 f1 f2 f3 f4 s0 s2;obtain ⟨W5,hW5⟩:∃ W5,W5=(wr.alloc (.cells #[.string f.a,.string f.b,.string f.r,.string f.c,.string f.d] 63)).drew:=⟨_,rfl⟩;have TT:Hid (aa wr W5):=by show Below _ _ _; rw [hW5]; exact ((Si _ _).alloc (Sj _) _).drew
      have g0:W5.cell? ⟨wr.heap.size,0,none⟩=some (.string f.a):=by rw [hW5]; simp
      have g1:W5.cell? ⟨wr.heap.size,1,none⟩=some (.string f.b):=by rw [hW5]; simp
      have g2:W5.cell? ⟨wr.heap.size,2,none⟩=some (.string f.r):=by rw [hW5]; simp
      have g3:W5.cell? ⟨wr.heap.size,3,none⟩=some (.string f.c):=by rw [hW5]; simp
      have g4:W5.cell? ⟨wr.heap.size,4,none⟩=some (.string f.d):=by rw [hW5]; simp
      have gl:wr.heap.size < W5.heap.size:=aC g0;have Uc:=au (Tj.out.below TT.out);go_wp2_with fail
      go_region
      rw [← hW5];clear hW5 y0 y1 o0 o1 s1 hbU hbN hbO;go_wp2_with fail;refine (mE ZT Xl Tz f W5 (by omega) (HSF4.out.below TT.out)).mono ?_;rintro e w6 ⟨rfl,hb6⟩;have TZ:=au (TT.out.trans (hb6.mono TT.out.size));have Ub:=au (Uc.out.below hb6);replace g0:=aO hb6 gl g0;replace g1:=aO hb6 gl g1;replace g2:=aO hb6 gl g2;replace g3:=aO hb6 gl g3;replace g4:=aO hb6 gl g4;replace gl:=Sg gl hb6.size;have HHF:Hid (H Tz f=iX ts (ai rows) Tz f rows.length Tz (rows.length - 1)):=by show _=_; rw [HH.out]; unfold ib; rw [← HEF.out,aS]
      have HRS:Hid (bI H (qp sts xo xu (n:Int) q ++ jL sts xu (n:Int) o p ++ ja o s.rel (xu.take (j + 1))) out=fe H Tz f):=by show _=_; rw [HAT.out,← List.append_assoc,qh,← HR.out]
      clear hb6 TT Uc;cases hh:dG Tz f;case true=>
       have HR2:Hid (Tz=bI H (qp sts xo xu (n:Int) q ++ jL sts xu (n:Int) o p ++ ja o s.rel (xu.take (j + 1))) out):=by show _=_; rw [HRS.out,sW (.inl hh)]
       go_wp2;go_roundw;case rel=>exact ⟨j + 1,bb,Tz,by omega,rfl,by go_num,HR2,U3,Ub,HG2⟩
       simp [intOf] <;> omega
      have HHH:=au hh;have hwr:IntKind.i64.wrap ((rows.length:Int) - 1)=((rows.length - 1:Nat):Int):=by rw [IntKind.wrap_i64]; omega
      have UV:=au (vV (.slice ad rs.length cap) Ti cap' ts Tm capE rows ZT Xl Tz f htl HNO.out (by omega) rows.length (rows.length - 1) ZT Xl Tz w6 (by omega) (by omega) (by omega) ⟨HST.out.below Ub.out.bel,HRF.out.sl (HS.out.below Ub.out.bel),HSF4.out.below TZ.out,HSF4.out.below TZ.out⟩);clear hh;go_wp2_with fail;refine UV.out.mono ?_;rintro e w7 ⟨he7,WV⟩;rw [← HHF.out] at he7;subst he7;have Ya:=au (Ub.out.below WV);replace g0:=aO WV gl g0;replace g1:=aO WV gl g1;replace g2:=aO WV gl g2;replace g3:=aO WV gl g3;replace g4:=aO WV gl g4;replace gl:=Sg gl WV.size;clear WV UV Ub TZ hwr;cases hv:H Tz f;case false=>
       have HR2:Hid (Tz=bI H (qp sts xo xu (n:Int) q ++ jL sts xu (n:Int) o p ++ ja o s.rel (xu.take (j + 1))) out):=by show _=_; rw [HRS.out,sW (.inr hv)]
       go_wp2;go_roundw;case rel=>exact ⟨j + 1,bb,Tz,by omega,rfl,by go_num,HR2,U3,Ya,HG2⟩
       simp [intOf] <;> omega
      have HST2:Hid (fe H Tz f=Tz ++ [f]):=BV HHH.out hv;have HR2:Hid (Tz ++ [f]=bI H (qp sts xo xu (n:Int) q ++ jL sts xu (n:Int) o p ++ ja o s.rel (xu.take (j + 1))) out):=by show _=_; rw [HRS.out,HST2.out]
      have V9:Hid (GoodO (ag rs) xo xu (Tz ++ [f])):=by
       have h1:=HG2.out.run (H:=H) (qs:=[f]) (fun g hg=>by
        rw [SF] at hg;subst hg;exact HFQ.out)
       rw [show bI H [f] Tz=fe H Tz f from rfl,HST2.out] at h1;exact h1
      have WR:Hid (true=decide (out.length < (Tz ++ [f]).length)):=by
       show _=_;have h1:=FH H (qp sts xo xu (n:Int) q ++ jL sts xu (n:Int) o p ++ ja o s.rel (xu.take j)) out;rw [← HR.out] at h1;rw [Sr];exact (decide_eq_true (by simp; omega)).symm
      obtain ⟨W8,hW8⟩:∃ W8,W8=w7.alloc (.cells #[.string f.a,.string f.b,.string f.r,.string f.c,.string f.d] 63):=⟨_,rfl⟩;have HO8:Hid (OutI w W W8 (.slice ZT Tz.length Xl) Tz):=by show OutI _ _ _ _ _; rw [hW8]; exact Ya.out.below ((Si _ _).alloc (Sj _) _)
      have HN8:Hid (∀ j u,f.row[j]?=some u→W8.cell? ((⟨w7.heap.size,0,none⟩:Addr).add j)=some u):=by rw [hW8]; exact BD w7 f
      have hsz8:w.heap.size≤W8.heap.size:=HO8.out.bel.size;clear hv;go_wp2_with (at_builtin; rw [← hW8]; clear hW8; refine wpList_append_own_at _ rfl _ _ 33 rfl w.heap.size 63 iF (.agg #[.string ⟨#[]⟩,.string ⟨#[]⟩,.string ⟨#[]⟩,.string ⟨#[]⟩,.string ⟨#[]⟩]) 5 80 underlying33 Xk.out.1 Xk.out.2.1 Xk.out.2.2.1 Xk.out.2.2.2 rfl (by decide) _ Tz.length (av Tz) rfl HO8.out.row ⟨w7.heap.size,0,none⟩ 1 1 f.row rfl rfl HN8.out (by simp [Fc.row,Value.oneCell']) (by unfold maxLen; omega) (by omega) hsz8 ?_);intro v' w9 hown hgr _ hat;have HO9:=au (HO8.out.app hown hgr hat);clear hown hgr hat g0 g1 g2 g3 g4 gl;go_wp2;go_roundw;case rel=>exact ⟨j + 1,true,Tz ++ [f],by omega,rfl,by go_num,HR2,WR,HO9,V9⟩
      simp [intOf] <;> omega
     have HR3:Hid (Tz=bI H (qp sts xo xu (n:Int) q ++ jL sts xu (n:Int) o (p + 1)) out):=by show _=_; rw [VW.out,HR.out,show j=xu.length by omega,Su,List.append_assoc]
     go_wp2;go_roundw;case rel=>exact ⟨p + 1,bb,Tz,by omega,rfl,by go_num,HR3,U3,Tj,HG2⟩
     simp [intOf] <;> omega
    have hb1:(s.n == (n:Int))=false:=by simpa using hn2
    have hb2:decide (s.n=(n:Int))=false:=decide_eq_false hn2;have VW:Hid (jL sts xu (n:Int) o (p + 1)=jL sts xu (n:Int) o p):=WB.out (by rw [hb2,Bool.and_false]);have TD:∀ nq,Hid (OutI w W (wr.drewN nq) u5 U4):=fun nq=>Tj.out.below (below_drewN (Si _ _) nq);go_wp2_with fail;go_quiet (fail);go_wp2;go_roundw;case rel=>exact ⟨p + 1,bb,U4,by omega,rfl,by go_num,by rw [VW.out]; exact HR,U3,TD _,HG2⟩
    simp [intOf] <;> omega
   have HR3:Hid (U4=bI H (qp sts xo xu (n:Int) (q + 1)) out):=by show _=_; rw [HSU4.out,HR.out,show p=sts.length by omega]
   go_wp2;go_roundw;case rel=>exact ⟨q + 1,bb,U4,by omega,rfl,by go_num,HR3,U3,Tj,HG2⟩
   simp [intOf] <;> omega
  have hout2:=HG2.out.len hol WU XV;have HRQ:Hid (Tn=bI H (Q n) out):=by show _=_; rw [HR.out,← HQI.out n,show q=xo.length by omega]
  obtain ⟨ad2,cap2,rfl,-⟩:=iD Tj.out.row;have HLM2:Hid (ny H (Q n) Tn=A (n + 1)):=by show _=_; rw [HRQ.out,AR]; exact HLM.out
  have hbl:=FH H (Q n) out;have HDN2:Hid (bb=false→bI H (Q n) Tn=Tn):=fun hb=>by
   have e:Tn=out:=by
    rw [HRQ.out];refine Iu ?_;rw [← HRQ.out,← U3.out]; exact hb
   rw [e]; rw [HRQ.out] at e; exact e
  have hm:2 * (200000 - Tn.length) + RY (.bool bb) < 2 * (200000 - out.length) + 1:=by
   have h1:=U3.out;rw [← HRQ.out] at hbl;cases bb;case true=>have:=of_decide_eq_true h1.symm; simp only [RY]; omega
   have:=of_decide_eq_false h1.symm; simp only [RY]; omega
  have HM:=au hm;clear hm hbl;go_wp2;go_roundw;case rel=>exact ⟨bb,Tn,rfl,HLM2,HDN2,Tj,HG2⟩
  exact HM.out
 have hne:n=sts.length + 1:=by omega
 have Tj:Hid (wr.ownsRow w.heap.size 63 5 u5 (nY st rs ts).length (av (nY st rs ts))):=by
  show World.ownsRow _ _ _ _ _ _ _;rw [← XH.out,← hne]; exact HO.out.row
 have Va:=au HO.out.bel;clear HO;go_wp2;go_ret;exact ⟨⟨_,rfl,Tj.out⟩,Va.out⟩
end
end Go.Proofs.YtdmniljjnaebbaaGreatDoor
