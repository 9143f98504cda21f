/- All facts, as the document finds them: stratum by stratum, round by round. -/
import Derived.Test.YtdaoiceeidoehaaGreatJ24
open Go.Proofs.Tryz
set_option maxHeartbeats 80000000
namespace Go.Proofs.YtdaoiceeidoehaaGreat
set_option linter.unusedVariables false
set_option linter.unusedSectionVars false
set_option maxRecDepth 100000
open Go.ChangeShapes Go.WideShapes Go.ChangeAt Go.RowKit Go.Maps
open Pl
theorem Je {rs:List TR} (h:aS (ae rs)=true) {k:ByteArray × ByteArray} (hk:k ∈ aj (ae rs)):∃ es,dM (ae rs) k.1 k.2=some es∧aR es=true:=by
 unfold aj at hk;obtain ⟨T,hT,hk⟩:=List.mem_flatMap.1 hk;obtain ⟨t,ht,rfl⟩:=List.mem_map.1 hT;unfold il at hk;obtain ⟨r,hr,rfl⟩:=List.mem_map.1 hk;obtain ⟨q,hq,rfl⟩:=List.mem_map.1 hr;exact ⟨ah q.rows,kK h ht hq,((aX h).2.2 t ht q hq).1⟩
theorem Lj {wr W w':World} {b o1 o2:Nat} {x y:Value} (h:W.cell? ⟨b,o1,none⟩=some x∧W.cell? ⟨b,o2,none⟩=some y∧Below wr.heap.size wr W) (hb:Below W.heap.size W w'):w'.cell? ⟨b,o1,none⟩=some x∧w'.cell? ⟨b,o2,none⟩=some y∧Below wr.heap.size wr w' :=
 ⟨aD hb (ax h.1) h.1,aD hb (ax h.2.1) h.2.1,h.2.2.trans (hb.mono h.2.2.size)⟩
def kL [DecidableEq Fc] (st:ByteArray × ByteArray→Int) (rs:List TR) (ts:List Tp):List Fc:=jw (ae rs) ts st (fC ts) (dC ts) ((aj (ae rs)).length + 1)
section
variable [DecidableEq Fc]
theorem mr (st:ByteArray × ByteArray→Int) (rs:List TR) (ts:List Tp) (xo xu:List Al):∀ N,GoodO (ae rs) xo xu (jw (ae rs) ts st xo xu N)
 | 0=>⟨List.nodup_nil,fun g hg=>by cases hg⟩
 | N + 1=>by
  refine ⟨xz _ _ _ _ _ _,fun g hg=>?_⟩;rw [iy] at hg;obtain ⟨new,e,hn⟩:=wX (H:=fZ (ae rs) ts) (bF (ae rs) st xo xu (N:Int)) (jC (bF (ae rs) st xo xu (N:Int)) (jw (ae rs) ts st xo xu N) + 1) (jw (ae rs) ts st xo xu N);unfold ko at hg;rw [e] at hg;rcases List.mem_append.1 hg with hg | hg
  ·exact (mr st rs ts xo xu N).sub g hg
  ·exact xW (hn g hg)
theorem Gu (st:ByteArray × ByteArray→Int) (ad:Option Addr) (cap:Nat) (rs:List TR) (ad':Option Addr) (cap':Nat) (ts:List Tp) (w:World) (hsp:aW (ae rs)) (hle:Least (ae rs) st) (hs:eY w ad rs) (hl:∀ r ∈ rs,r.light) (hlt:ts.length≤40) (hst:Sl w ad' ts) :
  Calls prog 33 #[.slice ad rs.length cap,.slice ad' ts.length cap'] w fun e w'=>(∃ v,e=.returned v∧w'.ownsRow w.heap.size 42 5 v (kL st rs ts).length (bI (kL st rs ts)))∧Below w.heap.size w w':=by
 obtain ⟨iF,z0,z1,z2,z3⟩:=pE;have HIF:=av (And.intro z0 (And.intro z1 (And.intro z2 z3)));obtain ⟨h6,hr6,hsf⟩:=aX hsp.1;have HSP:=av hsp;have HLE:=av hle;have HS:=av hs;have HL:=av hl;have HST:=av hst;have HSF:=av hsf;have HR6:=av hr6;have HND:=av (DI hsp.1);have hE36:(aj (ae rs)).length≤36:=tH h6 hr6;have htl:ts.length≤1048576:=by omega
 obtain ⟨W0,hW0⟩:∃ W0,W0=w.alloc (.cells #[] 42):=⟨_,rfl⟩;have HB0:=nX hW0;have HLIT:Hid (W0.ownsRow w.heap.size 42 5 (.slice (some ⟨w.heap.size,0,none⟩) 0 0) 0 (bI [])):=by
  show World.ownsRow _ _ _ _ _ _ _;rw [hW0];exact World.ownsRow_lit w #[] 0 (Nat.le_refl _) (by unfold maxLen; omega) (by simp)
 have HNC:Hid ((∀ o,W0.cell? ⟨w.heap.size,o,none⟩=none)∧w.heap.size < W0.heap.size):=by
  show _∧_;rw [hW0];exact ⟨fun o=>by simp,by simp⟩
 clear hsp hle hs hl hst hsf hr6 z0 z1 z2 z3;go_enter func33,ntmps33;go_wp2_with fail;rw [← hW0];clear hW0;refine (nO ad' cap' ts false _ hlt (HST.out.below HB0.out)).mono ?_;rintro e w1 ⟨⟨vo,rfl,hvo⟩,hb1⟩;have HB1:=av (HB0.out.trans (hb1.mono HB0.out.size));have HR1:=av (aK HLIT.out hb1);have HN1:Hid ((∀ o,w1.cell? ⟨w.heap.size,o,none⟩=none)∧w.heap.size < w1.heap.size):=⟨fun o=>(hb1.cell (p:=⟨w.heap.size,o,none⟩) HNC.out.2).trans (HNC.out.1 o),Nat.lt_of_lt_of_le HNC.out.2 hb1.size⟩;obtain ⟨adO,capO,rfl,hsO⟩:=iL hvo;have HSO:=av hsO;clear hvo hb1 hsO HB0 HLIT HNC;go_wp2_with fail;refine (nO ad' cap' ts true _ hlt (HST.out.below HB1.out)).mono ?_;rintro e w2 ⟨⟨vu,rfl,hvu⟩,hb2⟩;have HB2:=av (HB1.out.trans (hb2.mono HB1.out.size));have HR2:=av (aK HR1.out hb2);have HN2:Hid ((∀ o,w2.cell? ⟨w.heap.size,o,none⟩=none)∧w.heap.size < w2.heap.size):=⟨fun o=>(hb2.cell (p:=⟨w.heap.size,o,none⟩) HN1.out.2).trans (HN1.out.1 o),Nat.lt_of_lt_of_le HN1.out.2 hb2.size⟩;have HSO2:=av (HSO.out.below hb2);obtain ⟨adU,capU,rfl,hsU⟩:=iL hvu;have HSU:=av hsU;clear hvu hb2 hsU HB1 HR1 HN1 HSO;go_wp2_with fail;refine (qj ad cap rs _ h6 (HS.out.below HB2.out) HL.out HR6.out (fun r hr q hq=>(HSF.out r hr q hq).2) (jf HSP.out.2.1)).mono ?_;rintro e W ⟨hres,hb3⟩;rcases hres with ⟨adN,capN,sts,rfl,hsN,hkN,hlN⟩ | ⟨-,hno⟩;rotate_left
 ·exact absurd HSP.out.2.2 hno
 have HK:=av hkN;have HSL:=av hlN;have HB3:=av (HB2.out.trans (hb3.mono HB2.out.size));have HSN:=av hsN;have HSO3:=av (HSO2.out.below hb3);have HSU3:=av (HSU.out.below hb3);have hsl:sts.length=(aj (ae rs)).length:=by rw [← hkN,fO,List.length_map]
 have hs36:sts.length≤36:=by omega
 have HSLE:=av hsl;obtain ⟨xo,hxo⟩:∃ xo,xo=fC ts:=⟨_,rfl⟩;obtain ⟨xu,hxu⟩:∃ xu,xu=dC ts:=⟨_,rfl⟩;have n0:dR false ts=xo:=by rw [hxo]; rfl
 have n1:dR true ts=xu:=by rw [hxu]; rfl
 rw [n0] at HSO3;rw [n1] at HSU3;rw [n0,n1];have hol:xo.length≤80:=by have:=jZ ts; rw [hxo]; omega
 have hul:xu.length≤40:=by have:=jm ts; rw [hxu]; omega
 have HXO:=av hxo;have HXU:=av hxu;have HOUT:Hid (OutI w W W (.slice (some ⟨w.heap.size,0,none⟩) 0 0) []):=⟨aK HR2.out hb3,fun _ _ _ h=>h,Nat.le_refl _,HB3.out,fun g hg o=>by
  have e:g=w.heap.size:=by simpa [Value.ownBlock] using hg.symm
  rw [e]; exact (hb3.cell (p:=⟨w.heap.size,o,none⟩) HN2.out.2).trans (HN2.out.1 o)⟩
 clear hsN hkN hlN hb3 HB2 HR2 HN2 HSO2 HSU n0 n1 hxo hxu hsl HR6;obtain ⟨H,hH⟩:∃ H,H=fZ (ae rs) ts:=⟨_,rfl⟩;obtain ⟨A,hA⟩:∃ A:Nat→List Fc,A=jw (ae rs) ts (dU sts) xo xu:=⟨_,rfl⟩;obtain ⟨Q,hQ⟩:∃ Q:Nat→List Fc,Q=fun (n:Nat)=>bF (ae rs) (dU sts) xo xu (n:Int):=⟨_,rfl⟩;have HA1:Hid (∀ n,A (n + 1)=ko H (Q n) (A n)):=fun n=>by rw [hA,hH,hQ]; exact iy _ _ _ _ _ _
 have HAG:Hid (∀ n,GoodO (ae rs) xo xu (A n)):=fun n=>by rw [hA]; exact mr _ _ _ _ _ n
 have HQS:Hid (∀ n,∀ g ∈ Q n,g ∈ Br (ae rs) xo xu):=fun n g hg=>by rw [hQ] at hg; exact xW hg
 have HQI:Hid (∀ n:Nat,ny sts xo xu (n:Int) xo.length=Q n):=fun n=>by rw [hQ]; exact I9 HK.out HND.out xo xu n
 have HFIN:Hid (A (sts.length + 1)=kL st rs ts):=by
  show _=_;rw [hA,HSLE.out,HXO.out,HXU.out];exact ru (fun k hk=>HSL.out.same HLE.out k hk) _
 have HA0:Hid (A 0=[]):=by show _=_; rw [hA]; rfl
 have HH:=av hH;clear hH hA hQ;go_wp2;go_loopw [5,10] (fun v i wr=>∃ (n:Nat),n≤sts.length + 1∧i=.int .i64 n∧Hid (OutI w W wr v (A n))) (fun _ i _=>sts.length + 1 - (intOf i).toNat);case atStart=>exact ⟨0,Nat.zero_le _,rfl,by rw [HA0.out]; exact HOUT⟩
 case round =>
  clear HOUT;obtain ⟨n,hn,rfl,HO⟩:=hrel;by_cases hlt1:n≤sts.length
  ·go_wp2;go_loopw [5,11] (fun v m wr=>∃ (bb:Bool) (out:List Fc),m=.bool bb∧Hid (ko H (Q n) out=A (n + 1))∧Hid (bb=false→aZ H (Q n) out=out)∧Hid (OutI w W wr v out)∧Hid (GoodO (ae rs) xo xu out)) (fun v m _=>2 * (200000 - K4 v) + Mw m);case atStart=>exact ⟨true,A n,rfl,(HA1.out n).symm,(fun h=>by cases h),HO,HAG.out n⟩
   case round =>
    clear HO;obtain ⟨bb,out,rfl,HLM,HDN,HO,HG⟩:=hrel;have hout:=HG.out.len hol hE36 hul;obtain ⟨adF,capF,rfl,-⟩:=jG HO.out.row;cases bb with
    | false =>
     have HO2:Hid (OutI w W wr (.slice adF out.length capF) (A (n + 1))):=by
      show OutI _ _ _ _ _;rw [← HLM.out,qB (HDN.out rfl)]; exact HO.out
     go_wp2;go_roundw;case rel=>exact ⟨n + 1,by omega,by go_num,HO2⟩
     case measure=>simp [intOf] <;> omega
    | true =>
     go_wp2;go_loopw [5,11,12] (fun v m i wr=>∃ (q:Nat) (bb:Bool) (out2:List Fc),q≤xo.length∧m=.bool bb∧i=.int .i64 q∧Hid (out2=aZ H (ny sts xo xu (n:Int) q) out)∧Hid (bb=decide (out.length < out2.length))∧Hid (OutI w W wr v out2)∧Hid (GoodO (ae rs) xo xu out2)) (fun _ _ i _=>xo.length - (intOf i).toNat);case atStart=>exact ⟨0,false,out,Nat.zero_le _,rfl,rfl,rfl,(decide_eq_false (Nat.lt_irrefl _)).symm,HO,HG⟩
     case round =>
      clear HO;obtain ⟨q,bb,out2,hq,rfl,rfl,HR,HBB,HO2,HG2⟩:=hrel;by_cases hlq:q < xo.length
      ·have HSU4:=av (Gn (sts:=sts) (xu:=xu) (n:=(n:Int)) hlq);obtain ⟨o,ho⟩:∃ o,o=xo[q]:=⟨_,rfl⟩;rw [← ho] at HSU4;have HOQ:=av ho;clear ho;go_wp2;go_loopw [5,11,13] (fun v m i wr=>∃ (p:Nat) (bb:Bool) (out3:List Fc),p≤sts.length∧m=.bool bb∧i=.int .i64 p∧Hid (out3=aZ H (ny sts xo xu (n:Int) q ++ iN sts xu (n:Int) o p) out)∧Hid (bb=decide (out.length < out3.length))∧Hid (OutI w W wr v out3)∧Hid (GoodO (ae rs) xo xu out3)) (fun _ _ i _=>sts.length - (intOf i).toNat);case atStart=>exact ⟨0,bb,out2,Nat.zero_le _,rfl,rfl,by show _=_; rw [Gm,List.append_nil]; exact HR.out,HBB,HO2,HG2⟩
       case round =>
        clear HO2 HR HBB HG2;obtain ⟨p,bb,out3,hp,rfl,rfl,HR,HBB,HO2,HG2⟩:=hrel;by_cases hlp:p < sts.length
        ·obtain ⟨bN,offN,hadN,⟨s0,s1,s2⟩,hbN⟩:=CO.at0 (HSN.out.keepC HO2.out.size HO2.out.keep) hlp;obtain ⟨bO,offO,hadO,⟨o0,o1⟩,hbO⟩:=fV.at0 (HSO3.out.keepC HO2.out.size HO2.out.keep) hlq;rw [← HOQ.out] at o0 o1;obtain ⟨s,hsp⟩:∃ s,s=sts[p]:=⟨_,rfl⟩;have HKN:Hid ((s.typ.toList == o.t.toList && decide (s.n=(n:Int)))=false→iN sts xu (n:Int) o (p + 1)=iN sts xu (n:Int) o p):=fun h=>Kg hlp (by rw [← hsp]; exact h);have HKY:Hid ((s.typ.toList == o.t.toList && decide (s.n=(n:Int)))=true→iN sts xu (n:Int) o (p + 1)=iN sts xu (n:Int) o p ++ iw o s.rel xu):=fun h=>by rw [I8 hlp (by rw [← hsp]; exact h),← hsp]
         rw [← hsp] at s0 s1 s2;have HSM:Hid (s.key ∈ aj (ae rs)):=by show _ ∈ _; rw [← HK.out,hsp]; exact List.mem_map_of_mem (List.getElem_mem hlp)
         have HSE:=av hsp;have hq1:=aY q;have hq2:(q:Int) < (xo.length:Int):=by omega
         have hp1:=aY p;have hp2:(p:Int) < (sts.length:Int):=by omega
         subst hadN;subst hadO;clear hsp;cases ht:(s.typ.toList == o.t.toList) with
         | false =>
          have HKE:Hid (iN sts xu (n:Int) o (p + 1)=iN sts xu (n:Int) o p):=HKN.out (by rw [ht]; rfl);have HO3:∀ nq,Hid (OutI w W (wr.drewN nq) u5 out3):=fun nq=>HO2.out.below (below_drewN (Below.refl _ _) nq);go_wp2_with fail;go_quiet (fail);go_wp2;go_roundw;case rel=>exact ⟨p + 1,bb,out3,by omega,rfl,by go_num,by rw [HKE.out]; exact HR,HBB,HO3 _,HG2⟩
          case measure=>simp [intOf] <;> omega
         | true =>
          by_cases hn2:s.n=(n:Int)
          ·have hb1:(s.n == (n:Int))=true:=by simpa using hn2
           have HKE:=av (HKY.out (by rw [ht,hn2]; simp));have HTO:Hid (s.typ=o.t):=dJ.1 ht;have hb2:decide (s.n=(n:Int))=true:=decide_eq_true hn2;replace hn2:Hid (s.n=(n:Int)):=hn2;have HREL:Hid (∀ W':World,(W'.cell? ⟨bN,offN + p * 3,none⟩=some (.string s.typ)∧W'.cell? ⟨bN,offN + p * 3 + 1,none⟩=some (.string s.rel)∧Below wr.heap.size wr W')→Calls prog 57 #[.slice ad rs.length cap,.string s.typ,.string s.rel] W' fun e w'=>(∃ (rows:List ER) (adE:Option Addr) (capE:Nat),e=.returned (.slice adE rows.length capE)∧ah rows=aC (ae rs) s.typ s.rel∧jP rs adE rows)∧Below W'.heap.size W' w'):=fun W' h=>by
            refine (fG ad cap rs s.typ s.rel W' (by omega) (HS.out.below (HO2.out.bel.trans (h.2.2.mono HO2.out.bel.size))) HL.out).mono ?_;rintro e w' ⟨⟨rows,adE,capE,he,hx,-,hf⟩,rfl⟩;exact ⟨⟨rows,adE,capE,he,hx,hf⟩,Below.refl _ _⟩
           go_wp2_with fail;go_quiet (fail);go_wp2_with fail
           go_region_held3 (fun w'=>w'.cell? ⟨bN,offN + p * 3,none⟩=some (.string s.typ)∧w'.cell? ⟨bN,offN + p * 3 + 1,none⟩=some (.string s.rel)∧Below wr.heap.size wr w')
            (first | assumption | exact Lj (by assumption) hbx | exact ⟨s0,s1,Below.drew (below_drewN (Below.refl _ _) _)⟩)
            (first | (go_at_call 57; refine (HREL.out _ (by assumption)).mono ?_; rintro e w' ⟨⟨rows,adE,capE,rfl,hrx,hrf⟩,hbx⟩))
           rename_i hH;have HO4:=av (HO2.out.below hH.2.2);have HEX:Hid (ah rows=aC (ae rs) o.t s.rel):=by show _=_; rw [hrx,HTO.out]
           obtain ⟨HNO,hr1⟩:Hid (NodOk rows)∧1≤rows.length:=by
            obtain ⟨es,e1,e2⟩:=Je HSP.out.1 HSM.out;have e3:ah rows=es:=by
             rw [hrx]; unfold aC;show (dM (ae rs) s.key.1 s.key.2).getD []=es;rw [e1]; rfl
            rw [← e3] at e2;exact tK e2
           have HRF:=av hrf;have hr1000:=HNO.out.len;clear hH hbx hrx hrf HREL s0 s1 s2 o0 o1 hb1 hb2 HO2 HTO hbN hbO;go_wp2;go_loopw [5,11,15] (fun v m i wr=>∃ (j:Nat) (bb:Bool) (out4:List Fc),j≤xu.length∧m=.bool bb∧i=.int .i64 j∧Hid (out4=aZ H (ny sts xo xu (n:Int) q ++ iN sts xu (n:Int) o p ++ iw o s.rel (xu.take j)) out)∧Hid (bb=decide (out.length < out4.length))∧Hid (OutI w W wr v out4)∧Hid (GoodO (ae rs) xo xu out4)) (fun _ _ i _=>xu.length - (intOf i).toNat);case atStart=>exact ⟨0,bb,out3,Nat.zero_le _,rfl,rfl,by show _=_; rw [List.take_zero]; show _=aZ H (_ ++ []) out; rw [List.append_nil]; exact HR.out,HBB,HO4,HG2⟩
           case round =>
            clear HO4 HR HBB HG2;obtain ⟨j,bb,out4,hj,rfl,rfl,HR,HBB,HO2,HG2⟩:=hrel;by_cases hlj:j < xu.length
            ·obtain ⟨bU,offU,hadU,⟨y0,y1⟩,hbU⟩:=fV.at0 (HSU3.out.keepC HO2.out.size HO2.out.keep) hlj;obtain ⟨bN',offN',hadN',⟨s0,s1,s2⟩,hbN⟩:=CO.at0 (HSN.out.keepC HO2.out.size HO2.out.keep) hlp;obtain ⟨bO',offO',hadO',⟨o0,o1⟩,hbO⟩:=fV.at0 (HSO3.out.keepC HO2.out.size HO2.out.keep) hlq;injection hadN' with hadN'; injection hadN' with e1 e2; subst e1; subst e2;injection hadO' with hadO'; injection hadO' with e1 e2; subst e1; subst e2;rw [← HOQ.out] at o0 o1;rw [← HSE.out] at s0 s1 s2;obtain ⟨f,hf⟩:∃ f:Fc,f=⟨o.t,o.s,s.rel,xu[j].t,xu[j].s⟩:=⟨_,rfl⟩;have HAT:Hid (iw o s.rel (xu.take (j + 1))=iw o s.rel (xu.take j) ++ [f]):=by show _=_; rw [hf]; exact Gp o s.rel hlj
             have HFQ:Hid (f ∈ Br (ae rs) xo xu):=by
              show _ ∈ _;rw [hf];unfold Br iw;refine List.mem_flatMap.2 ⟨o,by rw [HOQ.out]; exact List.getElem_mem hlq,List.mem_flatMap.2 ⟨s.key,HSM.out,List.mem_map.2 ⟨xu[j],List.getElem_mem hlj,rfl⟩⟩⟩
             have hout4:=HG2.out.len hol hE36 hul;obtain ⟨adF4,capF4,rfl,hsF⟩:=jG HO2.out.row;have HSF4:=av hsF;have f0:o.t=f.a:=by rw [hf]
             have f1:o.s=f.b:=by rw [hf]
             have f2:s.rel=f.r:=by rw [hf]
             have f3:xu[j].t=f.c:=by rw [hf]
             have f4:xu[j].s=f.d:=by rw [hf]
             have HEF:Hid (ah rows=aC (ae rs) f.a f.r):=by show _=_; rw [hf]; exact HEX.out
             rw [f3] at y0;rw [f4] at y1;rw [f0] at o0;rw [f1] at o1;rw [f2] at s1;have hj1:=aY j;have hj2:(j:Int) < (xu.length:Int):=by omega
             subst hadU;clear hsF hf f0 f1 f2 f3 f4 s0 s2;obtain ⟨W5,hW5⟩:∃ W5,W5=(wr.alloc (.cells #[.string f.a,.string f.b,.string f.r,.string f.c,.string f.d] 42)).drew:=⟨_,rfl⟩;have HBr:Hid (Below wr.heap.size wr W5):=by show Below _ _ _; rw [hW5]; exact ((Below.refl _ _).alloc (Nat.le_refl _) _).drew
             have g0:W5.cell? ⟨wr.heap.size,0,none⟩=some (.string f.a):=by rw [hW5]; simp
             have g1:W5.cell? ⟨wr.heap.size,1,none⟩=some (.string f.b):=by rw [hW5]; simp
             have g2:W5.cell? ⟨wr.heap.size,2,none⟩=some (.string f.r):=by rw [hW5]; simp
             have g3:W5.cell? ⟨wr.heap.size,3,none⟩=some (.string f.c):=by rw [hW5]; simp
             have g4:W5.cell? ⟨wr.heap.size,4,none⟩=some (.string f.d):=by rw [hW5]; simp
             have gl:wr.heap.size < W5.heap.size:=ax g0;have HO5:=av (HO2.out.below HBr.out);go_wp2_with fail
             go_region
             rw [← hW5];clear hW5 y0 y1 o0 o1 s1 hbU hbN hbO;go_wp2_with fail;refine (mZ adF4 capF4 out4 f W5 (by omega) (HSF4.out.below HBr.out)).mono ?_;rintro e w6 ⟨rfl,hb6⟩;have HB6:=av (HBr.out.trans (hb6.mono HBr.out.size));have HO6:=av (HO5.out.below hb6);replace g0:=aD hb6 gl g0;replace g1:=aD hb6 gl g1;replace g2:=aD hb6 gl g2;replace g3:=aD hb6 gl g3;replace g4:=aD hb6 gl g4;replace gl:=Nat.lt_of_lt_of_le gl hb6.size;have HHF:Hid (H out4 f=dW ts (ah rows) out4 f rows.length out4 (rows.length - 1)):=by show _=_; rw [HH.out]; unfold fZ; rw [← HEF.out,aI]
             have HRS:Hid (aZ H (ny sts xo xu (n:Int) q ++ iN sts xu (n:Int) o p ++ iw o s.rel (xu.take (j + 1))) out=dG H out4 f):=by show _=_; rw [HAT.out,← List.append_assoc,ni,← HR.out]
             clear hb6 HBr HO5;cases hh:df out4 f with
             | true =>
              have HR2:Hid (out4=aZ H (ny sts xo xu (n:Int) q ++ iN sts xu (n:Int) o p ++ iw o s.rel (xu.take (j + 1))) out):=by show _=_; rw [HRS.out,qh (.inl hh)]
              go_wp2;go_roundw;case rel=>exact ⟨j + 1,bb,out4,by omega,rfl,by go_num,HR2,HBB,HO6,HG2⟩
              case measure=>simp [intOf] <;> omega
             | false =>
              have HHH:=av hh;have hwr:IntKind.i64.wrap ((rows.length:Int) - 1)=((rows.length - 1:Nat):Int):=by rw [IntKind.wrap_i64]; omega
              have HCALL:=av (mh (.slice ad rs.length cap) ad' cap' ts adE capE rows adF4 capF4 out4 f htl HNO.out (by omega) rows.length (rows.length - 1) adF4 capF4 out4 w6 (by omega) (by omega) (by omega) ⟨HST.out.below HO6.out.bel,HRF.out.sl (HS.out.below HO6.out.bel),HSF4.out.below HB6.out,HSF4.out.below HB6.out⟩);clear hh;go_wp2_with fail;refine HCALL.out.mono ?_;rintro e w7 ⟨he7,hb7⟩;rw [← HHF.out] at he7;subst he7;have HO7:=av (HO6.out.below hb7);replace g0:=aD hb7 gl g0;replace g1:=aD hb7 gl g1;replace g2:=aD hb7 gl g2;replace g3:=aD hb7 gl g3;replace g4:=aD hb7 gl g4;replace gl:=Nat.lt_of_lt_of_le gl hb7.size;clear hb7 HCALL HO6 HB6 hwr;cases hv:H out4 f with
              | false =>
               have HR2:Hid (out4=aZ H (ny sts xo xu (n:Int) q ++ iN sts xu (n:Int) o p ++ iw o s.rel (xu.take (j + 1))) out):=by show _=_; rw [HRS.out,qh (.inr hv)]
               go_wp2;go_roundw;case rel=>exact ⟨j + 1,bb,out4,by omega,rfl,by go_num,HR2,HBB,HO7,HG2⟩
               case measure=>simp [intOf] <;> omega
              | true =>
               have HST2:Hid (dG H out4 f=out4 ++ [f]):=yj HHH.out hv;have HR2:Hid (out4 ++ [f]=aZ H (ny sts xo xu (n:Int) q ++ iN sts xu (n:Int) o p ++ iw o s.rel (xu.take (j + 1))) out):=by show _=_; rw [HRS.out,HST2.out]
               have HG3:Hid (GoodO (ae rs) xo xu (out4 ++ [f])):=by
                have h1:=HG2.out.run (H:=H) (qs:=[f]) (fun g hg=>by
                 rw [List.mem_singleton] at hg;subst hg;exact HFQ.out)
                rw [show aZ H [f] out4=dG H out4 f from rfl,HST2.out] at h1;exact h1
               have HBB2:Hid (true=decide (out.length < (out4 ++ [f]).length)):=by
                show _=_;have h1:=BB H (ny sts xo xu (n:Int) q ++ iN sts xu (n:Int) o p ++ iw o s.rel (xu.take j)) out;rw [← HR.out] at h1;rw [List.length_append];exact (decide_eq_true (by simp; omega)).symm
               obtain ⟨W8,hW8⟩:∃ W8,W8=w7.alloc (.cells #[.string f.a,.string f.b,.string f.r,.string f.c,.string f.d] 42):=⟨_,rfl⟩;have HO8:Hid (OutI w W W8 (.slice adF4 out4.length capF4) out4):=by show OutI _ _ _ _ _; rw [hW8]; exact HO7.out.below ((Below.refl _ _).alloc (Nat.le_refl _) _)
               have HN8:Hid (∀ j u,f.row[j]?=some u→W8.cell? ((⟨w7.heap.size,0,none⟩:Addr).add j)=some u):=by rw [hW8]; exact AR w7 f
               have hsz8:w.heap.size≤W8.heap.size:=HO8.out.bel.size;clear hv;go_wp2_with (at_builtin; rw [← hW8]; clear hW8; refine wpList_append_own_at _ rfl _ _ 38 rfl w.heap.size 42 iF (.agg #[.string ⟨#[]⟩,.string ⟨#[]⟩,.string ⟨#[]⟩,.string ⟨#[]⟩,.string ⟨#[]⟩]) 5 80 underlying38 HIF.out.1 HIF.out.2.1 HIF.out.2.2.1 HIF.out.2.2.2 rfl (by decide) _ out4.length (bI out4) rfl HO8.out.row ⟨w7.heap.size,0,none⟩ 1 1 f.row rfl rfl HN8.out (by simp [Fc.row,Value.oneCell']) (by unfold maxLen; omega) (by omega) hsz8 ?_);intro v' w9 hown hgr _ hat;have HO9:=av (HO8.out.app hown hgr hat);clear hown hgr hat g0 g1 g2 g3 g4 gl;go_wp2;go_roundw;case rel=>exact ⟨j + 1,true,out4 ++ [f],by omega,rfl,by go_num,HR2,HBB2,HO9,HG3⟩
               case measure=>simp [intOf] <;> omega
            ·have HR3:Hid (out4=aZ H (ny sts xo xu (n:Int) q ++ iN sts xu (n:Int) o (p + 1)) out):=by show _=_; rw [HKE.out,HR.out,show j=xu.length by omega,List.take_length,List.append_assoc]
             go_wp2;go_roundw;case rel=>exact ⟨p + 1,bb,out4,by omega,rfl,by go_num,HR3,HBB,HO2,HG2⟩
             case measure=>simp [intOf] <;> omega
          ·have hb1:(s.n == (n:Int))=false:=by simpa using hn2
           have hb2:decide (s.n=(n:Int))=false:=decide_eq_false hn2;have HKE:Hid (iN sts xu (n:Int) o (p + 1)=iN sts xu (n:Int) o p):=HKN.out (by rw [hb2,Bool.and_false]);have HO3:∀ nq,Hid (OutI w W (wr.drewN nq) u5 out3):=fun nq=>HO2.out.below (below_drewN (Below.refl _ _) nq);go_wp2_with fail;go_quiet (fail);go_wp2;go_roundw;case rel=>exact ⟨p + 1,bb,out3,by omega,rfl,by go_num,by rw [HKE.out]; exact HR,HBB,HO3 _,HG2⟩
           case measure=>simp [intOf] <;> omega
        ·have HR3:Hid (out3=aZ H (ny sts xo xu (n:Int) (q + 1)) out):=by show _=_; rw [HSU4.out,HR.out,show p=sts.length by omega]
         go_wp2;go_roundw;case rel=>exact ⟨q + 1,bb,out3,by omega,rfl,by go_num,HR3,HBB,HO2,HG2⟩
         case measure=>simp [intOf] <;> omega
      ·have hout2:=HG2.out.len hol hE36 hul;have HRQ:Hid (out2=aZ H (Q n) out):=by show _=_; rw [HR.out,← HQI.out n,show q=xo.length by omega]
       obtain ⟨ad2,cap2,rfl,-⟩:=jG HO2.out.row;have HLM2:Hid (ko H (Q n) out2=A (n + 1)):=by show _=_; rw [HRQ.out,wW]; exact HLM.out
       have hbl:=BB H (Q n) out;have HDN2:Hid (bb=false→aZ H (Q n) out2=out2):=fun hb=>by
        have e:out2=out:=by
         rw [HRQ.out];refine DX ?_;rw [← HRQ.out,← HBB.out]; exact hb
        rw [e]; rw [HRQ.out] at e; exact e
       have hm:2 * (200000 - out2.length) + Mw (.bool bb) < 2 * (200000 - out.length) + 1:=by
        have h1:=HBB.out;rw [← HRQ.out] at hbl;cases bb with
        | true=>have:=of_decide_eq_true h1.symm; simp only [Mw]; omega
        | false=>have:=of_decide_eq_false h1.symm; simp only [Mw]; omega
       have HM:=av hm;clear hm hbl;go_wp2;go_roundw;case rel=>exact ⟨bb,out2,rfl,HLM2,HDN2,HO2,HG2⟩
       case measure=>exact HM.out
  ·have hne:n=sts.length + 1:=by omega
   have HO2:Hid (wr.ownsRow w.heap.size 42 5 u5 (kL st rs ts).length (bI (kL st rs ts))):=by
    show World.ownsRow _ _ _ _ _ _ _;rw [← HFIN.out,← hne]; exact HO.out.row
   have HBE:=av HO.out.bel;clear HO;go_wp2;go_ret;exact ⟨⟨_,rfl,HO2.out⟩,HBE.out⟩
end
end Go.Proofs.YtdaoiceeidoehaaGreat
