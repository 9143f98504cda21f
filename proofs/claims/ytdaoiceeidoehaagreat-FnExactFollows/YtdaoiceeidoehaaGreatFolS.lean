/- The document's look whether a fact follows from facts that are known. -/
import Derived.Test.YtdaoiceeidoehaaGreatJ30
open Go.Proofs.Tryz
set_option maxHeartbeats 80000000
namespace Go.Proofs.YtdaoiceeidoehaaGreat
set_option maxRecDepth 100000
set_option linter.unusedVariables false
set_option linter.unusedSectionVars false
open Go.ChangeShapes Go.WideShapes Go.ChangeAt Go.RowKit Go.Maps
open Pl
theorem Lt (f:Fc):okB f=((eF f.a f.b && aO f.r) && eF f.c f.d):=by
 unfold okB bn;have:qG ⟨#[]⟩=true:=by unfold qG; rw [Go.ByteArray.toList_eq]; rfl
 rw [this,Bool.and_true]
theorem El (f:Fc) (w:World) (hf:f.fits) :
  Calls prog 31 #[.agg #[.string f.a,.string f.b,.string f.r,.string f.c,.string f.d]] w fun e w'=>e=.returned (.bool (okB f))∧Below w.heap.size w w':=by
 rw [Lt];obtain ⟨W0,hW0⟩:∃ W0,W0=w.alloc (.cells #[.string f.a,.string f.b,.string f.r,.string f.c,.string f.d] 42):=⟨_,rfl⟩;have HB0:=nA hW0;have HK0:=ah (show W0.cell? ⟨w.heap.size,0,none⟩=some (.string f.a)∧W0.cell? ⟨w.heap.size,1,none⟩=some (.string f.b)∧W0.cell? ⟨w.heap.size,2,none⟩=some (.string f.r)∧W0.cell? ⟨w.heap.size,3,none⟩=some (.string f.c)∧W0.cell? ⟨w.heap.size,4,none⟩=some (.string f.d)∧Below w.heap.size w W0 from by refine ⟨?_,?_,?_,?_,?_,HB0.out⟩ <;> rw [hW0] <;> simp);have HF:=ah hf;clear hf;go_enter func31,ntmps31;go_wp2_with fail;rw [← hW0];clear hW0 HB0;refine (df f.a f.b _ HF.out.1 HF.out.2.1).mono ?_;rintro e w1 ⟨rfl,hb1⟩;have HK1:=ah (ig HK0.out hb1);clear hb1 HK0;cases h1:eF f.a f.b with
 | false =>
  go_wp2;go_ret;exact ⟨by simp [h1],HK1.out.2.2.2.2.2⟩
 | true =>
  obtain ⟨c0,c1,c2,c3,c4,-⟩:=HK1.out;go_wp2_with fail;refine (ax f.r _ HF.out.2.2.1).mono ?_;rintro e w2 ⟨rfl,rfl⟩;cases h2:aO f.r with
  | false =>
   clear c0 c1 c2 c3 c4;go_wp2;go_ret;exact ⟨by simp [h1,h2],HK1.out.2.2.2.2.2⟩
  | true =>
   go_wp2_with fail;refine (df f.c f.d _ HF.out.2.2.2.1 HF.out.2.2.2.2).mono ?_;rintro e w3 ⟨rfl,hb3⟩;have HK3:=ah (ig HK1.out hb3);clear hb3 c0 c1 c2 c3 c4;go_wp2;go_ret;exact ⟨by simp [h1,h2],HK3.out.2.2.2.2.2⟩
def sN (rs:List TR) (ts:List Tp) (truth known:List Fc) (f:Fc):Bool:=dV ts (aB (ae rs) f.a f.r) truth f (aB (ae rs) f.a f.r).length known ((aB (ae rs) f.a f.r).length - 1)
theorem GG (rs:List TR) (ts:List Tp) (truth known:List Fc) (f:Fc):wm rs ts truth f (dh known)=sN rs ts truth known f:=Jh _ _ _ _ _ _ _
theorem wS (ad:Option Addr) (cap:Nat) (rs:List TR) (ad':Option Addr) (cap':Nat) (ts:List Tp) (adK:Option Addr) (capK:Nat) (known:List Fc) (adR:Option Addr) (capR:Nat) (truth:List Fc) (f:Fc) (w:World) (hlen:rs.length≤1048576) (hs:fe w ad rs) (hl:∀ r ∈ rs,r.light) (hsh:aT (ae rs)=true) (hlt:ts.length≤1048576) (hst:Sl w ad' ts) (hkl:known.length≤1048576) (hk:kC w adK known) (htl:truth.length≤1048576) (htr:kC w adR truth) :
  Calls prog 32 #[.slice ad rs.length cap,.slice ad' ts.length cap',.slice adK known.length capK,.slice adR truth.length capR,.agg #[.string f.a,.string f.b,.string f.r,.string f.c,.string f.d]] w fun e w'=>e=.returned (.bool (sN rs ts truth known f))∧Below w.heap.size w w':=by
 obtain ⟨W0,hW0⟩:∃ W0,W0=w.alloc (.cells #[.string f.a,.string f.b,.string f.r,.string f.c,.string f.d] 42):=⟨_,rfl⟩;have HB0:=nA hW0;have c0:W0.cell? ⟨w.heap.size,0,none⟩=some (.string f.a):=by rw [hW0]; simp
 have c1:W0.cell? ⟨w.heap.size,1,none⟩=some (.string f.b):=by rw [hW0]; simp
 have c2:W0.cell? ⟨w.heap.size,2,none⟩=some (.string f.r):=by rw [hW0]; simp
 have c3:W0.cell? ⟨w.heap.size,3,none⟩=some (.string f.c):=by rw [hW0]; simp
 have c4:W0.cell? ⟨w.heap.size,4,none⟩=some (.string f.d):=by rw [hW0]; simp
 have HR:=ah (fH ad cap rs f.a f.r W0 hlen (hs.below HB0.out) hl);have HS:=ah (hs.below HB0.out);have HHW:Hid (∀ adE rows,dx W0 adE rows→HW W0 ad' ts adE rows adK known adR truth):=fun adE rows h=>⟨hst.below HB0.out,h,hk.below HB0.out,htr.below HB0.out⟩;clear hs hst hk htr;go_enter func32,ntmps32;go_wp2_with fail;rw [← hW0];clear hW0;refine HR.out.mono ?_;rintro e w1 ⟨⟨rows,adE,capE,rfl,hrx,hsE,-⟩,rfl⟩;have HRX:Hid (ag rows=aB (ae rs) f.a f.r):=hrx;have HSE:=ah hsE;clear hrx hsE HR;by_cases hz:rows.length=0
 ·have HN:Hid (sN rs ts truth known f=false):=by
   show _=_;unfold sN;rw [← HRX.out,aI,hz]; rfl
  obtain rfl:rows=[]:=List.length_eq_zero_iff.1 hz;clear hz HRX;go_wp2;go_ret;exact ⟨by rw [HN.out]; rfl,HB0.out⟩
 ·obtain ⟨HNO,hr1⟩:Hid (NodOk rows)∧1≤rows.length:=by
   have h0:(dM (ae rs) f.a f.r) ≠ none:=fun h=>by
    have h1:=HRX.out;unfold aB at h1;rw [h] at h1;have:=congrArg List.length h1;rw [aI] at this;exact hz this
   cases hp:dM (ae rs) f.a f.r with
   | none=>exact absurd hp h0
   | some es =>
    have hk:(f.a,f.r) ∈ aj (ae rs):=by
     cases ht:jw rs (f.a,f.r) with
     | none=>have:=(kJ hsh).no _ ht; rw [show dM (ae rs) f.a f.r=none from this] at hp; cases hp
     | some v =>
      obtain ⟨t,htm,q,hq,e1,-,-,-⟩:=(kJ hsh).yes _ v ht;rw [e1];unfold aj il;exact List.mem_flatMap.2 ⟨t.p,List.mem_map.2 ⟨t,htm,rfl⟩,List.mem_map.2 ⟨q.p,List.mem_map.2 ⟨q,hq,rfl⟩,rfl⟩⟩
    obtain ⟨t,htm,q,hq,-,h2,h3⟩:=EW hsh hk;have e3:ag rows=ag q.rows:=by rw [HRX.out,h2]
    rw [← e3] at h3;exact tL h3
  have hr1000:=HNO.out.len;have hz2:decide ((0:Int) < (rows.length:Int))=true:=by simp; omega
  have hz3:(0:Int) < (rows.length:Int):=by omega
  have hwr:IntKind.i64.wrap ((rows.length:Int) - 1)=((rows.length - 1:Nat):Int):=by rw [IntKind.wrap_i64]; omega
  have HC:Hid (Calls prog 58 #[.slice ad rs.length cap,.slice ad' ts.length cap',.slice adE rows.length capE,.int .i64 ((rows.length - 1:Nat):Int),.slice adK known.length capK,.slice adR truth.length capR,.agg #[.string f.a,.string f.b,.string f.r,.string f.c,.string f.d]] w1 fun e w'=>e=.returned (.bool (sN rs ts truth known f))∧Below w1.heap.size w1 w'):=by
   have h:=mo (.slice ad rs.length cap) ad' cap' ts adE capE rows adR capR truth f hlt HNO.out htl rows.length (rows.length - 1) adK capK known w1 (by omega) (by omega) hkl (HHW.out _ _ HSE.out);have e:sN rs ts truth known f=dV ts (ag rows) truth f rows.length known (rows.length - 1):=by unfold sN; rw [← HRX.out,aI]
   rw [e]; exact h
  clear hz HRX HSE HHW;go_wp2_with fail;refine HC.out.mono ?_;rintro e w2 ⟨rfl,hb2⟩;have HB2:=ah (HB0.out.trans (hb2.mono HB0.out.size));clear hb2 c0 c1 c2 c3 c4;go_wp2;go_ret;exact ⟨by simp,HB2.out⟩
section
variable [DecidableEq Fc]
def jy (st:ByteArray × ByteArray→Int) (rs:List TR) (ts:List Tp) (known:List Fc) (f:Fc):Bool:=((aV (gy rs) rs ts && okB f) && decide (known.length≤200)) && sN rs ts (dY st rs ts) known f
theorem sO (st:ByteArray × ByteArray→Int) (ad:Option Addr) (cap:Nat) (rs:List TR) (ad':Option Addr) (cap':Nat) (ts:List Tp) (adK:Option Addr) (capK:Nat) (known:List Fc) (f:Fc) (w:World) (hlen:rs.length≤1048576) (hs:fe w ad rs) (hl:∀ r ∈ rs,r.light) (hfr:∀ r ∈ rs,r.fits) (hlt:ts.length≤1048576) (hst:Sl w ad' ts) (hft:∀ x ∈ ts,x.fits) (hkl:known.length≤1048576) (hk:kC w adK known) (hf:f.fits) (hle:bW (ae rs)=true→Least (ae rs) st) :
  Calls prog 10 #[.slice ad rs.length cap,.slice ad' ts.length cap',.slice adK known.length capK,.agg #[.string f.a,.string f.b,.string f.r,.string f.c,.string f.d]] w fun e w'=>e=.returned (.bool (jy st rs ts known f))∧Below w.heap.size w w':=by
 obtain ⟨W0,hW0⟩:∃ W0,W0=w.alloc (.cells #[.string f.a,.string f.b,.string f.r,.string f.c,.string f.d] 42):=⟨_,rfl⟩;have HB0:=nA hW0;have HBX:Hid (W0.cell? ⟨w.heap.size,0,none⟩=some (.string f.a)∧W0.cell? ⟨w.heap.size,1,none⟩=some (.string f.b)∧W0.cell? ⟨w.heap.size,2,none⟩=some (.string f.r)∧W0.cell? ⟨w.heap.size,3,none⟩=some (.string f.c)∧W0.cell? ⟨w.heap.size,4,none⟩=some (.string f.d)∧w.heap.size < W0.heap.size):=by
  show _∧_;rw [hW0]; refine ⟨?_,?_,?_,?_,?_,?_⟩ <;> simp
 have hLl:=Ee st (rs:=rs) (ts:=ts);have HRC:Hid (∀ W':World,Below W0.heap.size W0 W'→Calls prog 30 #[.slice ad rs.length cap,.slice ad' ts.length cap'] W' fun e w'=>e=.returned (.bool (aV (gy rs) rs ts))∧Below W'.heap.size W' w'):=fun W' h=>by
  have hb:=HB0.out.trans (h.mono HB0.out.size);exact BO ad cap rs ad' cap' ts W' hlen (hs.below hb) hl hfr hlt (hst.below hb) hft
 have HFC:Hid (∀ W':World,Calls prog 31 #[.agg #[.string f.a,.string f.b,.string f.r,.string f.c,.string f.d]] W' fun e w'=>e=.returned (.bool (okB f))∧Below W'.heap.size W' w'):=fun W'=>El f W' hf
 have HAC:Hid (aV (gy rs) rs ts=true→(∀ W':World,Below W0.heap.size W0 W'→Calls prog 33 #[.slice ad rs.length cap,.slice ad' ts.length cap'] W' fun e w'=>(∃ v,e=.returned v∧w'.ownsRow W'.heap.size 42 5 v (dY st rs ts).length (bP (dY st rs ts)))∧Below W'.heap.size W' w') ∧
   (∀ (W':World) (adR:Option Addr) (capR:Nat),Below W0.heap.size W0 W'→kC W' adR (dY st rs ts)→Calls prog 32 #[.slice ad rs.length cap,.slice ad' ts.length cap',.slice adK known.length capK,.slice adR (dY st rs ts).length capR,.agg #[.string f.a,.string f.b,.string f.r,.string f.c,.string f.d]] W' fun e w'=>e=.returned (.bool (sN rs ts (dY st rs ts) known f))∧Below W'.heap.size W' w')):=fun hr=>by
  have hsd:bW (ae rs)=true∧ts.length≤40:=by
   unfold aV dW at hr;simp only [Bool.and_eq_true,decide_eq_true_eq] at hr;exact ⟨hr.1.1,hr.1.2.1⟩
  refine ⟨fun W' h=>?_,fun W' adR capR h hsR=>?_⟩
  ·have hb:=HB0.out.trans (h.mono HB0.out.size);have:=Gt st ad cap rs ad' cap' ts W' (bv.1 hsd.1) (hle hsd.1) (hs.below hb) hl hsd.2 (hst.below hb);rw [← oL hr] at this;exact this
  ·have hb:=HB0.out.trans (h.mono HB0.out.size);exact wS ad cap rs ad' cap' ts adK capK known adR capR (dY st rs ts) f W' hlen (hs.below hb) hl (bv.1 hsd.1).1 hlt (hst.below hb) hkl (hk.below hb) (by omega) hsR
 clear hs hl hfr hst hft hle hk hf;go_enter func10,ntmps10;go_wp2_with fail;rw [← hW0];clear hW0;cases hr:aV (gy rs) rs ts with
 | true =>
  have HA:=ah (HAC.out hr).1;have HL5:=ah (HAC.out hr).2;rw [hr] at HRC;cases hq:okB f with
  | true =>
   rw [hq] at HFC;by_cases h2:known.length≤200
   ·obtain ⟨L,hLe⟩:∃ L,L=dY st rs ts:=⟨_,rfl⟩;have HE:Hid (jy st rs ts known f=sN rs ts L known f):=by show _=_; unfold jy; rw [hr,hq,decide_eq_true h2,hLe]; rfl
    rw [← hLe] at HA HL5 hLl;have hd2:(known.length:Int)≤200:=by omega
    obtain ⟨c0,c1,c2,c3,c4,cl⟩:=HBX.out;clear HAC hr hLe hq h2
    go_region_held3 (fun w'=>w'.cell? ⟨w.heap.size,0,none⟩=some (.string f.a)∧w'.cell? ⟨w.heap.size,1,none⟩=some (.string f.b)∧w'.cell? ⟨w.heap.size,2,none⟩=some (.string f.r)∧w'.cell? ⟨w.heap.size,3,none⟩=some (.string f.c)∧w'.cell? ⟨w.heap.size,4,none⟩=some (.string f.d)∧Below W0.heap.size W0 w')
     (first | assumption | exact ig (by assumption) hbx | exact ⟨c0,c1,c2,c3,c4,(Below.refl _ _).drew⟩)
     (first | (go_at_call 30; refine (HRC.out _ (And.right (And.right (And.right (And.right (And.right (by assumption))))))).mono ?_; rintro e w1 ⟨rfl,hbx⟩) | (go_at_call 31; refine (HFC.out _).mono ?_; rintro e w2 ⟨rfl,hbx⟩) | (go_at_call 33; refine (HA.out _ (And.right (And.right (And.right (And.right (And.right (by assumption))))))).mono ?_; rintro e w3 ⟨⟨v,rfl,hown⟩,hbx⟩; obtain ⟨adL,capL,rfl,hsl⟩:=jG hown) | (go_at_call 32; refine (HL5.out _ _ _ (And.right (And.right (And.right (And.right (And.right (by assumption)))))) (by first | exact hsl | exact hsl.below (Below.refl _ _))).mono ?_; rintro e w4 ⟨rfl,hbx⟩))
    rename_i hJ;have HG:=ah (HB0.out.trans (hJ.2.2.2.2.2.mono HB0.out.size));clear hJ hown hsl c0 c1 c2 c3 c4 HB0;go_wp2;go_ret;exact ⟨by rw [HE.out]; rfl,HG.out⟩
   ·have HN:Hid (jy st rs ts known f=false):=by show _=_; unfold jy; rw [decide_eq_false h2]; simp
    have hd2:decide ((known.length:Int)≤200)=false:=by simp; omega
    have hd3:¬ ((known.length:Int)≤200):=by omega
    clear HAC hr hq h2 HA HL5;refine aS 22 (fun n=>(undef::undef::undef::undef::undef::undef::undef::undef::undef::undef::undef::undef::undef::undef::undef::undef::undef::undef::undef::undef::undef::undef::[]).getD n undef) (fun fq=>{ tmps:=List.toArray (Value.slice ad rs.length cap::.slice ad' ts.length cap'::.slice adK known.length capK::.agg #[.string f.a,.string f.b,.string f.r,.string f.c,.string f.d]::undef::undef::undef::.pointer (some ⟨w.heap.size,0,none⟩)::.bool false::fq 0::fq 1::fq 2::fq 3::fq 4::fq 5::fq 6::fq 7::fq 8::fq 9::fq 10::fq 11::fq 12::fq 13::fq 14::fq 15::fq 16::fq 17::fq 18::fq 19::fq 20::fq 21::[]),defers:=[] }) (fun n v _=>v=(Value.slice ad rs.length cap::.slice ad' ts.length cap'::.bool true::.bool true::.agg #[.string f.a,.string f.b,.string f.r,.string f.c,.string f.d]::.bool true::.bool true::.bool true::.slice adK known.length capK::.int .i64 known.length::.bool false::.bool false::.bool false::undef::undef::undef::undef::undef::undef::undef::undef::.bool false::[]).getD n undef) (fun w'=>Below W0.heap.size W0 w') (by kernel_rfl) rfl (by kernel_rfl) (by kernel_rfl) rfl (Below.refl _ _).drew ?stepC ?finC;case stepC =>
     rintro i hi o ho fq w' hG hpre;have HG:Hid (Below W0.heap.size W0 w'):=hG;have b0:=aC HG.out HBX.out.2.2.2.2.2 HBX.out.1;have b1:=aC HG.out HBX.out.2.2.2.2.2 HBX.out.2.1;have b2:=aC HG.out HBX.out.2.2.2.2.2 HBX.out.2.2.1;have b3:=aC HG.out HBX.out.2.2.2.2.2 HBX.out.2.2.2.1;have b4:=aC HG.out HBX.out.2.2.2.2.2 HBX.out.2.2.2.2.1;have HM:Hid (∀ e ∈ o.after,Region.binds .any e=true→_):=hpre;clear hG hpre;have hc:=G5 (i:=i) (by omega);clear hi
     repeat' rcases hc with rfl | hc
     iterate 2
      ·obtain rfl:=Option.some.inj ho;have hm:=HM.out
       try simp [Region.binds] at hm
       clear ho HM;refine wpOp_step rfl (fun K hK=>?_);have HK:Hid (∀ a w,_→K a w):=hK;clear hK;go_simp;exact HK.out _ _ ⟨_,by simp [upd, *],HG.out,rfl,fun k u hu=>hu⟩
     ·obtain rfl:=Option.some.inj ho;have e0:fq 0=.slice ad rs.length cap:=HM.out ⟨0,.data⟩ (by simp) rfl;have e1:fq 1=.slice ad' ts.length cap':=HM.out ⟨1,.data⟩ (by simp) rfl;clear ho HM;refine wpOp_step rfl (fun K hK=>?_);have HK:Hid (∀ a w,_→K a w):=hK;clear hK;simp only [e0,e1];go_simp;refine (HRC.out _ HG.out).mono ?_;rintro e w9 ⟨rfl,hb9⟩;have HG9:=fu HG hb9;clear hb9;go_wp2_with fail;exact HK.out _ _ ⟨Value.bool true,by simp [upd,e0,e1],HG9.out,rfl,fun k u hu=>hu⟩
     iterate 2
      ·obtain rfl:=Option.some.inj ho;have hm:=HM.out
       try simp [Region.binds] at hm
       clear ho HM;refine wpOp_step rfl (fun K hK=>?_);have HK:Hid (∀ a w,_→K a w):=hK;clear hK
       try simp only [hm]
       go_simp;exact HK.out _ _ ⟨_,by simp [upd, *],HG.out,rfl,fun k u hu=>hu⟩
     ·obtain rfl:=Option.some.inj ho;have e4:fq 4=.agg #[.string f.a,.string f.b,.string f.r,.string f.c,.string f.d]:=HM.out ⟨4,.data⟩ (by simp) rfl;have e3:fq 3=.bool true:=HM.out ⟨3,.guard⟩ (by simp) rfl;clear ho HM;refine wpOp_step rfl (fun K hK=>?_);have HK:Hid (∀ a w,_→K a w):=hK;clear hK;simp only [e4,e3];go_simp;refine (HFC.out _).mono ?_;rintro e w9 ⟨rfl,hb9⟩;have HG9:=fu HG hb9;clear hb9;go_wp2_with fail;exact HK.out _ _ ⟨Value.bool true,by simp [upd,e4,e3],HG9.out,rfl,fun k u hu=>hu⟩
     iterate 16
      ·obtain rfl:=Option.some.inj ho;have hm:=HM.out
       try simp [Region.binds] at hm
       clear ho HM;refine wpOp_step rfl (fun K hK=>?_);have HK:Hid (∀ a w,_→K a w):=hK;clear hK
       try simp only [hm]
       go_simp;exact HK.out _ _ ⟨_,by simp [upd, *],HG.out,rfl,fun k u hu=>hu⟩
    case finC =>
     rintro o ho fq w' hG hall;have e21:fq 21=.bool false:=hall 21 (by omega);have HG:Hid (Below W0.heap.size W0 w'):=hG;clear hG hall;obtain rfl:=Option.some.inj ho;clear ho;refine wpOp_step rfl (fun K hK=>?_);have HK:Hid (∀ a w,_→K a w):=hK;clear hK;simp only [e21];go_simp;refine HK.out _ _ ?_;clear HK;go_wp2;go_ret;exact ⟨by rw [HN.out]; rfl,HB0.out.trans (HG.out.mono HB0.out.size)⟩
  | false =>
   rw [hq] at HFC;have HN:Hid (jy st rs ts known f=false):=by show _=_; unfold jy; rw [hq]; simp
   clear HAC hr hq HA HL5;refine aS 22 (fun n=>(undef::undef::undef::undef::undef::undef::undef::undef::undef::undef::undef::undef::undef::undef::undef::undef::undef::undef::undef::undef::undef::undef::[]).getD n undef) (fun fq=>{ tmps:=List.toArray (Value.slice ad rs.length cap::.slice ad' ts.length cap'::.slice adK known.length capK::.agg #[.string f.a,.string f.b,.string f.r,.string f.c,.string f.d]::undef::undef::undef::.pointer (some ⟨w.heap.size,0,none⟩)::.bool false::fq 0::fq 1::fq 2::fq 3::fq 4::fq 5::fq 6::fq 7::fq 8::fq 9::fq 10::fq 11::fq 12::fq 13::fq 14::fq 15::fq 16::fq 17::fq 18::fq 19::fq 20::fq 21::[]),defers:=[] }) (fun n v _=>v=(Value.slice ad rs.length cap::.slice ad' ts.length cap'::.bool true::.bool true::.agg #[.string f.a,.string f.b,.string f.r,.string f.c,.string f.d]::.bool false::.bool false::.bool false::undef::undef::undef::.bool false::.bool false::undef::undef::undef::undef::undef::undef::undef::undef::.bool false::[]).getD n undef) (fun w'=>Below W0.heap.size W0 w') (by kernel_rfl) rfl (by kernel_rfl) (by kernel_rfl) rfl (Below.refl _ _).drew ?jH ?finB;case jH =>
    rintro i hi o ho fq w' hG hpre;have HG:Hid (Below W0.heap.size W0 w'):=hG;have b0:=aC HG.out HBX.out.2.2.2.2.2 HBX.out.1;have b1:=aC HG.out HBX.out.2.2.2.2.2 HBX.out.2.1;have b2:=aC HG.out HBX.out.2.2.2.2.2 HBX.out.2.2.1;have b3:=aC HG.out HBX.out.2.2.2.2.2 HBX.out.2.2.2.1;have b4:=aC HG.out HBX.out.2.2.2.2.2 HBX.out.2.2.2.2.1;have HM:Hid (∀ e ∈ o.after,Region.binds .any e=true→_):=hpre;clear hG hpre;have hc:=G5 (i:=i) (by omega);clear hi
    repeat' rcases hc with rfl | hc
    iterate 2
     ·obtain rfl:=Option.some.inj ho;have hm:=HM.out
      try simp [Region.binds] at hm
      clear ho HM;refine wpOp_step rfl (fun K hK=>?_);have HK:Hid (∀ a w,_→K a w):=hK;clear hK;go_simp;exact HK.out _ _ ⟨_,by simp [upd, *],HG.out,rfl,fun k u hu=>hu⟩
    ·obtain rfl:=Option.some.inj ho;have e0:fq 0=.slice ad rs.length cap:=HM.out ⟨0,.data⟩ (by simp) rfl;have e1:fq 1=.slice ad' ts.length cap':=HM.out ⟨1,.data⟩ (by simp) rfl;clear ho HM;refine wpOp_step rfl (fun K hK=>?_);have HK:Hid (∀ a w,_→K a w):=hK;clear hK;simp only [e0,e1];go_simp;refine (HRC.out _ HG.out).mono ?_;rintro e w9 ⟨rfl,hb9⟩;have HG9:=fu HG hb9;clear hb9;go_wp2_with fail;exact HK.out _ _ ⟨Value.bool true,by simp [upd,e0,e1],HG9.out,rfl,fun k u hu=>hu⟩
    iterate 2
     ·obtain rfl:=Option.some.inj ho;have hm:=HM.out
      try simp [Region.binds] at hm
      clear ho HM;refine wpOp_step rfl (fun K hK=>?_);have HK:Hid (∀ a w,_→K a w):=hK;clear hK
      try simp only [hm]
      go_simp;exact HK.out _ _ ⟨_,by simp [upd, *],HG.out,rfl,fun k u hu=>hu⟩
    ·obtain rfl:=Option.some.inj ho;have e4:fq 4=.agg #[.string f.a,.string f.b,.string f.r,.string f.c,.string f.d]:=HM.out ⟨4,.data⟩ (by simp) rfl;have e3:fq 3=.bool true:=HM.out ⟨3,.guard⟩ (by simp) rfl;clear ho HM;refine wpOp_step rfl (fun K hK=>?_);have HK:Hid (∀ a w,_→K a w):=hK;clear hK;simp only [e4,e3];go_simp;refine (HFC.out _).mono ?_;rintro e w9 ⟨rfl,hb9⟩;have HG9:=fu HG hb9;clear hb9;go_wp2_with fail;exact HK.out _ _ ⟨Value.bool false,by simp [upd,e4,e3],HG9.out,rfl,fun k u hu=>hu⟩
    iterate 16
     ·obtain rfl:=Option.some.inj ho;have hm:=HM.out
      try simp [Region.binds] at hm
      clear ho HM;refine wpOp_step rfl (fun K hK=>?_);have HK:Hid (∀ a w,_→K a w):=hK;clear hK
      try simp only [hm]
      go_simp;exact HK.out _ _ ⟨_,by simp [upd, *],HG.out,rfl,fun k u hu=>hu⟩
   case finB =>
    rintro o ho fq w' hG hall;have e21:fq 21=.bool false:=hall 21 (by omega);have HG:Hid (Below W0.heap.size W0 w'):=hG;clear hG hall;obtain rfl:=Option.some.inj ho;clear ho;refine wpOp_step rfl (fun K hK=>?_);have HK:Hid (∀ a w,_→K a w):=hK;clear hK;simp only [e21];go_simp;refine HK.out _ _ ?_;clear HK;go_wp2;go_ret;exact ⟨by rw [HN.out]; rfl,HB0.out.trans (HG.out.mono HB0.out.size)⟩
 | false =>
  rw [hr] at HRC;have HN:Hid (jy st rs ts known f=false):=by show _=_; unfold jy; rw [hr]; rfl
  clear HAC hr;refine aS 22 (fun n=>(undef::undef::undef::undef::undef::undef::undef::undef::undef::undef::undef::undef::undef::undef::undef::undef::undef::undef::undef::undef::undef::undef::[]).getD n undef) (fun fq=>{ tmps:=List.toArray (Value.slice ad rs.length cap::.slice ad' ts.length cap'::.slice adK known.length capK::.agg #[.string f.a,.string f.b,.string f.r,.string f.c,.string f.d]::undef::undef::undef::.pointer (some ⟨w.heap.size,0,none⟩)::.bool false::fq 0::fq 1::fq 2::fq 3::fq 4::fq 5::fq 6::fq 7::fq 8::fq 9::fq 10::fq 11::fq 12::fq 13::fq 14::fq 15::fq 16::fq 17::fq 18::fq 19::fq 20::fq 21::[]),defers:=[] }) (fun n v _=>v=(Value.slice ad rs.length cap::.slice ad' ts.length cap'::.bool false::.bool false::undef::undef::.bool false::.bool false::undef::undef::undef::.bool false::.bool false::undef::undef::undef::undef::undef::undef::undef::undef::.bool false::[]).getD n undef) (fun w'=>Below W0.heap.size W0 w') (by kernel_rfl) rfl (by kernel_rfl) (by kernel_rfl) rfl (Below.refl _ _).drew ?stepA ?finA;case stepA =>
   rintro i hi o ho fq w' hG hpre;have HG:Hid (Below W0.heap.size W0 w'):=hG;have b0:=aC HG.out HBX.out.2.2.2.2.2 HBX.out.1;have b1:=aC HG.out HBX.out.2.2.2.2.2 HBX.out.2.1;have b2:=aC HG.out HBX.out.2.2.2.2.2 HBX.out.2.2.1;have b3:=aC HG.out HBX.out.2.2.2.2.2 HBX.out.2.2.2.1;have b4:=aC HG.out HBX.out.2.2.2.2.2 HBX.out.2.2.2.2.1;have HM:Hid (∀ e ∈ o.after,Region.binds .any e=true→_):=hpre;clear hG hpre;have hc:=G5 (i:=i) (by omega);clear hi
   repeat' rcases hc with rfl | hc
   iterate 2
    ·obtain rfl:=Option.some.inj ho;have hm:=HM.out
     try simp [Region.binds] at hm
     clear ho HM;refine wpOp_step rfl (fun K hK=>?_);have HK:Hid (∀ a w,_→K a w):=hK;clear hK;go_simp;exact HK.out _ _ ⟨_,by simp [upd, *],HG.out,rfl,fun k u hu=>hu⟩
   ·obtain rfl:=Option.some.inj ho;have e0:fq 0=.slice ad rs.length cap:=HM.out ⟨0,.data⟩ (by simp) rfl;have e1:fq 1=.slice ad' ts.length cap':=HM.out ⟨1,.data⟩ (by simp) rfl;clear ho HM;refine wpOp_step rfl (fun K hK=>?_);have HK:Hid (∀ a w,_→K a w):=hK;clear hK;simp only [e0,e1];go_simp;refine (HRC.out _ HG.out).mono ?_;rintro e w9 ⟨rfl,hb9⟩;have HG9:=fu HG hb9;clear hb9;go_wp2_with fail;exact HK.out _ _ ⟨Value.bool false,by simp [upd,e0,e1],HG9.out,rfl,fun k u hu=>hu⟩
   iterate 19
    ·obtain rfl:=Option.some.inj ho;have hm:=HM.out
     try simp [Region.binds] at hm
     clear ho HM;refine wpOp_step rfl (fun K hK=>?_);have HK:Hid (∀ a w,_→K a w):=hK;clear hK
     try simp only [hm]
     go_simp;exact HK.out _ _ ⟨_,by simp [upd, *],HG.out,rfl,fun k u hu=>hu⟩
  case finA =>
   rintro o ho fq w' hG hall;have e21:fq 21=.bool false:=hall 21 (by omega);have HG:Hid (Below W0.heap.size W0 w'):=hG;clear hG hall;obtain rfl:=Option.some.inj ho;clear ho;refine wpOp_step rfl (fun K hK=>?_);have HK:Hid (∀ a w,_→K a w):=hK;clear hK;simp only [e21];go_simp;refine HK.out _ _ ?_;clear HK;go_wp2;go_ret;exact ⟨by rw [HN.out]; rfl,HB0.out.trans (HG.out.mono HB0.out.size)⟩
end
end Go.Proofs.YtdaoiceeidoehaaGreat
