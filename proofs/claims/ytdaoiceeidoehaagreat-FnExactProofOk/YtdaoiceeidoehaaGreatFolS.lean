/- The document's look whether a fact follows from facts that are known. -/
import Derived.Test.YtdaoiceeidoehaaGreatJ30
open Go.Proofs.Tryz
set_option maxHeartbeats 80000000
namespace Go.Proofs.YtdaoiceeidoehaaGreat
set_option maxRecDepth 100000
set_option linter.unusedVariables false
set_option linter.unusedSectionVars false
open Go.ChangeShapes Go.WideShapes Go.ChangeAt Go.RowKit Go.Maps
open Pl
theorem Lv (f:Fc):okB f=((eF f.a f.b && aO f.r) && eF f.c f.d):=by
 unfold okB bi;have:qF ⟨#[]⟩=true:=by unfold qF; rw [Go.ByteArray.toList_eq]; rfl
 rw [this,Bool.and_true]
theorem El (f:Fc) (w:World) (hf:f.fits) :
  Calls prog 31 #[.agg #[.string f.a,.string f.b,.string f.r,.string f.c,.string f.d]] w fun e w'=>e=.returned (.bool (okB f))∧Below w.heap.size w w':=by
 rw [Lv];obtain ⟨W0,hW0⟩:∃ W0,W0=w.alloc (.cells #[.string f.a,.string f.b,.string f.r,.string f.c,.string f.d] 42):=⟨_,rfl⟩;have HB0:=nX hW0;have HK0:=ag (show W0.cell? ⟨w.heap.size,0,none⟩=some (.string f.a)∧W0.cell? ⟨w.heap.size,1,none⟩=some (.string f.b)∧W0.cell? ⟨w.heap.size,2,none⟩=some (.string f.r)∧W0.cell? ⟨w.heap.size,3,none⟩=some (.string f.c)∧W0.cell? ⟨w.heap.size,4,none⟩=some (.string f.d)∧Below w.heap.size w W0 from by refine ⟨?_,?_,?_,?_,?_,HB0.out⟩ <;> rw [hW0] <;> simp);have HF:=ag hf;clear hf;go_enter func31,ntmps31;go_wp2_with fail;rw [← hW0];clear hW0 HB0;refine (cZ f.a f.b _ HF.out.1 HF.out.2.1).mono ?_;rintro e w1 ⟨rfl,hb1⟩;have HK1:=ag (vX HK0.out hb1);clear hb1 HK0;cases h1:eF f.a f.b with
 | false =>
  go_wp2;go_ret;exact ⟨by simp [h1],HK1.out.2.2.2.2.2⟩
 | true =>
  obtain ⟨c0,c1,c2,c3,c4,-⟩:=HK1.out;go_wp2_with fail;refine (ay f.r _ HF.out.2.2.1).mono ?_;rintro e w2 ⟨rfl,rfl⟩;cases h2:aO f.r with
  | false =>
   clear c0 c1 c2 c3 c4;go_wp2;go_ret;exact ⟨by simp [h1,h2],HK1.out.2.2.2.2.2⟩
  | true =>
   go_wp2_with fail;refine (cZ f.c f.d _ HF.out.2.2.2.1 HF.out.2.2.2.2).mono ?_;rintro e w3 ⟨rfl,hb3⟩;have HK3:=ag (vX HK1.out hb3);clear hb3 c0 c1 c2 c3 c4;go_wp2;go_ret;exact ⟨by simp [h1,h2],HK3.out.2.2.2.2.2⟩
def mH (rs:List TR) (ts:List Tp) (truth known:List Fc) (f:Fc):Bool:=dW ts (aC (ae rs) f.a f.r) truth f (aC (ae rs) f.a f.r).length known ((aC (ae rs) f.a f.r).length - 1)
theorem GH (rs:List TR) (ts:List Tp) (truth known:List Fc) (f:Fc):yz rs ts truth f (df known)=mH rs ts truth known f:=Ji _ _ _ _ _ _ _
theorem wR (ad:Option Addr) (cap:Nat) (rs:List TR) (ad':Option Addr) (cap':Nat) (ts:List Tp) (adK:Option Addr) (capK:Nat) (known:List Fc) (adR:Option Addr) (capR:Nat) (truth:List Fc) (f:Fc) (w:World) (hlen:rs.length≤1048576) (hs:eY w ad rs) (hl:∀ r ∈ rs,r.light) (hsh:aS (ae rs)=true) (hlt:ts.length≤1048576) (hst:Sl w ad' ts) (hkl:known.length≤1048576) (hk:jq w adK known) (htl:truth.length≤1048576) (htr:jq w adR truth) :
  Calls prog 32 #[.slice ad rs.length cap,.slice ad' ts.length cap',.slice adK known.length capK,.slice adR truth.length capR,.agg #[.string f.a,.string f.b,.string f.r,.string f.c,.string f.d]] w fun e w'=>e=.returned (.bool (mH rs ts truth known f))∧Below w.heap.size w w':=by
 obtain ⟨W0,hW0⟩:∃ W0,W0=w.alloc (.cells #[.string f.a,.string f.b,.string f.r,.string f.c,.string f.d] 42):=⟨_,rfl⟩;have HB0:=nX hW0;have c0:W0.cell? ⟨w.heap.size,0,none⟩=some (.string f.a):=by rw [hW0]; simp
 have c1:W0.cell? ⟨w.heap.size,1,none⟩=some (.string f.b):=by rw [hW0]; simp
 have c2:W0.cell? ⟨w.heap.size,2,none⟩=some (.string f.r):=by rw [hW0]; simp
 have c3:W0.cell? ⟨w.heap.size,3,none⟩=some (.string f.c):=by rw [hW0]; simp
 have c4:W0.cell? ⟨w.heap.size,4,none⟩=some (.string f.d):=by rw [hW0]; simp
 have HR:=ag (fG ad cap rs f.a f.r W0 hlen (hs.below HB0.out) hl);have HS:=ag (hs.below HB0.out);have HHW:Hid (∀ adE rows,dw W0 adE rows→HW W0 ad' ts adE rows adK known adR truth):=fun adE rows h=>⟨hst.below HB0.out,h,hk.below HB0.out,htr.below HB0.out⟩;clear hs hst hk htr;go_enter func32,ntmps32;go_wp2_with fail;rw [← hW0];clear hW0;refine HR.out.mono ?_;rintro e w1 ⟨⟨rows,adE,capE,rfl,hrx,hsE,-⟩,rfl⟩;have HRX:Hid (ah rows=aC (ae rs) f.a f.r):=hrx;have HSE:=ag hsE;clear hrx hsE HR;by_cases hz:rows.length=0
 ·have HN:Hid (mH rs ts truth known f=false):=by
   show _=_;unfold mH;rw [← HRX.out,aI,hz]; rfl
  obtain rfl:rows=[]:=List.length_eq_zero_iff.1 hz;clear hz HRX;go_wp2;go_ret;exact ⟨by rw [HN.out]; rfl,HB0.out⟩
 ·obtain ⟨HNO,hr1⟩:Hid (NodOk rows)∧1≤rows.length:=by
   have h0:(dM (ae rs) f.a f.r) ≠ none:=fun h=>by
    have h1:=HRX.out;unfold aC at h1;rw [h] at h1;have:=congrArg List.length h1;rw [aI] at this;exact hz this
   cases hp:dM (ae rs) f.a f.r with
   | none=>exact absurd hp h0
   | some es =>
    have hk:(f.a,f.r) ∈ aj (ae rs):=by
     cases ht:jy rs (f.a,f.r) with
     | none=>have:=(kH hsh).no _ ht; rw [show dM (ae rs) f.a f.r=none from this] at hp; cases hp
     | some v =>
      obtain ⟨t,htm,q,hq,e1,-,-,-⟩:=(kH hsh).yes _ v ht;rw [e1];unfold aj il;exact List.mem_flatMap.2 ⟨t.p,List.mem_map.2 ⟨t,htm,rfl⟩,List.mem_map.2 ⟨q.p,List.mem_map.2 ⟨q,hq,rfl⟩,rfl⟩⟩
    obtain ⟨t,htm,q,hq,-,h2,h3⟩:=EY hsh hk;have e3:ah rows=ah q.rows:=by rw [HRX.out,h2]
    rw [← e3] at h3;exact tK h3
  have hr1000:=HNO.out.len;have hz2:decide ((0:Int) < (rows.length:Int))=true:=by simp; omega
  have hz3:(0:Int) < (rows.length:Int):=by omega
  have hwr:IntKind.i64.wrap ((rows.length:Int) - 1)=((rows.length - 1:Nat):Int):=by rw [IntKind.wrap_i64]; omega
  have HC:Hid (Calls prog 58 #[.slice ad rs.length cap,.slice ad' ts.length cap',.slice adE rows.length capE,.int .i64 ((rows.length - 1:Nat):Int),.slice adK known.length capK,.slice adR truth.length capR,.agg #[.string f.a,.string f.b,.string f.r,.string f.c,.string f.d]] w1 fun e w'=>e=.returned (.bool (mH rs ts truth known f))∧Below w1.heap.size w1 w'):=by
   have h:=mh (.slice ad rs.length cap) ad' cap' ts adE capE rows adR capR truth f hlt HNO.out htl rows.length (rows.length - 1) adK capK known w1 (by omega) (by omega) hkl (HHW.out _ _ HSE.out);have e:mH rs ts truth known f=dW ts (ah rows) truth f rows.length known (rows.length - 1):=by unfold mH; rw [← HRX.out,aI]
   rw [e]; exact h
  clear hz HRX HSE HHW;go_wp2_with fail;refine HC.out.mono ?_;rintro e w2 ⟨rfl,hb2⟩;have HB2:=ag (HB0.out.trans (hb2.mono HB0.out.size));clear hb2 c0 c1 c2 c3 c4;go_wp2;go_ret;exact ⟨by simp,HB2.out⟩
section
variable [DecidableEq Fc]
end
end Go.Proofs.YtdaoiceeidoehaaGreat
