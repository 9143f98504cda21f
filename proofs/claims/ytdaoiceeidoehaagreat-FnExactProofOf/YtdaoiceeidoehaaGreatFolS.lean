/- The document's look whether a fact follows from facts that are known. -/
import Derived.Test.YtdaoiceeidoehaaGreatJ32
open Go.Proofs.Tryz
set_option maxHeartbeats 80000000
namespace Go.Proofs.YtdaoiceeidoehaaGreat
set_option maxRecDepth 100000
set_option linter.unusedVariables false
set_option linter.unusedSectionVars false
open Go.ChangeShapes Go.WideShapes Go.ChangeAt Go.RowKit Go.Maps
open Pl
theorem NN (f:Fc):okB f=((eH f.a f.b && aR f.r) && eH f.c f.d):=by
 unfold okB df;have:sV ⟨#[]⟩=true:=by unfold sV; rw [Go.ByteArray.toList_eq]; rfl
 rw [this,Bool.and_true]
theorem Ir (f:Fc) (w:World) (hf:f.fits) :
  Calls prog 31 #[.agg #[.string f.a,.string f.b,.string f.r,.string f.c,.string f.d]] w fun e w'=>e=.returned (.bool (okB f))∧Below w.heap.size w w':=by
 rw [NN];obtain ⟨W0,hW0⟩:∃ W0,W0=w.alloc (.cells #[.string f.a,.string f.b,.string f.r,.string f.c,.string f.d] 42):=⟨_,rfl⟩;have HB0:=pu hW0;have HK0:=ag (show W0.cell? ⟨w.heap.size,0,none⟩=some (.string f.a)∧W0.cell? ⟨w.heap.size,1,none⟩=some (.string f.b)∧W0.cell? ⟨w.heap.size,2,none⟩=some (.string f.r)∧W0.cell? ⟨w.heap.size,3,none⟩=some (.string f.c)∧W0.cell? ⟨w.heap.size,4,none⟩=some (.string f.d)∧Below w.heap.size w W0 from by refine ⟨?_,?_,?_,?_,?_,HB0.out⟩ <;> rw [hW0] <;> simp);have HF:=ag hf;clear hf;go_enter func31,ntmps31;go_wp2_with fail;rw [← hW0];clear hW0 HB0;refine (dM f.a f.b _ HF.out.1 HF.out.2.1).mono ?_;rintro e w1 ⟨rfl,hb1⟩;have ZQ:=ag (Il HK0.out hb1);clear hb1 HK0;cases h1:eH f.a f.b with
 | false =>
  go_wp2;go_ret;exact ⟨by simp [h1],ZQ.out.2.2.2.2.2⟩
 | true =>
  obtain ⟨c0,c1,c2,c3,c4,-⟩:=ZQ.out;go_wp2_with fail;refine (aL f.r _ HF.out.2.2.1).mono ?_;rintro e w2 ⟨rfl,rfl⟩;cases h2:aR f.r with
  | false =>
   clear c0 c1 c2 c3 c4;go_wp2;go_ret;exact ⟨by simp [h1,h2],ZQ.out.2.2.2.2.2⟩
  | true =>
   go_wp2_with fail;refine (dM f.c f.d _ HF.out.2.2.2.1 HF.out.2.2.2.2).mono ?_;rintro e w3 ⟨rfl,hb3⟩;have Ya:=ag (Il ZQ.out hb3);clear hb3 c0 c1 c2 c3 c4;go_wp2;go_ret;exact ⟨by simp [h1,h2],Ya.out.2.2.2.2.2⟩
def qN (rs:List TR) (ts:List Tp) (truth known:List Fc) (f:Fc):Bool:=cO ts (ax (ae rs) f.a f.r) truth f (ax (ae rs) f.a f.r).length known ((ax (ae rs) f.a f.r).length - 1)
theorem uC (rs:List TR) (ts:List Tp) (truth known:List Fc) (f:Fc):dE rs ts truth f (aO known)=qN rs ts truth known f:=M9 _ _ _ _ _ _ _
theorem zY (ad:Option Addr) (cap:Nat) (rs:List TR) (SQ:Option Addr) (cap':Nat) (ts:List Tp) (adK:Option Addr) (capK:Nat) (known:List Fc) (TE:Option Addr) (Tk:Nat) (truth:List Fc) (f:Fc) (w:World) (hlen:rs.length≤1048576) (hs:jd w ad rs) (hl:∀ r ∈ rs,r.light) (hsh:aV (ae rs)=true) (hlt:ts.length≤1048576) (hst:Sl w SQ ts) (hkl:known.length≤1048576) (hk:gX w adK known) (htl:truth.length≤1048576) (htr:gX w TE truth) :
  Calls prog 32 #[.slice ad rs.length cap,.slice SQ ts.length cap',.slice adK known.length capK,.slice TE truth.length Tk,.agg #[.string f.a,.string f.b,.string f.r,.string f.c,.string f.d]] w fun e w'=>e=.returned (.bool (qN rs ts truth known f))∧Below w.heap.size w w':=by
 obtain ⟨W0,hW0⟩:∃ W0,W0=w.alloc (.cells #[.string f.a,.string f.b,.string f.r,.string f.c,.string f.d] 42):=⟨_,rfl⟩;have HB0:=pu hW0;have c0:W0.cell? ⟨w.heap.size,0,none⟩=some (.string f.a):=by rw [hW0]; simp
 have c1:W0.cell? ⟨w.heap.size,1,none⟩=some (.string f.b):=by rw [hW0]; simp
 have c2:W0.cell? ⟨w.heap.size,2,none⟩=some (.string f.r):=by rw [hW0]; simp
 have c3:W0.cell? ⟨w.heap.size,3,none⟩=some (.string f.c):=by rw [hW0]; simp
 have c4:W0.cell? ⟨w.heap.size,4,none⟩=some (.string f.d):=by rw [hW0]; simp
 have HR:=ag (gG ad cap rs f.a f.r W0 hlen (hs.below HB0.out) hl);have HS:=ag (hs.below HB0.out);have HHW:Hid (∀ SN rows,eX W0 SN rows→HW W0 SQ ts SN rows adK known TE truth):=fun SN rows h=>⟨hst.below HB0.out,h,hk.below HB0.out,htr.below HB0.out⟩;clear hs hst hk htr;go_enter func32,ntmps32;go_wp2_with fail;rw [← hW0];clear hW0;refine HR.out.mono ?_;rintro e w1 ⟨⟨rows,SN,capE,rfl,hrx,hsE,-⟩,rfl⟩;have HRX:Hid (ah rows=ax (ae rs) f.a f.r):=hrx;have UX:=ag hsE;clear hrx hsE HR;by_cases hz:rows.length=0
 ·have HN:Hid (qN rs ts truth known f=false):=by
   show _=_;unfold qN;rw [← HRX.out,aJ,hz]; rfl
  obtain rfl:rows=[]:=Si.1 hz;clear hz HRX;go_wp2;go_ret;exact ⟨by rw [HN.out]; rfl,HB0.out⟩
 ·obtain ⟨UK,hr1⟩:Hid (UM rows)∧1≤rows.length:=by
   have h0:(dX (ae rs) f.a f.r) ≠ none:=fun h=>by
    have h1:=HRX.out;unfold ax at h1;rw [h] at h1;have:=congrArg List.length h1;rw [aJ] at this;exact hz this
   cases hp:dX (ae rs) f.a f.r with
   | none=>exact absurd hp h0
   | some es =>
    have hk:(f.a,f.r) ∈ ai (ae rs):=by
     cases ht:mJ rs (f.a,f.r) with
     | none=>have:=(mM hsh).no _ ht; rw [show dX (ae rs) f.a f.r=none from this] at hp; cases hp
     | some v =>
      obtain ⟨t,Yb,q,hq,e1,-,-,-⟩:=(mM hsh).yes _ v ht;rw [e1];unfold ai iB;exact Sk.2 ⟨t.p,Sa.2 ⟨t,Yb,rfl⟩,Sa.2 ⟨q.p,Sa.2 ⟨q,hq,rfl⟩,rfl⟩⟩
    obtain ⟨t,Yb,q,hq,-,h2,h3⟩:=Jl hsh hk;have e3:ah rows=ah q.rows:=by rw [HRX.out,h2]
    rw [← e3] at h3;exact xe h3
  have WS:=UK.out.len;have hz2:decide ((0:Int) < (rows.length:Int))=true:=by simp; omega
  have hz3:(0:Int) < (rows.length:Int):=by omega
  have hwr:IntKind.i64.wrap ((rows.length:Int) - 1)=((rows.length - 1:Nat):Int):=by rw [IntKind.wrap_i64]; omega
  have HC:Hid (Calls prog 58 #[.slice ad rs.length cap,.slice SQ ts.length cap',.slice SN rows.length capE,.int .i64 ((rows.length - 1:Nat):Int),.slice adK known.length capK,.slice TE truth.length Tk,.agg #[.string f.a,.string f.b,.string f.r,.string f.c,.string f.d]] w1 fun e w'=>e=.returned (.bool (qN rs ts truth known f))∧Below w1.heap.size w1 w'):=by
   have h:=oU (.slice ad rs.length cap) SQ cap' ts SN capE rows TE Tk truth f hlt UK.out htl rows.length (rows.length - 1) adK capK known w1 (by omega) (by omega) hkl (HHW.out _ _ UX.out);have e:qN rs ts truth known f=cO ts (ah rows) truth f rows.length known (rows.length - 1):=by unfold qN; rw [← HRX.out,aJ]
   rw [e]; exact h
  clear hz HRX UX HHW;go_wp2_with fail;refine HC.out.mono ?_;rintro e w2 ⟨rfl,hb2⟩;have HB2:=ag (HB0.out.trans (hb2.mono HB0.out.size));clear hb2 c0 c1 c2 c3 c4;go_wp2;go_ret;exact ⟨by simp,HB2.out⟩
section
variable [DecidableEq Fc]
end
end Go.Proofs.YtdaoiceeidoehaaGreat
