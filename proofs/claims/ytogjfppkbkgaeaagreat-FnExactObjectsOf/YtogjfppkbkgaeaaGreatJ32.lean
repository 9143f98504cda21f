/- Both sides' look whether a fact is there. -/
import Derived.Test.YtogjfppkbkgaeaaGreatJ31
import Derived.Test.YtogjfppkbkgaeaaGreatJ3
import Derived.BigQuiet
import Derived.Test.YtogjfppkbkgaeaaGreatJ10
import Derived.Test.YtogjfppkbkgaeaaGreatJ19
namespace Go.Proofs.YtogjfppkbkgaeaaGreat
set_option maxRecDepth 100000
set_option linter.unusedVariables false
set_option linter.unusedSectionVars false
open Go.ChangeShapes Go.WideShapes Go.ChangeAt Go.RowKit Go.Maps
open Pl
section
variable [DecidableEq Fc]
theorem lQ (st:ByteArray × ByteArray→Int) {rs:List TR} {ts:List Tp}:(dV st rs ts).length≤115200:=by
 cases hr:aV (gH rs) rs ts with
 | false=>rw [jv hr]; simp
 | true =>
  rw [jI hr];have hsd:bP (af rs)=true∧ts.length≤40:=by
   unfold aV dY at hr;simp only [Bool.and_eq_true,decide_eq_true_eq] at hr;exact ⟨hr.1.1,hr.1.2.1⟩
  obtain ⟨h6,hr6,-⟩:=bi (bY.1 hsd.1).1;exact (jH st rs ts (eY ts) (dh ts) _).len (by have:=kM ts; omega) (uL h6 hr6) (by have:=jF ts; omega)
end
section
variable [DecidableEq Fc]
set_option maxHeartbeats 4000000 in
theorem yh (st:ByteArray × ByteArray→Int) (ad:Option Addr) (cap:Nat) (rs:List TR) (ad':Option Addr) (cap':Nat) (ts:List Tp) (w:World) (hlen:rs.length≤1048576) (hs:fo w ad rs) (hl:∀ r ∈ rs,r.light) (hfr:∀ r ∈ rs,r.fits) (hlt:ts.length≤1048576) (hst:Sl w ad' ts) (hft:∀ x ∈ ts,x.fits) (hle:bP (af rs)=true→Least (af rs) st) :
  Calls Tryz.prog 9 #[.slice ad rs.length cap,.slice ad' ts.length cap'] w fun e w'=>(∃ v,e=.returned v∧w'.ownsRow w.heap.size 47 5 v (dW st rs ts).length (aB (dW st rs ts)))∧Below w.heap.size w w':=by
 have hLl:=lQ st (rs:=rs) (ts:=ts);have HFQ:=az (De (st:=st) hfr hft);have HRC:=az (Da ad cap rs ad' cap' ts w hlen hs hl hfr hlt hst hft);have HAC:Hid (aV (gH rs) rs ts=true→∀ W':World,Below w.heap.size w W'→Calls Tryz.prog 37 #[.slice ad rs.length cap,.slice ad' ts.length cap'] W' fun e w'=>(∃ v,e=.returned v∧w'.ownsRow W'.heap.size 47 5 v (dV st rs ts).length (aB (dV st rs ts)))∧Below W'.heap.size W' w'):=fun hr W' hb=>by
  have hsd:bP (af rs)=true∧ts.length≤40:=by
   unfold aV dY at hr;simp only [Bool.and_eq_true,decide_eq_true_eq] at hr;exact ⟨hr.1.1,hr.1.2.1⟩
  have:=Hz st ad cap rs ad' cap' ts W' (bY.1 hsd.1) (hle hsd.1) (hs.below hb) hl hsd.2 (hst.below hb);rw [← jI hr] at this;exact this
 clear hs hl hfr hst hft hle;go_enter Tryz.func9,Tryz.ntmps9;go_wp2_with fail;refine HRC.out.mono ?_;rintro e w1 ⟨rfl,hb1⟩;have HB1:=az hb1;clear hb1 HRC;cases hr:aV (gH rs) rs ts with
 | false =>
  have HN:Hid (dW st rs ts=[]):=by show _=_; unfold dW; rw [jv hr]; rfl
  clear hr HAC;obtain ⟨W2,hW2⟩:∃ W2,W2=w1.alloc (.cells #[] 47):=⟨_,rfl⟩;have HO2:Hid (W2.ownsRow w.heap.size 47 5 (.slice (some ⟨w1.heap.size,0,none⟩) 0 0) 0 []):=by
   show World.ownsRow _ _ _ _ _ _ _;rw [hW2];exact World.ownsRow_lit w1 #[] 0 HB1.out.size (by unfold maxLen; omega) (by simp)
  have HB2:Hid (Below w.heap.size w W2):=by show Below _ _ _; rw [hW2]; exact HB1.out.alloc HB1.out.size _
  go_wp2;rw [← hW2];go_ret;exact ⟨⟨_,rfl,by rw [HN.out]; exact HO2.out⟩,HB2.out⟩
 | true =>
  have HA:=az (HAC.out hr);clear HAC hr;obtain ⟨L,hL⟩:∃ L,dV st rs ts=L:=⟨_,rfl⟩;have HSL:Hid (dW st rs ts=iW kH L):=by show _=_; unfold dW; rw [hL]
  rw [hL] at HA HFQ hLl;clear hL;go_wp2_with fail;refine (HA.out _ HB1.out).mono ?_;rintro e w2 ⟨⟨v,rfl,hown⟩,hb2⟩;obtain ⟨adL,capL,rfl,hsl⟩:=mM hown;have HSF:=az hsl;have HB2:Hid (Below w.heap.size w w2):=HB1.out.trans (hb2.mono HB1.out.size);clear hown hsl hb2 HB1 HA;have HLL:Hid (L.length≤1048576):=Nat.le_trans hLl (by decide);clear hLl;go_wp2_with fail;refine (Eb adL capL L _ HLL.out HSF.out HFQ.out).mono ?_;rintro e w3 ⟨⟨v,rfl,hown⟩,hb3⟩;have HB3:Hid (Below w.heap.size w w3):=HB2.out.trans (hb3.mono HB2.out.size);have HO3:Hid (w3.ownsRow w.heap.size 47 5 v (dW st rs ts).length (aB (dW st rs ts))):=by
   show World.ownsRow _ _ _ _ _ _ _;rw [HSL.out,(iG L).length_eq];exact jm hown HB2.out.size
  clear hown hb3;go_wp2;go_ret;exact ⟨⟨v,rfl,HO3.out⟩,HB3.out⟩
end
end Go.Proofs.YtogjfppkbkgaeaaGreat
