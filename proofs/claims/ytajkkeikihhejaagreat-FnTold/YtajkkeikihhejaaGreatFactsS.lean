/- Contract of the document's Facts. -/
import Derived.Test.YtajkkeikihhejaaGreatSq
import Derived.Test.YtajkkeikihhejaaGreatFactsO
import Derived.Test.YtajkkeikihhejaaGreatChkI
open Go.Proofs.Tryz
set_option maxHeartbeats 80000000
namespace Go.Proofs.YtajkkeikihhejaaGreat
set_option maxRecDepth 100000
set_option linter.unusedVariables false
set_option linter.unusedSectionVars false
open Go.ChangeShapes Go.WideShapes Go.ChangeAt Go.RowKit Go.Maps
open Pl
section
variable [DecidableEq Fc]
theorem BV (st:ByteArray × ByteArray→Int) (ad:Option Addr) (cap:Nat) (rs:List TR) (UJ:Option Addr) (cap':Nat) (ts:List Tp) (w:af) (hlen:rs.length≤1048576) (hs:kW w ad rs) (hl:∀ r ∈ rs,r.light) (hfr:∀ r ∈ rs,r.fits) (hlt:ts.length≤1048576) (hst:Sl w UJ ts) (hft:∀ x ∈ ts,x.fits) (hle:aJ (ae rs)=true→Least (ae rs) st) :
  Calls prog 47 #[.slice ad rs.length cap,.slice UJ ts.length cap'] w fun e w'=>(∃ v,e=.returned v∧w'.ownsRow w.heap.size 29 5 v (iy st rs ts).length (aH (iy st rs ts)))∧ag w w':=by
 have hLl:=pI st (rs:=rs) (ts:=ts);have HFQ:=aC (xZ (st:=st) hfr hft);have HRC:=aC (xX ad cap rs UJ cap' ts w hlen hs hl hfr hlt hst hft);have HAC:Hid (aQ (gV rs) rs ts=true→∀ W':World,ag w W'→Calls prog 57 #[.slice ad rs.length cap,.slice UJ ts.length cap'] W' fun e w'=>(∃ v,e=.returned v∧w'.ownsRow W'.heap.size 29 5 v (bC st rs ts).length (aH (bC st rs ts)))∧ag W' w'):=fun hr W' hb=>by
  have hsd:aJ (ae rs)=true∧ts.length≤40:=by
   unfold aQ dJ at hr;simp only [TU,Ud] at hr;exact ⟨hr.1.1,hr.1.2.1⟩
  have:=DI st ad cap rs UJ cap' ts W' (aY.1 hsd.1) (hle hsd.1) (hs.below hb) hl hsd.2 (hst.below hb);rw [← iw hr] at this;exact this
 clear hs hl hfr hst hft hle;go_enter func47,ntmps47;go_wp2_with fail;refine HRC.out.mono ?_;rintro e w1 ⟨rfl,hb1⟩;have HB1:=aC hb1;clear hb1 HRC;cases hr:aQ (gV rs) rs ts;case false=>
  have HN:Hid (iy st rs ts=[]):=by show _=_; unfold iy; rw [jo hr]; rfl
  clear hr HAC;obtain ⟨W2,hW2⟩:∃ W2,W2=w1.alloc (.cells #[] 29):=⟨_,rfl⟩;have UB:Hid (W2.ownsRow w.heap.size 29 5 (.slice (some ⟨w1.heap.size,0,none⟩) 0 0) 0 []):=by
   show World.ownsRow _ _ _ _ _ _ _;rw [hW2];exact World.ownsRow_lit w1 #[] 0 HB1.out.size (by unfold maxLen; omega) (by simp)
  have HB2:Hid (ag w W2):=by show Below _ _ _; rw [hW2]; exact HB1.out.alloc HB1.out.size _
  go_wp2;rw [← hW2];go_ret;exact ⟨⟨_,rfl,by rw [HN.out]; exact UB.out⟩,HB2.out⟩
 have HA:=aC (HAC.out hr);clear HAC hr;obtain ⟨L,hL⟩:∃ L,bC st rs ts=L:=⟨_,rfl⟩;have WG:Hid (iy st rs ts=ku oH L):=by show _=_; unfold iy; rw [hL]
 rw [hL] at HA HFQ hLl;clear hL;go_wp2_with fail;refine (HA.out _ HB1.out).mono ?_;rintro e w2 ⟨⟨v,rfl,hown⟩,hb2⟩;obtain ⟨Zk,Xe,rfl,hsl⟩:=mW hown;have Y7:=aC hsl;have HB2:=jP HB1 hb2;clear hown hsl hb2 HB1 HA;have HLL:Hid (L.length≤1048576):=TZ hLl (by decide);clear hLl;go_wp2_with fail;refine (JP Zk Xe L _ HLL.out Y7.out HFQ.out).mono ?_;rintro e w3 ⟨⟨v,rfl,hown⟩,hb3⟩;have HB3:=jP HB2 hb3;have UX:Hid (w3.ownsRow w.heap.size 29 5 v (iy st rs ts).length (aH (iy st rs ts))):=by
  show World.ownsRow _ _ _ _ _ _ _;rw [WG.out,(iZ L).length_eq];exact wX hown HB2.out.size
 clear hown hb3;go_wp2;go_ret;exact ⟨⟨v,rfl,UX.out⟩,HB3.out⟩
end
end Go.Proofs.YtajkkeikihhejaaGreat
