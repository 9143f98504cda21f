/- Contract of the document's Facts. -/
import Derived.Test.YtojjoblnpldniaaGreatSq
import Derived.Test.YtojjoblnpldniaaGreatFactsQ
import Derived.Test.YtojjoblnpldniaaGreatJ32
open Go.Proofs.Tryz
set_option maxHeartbeats 80000000
namespace Go.Proofs.YtojjoblnpldniaaGreat
set_option maxRecDepth 100000
set_option linter.unusedVariables false
set_option linter.unusedSectionVars false
open ChangeShapes WideShapes ChangeAt RowKit Maps
open Pl
section
variable  [DecidableEq Fc]
theorem tN(st:Q00)(ad:Q02)(cap:Nat)(rs:Q06)(WS:Q02)(cap':Nat)(ts:Q05)(w:ae)(hlen:rs.length<=1048576)(hs:mP w ad rs)(hl:∀r∈rs,r.light)(hfr:∀r∈rs,r.fits)(hlt:ts.length<=1048576)(hst:Sl w WS ts)(hft:∀x∈ts,x.fits)(hle:aN (af rs)=true->Least (af rs) st):
  Calls prog 13 #[.slice ad rs.length cap,.slice WS ts.length cap'] w fun e w'=>(∃v,e=.returned v/\w'.ownsRow w.heap.size 52 5 v (je st rs ts).length (aH (je st rs ts)))/\ag w w':=by
 have hLl:=uF st (rs:=rs) (ts:=ts);have HFQ:=aF (IP (st:=st) hfr hft);have HRC:=aF (Ip ad cap rs WS cap' ts w hlen hs hl hfr hlt hst hft);have HAC:Hid (aW (gV rs) rs ts=true->∀W':World,ag w W'->Calls prog 61 #[.slice ad rs.length cap,.slice WS ts.length cap'] W' fun e w'=>(∃v,e=.returned v/\w'.ownsRow W'.heap.size 52 5 v (dh st rs ts).length (aH (dh st rs ts)))/\ag W' w'):=fun hr W' hb=>by
  have hsd:aN (af rs)=true/\ts.length<=40:=by
   unfold aW dH at hr;simp only[Vt,VF]at hr;exact⟨hr.1.1,hr.1.2.1⟩
  have:=NZ st ad cap rs WS cap' ts W' (bu.1 hsd.1) (hle hsd.1) (hs.below hb) hl hsd.2 (hst.below hb);rw[<-ig hr]at this;exact this
 clear hs hl hfr hst hft hle;go_enter func13,ntmps13;go_wp2_with fail;refine HRC.out.mono ?_;rintro e w1 ⟨rfl,hb1⟩;have HB1:=aF hb1;clear hb1 HRC;cases hr:aW (gV rs) rs ts;case false=>
  have HN:Hid (je st rs ts=[]):=by show _=_;unfold je;rw[jv hr];rfl
  clear hr HAC;obtain⟨W2,hW2⟩:∃W2,W2=w1.alloc (.cells #[] 52):=⟨_,rfl⟩;have WL:Hid (W2.ownsRow w.heap.size 52 5 (.slice (some ⟨w1.heap.size,0,none⟩) 0 0) 0 []):=by
   show World.ownsRow _ _ _ _ _ _ _;rw[hW2];exact World.ownsRow_lit w1 #[] 0 HB1.out.size (by unfold maxLen;omega) (by simp)
  have HB2:Hid (ag w W2):=by show Below _ _ _;rw[hW2];exact HB1.out.alloc HB1.out.size _
  go_wp2;rw[<-hW2];go_ret;exact⟨⟨_,rfl,by rw[HN.out];exact WL.out⟩,HB2.out⟩
 have HA:=aF (HAC.out hr);clear HAC hr;obtain⟨L,hL⟩:∃L,dh st rs ts=L:=⟨_,rfl⟩;have Zc:Hid (je st rs ts=kC oL L):=by show _=_;unfold je;rw[hL]
 rw[hL]at HA HFQ hLl;clear hL;go_wp2_with fail;refine(HA.out _ HB1.out).mono ?_;rintro e w2 ⟨⟨v,rfl,hown⟩,hb2⟩;obtain⟨adL,capL,rfl,hsl⟩:=oC hown;have HSF:=aF hsl;have HB2:=iJ HB1 hb2;clear hown hsl hb2 HB1 HA;have HLL:Hid (L.length<=1048576):=Vz hLl (by decide);clear hLl;go_wp2_with fail;refine(KJ adL capL L _ HLL.out HSF.out HFQ.out).mono ?_;rintro e w3 ⟨⟨v,rfl,hown⟩,hb3⟩;have HB3:=iJ HB2 hb3;have Xc:Hid (w3.ownsRow w.heap.size 52 5 v (je st rs ts).length (aH (je st rs ts))):=by
  show World.ownsRow _ _ _ _ _ _ _;rw[Zc.out,(gY L).length_eq];exact xG hown HB2.out.size
 clear hown hb3;go_wp2;go_ret;exact⟨⟨v,rfl,Xc.out⟩,HB3.out⟩
end
end Go.Proofs.YtojjoblnpldniaaGreat
