/- Contract of the document's reader of schemas: spec.ReadSchema. -/
import Derived.Test.YtajkkeikihhejaaGreatSq
import Derived.Test.YtajkkeikihhejaaGreatL3Schema
import Derived.Test.YtajkkeikihhejaaGreatSpecSchema11
open Go.Proofs.Tryz
set_option maxHeartbeats 80000000
namespace Go.Proofs.YtajkkeikihhejaaGreat
set_option maxRecDepth 100000
open ChangeShapes WideShapes ChangeAt RowKit
open Pl
def TH(s:ByteArray)(w:World)(e:Ending)(w':World):Prop :=
 ae w w'/\(((∀T,dS (s.size+1) s []=some T->aM T=false)/\e=.returned (.tuple #[.slice none 0 0,.bool false])) \/ ∃(v:Value) (rs:Q06),aM (ag rs)=true/\e=.returned (.tuple #[v,.bool true])/\iX w' w.heap.size v rs/\dB (ag rs)=s/\SN (ag rs))
theorem qY(s:ByteArray)(w:af)(hs:s.size<=3000):Calls prog 84 #[.string s] w (TH s w):=by
 have HL:=dU (Fu s w hs);go_enter func84,ntmps84;go_wp2_with fail;refine HL.out.mono ?_;rintro e w1 ⟨hb1,hcase⟩;have HB1:=dU hb1;rcases hcase with⟨hno,rfl⟩|⟨v,rs,hyes,rfl,hM,htx,hok⟩
 ·have Xu:Hid (∀T,dS (s.size+1) s []=some T->aM T=false):=fun T hT=>by rw[hno]at hT;cases hT
  clear hb1 hno HL;go_wp2;exact bodyPost_ret (v:=.tuple #[.slice none 0 0,.bool false]) (by simp[results,Tryz.results84,go_sem]) rfl ⟨HB1.out,.inl ⟨Xu.out,rfl⟩⟩
 obtain⟨ad,cap,hv,hsl,-⟩:=iX.read hM;subst hv;obtain⟨k1,k2,k3,k4⟩:=rows_ok hok (by rw[htx];exact hs);have HM:=dU hM;have HTX:=dU htx;have XE:=dU hok;have HY:=dU hyes;have HSO:=dU (j5 ad cap rs w1 (by omega) hsl k3 k4);clear hb1 hM htx hok hyes hsl k1 k2 k3 k4 HL;go_wp2_with fail;refine HSO.out.mono ?_;rintro e w2 ⟨he,hb2⟩;have HB2:=dU (HB1.out.trans (hb2.mono HB1.out.size));have WS:=dU (HM.out.below mM hb2);clear hb2 HSO HM;cases hd:aM (ag rs);case false=>
  rw[hd]at he;subst he;have Xu:Hid (∀T,dS (s.size+1) s []=some T->aM T=false):=fun T hT=>by rw[HY.out]at hT;injection hT with hT;rw[<-hT];exact hd
  clear hd;go_wp2;exact bodyPost_ret (v:=.tuple #[.slice none 0 0,.bool false]) (by simp[results,Tryz.results84,go_sem]) rfl ⟨HB2.out,.inl ⟨Xu.out,rfl⟩⟩
 rw[hd]at he;subst he;have HD:=dU hd;clear hd;go_wp2;exact bodyPost_ret (v:=.tuple #[.slice ad rs.length cap,.bool true]) (by simp[results,Tryz.results84,go_sem]) rfl ⟨HB2.out,.inr ⟨_,rs,HD.out,rfl,WS.out,HTX.out,XE.out⟩⟩
end Go.Proofs.YtajkkeikihhejaaGreat
