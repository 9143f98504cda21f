/- Go's library at this program's own numbers. -/
import Derived.Test.YtojjoblnpldniaaGreatSq
import Derived.Shelf.SlicesQ.Reverse
import Derived.Test.YtojjoblnpldniaaGreatProg
open Go.Proofs.Tryz
namespace Go.Proofs
open Go.Shelf
def Tryz.revF_ren:Go.Shelf.Ren:=⟨fun|35=>159|n=>n,fun|22=>44|23=>52|3=>3|4=>4|0=>0|n=>n,fun|n=>n⟩
theorem Tryz.revF:Go.Proofs.SlLaysE0.n35 prog Tryz.revF_ren:={
 mixed:=by kernel_rfl
 f35:=⟨Tryz.f159.name,by decide,func159.trans (congrArg some (by kernel_rfl))⟩
 t0:=underlying0
 a0:=Tryz.isAgg0
 z0:=Tryz.sizeOf0
 v0:=Tryz.zeroValue0
 t3:=underlying3
 a3:=Tryz.isAgg3
 z3:=Tryz.sizeOf3
 v3:=Tryz.zeroValue3
 t4:=underlying4
 a4:=Tryz.isAgg4
 z4:=Tryz.sizeOf4
 v4:=Tryz.zeroValue4
 t22:=underlying44
 a22:=Tryz.isAgg44
 z22:=Tryz.sizeOf44
 v22:=Tryz.zeroValue44 }
end Go.Proofs
