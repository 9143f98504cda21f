/- Plain functions on bytes that the contracts of this seat's texts are stated by: which names and ids are right. Nothing of the program is read here. -/
import Derived.Test.YtojjoblnpldniaaGreatSq
import Derived.WalkKit
namespace Go.Proofs.YtojjoblnpldniaaGreat.Pl
def eY(c:UInt8):Bool:=decide (97<=c.toNat)&&decide (c.toNat<=122)
def yN(c:UInt8):Bool:=eY c || (decide (48<=c.toNat)&&decide (c.toNat<=57)) || decide (c.toNat=95)
def nN(s:ByteArray):Bool:=decide (1<=s.size)&&decide (s.size<=12)
def sI(p:UInt8->Bool)(s:ByteArray):Bool:=s.data.toList.all p
def dO(p:UInt8->Bool)(s:ByteArray):Bool:=nN s&&sI p s
def yO(s:ByteArray):Bool:=!(s.toList==[116,104,105,115])
def aP(s:ByteArray):Bool:=dO eY s&&yO s
def pR(s:ByteArray):Bool:=dO yN s
theorem ah{a b:Bool}(h:a=b):Ending.returned (.bool a)=.returned (.bool b):=by rw[h]
theorem CK(s:bQ)(k:Nat)(h:k<s.size):s.data.toList.take (k+1)=s.data.toList.take k++[s[k]]:=by
 rw[Vu (by simpa using h)];rfl
def IY(p:UInt8->Bool)(s:ByteArray)(k:Nat):Bool:=(s.data.toList.take k).all p
theorem uI(p:UInt8->Bool)(s:bQ):IY p s 0=true:=by simp[IY]
theorem uJ(p:UInt8->Bool)(s:bQ)(k:Nat)(h:k<s.size):IY p s (k+1)=(IY p s k&&p s[k]):=by
 unfold IY;rw[CK s k h];simp
theorem yP(p:UInt8->Bool)(s:bQ)(k:Nat)(h:s.size<=k):IY p s k=sI p s:=by
 unfold IY sI;rw[V8 (by simpa using h)]
theorem yQ(p:UInt8->Bool)(s:bQ)(k:Nat)(h:k<s.size)(hb:p s[k]=false):sI p s=false:=by
 unfold sI;rw[List.all_eq_false];exact⟨s[k],by simp[ByteArray.getElem_eq_getElem_data],by simp[hb]⟩
def eZ(t i:ByteArray):Bool:=aP t&&pR i
end Go.Proofs.YtojjoblnpldniaaGreat.Pl
