/- Plain functions on bytes that the contracts of this seat's texts are stated by: which names and ids are right. Nothing of the program is read here. -/
import Derived.Test.YtajkkeikihhejaaGreatSq
import Derived.WalkKit
namespace Go.Proofs.YtajkkeikihhejaaGreat.Pl
def eG (c:UInt8):Bool:=decide (97≤c.toNat) && decide (c.toNat≤122)
def yz (c:UInt8):Bool:=eG c || (decide (48≤c.toNat) && decide (c.toNat≤57)) || decide (c.toNat=95)
def nG (s:ByteArray):Bool:=decide (1≤s.size) && decide (s.size≤12)
def rR (p:UInt8→Bool) (s:ByteArray):Bool:=s.data.toList.all p
def dL (p:UInt8→Bool) (s:ByteArray):Bool:=nG s && rR p s
def yA (s:ByteArray):Bool:=!(s.toList == [116,104,105,115])
def aP (s:ByteArray):Bool:=dL eG s && yA s
def pK (s:ByteArray):Bool:=dL yz s
theorem ah {a b:Bool} (h:a=b):Ending.returned (.bool a)=.returned (.bool b):=by rw [h]
theorem BZ (s:bH) (k:Nat) (h:k < s.size):s.data.toList.take (k + 1)=s.data.toList.take k ++ [s[k]]:=by
 rw [TV (by simpa using h)]; rfl
def Hu (p:UInt8→Bool) (s:ByteArray) (k:Nat):Bool:=(s.data.toList.take k).all p
theorem ug (p:UInt8→Bool) (s:bH):Hu p s 0=true:=by simp [Hu]
theorem uh (p:UInt8→Bool) (s:bH) (k:Nat) (h:k < s.size):Hu p s (k + 1)=(Hu p s k && p s[k]):=by
 unfold Hu; rw [BZ s k h]; simp
theorem yB (p:UInt8→Bool) (s:bH) (k:Nat) (h:s.size≤k):Hu p s k=rR p s:=by
 unfold Hu rR; rw [List.take_of_length_le (by simpa using h)]
theorem yC (p:UInt8→Bool) (s:bH) (k:Nat) (h:k < s.size) (hb:p s[k]=false):rR p s=false:=by
 unfold rR;rw [List.all_eq_false];exact ⟨s[k],by simp [ByteArray.getElem_eq_getElem_data],by simp [hb]⟩
def eH (t i:ByteArray):Bool:=aP t && pK i
end Go.Proofs.YtajkkeikihhejaaGreat.Pl
