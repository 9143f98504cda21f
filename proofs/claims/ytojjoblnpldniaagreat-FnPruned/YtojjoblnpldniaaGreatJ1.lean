/- Plain functions on bytes that the contracts of this seat's texts are stated by: which names and ids are right. Nothing of the program is read here. -/
import Derived.Test.YtojjoblnpldniaaGreatSq
import Derived.WalkKit
import Derived.Test.YtojjoblnpldniaaGreatRows
import Derived.WalkLawsBesides
import Derived.ProofKit
open Go.Proofs.Tryz
namespace Go.Proofs.YtojjoblnpldniaaGreat.Pl
def fA(c:UInt8):Bool:=decide (97<=c.toNat)&&decide (c.toNat<=122)
def zn(c:UInt8):Bool:=fA c || (decide (48<=c.toNat)&&decide (c.toNat<=57)) || decide (c.toNat=95)
def oo(s:ByteArray):Bool:=decide (1<=s.size)&&decide (s.size<=12)
def sP(p:UInt8->Bool)(s:ByteArray):Bool:=s.data.toList.all p
def dR(p:UInt8->Bool)(s:ByteArray):Bool:=oo s&&sP p s
def zo(s:ByteArray):Bool:=!(s.toList==[116,104,105,115])
def aP(s:ByteArray):Bool:=dR fA s&&zo s
def qx(s:ByteArray):Bool:=dR zn s
theorem ah{a b:Bool}(h:a=b):Ending.returned (.bool a)=.returned (.bool b):=by rw[h]
theorem CR(s:bi)(k:Nat)(h:k<s.size):s.data.toList.take (k+1)=s.data.toList.take k++[s[k]]:=by
 rw[Vx (by simpa using h)];rfl
def Jf(p:UInt8->Bool)(s:ByteArray)(k:Nat):Bool:=(s.data.toList.take k).all p
theorem uT(p:UInt8->Bool)(s:bi):Jf p s 0=true:=by simp[Jf]
theorem uU(p:UInt8->Bool)(s:bi)(k:Nat)(h:k<s.size):Jf p s (k+1)=(Jf p s k&&p s[k]):=by
 unfold Jf;rw[CR s k h];simp
theorem zq(p:UInt8->Bool)(s:bi)(k:Nat)(h:s.size<=k):Jf p s k=sP p s:=by
 unfold Jf sP;rw[VZ (by simpa using h)]
theorem zt(p:UInt8->Bool)(s:bi)(k:Nat)(h:k<s.size)(hb:p s[k]=false):sP p s=false:=by
 unfold sP;rw[List.all_eq_false];exact⟨s[k],by simp[ByteArray.getElem_eq_getElem_data],by simp[hb]⟩
def fB(t i:ByteArray):Bool:=aP t&&qx i
end Go.Proofs.YtojjoblnpldniaaGreat.Pl
namespace Go.Proofs.YtojjoblnpldniaaGreat
open ChangeShapes WideShapes ChangeAt RowKit
open Pl
theorem lH(c:UInt8)(w:af):
  Calls prog 191 #[.int .u8 c.toNat] w fun e w'=>e=.returned (.bool (fA c))/\w'=w:=by
 go_enter func191,ntmps191;go_wp2
 all_goals go_ret
 all_goals refine⟨ah ?_,rfl⟩
 all_goals(rw[VR];simp[fA];omega)
theorem aR(s:bi)(w:af)(hs:s.size<=maxLen):
  Calls prog 126 #[.string s] w fun e w'=>e=.returned (.bool (aP s))/\w'=w:=by
 unfold maxLen at hs;by_cases h1:1<=s.size/\s.size<=12
 ·obtain⟨ha,hb⟩:=h1;go_enter func126,ntmps126;go_wp2
  go_loop [3] (fun i=>∃k:Nat,k<=s.size/\i=.int .i64 k/\Hid (Jf fA s k=true)) (fun i=>s.size-(intOf i).toNat)
  case atStart=>exact⟨0,Vy _,rfl,uT _ _⟩
  obtain⟨k,hk,rfl,hu⟩:=hrel;by_cases hlt:k<s.size
  ·by_cases hc:fA s[k]=true
   ·have hc1:97<=s[k].toNat:=by simp[fA]at hc;omega
    have hc2:s[k].toNat<=122:=by simp[fA]at hc;omega
    have HU:Hid (Jf fA s (k+1)=true):=by show _=_;rw[uU _ _ _ hlt,hc,hu.out];rfl
    clear hc;go_wp2;go_round;case rel=>exact⟨k+1,by omega,by go_num,HU⟩
    simp[intOf];omega
   have hc':fA s[k]=false:=by simpa using hc
   have HB:Hid (sP fA s=false):=zt _ _ _ hlt hc';have hd:s[k].toNat<97\/122<s[k].toNat:=by simp[fA]at hc';omega
   clear hc hc';rcases hd with hd|hd
   all_goals
    go_wp2;go_ret;exact⟨ah (by simp[aP,dR,HB.out]),rfl⟩
  go_wp2;go_ret;refine⟨ah ?_,rfl⟩;have hall:sP fA s=true:=by rw[<-zq fA s k (by omega)];exact hu.out
  have hl:oo s=true:=by simp[oo];omega
  simp[aP,dR,zo,hall,hl]
 have hn:oo s=false:=by simp[oo];omega
 have HN:Hid (aP s=false):=by show _=_;simp[aP,dR,hn]
 clear hn;by_cases ha:1<=s.size
 ·have hb:12<s.size:=by omega
  clear h1;go_enter func126,ntmps126;go_wp2;go_ret;exact⟨ah HN.out.symm,rfl⟩
 have ha':s.size<1:=by omega
 clear h1;go_enter func126,ntmps126;go_wp2;go_ret;exact⟨ah HN.out.symm,rfl⟩
theorem zB(s:bi)(w:af)(hs:s.size<=maxLen):
  Calls prog 190 #[.string s,.func (Fn.func 191) #[] #[]] w fun e w'=>e=.returned (.bool (dR fA s))/\w'=w:=by
 unfold maxLen at hs;by_cases h1:1<=s.size/\s.size<=12
 ·obtain⟨ha,hb⟩:=h1;go_enter func190,ntmps190;go_wp2
  go_loop [16] (fun i=>∃k:Nat,k<=s.size/\i=.int .i64 k/\Hid (Jf fA s k=true)) (fun i=>s.size-(intOf i).toNat)
  case atStart=>exact⟨0,Vy _,rfl,uT _ _⟩
  obtain⟨k,hk,rfl,hu⟩:=hrel;by_cases hlt:k<s.size
  ·by_cases hc:fA s[k]=true
   ·have HU:Hid (Jf fA s (k+1)=true):=by show _=_;rw[uU _ _ _ hlt,hc,hu.out];rfl
    go_wp2_with(go_at_call 191;refine(lH _ _).mono ?_;rintro e w' ⟨rfl,rfl⟩);go_round;case rel=>exact⟨k+1,by omega,by go_num,HU⟩
    simp[intOf];omega
   have hc':fA s[k]=false:=by simpa using hc
   have HB:Hid (sP fA s=false):=zt _ _ _ hlt hc';clear hc;go_wp2_with(go_at_call 191;refine(lH _ _).mono ?_;rintro e w' ⟨rfl,rfl⟩);go_ret;exact⟨ah (by simp[dR,HB.out]),rfl⟩
  go_wp2;go_ret;refine⟨ah ?_,rfl⟩;have hall:sP fA s=true:=by rw[<-zq fA s k (by omega)];exact hu.out
  have hl:oo s=true:=by simp[oo];omega
  simp[dR,hall,hl]
 have hn:oo s=false:=by simp[oo];omega
 have HN:Hid (dR fA s=false):=by show _=_;simp[dR,hn]
 clear hn;by_cases ha:1<=s.size
 ·have hb:12<s.size:=by omega
  clear h1;go_enter func190,ntmps190;go_wp2;go_ret;exact⟨ah HN.out.symm,rfl⟩
 have ha':s.size<1:=by omega
 clear h1;go_enter func190,ntmps190;go_wp2;go_ret;exact⟨ah HN.out.symm,rfl⟩
theorem aL(s:bi)(w:af)(hs:s.size<=maxLen):
  Calls prog 122 #[.string s] w fun e w'=>e=.returned (.bool (aP s))/\w'=w:=by
 by_cases h:s.toList=[116,104,105,115]
 ·have hb:(s.toList==[116,104,105,115])=true:=by simp[h]
  have HN:Hid (aP s=false):=by show _=_;simp[aP,zo,h]
  clear h;go_enter func122,ntmps122;go_wp2;go_ret;exact⟨ah HN.out.symm,rfl⟩
 have hb:(s.toList==[116,104,105,115])=false:=by simp[h]
 have HN:Hid (aP s=dR fA s):=by show _=_;simp[aP,zo,h]
 clear h;go_enter func122,ntmps122;go_wp2_with(go_at_call 190;refine(zB _ _ hs).mono ?_;rintro e w' ⟨rfl,rfl⟩);go_ret;exact⟨ah HN.out.symm,rfl⟩
end Go.Proofs.YtojjoblnpldniaaGreat
