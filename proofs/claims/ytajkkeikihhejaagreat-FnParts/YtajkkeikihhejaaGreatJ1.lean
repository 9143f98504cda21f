/- Plain functions on bytes that the contracts of this seat's texts are stated by: which names and ids are right. Nothing of the program is read here. -/
import Derived.Test.YtajkkeikihhejaaGreatSq
import Derived.WalkKit
import Derived.Test.YtajkkeikihhejaaGreatRows
import Derived.WalkLawsBesides
import Derived.ProofKit
open Go.Proofs.Tryz
namespace Go.Proofs.YtajkkeikihhejaaGreat.Pl
def eH (c:UInt8):Bool:=decide (97<=c.toNat)&&decide (c.toNat<=122)
def yF (c:UInt8):Bool:=eH c || (decide (48<=c.toNat)&&decide (c.toNat<=57)) || decide (c.toNat=95)
def nI (s:ByteArray):Bool:=decide (1<=s.size)&&decide (s.size<=12)
def rW (p:UInt8->Bool)(s:ByteArray):Bool:=s.data.toList.all p
def dN (p:UInt8->Bool)(s:ByteArray):Bool:=nI s&&rW p s
def yG (s:ByteArray):Bool:=!(s.toList==[116,104,105,115])
def aR (s:ByteArray):Bool:=dN eH s&&yG s
def pR (s:ByteArray):Bool:=dN yF s
theorem ah {a b:Bool}(h:a=b):Ending.returned (.bool a)=.returned (.bool b):=by rw [h]
theorem Cc (s:bI)(k:Nat)(h:k<s.size):s.data.toList.take (k+1)=s.data.toList.take k++[s[k]]:=by
 rw [Uh (by simpa using h)];rfl
def Hz (p:UInt8->Bool)(s:ByteArray)(k:Nat):Bool:=(s.data.toList.take k).all p
theorem uq (p:UInt8->Bool)(s:bI):Hz p s 0=true:=by simp [Hz]
theorem ut (p:UInt8->Bool)(s:bI)(k:Nat)(h:k<s.size):Hz p s (k+1)=(Hz p s k&&p s[k]):=by
 unfold Hz;rw [Cc s k h];simp
theorem yH (p:UInt8->Bool)(s:bI)(k:Nat)(h:s.size<=k):Hz p s k=rW p s:=by
 unfold Hz rW;rw [List.take_of_length_le (by simpa using h)]
theorem yI (p:UInt8->Bool)(s:bI)(k:Nat)(h:k<s.size)(hb:p s[k]=false):rW p s=false:=by
 unfold rW;rw [List.all_eq_false];exact ⟨s[k],by simp [ByteArray.getElem_eq_getElem_data],by simp [hb]⟩
def eT (t i:ByteArray):Bool:=aR t&&pR i
end Go.Proofs.YtajkkeikihhejaaGreat.Pl
namespace Go.Proofs.YtajkkeikihhejaaGreat
open Go.ChangeShapes Go.WideShapes Go.ChangeAt Go.RowKit
open Pl
theorem kV (c:UInt8)(w:af) :
  Calls prog 210 #[.int .u8 c.toNat] w fun e w'=>e=.returned (.bool (eH c))/\w'=w:=by
 go_enter func210,ntmps210;go_wp2
 all_goals go_ret
 all_goals refine ⟨ah ?_,rfl⟩
 all_goals (rw [Bool.eq_iff_iff];simp [eH];omega)
theorem aT (s:bI)(w:af)(hs:s.size<=maxLen) :
  Calls prog 111 #[.string s] w fun e w'=>e=.returned (.bool (aR s))/\w'=w:=by
 unfold maxLen at hs;by_cases h1:1<=s.size/\s.size<=12
 ·obtain ⟨ha,hb⟩:=h1;go_enter func111,ntmps111;go_wp2
  go_loop [3] (fun i=>∃ k:Nat,k<=s.size/\i=.int .i64 k/\Hid (Hz eH s k=true)) (fun i=>s.size-(intOf i).toNat)
  case atStart=>exact ⟨0,Ui _,rfl,uq _ _⟩
  obtain ⟨k,hk,rfl,hu⟩:=hrel;by_cases hlt:k<s.size
  ·by_cases hc:eH s[k]=true
   ·have hc1:97<=s[k].toNat:=by simp [eH]at hc;omega
    have hc2:s[k].toNat<=122:=by simp [eH]at hc;omega
    have HU:Hid (Hz eH s (k+1)=true):=by show _=_;rw [ut _ _ _ hlt,hc,hu.out];rfl
    clear hc;go_wp2;go_round;case rel=>exact ⟨k+1,by omega,by go_num,HU⟩
    simp [intOf];omega
   have hc':eH s[k]=false:=by simpa using hc
   have HB:Hid (rW eH s=false):=yI _ _ _ hlt hc';have hd:s[k].toNat<97\/122<s[k].toNat:=by simp [eH]at hc';omega
   clear hc hc';rcases hd with hd|hd
   all_goals
    go_wp2;go_ret;exact ⟨ah (by simp [aR,dN,HB.out]),rfl⟩
  go_wp2;go_ret;refine ⟨ah ?_,rfl⟩;have hall:rW eH s=true:=by rw [<-yH eH s k (by omega)];exact hu.out
  have hl:nI s=true:=by simp [nI];omega
  simp [aR,dN,yG,hall,hl]
 have hn:nI s=false:=by simp [nI];omega
 have HN:Hid (aR s=false):=by show _=_;simp [aR,dN,hn]
 clear hn;by_cases ha:1<=s.size
 ·have hb:12<s.size:=by omega
  clear h1;go_enter func111,ntmps111;go_wp2;go_ret;exact ⟨ah HN.out.symm,rfl⟩
 have ha':s.size<1:=by omega
 clear h1;go_enter func111,ntmps111;go_wp2;go_ret;exact ⟨ah HN.out.symm,rfl⟩
theorem yR (s:bI)(w:af)(hs:s.size<=maxLen) :
  Calls prog 209 #[.string s,.func (Fn.func 210) #[] #[]] w fun e w'=>e=.returned (.bool (dN eH s))/\w'=w:=by
 unfold maxLen at hs;by_cases h1:1<=s.size/\s.size<=12
 ·obtain ⟨ha,hb⟩:=h1;go_enter func209,ntmps209;go_wp2
  go_loop [16] (fun i=>∃ k:Nat,k<=s.size/\i=.int .i64 k/\Hid (Hz eH s k=true)) (fun i=>s.size-(intOf i).toNat)
  case atStart=>exact ⟨0,Ui _,rfl,uq _ _⟩
  obtain ⟨k,hk,rfl,hu⟩:=hrel;by_cases hlt:k<s.size
  ·by_cases hc:eH s[k]=true
   ·have HU:Hid (Hz eH s (k+1)=true):=by show _=_;rw [ut _ _ _ hlt,hc,hu.out];rfl
    go_wp2_with (go_at_call 210;refine (kV _ _).mono ?_;rintro e w' ⟨rfl,rfl⟩);go_round;case rel=>exact ⟨k+1,by omega,by go_num,HU⟩
    simp [intOf];omega
   have hc':eH s[k]=false:=by simpa using hc
   have HB:Hid (rW eH s=false):=yI _ _ _ hlt hc';clear hc;go_wp2_with (go_at_call 210;refine (kV _ _).mono ?_;rintro e w' ⟨rfl,rfl⟩);go_ret;exact ⟨ah (by simp [dN,HB.out]),rfl⟩
  go_wp2;go_ret;refine ⟨ah ?_,rfl⟩;have hall:rW eH s=true:=by rw [<-yH eH s k (by omega)];exact hu.out
  have hl:nI s=true:=by simp [nI];omega
  simp [dN,hall,hl]
 have hn:nI s=false:=by simp [nI];omega
 have HN:Hid (dN eH s=false):=by show _=_;simp [dN,hn]
 clear hn;by_cases ha:1<=s.size
 ·have hb:12<s.size:=by omega
  clear h1;go_enter func209,ntmps209;go_wp2;go_ret;exact ⟨ah HN.out.symm,rfl⟩
 have ha':s.size<1:=by omega
 clear h1;go_enter func209,ntmps209;go_wp2;go_ret;exact ⟨ah HN.out.symm,rfl⟩
theorem aM (s:bI)(w:af)(hs:s.size<=maxLen) :
  Calls prog 162 #[.string s] w fun e w'=>e=.returned (.bool (aR s))/\w'=w:=by
 by_cases h:s.toList=[116,104,105,115]
 ·have hb:(s.toList==[116,104,105,115])=true:=by simp [h]
  have HN:Hid (aR s=false):=by show _=_;simp [aR,yG,h]
  clear h;go_enter func162,ntmps162;go_wp2;go_ret;exact ⟨ah HN.out.symm,rfl⟩
 have hb:(s.toList==[116,104,105,115])=false:=by simp [h]
 have HN:Hid (aR s=dN eH s):=by show _=_;simp [aR,yG,h]
 clear h;go_enter func162,ntmps162;go_wp2_with (go_at_call 209;refine (yR _ _ hs).mono ?_;rintro e w' ⟨rfl,rfl⟩);go_ret;exact ⟨ah HN.out.symm,rfl⟩
end Go.Proofs.YtajkkeikihhejaaGreat
