/- Plain functions on bytes that the contracts of this seat's texts are stated by: which names and ids are right. Nothing of the program is read here. -/
import Derived.WalkKit
import Derived.Test.YtdmniljjnaebbaaGreatDoorRows
import Derived.WalkLawsBesides
import Derived.ProofKit
import Derived.Below
open Go.Proofs.Tryz
set_option maxHeartbeats 80000000
namespace Go.Proofs.YtdmniljjnaebbaaGreatDoor.Pl
def gZ (c:UInt8):Bool:=decide (97≤c.toNat) && decide (c.toNat≤122)
def uP (c:UInt8):Bool:=gZ c || (decide (48≤c.toNat) && decide (c.toNat≤57)) || decide (c.toNat=95)
def lm (s:ByteArray):Bool:=decide (1≤s.size) && decide (s.size≤12)
def pu (p:UInt8→Bool) (s:ByteArray):Bool:=s.data.toList.all p
def dA (p:UInt8→Bool) (s:ByteArray):Bool:=lm s && pu p s
def uQ (s:ByteArray):Bool:=!(s.toList == [116,104,105,115])
def aO (s:ByteArray):Bool:=dA gZ s && uQ s
def l5 (s:ByteArray):Bool:=dA uP s
theorem ae {a b:Bool} (h:a=b):Ending.returned (.bool a)=.returned (.bool b):=by rw [h]
theorem GJ (s:ByteArray) (k:Nat) (h:k < s.size):s.data.toList.take (k + 1)=s.data.toList.take k ++ [s[k]]:=by
 rw [List.take_succ_eq_append_getElem (by simpa using h)]; rfl
def Ea (p:UInt8→Bool) (s:ByteArray) (k:Nat):Bool:=(s.data.toList.take k).all p
theorem qm (p:UInt8→Bool) (s:ByteArray):Ea p s 0=true:=by simp [Ea]
theorem qo (p:UInt8→Bool) (s:ByteArray) (k:Nat) (h:k < s.size):Ea p s (k + 1)=(Ea p s k && p s[k]):=by
 unfold Ea; rw [GJ s k h]; simp
theorem uR (p:UInt8→Bool) (s:ByteArray) (k:Nat) (h:s.size≤k):Ea p s k=pu p s:=by
 unfold Ea pu; rw [List.take_of_length_le (by simpa using h)]
theorem uS (p:UInt8→Bool) (s:ByteArray) (k:Nat) (h:k < s.size) (hb:p s[k]=false):pu p s=false:=by
 unfold pu;rw [List.all_eq_false];exact ⟨s[k],by simp [ByteArray.getElem_eq_getElem_data],by simp [hb]⟩
def dS (t i:ByteArray):Bool:=aO t && l5 i
end Go.Proofs.YtdmniljjnaebbaaGreatDoor.Pl
namespace Go.Proofs.YtdmniljjnaebbaaGreatDoor
open Go.ChangeShapes Go.WideShapes Go.ChangeAt Go.RowKit
open Pl
theorem jv (c:UInt8) (w:World) :
  Calls prog 192 #[.int .u8 c.toNat] w fun e w'=>e=.returned (.bool (gZ c))∧w'=w:=by
 go_enter func192,ntmps192;go_wp2
 all_goals go_ret
 all_goals refine ⟨ae ?_,rfl⟩
 all_goals (rw [Bool.eq_iff_iff]; simp [gZ]; omega)
theorem az (s:ByteArray) (w:World) (hs:s.size≤maxLen) :
  Calls prog 105 #[.string s] w fun e w'=>e=.returned (.bool (aO s))∧w'=w:=by
 unfold maxLen at hs;by_cases h1:1≤s.size∧s.size≤12
 ·obtain ⟨ha,hb⟩:=h1;go_enter func105,ntmps105;go_wp2
  go_loop [3] (fun i=>∃ k:Nat,k≤s.size∧i=.int .i64 k∧Hid (Ea gZ s k=true)) (fun i=>s.size - (intOf i).toNat)
  case atStart=>exact ⟨0,Nat.zero_le _,rfl,qm _ _⟩
  case round =>
   obtain ⟨k,hk,rfl,hu⟩:=hrel;by_cases hlt:k < s.size
   ·by_cases hc:gZ s[k]=true
    ·have hc1:97≤s[k].toNat:=by simp [gZ] at hc; omega
     have hc2:s[k].toNat≤122:=by simp [gZ] at hc; omega
     have HU:Hid (Ea gZ s (k + 1)=true):=by show _=_; rw [qo _ _ _ hlt,hc,hu.out]; rfl
     clear hc;go_wp2;go_round;case rel=>exact ⟨k + 1,by omega,by go_num,HU⟩
     case measure=>simp [intOf]; omega
    ·have hc':gZ s[k]=false:=by simpa using hc
     have HB:Hid (pu gZ s=false):=uS _ _ _ hlt hc';have hd:s[k].toNat < 97 ∨ 122 < s[k].toNat:=by simp [gZ] at hc'; omega
     clear hc hc';rcases hd with hd | hd
     all_goals
      go_wp2;go_ret;exact ⟨ae (by simp [aO,dA,HB.out]),rfl⟩
   ·go_wp2;go_ret;refine ⟨ae ?_,rfl⟩;have hall:pu gZ s=true:=by rw [← uR gZ s k (by omega)]; exact hu.out
    have hl:lm s=true:=by simp [lm]; omega
    simp [aO,dA,uQ,hall,hl]
 ·have hn:lm s=false:=by simp [lm]; omega
  have HN:Hid (aO s=false):=by show _=_; simp [aO,dA,hn]
  clear hn;by_cases ha:1≤s.size
  ·have hb:12 < s.size:=by omega
   clear h1;go_enter func105,ntmps105;go_wp2;go_ret;exact ⟨ae HN.out.symm,rfl⟩
  ·have ha':s.size < 1:=by omega
   clear h1;go_enter func105,ntmps105;go_wp2;go_ret;exact ⟨ae HN.out.symm,rfl⟩
theorem vw (s:ByteArray) (w:World) (hs:s.size≤maxLen) :
  Calls prog 191 #[.string s,.func (Fn.func 192) #[] #[]] w fun e w'=>e=.returned (.bool (dA gZ s))∧w'=w:=by
 unfold maxLen at hs;by_cases h1:1≤s.size∧s.size≤12
 ·obtain ⟨ha,hb⟩:=h1;go_enter func191,ntmps191;go_wp2
  go_loop [16] (fun i=>∃ k:Nat,k≤s.size∧i=.int .i64 k∧Hid (Ea gZ s k=true)) (fun i=>s.size - (intOf i).toNat)
  case atStart=>exact ⟨0,Nat.zero_le _,rfl,qm _ _⟩
  case round =>
   obtain ⟨k,hk,rfl,hu⟩:=hrel;by_cases hlt:k < s.size
   ·by_cases hc:gZ s[k]=true
    ·have HU:Hid (Ea gZ s (k + 1)=true):=by show _=_; rw [qo _ _ _ hlt,hc,hu.out]; rfl
     go_wp2_with (go_at_call 192; refine (jv _ _).mono ?_; rintro e w' ⟨rfl,rfl⟩);go_round;case rel=>exact ⟨k + 1,by omega,by go_num,HU⟩
     case measure=>simp [intOf]; omega
    ·have hc':gZ s[k]=false:=by simpa using hc
     have HB:Hid (pu gZ s=false):=uS _ _ _ hlt hc';clear hc;go_wp2_with (go_at_call 192; refine (jv _ _).mono ?_; rintro e w' ⟨rfl,rfl⟩);go_ret;exact ⟨ae (by simp [dA,HB.out]),rfl⟩
   ·go_wp2;go_ret;refine ⟨ae ?_,rfl⟩;have hall:pu gZ s=true:=by rw [← uR gZ s k (by omega)]; exact hu.out
    have hl:lm s=true:=by simp [lm]; omega
    simp [dA,hall,hl]
 ·have hn:lm s=false:=by simp [lm]; omega
  have HN:Hid (dA gZ s=false):=by show _=_; simp [dA,hn]
  clear hn;by_cases ha:1≤s.size
  ·have hb:12 < s.size:=by omega
   clear h1;go_enter func191,ntmps191;go_wp2;go_ret;exact ⟨ae HN.out.symm,rfl⟩
  ·have ha':s.size < 1:=by omega
   clear h1;go_enter func191,ntmps191;go_wp2;go_ret;exact ⟨ae HN.out.symm,rfl⟩
theorem au (s:ByteArray) (w:World) (hs:s.size≤maxLen) :
  Calls prog 162 #[.string s] w fun e w'=>e=.returned (.bool (aO s))∧w'=w:=by
 by_cases h:s.toList=[116,104,105,115]
 ·have hb:(s.toList == [116,104,105,115])=true:=by simp [h]
  have HN:Hid (aO s=false):=by show _=_; simp [aO,uQ,h]
  clear h;go_enter func162,ntmps162;go_wp2;go_ret;exact ⟨ae HN.out.symm,rfl⟩
 ·have hb:(s.toList == [116,104,105,115])=false:=by simp [h]
  have HN:Hid (aO s=dA gZ s):=by show _=_; simp [aO,uQ,h]
  clear h;go_enter func162,ntmps162;go_wp2_with (go_at_call 191; refine (vw _ _ hs).mono ?_; rintro e w' ⟨rfl,rfl⟩);go_ret;exact ⟨ae HN.out.symm,rfl⟩
theorem qp (c:UInt8) (w:World) :
  Calls prog 215 #[.int .u8 c.toNat] w fun e w'=>e=.returned (.bool (uP c))∧w'=w:=by
 by_cases hl:gZ c=true
 ·go_enter func215,ntmps215;go_wp2_with (go_at_call 192; refine (jv _ _).mono ?_; rintro e w' ⟨rfl,rfl⟩);go_ret;exact ⟨ae (by simp [uP,hl]),rfl⟩
 ·have hf:gZ c=false:=by simpa using hl
  clear hl;go_enter func215,ntmps215;go_wp2_with (go_at_call 192; refine (jv _ _).mono ?_; rintro e w' ⟨rfl,rfl⟩)
  all_goals go_ret
  all_goals refine ⟨ae ?_,rfl⟩
  all_goals (rw [Bool.eq_iff_iff]; simp [uP,hf]; omega)
theorem Eb (s:ByteArray) (w:World) (hs:s.size≤maxLen) :
  Calls prog 159 #[.string s] w fun e w'=>e=.returned (.bool (l5 s))∧w'=w:=by
 unfold maxLen at hs;by_cases h1:1≤s.size∧s.size≤12
 ·obtain ⟨ha,hb⟩:=h1;go_enter func159,ntmps159;go_wp2
  go_loop [3] (fun i=>∃ k:Nat,k≤s.size∧i=.int .i64 k∧Hid (Ea uP s k=true)) (fun i=>s.size - (intOf i).toNat)
  case atStart=>exact ⟨0,Nat.zero_le _,rfl,qm _ _⟩
  case round =>
   obtain ⟨k,hk,rfl,hu⟩:=hrel;by_cases hlt:k < s.size
   ·by_cases hc:uP s[k]=true
    ·have hd:(97≤s[k].toNat∧s[k].toNat≤122) ∨ (48≤s[k].toNat∧s[k].toNat≤57) ∨ s[k].toNat=95:=by simp [uP,gZ] at hc; omega
     have HU:Hid (Ea uP s (k + 1)=true):=by show _=_; rw [qo _ _ _ hlt,hc,hu.out]; rfl
     clear hc;rcases hd with ⟨hd1,hd2⟩ | ⟨hd1,hd2⟩ | hd1
     all_goals
      go_wp2;go_round;case rel=>exact ⟨k + 1,by omega,by go_num,HU⟩
      case measure=>simp [intOf]; omega
    ·have hc':uP s[k]=false:=by simpa using hc
     have HB:Hid (pu uP s=false):=uS _ _ _ hlt hc';have hd:s[k].toNat < 48 ∨ (57 < s[k].toNat∧s[k].toNat < 95) ∨ (95 < s[k].toNat∧s[k].toNat < 97) ∨ 122 < s[k].toNat:=by simp [uP,gZ] at hc'; omega
     clear hc hc';rcases hd with hd | ⟨hd,hd2⟩ | ⟨hd,hd2⟩ | hd
     all_goals
      have h95:((s[k].toNat:Int) != 95)=true:=by simp; omega
      go_wp2;go_ret;exact ⟨ae (by simp [l5,dA,HB.out]),rfl⟩
   ·go_wp2;go_ret;refine ⟨ae ?_,rfl⟩;have hall:pu uP s=true:=by rw [← uR uP s k (by omega)]; exact hu.out
    have hl:lm s=true:=by simp [lm]; omega
    simp [l5,dA,hall,hl]
 ·have hn:lm s=false:=by simp [lm]; omega
  have HN:Hid (l5 s=false):=by show _=_; simp [l5,dA,hn]
  clear hn;by_cases ha:1≤s.size
  ·have hb:12 < s.size:=by omega
   clear h1;go_enter func159,ntmps159;go_wp2;go_ret;exact ⟨ae HN.out.symm,rfl⟩
  ·have ha':s.size < 1:=by omega
   clear h1;go_enter func159,ntmps159;go_wp2;go_ret;exact ⟨ae HN.out.symm,rfl⟩
theorem vz (s:ByteArray) (w:World) (hs:s.size≤maxLen) :
  Calls prog 191 #[.string s,.func (Fn.func 215) #[] #[]] w fun e w'=>e=.returned (.bool (dA uP s))∧w'=w:=by
 unfold maxLen at hs;by_cases h1:1≤s.size∧s.size≤12
 ·obtain ⟨ha,hb⟩:=h1;go_enter func191,ntmps191;go_wp2
  go_loop [16] (fun i=>∃ k:Nat,k≤s.size∧i=.int .i64 k∧Hid (Ea uP s k=true)) (fun i=>s.size - (intOf i).toNat)
  case atStart=>exact ⟨0,Nat.zero_le _,rfl,qm _ _⟩
  case round =>
   obtain ⟨k,hk,rfl,hu⟩:=hrel;by_cases hlt:k < s.size
   ·by_cases hc:uP s[k]=true
    ·have HU:Hid (Ea uP s (k + 1)=true):=by show _=_; rw [qo _ _ _ hlt,hc,hu.out]; rfl
     go_wp2_with (go_at_call 215; refine (qp _ _).mono ?_; rintro e w' ⟨rfl,rfl⟩);go_round;case rel=>exact ⟨k + 1,by omega,by go_num,HU⟩
     case measure=>simp [intOf]; omega
    ·have hc':uP s[k]=false:=by simpa using hc
     have HB:Hid (pu uP s=false):=uS _ _ _ hlt hc';clear hc;go_wp2_with (go_at_call 215; refine (qp _ _).mono ?_; rintro e w' ⟨rfl,rfl⟩);go_ret;exact ⟨ae (by simp [dA,HB.out]),rfl⟩
   ·go_wp2;go_ret;refine ⟨ae ?_,rfl⟩;have hall:pu uP s=true:=by rw [← uR uP s k (by omega)]; exact hu.out
    have hl:lm s=true:=by simp [lm]; omega
    simp [dA,hall,hl]
 ·have hn:lm s=false:=by simp [lm]; omega
  have HN:Hid (dA uP s=false):=by show _=_; simp [dA,hn]
  clear hn;by_cases ha:1≤s.size
  ·have hb:12 < s.size:=by omega
   clear h1;go_enter func191,ntmps191;go_wp2;go_ret;exact ⟨ae HN.out.symm,rfl⟩
  ·have ha':s.size < 1:=by omega
   clear h1;go_enter func191,ntmps191;go_wp2;go_ret;exact ⟨ae HN.out.symm,rfl⟩
theorem vB (s:ByteArray) (w:World) (hs:s.size≤maxLen) :
  Calls prog 197 #[.string s] w fun e w'=>e=.returned (.bool (l5 s))∧w'=w:=by
 go_enter func197,ntmps197;go_wp2_with (go_at_call 191; refine (vz _ _ hs).mono ?_; rintro e w' ⟨rfl,rfl⟩);go_ret;exact ⟨rfl,rfl⟩
theorem dM {W w1:World} (hb:Below W.heap.size W w1):(∀ b o,b < W.heap.size→w1.cell? ⟨b,o,none⟩=W.cell? ⟨b,o,none⟩)∧(∀ b o,b < W.heap.size→w1.frozen? ⟨b,o,none⟩=W.frozen? ⟨b,o,none⟩) :=
 ⟨fun b o h=>hb.cell (p:=⟨b,o,none⟩) h,fun b o h=>hb.frozen (p:=⟨b,o,none⟩) h⟩
theorem d9 (t i:ByteArray) (w:World) (ht:t.size≤maxLen) (hi:i.size≤maxLen) :
  Calls prog 115 #[.agg #[.string t,.string i]] w fun e w'=>e=.returned (.bool (dS t i))∧Below w.heap.size w w':=by
 by_cases hn:aO t=true
 all_goals
  go_enter func115,ntmps115;go_wp2_with (first | (go_at_call 105; refine (az _ _ ht).mono ?_; rintro e w' ⟨rfl,rfl⟩) | (go_at_call 159; refine (Eb _ _ hi).mono ?_; rintro e w' ⟨rfl,rfl⟩));go_ret;exact ⟨ae (by simp [dS,hn]),(Below.refl _ _).alloc (Nat.le_refl _) _⟩
theorem ed (t i:ByteArray) (w:World) (ht:t.size≤maxLen) (hi:i.size≤maxLen) :
  Calls prog 170 #[.agg #[.string t,.string i]] w fun e w'=>e=.returned (.bool (dS t i))∧Below w.heap.size w w':=by
 by_cases hn:aO t=true
 all_goals
  go_enter func170,ntmps170;go_wp2_with (first | (go_at_call 162; refine (au _ _ ht).mono ?_; rintro e w' ⟨rfl,rfl⟩) | (go_at_call 197; refine (vB _ _ hi).mono ?_; rintro e w' ⟨rfl,rfl⟩));go_ret;exact ⟨ae (by simp [dS,hn]),(Below.refl _ _).alloc (Nat.le_refl _) _⟩
end Go.Proofs.YtdmniljjnaebbaaGreatDoor
namespace Go.Proofs.YtdmniljjnaebbaaGreatDoor.Pl
theorem eG {a b:ByteArray} (h:a=b):Ending.returned (.string a)=.returned (.string b):=by rw [h]
theorem F3 {s:ByteArray} (h:lm s=true):1≤s.size∧s.size≤12:=by simpa [lm] using h
theorem kE {s:ByteArray} (h:aO s=true):1≤s.size∧s.size≤12:=by
 simp [aO,dA] at h; exact F3 h.1.1
theorem Jd {s:ByteArray} (h:l5 s=true):1≤s.size∧s.size≤12:=by
 simp [l5,dA] at h; exact F3 h.1
theorem uT {t i:ByteArray} (h:dS t i=true):t.size≤12∧i.size≤12:=by
 simp [dS] at h; exact ⟨(kE h.1).2,(Jd h.2).2⟩
def av (t i:ByteArray):ByteArray:=if dS t i then t ++ ⟨#[58]⟩ ++ i else ⟨#[]⟩
theorem jS {t i:ByteArray} (h:dS t i=true):av t i=t ++ ⟨#[58]⟩ ++ i:=by simp [av,h]
theorem pz {t i:ByteArray} (h:dS t i=false):av t i=⟨#[]⟩:=by simp [av,h]
theorem fJ (t i:ByteArray):(av t i).size≤25:=by
 unfold av; split
 ·rename_i h;have h2:=uT h;have e1:(ByteArray.mk #[58]).size=1:=rfl;rw [ByteArray.size_append,ByteArray.size_append,e1];omega
 ·exact Nat.zero_le _
end Go.Proofs.YtdmniljjnaebbaaGreatDoor.Pl
namespace Go.Proofs.YtdmniljjnaebbaaGreatDoor
open Go.ChangeShapes Go.WideShapes Go.ChangeAt Go.RowKit
open Pl
theorem uw (t i:ByteArray) (w:World) (ht:t.size≤maxLen) (hi:i.size≤maxLen) :
  Calls prog 188 #[.agg #[.string t,.string i]] w fun e w'=>e=.returned (.string (av t i))∧Below w.heap.size w w':=by
 by_cases hn:dS t i=true
 ·obtain ⟨h1,h2⟩:=uT hn;have HT:Hid (av t i=t ++ ⟨#[58]⟩ ++ i):=jS hn;go_enter func188,ntmps188;go_wp2_with (go_at_call 115; refine (d9 _ _ _ ht hi).mono ?_; rintro e w' ⟨rfl,hb⟩; obtain ⟨hc,hf⟩:=dM hb);go_ret;exact ⟨eG HT.out.symm,((Below.refl _ _).alloc (Nat.le_refl _) _).trans (hb.mono (by simp))⟩
 ·have hn':dS t i=false:=by simpa using hn
  have HT:Hid (av t i=⟨#[]⟩):=pz hn';clear hn;go_enter func188,ntmps188;go_wp2_with (go_at_call 115; refine (d9 _ _ _ ht hi).mono ?_; rintro e w' ⟨rfl,hb⟩; obtain ⟨hc,hf⟩:=dM hb);go_ret;exact ⟨eG HT.out.symm,((Below.refl _ _).alloc (Nat.le_refl _) _).trans (hb.mono (by simp))⟩
theorem uy (t i:ByteArray) (w:World) (ht:t.size≤maxLen) (hi:i.size≤maxLen) :
  Calls prog 183 #[.agg #[.string t,.string i]] w fun e w'=>e=.returned (.string (av t i))∧Below w.heap.size w w':=by
 by_cases hn:dS t i=true
 ·obtain ⟨h1,h2⟩:=uT hn;have HT:Hid (av t i=t ++ ⟨#[58]⟩ ++ i):=jS hn;go_enter func183,ntmps183;go_wp2_with (go_at_call 170; refine (ed _ _ _ ht hi).mono ?_; rintro e w' ⟨rfl,hb⟩; obtain ⟨hc,hf⟩:=dM hb);go_ret;exact ⟨eG HT.out.symm,((Below.refl _ _).alloc (Nat.le_refl _) _).trans (hb.mono (by simp))⟩
 ·have hn':dS t i=false:=by simpa using hn
  have HT:Hid (av t i=⟨#[]⟩):=pz hn';clear hn;go_enter func183,ntmps183;go_wp2_with (go_at_call 170; refine (ed _ _ _ ht hi).mono ?_; rintro e w' ⟨rfl,hb⟩; obtain ⟨hc,hf⟩:=dM hb);go_ret;exact ⟨eG HT.out.symm,((Below.refl _ _).alloc (Nat.le_refl _) _).trans (hb.mono (by simp))⟩
end Go.Proofs.YtdmniljjnaebbaaGreatDoor
namespace Go.Proofs.YtdmniljjnaebbaaGreatDoor.Pl
def rG (s:ByteArray):Bool:=s.toList.isEmpty || aO s
def aT (a b r c d s:ByteArray):Bool:=dS a b && aO r && dS c d && rG s
def aN (a b r c d s:ByteArray):ByteArray :=
 if aT a b r c d s then
  (if s.toList.isEmpty then av a b ++ ⟨#[35]⟩ ++ r ++ ⟨#[64]⟩ ++ av c d else av a b ++ ⟨#[35]⟩ ++ r ++ ⟨#[64]⟩ ++ av c d ++ ⟨#[35]⟩ ++ s)
 else ⟨#[]⟩
theorem pE {a b r c d s:ByteArray} (h:aT a b r c d s=false):aN a b r c d s=⟨#[]⟩:=by simp [aN,h]
theorem jT {a b r c d s:ByteArray} (h:aT a b r c d s=true) (hs:s.toList.isEmpty=true):aN a b r c d s=av a b ++ ⟨#[35]⟩ ++ r ++ ⟨#[64]⟩ ++ av c d:=by simp [aN,h,hs]
theorem jU {a b r c d s:ByteArray} (h:aT a b r c d s=true) (hs:s.toList.isEmpty=false):aN a b r c d s=av a b ++ ⟨#[35]⟩ ++ r ++ ⟨#[64]⟩ ++ av c d ++ ⟨#[35]⟩ ++ s:=by simp [aN,h,hs]
theorem vC {a b r c d s:ByteArray} (h:dS a b=false):aT a b r c d s=false:=by simp [aT,h]
theorem vD {a b r c d s:ByteArray} (h:aO r=false):aT a b r c d s=false:=by simp [aT,h]
theorem vF {a b r c d s:ByteArray} (h:dS c d=false):aT a b r c d s=false:=by simp [aT,h]
theorem vG {a b r c d s:ByteArray} (h1:dS a b=true) (h2:aO r=true) (h3:dS c d=true):aT a b r c d s=rG s:=by simp [aT,h1,h2,h3]
theorem iI {a b r c d s:ByteArray} (h:aT a b r c d s=true):dS a b=true∧aO r=true∧dS c d=true∧rG s=true:=by
 simp [aT] at h; exact ⟨h.1.1.1,h.1.1.2,h.1.2,h.2⟩
theorem vH {s:ByteArray} (h:s.toList.isEmpty=true):s.size=0:=by
 rw [Go.ByteArray.toList_eq] at h;have h2:s.data.toList=[]:=by simpa using h
 have h3:s.data.toList.length=0:=by rw [h2]; rfl
 simpa using h3
theorem Ak {s:ByteArray} (h:rG s=true):s.size≤12:=by
 simp only [rG,Bool.or_eq_true] at h;rcases h with h | h
 ·have:=vH h; omega
 ·exact (kE h).2
end Go.Proofs.YtdmniljjnaebbaaGreatDoor.Pl
