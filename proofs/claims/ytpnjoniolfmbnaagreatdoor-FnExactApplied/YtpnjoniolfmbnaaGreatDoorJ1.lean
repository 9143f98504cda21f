/- Plain functions on bytes that the contracts of this seat's texts are stated by: which names and ids are right. Nothing of the program is read here. -/
import Derived.WalkKit
import Derived.Test.YtpnjoniolfmbnaaGreatDoorRows
import Derived.WalkLawsBesides
import Derived.ProofKit
import Derived.Below
namespace Go.Proofs.YtpnjoniolfmbnaaGreatDoor.Pl
def letB (c:UInt8):Bool:=decide (97≤c.toNat) && decide (c.toNat≤122)
def idB (c:UInt8):Bool:=letB c || (decide (48≤c.toNat) && decide (c.toNat≤57)) || decide (c.toNat=95)
def lenB (s:ByteArray):Bool:=decide (1≤s.size) && decide (s.size≤12)
def allB (p:UInt8→Bool) (s:ByteArray):Bool:=s.data.toList.all p
def signsB (p:UInt8→Bool) (s:ByteArray):Bool:=lenB s && allB p s
def notThis (s:ByteArray):Bool:=!(s.toList == [116,104,105,115])
def nameB (s:ByteArray):Bool:=signsB letB s && notThis s
def isIdB (s:ByteArray):Bool:=signsB idB s
theorem ret_bool {a b:Bool} (h:a=b):Ending.returned (.bool a)=.returned (.bool b):=by rw [h]
theorem take_snoc (s:ByteArray) (k:Nat) (h:k < s.size):s.data.toList.take (k + 1)=s.data.toList.take k ++ [s[k]]:=by
 rw [List.take_succ_eq_append_getElem (by simpa using h)]; rfl
def upB (p:UInt8→Bool) (s:ByteArray) (k:Nat):Bool:=(s.data.toList.take k).all p
theorem upB_zero (p:UInt8→Bool) (s:ByteArray):upB p s 0=true:=by simp [upB]
theorem upB_succ (p:UInt8→Bool) (s:ByteArray) (k:Nat) (h:k < s.size):upB p s (k + 1)=(upB p s k && p s[k]):=by
 unfold upB; rw [take_snoc s k h]; simp
theorem upB_end (p:UInt8→Bool) (s:ByteArray) (k:Nat) (h:s.size≤k):upB p s k=allB p s:=by
 unfold upB allB; rw [List.take_of_length_le (by simpa using h)]
theorem upB_bad (p:UInt8→Bool) (s:ByteArray) (k:Nat) (h:k < s.size) (hb:p s[k]=false):allB p s=false:=by
 unfold allB
 rw [List.all_eq_false]
 exact ⟨s[k],by simp [ByteArray.getElem_eq_getElem_data],by simp [hb]⟩
def objB (t i:ByteArray):Bool:=nameB t && isIdB i
end Go.Proofs.YtpnjoniolfmbnaaGreatDoor.Pl
namespace Go.Proofs.YtpnjoniolfmbnaaGreatDoor
open Go.ChangeShapes Go.WideShapes Go.ChangeAt Go.RowKit
open Pl
theorem isLetter_any (c:UInt8) (w:World) :
  Calls Tryz.prog 147 #[.int .u8 c.toNat] w fun e w'=>e=.returned (.bool (letB c))∧w'=w:=by
 go_enter Tryz.func147,Tryz.ntmps147
 go_wp2
 all_goals go_ret
 all_goals refine ⟨ret_bool ?_,rfl⟩
 all_goals (rw [Bool.eq_iff_iff]; simp [letB]; omega)
theorem specName_any (s:ByteArray) (w:World) (hs:s.size≤maxLen) :
  Calls Tryz.prog 85 #[.string s] w fun e w'=>e=.returned (.bool (nameB s))∧w'=w:=by
 unfold maxLen at hs
 by_cases h1:1≤s.size∧s.size≤12
 ·obtain ⟨ha,hb⟩:=h1
  go_enter Tryz.func85,Tryz.ntmps85
  go_wp2
  go_loop [3] (fun i=>∃ k:Nat,k≤s.size∧i=.int .i64 k∧Hid (upB letB s k=true)) (fun i=>s.size - (intOf i).toNat)
  case atStart=>exact ⟨0,Nat.zero_le _,rfl,upB_zero _ _⟩
  case round =>
   obtain ⟨k,hk,rfl,hu⟩:=hrel
   by_cases hlt:k < s.size
   ·by_cases hc:letB s[k]=true
    ·have hc1:97≤s[k].toNat:=by simp [letB] at hc; omega
     have hc2:s[k].toNat≤122:=by simp [letB] at hc; omega
     have HU:Hid (upB letB s (k + 1)=true):=by show _=_; rw [upB_succ _ _ _ hlt,hc,hu.out]; rfl
     clear hc
     go_wp2
     go_round
     case rel=>exact ⟨k + 1,by omega,by go_num,HU⟩
     case measure=>simp [intOf]; omega
    ·have hc':letB s[k]=false:=by simpa using hc
     have HB:Hid (allB letB s=false):=upB_bad _ _ _ hlt hc'
     have hd:s[k].toNat < 97 ∨ 122 < s[k].toNat:=by simp [letB] at hc'; omega
     clear hc hc'
     rcases hd with hd | hd
     all_goals
      go_wp2
      go_ret
      exact ⟨ret_bool (by simp [nameB,signsB,HB.out]),rfl⟩
   ·go_wp2
    go_ret
    refine ⟨ret_bool ?_,rfl⟩
    have hall:allB letB s=true:=by rw [← upB_end letB s k (by omega)]; exact hu.out
    have hl:lenB s=true:=by simp [lenB]; omega
    simp [nameB,signsB,notThis,hall,hl]
 ·have hn:lenB s=false:=by simp [lenB]; omega
  have HN:Hid (nameB s=false):=by show _=_; simp [nameB,signsB,hn]
  clear hn
  by_cases ha:1≤s.size
  ·have hb:12 < s.size:=by omega
   clear h1
   go_enter Tryz.func85,Tryz.ntmps85
   go_wp2
   go_ret
   exact ⟨ret_bool HN.out.symm,rfl⟩
  ·have ha':s.size < 1:=by omega
   clear h1
   go_enter Tryz.func85,Tryz.ntmps85
   go_wp2
   go_ret
   exact ⟨ret_bool HN.out.symm,rfl⟩
theorem signs_isLetter (s:ByteArray) (w:World) (hs:s.size≤maxLen) :
  Calls Tryz.prog 146 #[.string s,.func (Fn.func 147) #[] #[]] w fun e w'=>e=.returned (.bool (signsB letB s))∧w'=w:=by
 unfold maxLen at hs
 by_cases h1:1≤s.size∧s.size≤12
 ·obtain ⟨ha,hb⟩:=h1
  go_enter Tryz.func146,Tryz.ntmps146
  go_wp2
  go_loop [16] (fun i=>∃ k:Nat,k≤s.size∧i=.int .i64 k∧Hid (upB letB s k=true)) (fun i=>s.size - (intOf i).toNat)
  case atStart=>exact ⟨0,Nat.zero_le _,rfl,upB_zero _ _⟩
  case round =>
   obtain ⟨k,hk,rfl,hu⟩:=hrel
   by_cases hlt:k < s.size
   ·by_cases hc:letB s[k]=true
    ·have HU:Hid (upB letB s (k + 1)=true):=by show _=_; rw [upB_succ _ _ _ hlt,hc,hu.out]; rfl
     go_wp2_with (go_at_call 147; refine (isLetter_any _ _).mono ?_; rintro e w' ⟨rfl,rfl⟩)
     go_round
     case rel=>exact ⟨k + 1,by omega,by go_num,HU⟩
     case measure=>simp [intOf]; omega
    ·have hc':letB s[k]=false:=by simpa using hc
     have HB:Hid (allB letB s=false):=upB_bad _ _ _ hlt hc'
     clear hc
     go_wp2_with (go_at_call 147; refine (isLetter_any _ _).mono ?_; rintro e w' ⟨rfl,rfl⟩)
     go_ret
     exact ⟨ret_bool (by simp [signsB,HB.out]),rfl⟩
   ·go_wp2
    go_ret
    refine ⟨ret_bool ?_,rfl⟩
    have hall:allB letB s=true:=by rw [← upB_end letB s k (by omega)]; exact hu.out
    have hl:lenB s=true:=by simp [lenB]; omega
    simp [signsB,hall,hl]
 ·have hn:lenB s=false:=by simp [lenB]; omega
  have HN:Hid (signsB letB s=false):=by show _=_; simp [signsB,hn]
  clear hn
  by_cases ha:1≤s.size
  ·have hb:12 < s.size:=by omega
   clear h1
   go_enter Tryz.func146,Tryz.ntmps146
   go_wp2
   go_ret
   exact ⟨ret_bool HN.out.symm,rfl⟩
  ·have ha':s.size < 1:=by omega
   clear h1
   go_enter Tryz.func146,Tryz.ntmps146
   go_wp2
   go_ret
   exact ⟨ret_bool HN.out.symm,rfl⟩
theorem implName_any (s:ByteArray) (w:World) (hs:s.size≤maxLen) :
  Calls Tryz.prog 112 #[.string s] w fun e w'=>e=.returned (.bool (nameB s))∧w'=w:=by
 by_cases h:s.toList=[116,104,105,115]
 ·have hb:(s.toList == [116,104,105,115])=true:=by simp [h]
  have HN:Hid (nameB s=false):=by show _=_; simp [nameB,notThis,h]
  clear h
  go_enter Tryz.func112,Tryz.ntmps112
  go_wp2
  go_ret
  exact ⟨ret_bool HN.out.symm,rfl⟩
 ·have hb:(s.toList == [116,104,105,115])=false:=by simp [h]
  have HN:Hid (nameB s=signsB letB s):=by show _=_; simp [nameB,notThis,h]
  clear h
  go_enter Tryz.func112,Tryz.ntmps112
  go_wp2_with (go_at_call 146; refine (signs_isLetter _ _ hs).mono ?_; rintro e w' ⟨rfl,rfl⟩)
  go_ret
  exact ⟨ret_bool HN.out.symm,rfl⟩
end Go.Proofs.YtpnjoniolfmbnaaGreatDoor
namespace Go.Proofs.YtpnjoniolfmbnaaGreatDoor
open Go.ChangeShapes Go.WideShapes Go.ChangeAt Go.RowKit
open Pl
theorem isIdSign_any (c:UInt8) (w:World) :
  Calls Tryz.prog 163 #[.int .u8 c.toNat] w fun e w'=>e=.returned (.bool (idB c))∧w'=w:=by
 by_cases hl:letB c=true
 ·go_enter Tryz.func163,Tryz.ntmps163
  go_wp2_with (go_at_call 147; refine (isLetter_any _ _).mono ?_; rintro e w' ⟨rfl,rfl⟩)
  go_ret
  exact ⟨ret_bool (by simp [idB,hl]),rfl⟩
 ·have hf:letB c=false:=by simpa using hl
  clear hl
  go_enter Tryz.func163,Tryz.ntmps163
  go_wp2_with (go_at_call 147; refine (isLetter_any _ _).mono ?_; rintro e w' ⟨rfl,rfl⟩)
  all_goals go_ret
  all_goals refine ⟨ret_bool ?_,rfl⟩
  all_goals (rw [Bool.eq_iff_iff]; simp [idB,hf]; omega)
set_option maxHeartbeats 1000000 in
theorem specId_any (s:ByteArray) (w:World) (hs:s.size≤maxLen) :
  Calls Tryz.prog 137 #[.string s] w fun e w'=>e=.returned (.bool (isIdB s))∧w'=w:=by
 unfold maxLen at hs
 by_cases h1:1≤s.size∧s.size≤12
 ·obtain ⟨ha,hb⟩:=h1
  go_enter Tryz.func137,Tryz.ntmps137
  go_wp2
  go_loop [3] (fun i=>∃ k:Nat,k≤s.size∧i=.int .i64 k∧Hid (upB idB s k=true)) (fun i=>s.size - (intOf i).toNat)
  case atStart=>exact ⟨0,Nat.zero_le _,rfl,upB_zero _ _⟩
  case round =>
   obtain ⟨k,hk,rfl,hu⟩:=hrel
   by_cases hlt:k < s.size
   ·by_cases hc:idB s[k]=true
    ·have hd:(97≤s[k].toNat∧s[k].toNat≤122) ∨ (48≤s[k].toNat∧s[k].toNat≤57) ∨ s[k].toNat=95:=by simp [idB,letB] at hc; omega
     have HU:Hid (upB idB s (k + 1)=true):=by show _=_; rw [upB_succ _ _ _ hlt,hc,hu.out]; rfl
     clear hc
     rcases hd with ⟨hd1,hd2⟩ | ⟨hd1,hd2⟩ | hd1
     all_goals
      go_wp2
      go_round
      case rel=>exact ⟨k + 1,by omega,by go_num,HU⟩
      case measure=>simp [intOf]; omega
    ·have hc':idB s[k]=false:=by simpa using hc
     have HB:Hid (allB idB s=false):=upB_bad _ _ _ hlt hc'
     have hd:s[k].toNat < 48 ∨ (57 < s[k].toNat∧s[k].toNat < 95) ∨ (95 < s[k].toNat∧s[k].toNat < 97) ∨ 122 < s[k].toNat:=by simp [idB,letB] at hc'; omega
     clear hc hc'
     rcases hd with hd | ⟨hd,hd2⟩ | ⟨hd,hd2⟩ | hd
     all_goals
      have h95:((s[k].toNat:Int) != 95)=true:=by simp; omega
      go_wp2
      go_ret
      exact ⟨ret_bool (by simp [isIdB,signsB,HB.out]),rfl⟩
   ·go_wp2
    go_ret
    refine ⟨ret_bool ?_,rfl⟩
    have hall:allB idB s=true:=by rw [← upB_end idB s k (by omega)]; exact hu.out
    have hl:lenB s=true:=by simp [lenB]; omega
    simp [isIdB,signsB,hall,hl]
 ·have hn:lenB s=false:=by simp [lenB]; omega
  have HN:Hid (isIdB s=false):=by show _=_; simp [isIdB,signsB,hn]
  clear hn
  by_cases ha:1≤s.size
  ·have hb:12 < s.size:=by omega
   clear h1
   go_enter Tryz.func137,Tryz.ntmps137
   go_wp2
   go_ret
   exact ⟨ret_bool HN.out.symm,rfl⟩
  ·have ha':s.size < 1:=by omega
   clear h1
   go_enter Tryz.func137,Tryz.ntmps137
   go_wp2
   go_ret
   exact ⟨ret_bool HN.out.symm,rfl⟩
theorem signs_isIdSign (s:ByteArray) (w:World) (hs:s.size≤maxLen) :
  Calls Tryz.prog 146 #[.string s,.func (Fn.func 163) #[] #[]] w fun e w'=>e=.returned (.bool (signsB idB s))∧w'=w:=by
 unfold maxLen at hs
 by_cases h1:1≤s.size∧s.size≤12
 ·obtain ⟨ha,hb⟩:=h1
  go_enter Tryz.func146,Tryz.ntmps146
  go_wp2
  go_loop [16] (fun i=>∃ k:Nat,k≤s.size∧i=.int .i64 k∧Hid (upB idB s k=true)) (fun i=>s.size - (intOf i).toNat)
  case atStart=>exact ⟨0,Nat.zero_le _,rfl,upB_zero _ _⟩
  case round =>
   obtain ⟨k,hk,rfl,hu⟩:=hrel
   by_cases hlt:k < s.size
   ·by_cases hc:idB s[k]=true
    ·have HU:Hid (upB idB s (k + 1)=true):=by show _=_; rw [upB_succ _ _ _ hlt,hc,hu.out]; rfl
     go_wp2_with (go_at_call 163; refine (isIdSign_any _ _).mono ?_; rintro e w' ⟨rfl,rfl⟩)
     go_round
     case rel=>exact ⟨k + 1,by omega,by go_num,HU⟩
     case measure=>simp [intOf]; omega
    ·have hc':idB s[k]=false:=by simpa using hc
     have HB:Hid (allB idB s=false):=upB_bad _ _ _ hlt hc'
     clear hc
     go_wp2_with (go_at_call 163; refine (isIdSign_any _ _).mono ?_; rintro e w' ⟨rfl,rfl⟩)
     go_ret
     exact ⟨ret_bool (by simp [signsB,HB.out]),rfl⟩
   ·go_wp2
    go_ret
    refine ⟨ret_bool ?_,rfl⟩
    have hall:allB idB s=true:=by rw [← upB_end idB s k (by omega)]; exact hu.out
    have hl:lenB s=true:=by simp [lenB]; omega
    simp [signsB,hall,hl]
 ·have hn:lenB s=false:=by simp [lenB]; omega
  have HN:Hid (signsB idB s=false):=by show _=_; simp [signsB,hn]
  clear hn
  by_cases ha:1≤s.size
  ·have hb:12 < s.size:=by omega
   clear h1
   go_enter Tryz.func146,Tryz.ntmps146
   go_wp2
   go_ret
   exact ⟨ret_bool HN.out.symm,rfl⟩
  ·have ha':s.size < 1:=by omega
   clear h1
   go_enter Tryz.func146,Tryz.ntmps146
   go_wp2
   go_ret
   exact ⟨ret_bool HN.out.symm,rfl⟩
theorem implId_any (s:ByteArray) (w:World) (hs:s.size≤maxLen) :
  Calls Tryz.prog 145 #[.string s] w fun e w'=>e=.returned (.bool (isIdB s))∧w'=w:=by
 go_enter Tryz.func145,Tryz.ntmps145
 go_wp2_with (go_at_call 146; refine (signs_isIdSign _ _ hs).mono ?_; rintro e w' ⟨rfl,rfl⟩)
 go_ret
 exact ⟨rfl,rfl⟩
end Go.Proofs.YtpnjoniolfmbnaaGreatDoor
namespace Go.Proofs.YtpnjoniolfmbnaaGreatDoor
open Go.ChangeShapes Go.WideShapes Go.ChangeAt Go.RowKit
open Pl
theorem bcell {W w1:World} (hb:Below W.heap.size W w1):(∀ b o,b < W.heap.size→w1.cell? ⟨b,o,none⟩=W.cell? ⟨b,o,none⟩)∧(∀ b o,b < W.heap.size→w1.frozen? ⟨b,o,none⟩=W.frozen? ⟨b,o,none⟩) :=
 ⟨fun b o h=>hb.cell (p:=⟨b,o,none⟩) h,fun b o h=>hb.frozen (p:=⟨b,o,none⟩) h⟩
theorem specObj_any (t i:ByteArray) (w:World) (ht:t.size≤maxLen) (hi:i.size≤maxLen) :
  Calls Tryz.prog 106 #[.agg #[.string t,.string i]] w fun e w'=>e=.returned (.bool (objB t i))∧Below w.heap.size w w':=by
 by_cases hn:nameB t=true
 all_goals
  go_enter Tryz.func106,Tryz.ntmps106
  go_wp2_with (first | (go_at_call 85; refine (specName_any _ _ ht).mono ?_; rintro e w' ⟨rfl,rfl⟩) | (go_at_call 137; refine (specId_any _ _ hi).mono ?_; rintro e w' ⟨rfl,rfl⟩))
  go_ret
  exact ⟨ret_bool (by simp [objB,hn]),(Below.refl _ _).alloc (Nat.le_refl _) _⟩
theorem implObj_any (t i:ByteArray) (w:World) (ht:t.size≤maxLen) (hi:i.size≤maxLen) :
  Calls Tryz.prog 111 #[.agg #[.string t,.string i]] w fun e w'=>e=.returned (.bool (objB t i))∧Below w.heap.size w w':=by
 by_cases hn:nameB t=true
 all_goals
  go_enter Tryz.func111,Tryz.ntmps111
  go_wp2_with (first | (go_at_call 112; refine (implName_any _ _ ht).mono ?_; rintro e w' ⟨rfl,rfl⟩) | (go_at_call 145; refine (implId_any _ _ hi).mono ?_; rintro e w' ⟨rfl,rfl⟩))
  go_ret
  exact ⟨ret_bool (by simp [objB,hn]),(Below.refl _ _).alloc (Nat.le_refl _) _⟩
end Go.Proofs.YtpnjoniolfmbnaaGreatDoor
namespace Go.Proofs.YtpnjoniolfmbnaaGreatDoor.Pl
theorem ret_str {a b:ByteArray} (h:a=b):Ending.returned (.string a)=.returned (.string b):=by rw [h]
theorem lenB_le {s:ByteArray} (h:lenB s=true):1≤s.size∧s.size≤12:=by simpa [lenB] using h
theorem nameB_le {s:ByteArray} (h:nameB s=true):1≤s.size∧s.size≤12:=by
 simp [nameB,signsB] at h; exact lenB_le h.1.1
theorem isIdB_le {s:ByteArray} (h:isIdB s=true):1≤s.size∧s.size≤12:=by
 simp [isIdB,signsB] at h; exact lenB_le h.1
theorem objB_le {t i:ByteArray} (h:objB t i=true):t.size≤12∧i.size≤12:=by
 simp [objB] at h; exact ⟨(nameB_le h.1).2,(isIdB_le h.2).2⟩
def objText (t i:ByteArray):ByteArray:=if objB t i then t ++ ⟨#[58]⟩ ++ i else ⟨#[]⟩
theorem objText_yes {t i:ByteArray} (h:objB t i=true):objText t i=t ++ ⟨#[58]⟩ ++ i:=by simp [objText,h]
theorem objText_no {t i:ByteArray} (h:objB t i=false):objText t i=⟨#[]⟩:=by simp [objText,h]
theorem objText_size (t i:ByteArray):(objText t i).size≤25:=by
 unfold objText; split
 ·rename_i h
  have h2:=objB_le h
  have e1:(ByteArray.mk #[58]).size=1:=rfl
  rw [ByteArray.size_append,ByteArray.size_append,e1]
  omega
 ·exact Nat.zero_le _
end Go.Proofs.YtpnjoniolfmbnaaGreatDoor.Pl
namespace Go.Proofs.YtpnjoniolfmbnaaGreatDoor
open Go.ChangeShapes Go.WideShapes Go.ChangeAt Go.RowKit
open Pl
theorem specObjText_any (t i:ByteArray) (w:World) (ht:t.size≤maxLen) (hi:i.size≤maxLen) :
  Calls Tryz.prog 158 #[.agg #[.string t,.string i]] w fun e w'=>e=.returned (.string (objText t i))∧Below w.heap.size w w':=by
 by_cases hn:objB t i=true
 ·obtain ⟨h1,h2⟩:=objB_le hn
  have HT:Hid (objText t i=t ++ ⟨#[58]⟩ ++ i):=objText_yes hn
  go_enter Tryz.func158,Tryz.ntmps158
  go_wp2_with (go_at_call 106; refine (specObj_any _ _ _ ht hi).mono ?_; rintro e w' ⟨rfl,hb⟩; obtain ⟨hc,hf⟩:=bcell hb)
  go_ret
  exact ⟨ret_str HT.out.symm,((Below.refl _ _).alloc (Nat.le_refl _) _).trans (hb.mono (by simp))⟩
 ·have hn':objB t i=false:=by simpa using hn
  have HT:Hid (objText t i=⟨#[]⟩):=objText_no hn'
  clear hn
  go_enter Tryz.func158,Tryz.ntmps158
  go_wp2_with (go_at_call 106; refine (specObj_any _ _ _ ht hi).mono ?_; rintro e w' ⟨rfl,hb⟩; obtain ⟨hc,hf⟩:=bcell hb)
  go_ret
  exact ⟨ret_str HT.out.symm,((Below.refl _ _).alloc (Nat.le_refl _) _).trans (hb.mono (by simp))⟩
theorem implObjText_any (t i:ByteArray) (w:World) (ht:t.size≤maxLen) (hi:i.size≤maxLen) :
  Calls Tryz.prog 154 #[.agg #[.string t,.string i]] w fun e w'=>e=.returned (.string (objText t i))∧Below w.heap.size w w':=by
 by_cases hn:objB t i=true
 ·obtain ⟨h1,h2⟩:=objB_le hn
  have HT:Hid (objText t i=t ++ ⟨#[58]⟩ ++ i):=objText_yes hn
  go_enter Tryz.func154,Tryz.ntmps154
  go_wp2_with (go_at_call 111; refine (implObj_any _ _ _ ht hi).mono ?_; rintro e w' ⟨rfl,hb⟩; obtain ⟨hc,hf⟩:=bcell hb)
  go_ret
  exact ⟨ret_str HT.out.symm,((Below.refl _ _).alloc (Nat.le_refl _) _).trans (hb.mono (by simp))⟩
 ·have hn':objB t i=false:=by simpa using hn
  have HT:Hid (objText t i=⟨#[]⟩):=objText_no hn'
  clear hn
  go_enter Tryz.func154,Tryz.ntmps154
  go_wp2_with (go_at_call 111; refine (implObj_any _ _ _ ht hi).mono ?_; rintro e w' ⟨rfl,hb⟩; obtain ⟨hc,hf⟩:=bcell hb)
  go_ret
  exact ⟨ret_str HT.out.symm,((Below.refl _ _).alloc (Nat.le_refl _) _).trans (hb.mono (by simp))⟩
end Go.Proofs.YtpnjoniolfmbnaaGreatDoor
namespace Go.Proofs.YtpnjoniolfmbnaaGreatDoor.Pl
def setB (s:ByteArray):Bool:=s.toList.isEmpty || nameB s
def tupB (a b r c d s:ByteArray):Bool:=objB a b && nameB r && objB c d && setB s
def tupText (a b r c d s:ByteArray):ByteArray :=
 if tupB a b r c d s then
  (if s.toList.isEmpty then objText a b ++ ⟨#[35]⟩ ++ r ++ ⟨#[64]⟩ ++ objText c d else objText a b ++ ⟨#[35]⟩ ++ r ++ ⟨#[64]⟩ ++ objText c d ++ ⟨#[35]⟩ ++ s)
 else ⟨#[]⟩
theorem tupText_no {a b r c d s:ByteArray} (h:tupB a b r c d s=false):tupText a b r c d s=⟨#[]⟩:=by simp [tupText,h]
theorem tupText_one {a b r c d s:ByteArray} (h:tupB a b r c d s=true) (hs:s.toList.isEmpty=true):tupText a b r c d s=objText a b ++ ⟨#[35]⟩ ++ r ++ ⟨#[64]⟩ ++ objText c d:=by simp [tupText,h,hs]
theorem tupText_two {a b r c d s:ByteArray} (h:tupB a b r c d s=true) (hs:s.toList.isEmpty=false):tupText a b r c d s=objText a b ++ ⟨#[35]⟩ ++ r ++ ⟨#[64]⟩ ++ objText c d ++ ⟨#[35]⟩ ++ s:=by simp [tupText,h,hs]
theorem tupB_no1 {a b r c d s:ByteArray} (h:objB a b=false):tupB a b r c d s=false:=by simp [tupB,h]
theorem tupB_no2 {a b r c d s:ByteArray} (h:nameB r=false):tupB a b r c d s=false:=by simp [tupB,h]
theorem tupB_no3 {a b r c d s:ByteArray} (h:objB c d=false):tupB a b r c d s=false:=by simp [tupB,h]
theorem tupB_yes {a b r c d s:ByteArray} (h1:objB a b=true) (h2:nameB r=true) (h3:objB c d=true):tupB a b r c d s=setB s:=by simp [tupB,h1,h2,h3]
theorem tupB_parts {a b r c d s:ByteArray} (h:tupB a b r c d s=true):objB a b=true∧nameB r=true∧objB c d=true∧setB s=true:=by
 simp [tupB] at h; exact ⟨h.1.1.1,h.1.1.2,h.1.2,h.2⟩
theorem toList_isEmpty {s:ByteArray} (h:s.toList.isEmpty=true):s.size=0:=by
 rw [Go.ByteArray.toList_eq] at h
 have h2:s.data.toList=[]:=by simpa using h
 have h3:s.data.toList.length=0:=by rw [h2]; rfl
 simpa using h3
theorem setB_le {s:ByteArray} (h:setB s=true):s.size≤12:=by
 simp only [setB,Bool.or_eq_true] at h
 rcases h with h | h
 ·have:=toList_isEmpty h; omega
 ·exact (nameB_le h).2
end Go.Proofs.YtpnjoniolfmbnaaGreatDoor.Pl
