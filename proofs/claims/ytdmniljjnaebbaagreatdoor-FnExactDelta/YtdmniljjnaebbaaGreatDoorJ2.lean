/- Contracts of the functions on ids, beside those on names. -/
import Derived.Test.YtdmniljjnaebbaaGreatDoorSq
import Derived.Test.YtdmniljjnaebbaaGreatDoorJ1
import Derived.Below
open Go.Proofs.Tryz
set_option maxHeartbeats 80000000
namespace Go.Proofs.YtdmniljjnaebbaaGreatDoor
open Go.ChangeShapes Go.WideShapes Go.ChangeAt Go.RowKit
open Pl
theorem rD (c:UInt8) (w:af) :
  Calls prog 215 #[.int .u8 c.toNat] w fun e w'=>e=.returned (.bool (wQ c))∧w'=w:=by
 by_cases hl:iH c=true
 ·go_enter func215,ntmps215;go_wp2_with (go_at_call 192; refine (jU _ _).mono ?_; rintro e w' ⟨rfl,rfl⟩);go_ret;exact ⟨ah (by simp [wQ,hl]),rfl⟩
 have hf:iH c=false:=by simpa using hl
 clear hl;go_enter func215,ntmps215;go_wp2_with (go_at_call 192; refine (jU _ _).mono ?_; rintro e w' ⟨rfl,rfl⟩)
 all_goals go_ret
 all_goals refine ⟨ah ?_,rfl⟩
 all_goals (rw [Bool.eq_iff_iff]; simp [wQ,hf]; omega)
theorem Gg (s:dB) (w:af) (hs:s.size≤maxLen) :
  Calls prog 159 #[.string s] w fun e w'=>e=.returned (.bool (og s))∧w'=w:=by
 unfold maxLen at hs;by_cases h1:1≤s.size∧s.size≤12
 ·obtain ⟨ha,hb⟩:=h1;go_enter func159,ntmps159;go_wp2
  go_loop [3] (fun i=>∃ k:Nat,k≤s.size∧i=.int .i64 k∧Hid (Gd wQ s k=true)) (fun i=>s.size - (intOf i).toNat)
  case atStart=>exact ⟨0,Sm _,rfl,rA _ _⟩
  obtain ⟨k,hk,rfl,hu⟩:=hrel;by_cases hlt:k < s.size
  ·by_cases hc:wQ s[k]=true
   ·have hd:(97≤s[k].toNat∧s[k].toNat≤122) ∨ (48≤s[k].toNat∧s[k].toNat≤57) ∨ s[k].toNat=95:=by simp [wQ,iH] at hc; omega
    have HU:Hid (Gd wQ s (k + 1)=true):=by show _=_; rw [rC _ _ _ hlt,hc,hu.out]; rfl
    clear hc;rcases hd with ⟨hd1,hd2⟩ | ⟨hd1,hd2⟩ | hd1
    all_goals
     go_wp2;go_round;case rel=>exact ⟨k + 1,by omega,by go_num,HU⟩
     simp [intOf]; omega
   have hc':wQ s[k]=false:=by simpa using hc
   have HB:Hid (qJ wQ s=false):=wV _ _ _ hlt hc';have hd:s[k].toNat < 48 ∨ (57 < s[k].toNat∧s[k].toNat < 95) ∨ (95 < s[k].toNat∧s[k].toNat < 97) ∨ 122 < s[k].toNat:=by simp [wQ,iH] at hc'; omega
   clear hc hc';rcases hd with hd | ⟨hd,hd2⟩ | ⟨hd,hd2⟩ | hd
   all_goals
    have h95:((s[k].toNat:Int) != 95)=true:=by simp; omega
    go_wp2;go_ret;exact ⟨ah (by simp [og,dK,HB.out]),rfl⟩
  go_wp2;go_ret;refine ⟨ah ?_,rfl⟩;have hall:qJ wQ s=true:=by rw [← wU wQ s k (by omega)]; exact hu.out
  have hl:ni s=true:=by simp [ni]; omega
  simp [og,dK,hall,hl]
 have hn:ni s=false:=by simp [ni]; omega
 have HN:Hid (og s=false):=by show _=_; simp [og,dK,hn]
 clear hn;by_cases ha:1≤s.size
 ·have hb:12 < s.size:=by omega
  clear h1;go_enter func159,ntmps159;go_wp2;go_ret;exact ⟨ah HN.out.symm,rfl⟩
 have ha':s.size < 1:=by omega
 clear h1;go_enter func159,ntmps159;go_wp2;go_ret;exact ⟨ah HN.out.symm,rfl⟩
theorem xq (s:dB) (w:af) (hs:s.size≤maxLen) :
  Calls prog 191 #[.string s,.func (Fn.func 215) #[] #[]] w fun e w'=>e=.returned (.bool (dK wQ s))∧w'=w:=by
 unfold maxLen at hs;by_cases h1:1≤s.size∧s.size≤12
 ·obtain ⟨ha,hb⟩:=h1;go_enter func191,ntmps191;go_wp2
  go_loop [16] (fun i=>∃ k:Nat,k≤s.size∧i=.int .i64 k∧Hid (Gd wQ s k=true)) (fun i=>s.size - (intOf i).toNat)
  case atStart=>exact ⟨0,Sm _,rfl,rA _ _⟩
  obtain ⟨k,hk,rfl,hu⟩:=hrel;by_cases hlt:k < s.size
  ·by_cases hc:wQ s[k]=true
   ·have HU:Hid (Gd wQ s (k + 1)=true):=by show _=_; rw [rC _ _ _ hlt,hc,hu.out]; rfl
    go_wp2_with (go_at_call 215; refine (rD _ _).mono ?_; rintro e w' ⟨rfl,rfl⟩);go_round;case rel=>exact ⟨k + 1,by omega,by go_num,HU⟩
    simp [intOf]; omega
   have hc':wQ s[k]=false:=by simpa using hc
   have HB:Hid (qJ wQ s=false):=wV _ _ _ hlt hc';clear hc;go_wp2_with (go_at_call 215; refine (rD _ _).mono ?_; rintro e w' ⟨rfl,rfl⟩);go_ret;exact ⟨ah (by simp [dK,HB.out]),rfl⟩
  go_wp2;go_ret;refine ⟨ah ?_,rfl⟩;have hall:qJ wQ s=true:=by rw [← wU wQ s k (by omega)]; exact hu.out
  have hl:ni s=true:=by simp [ni]; omega
  simp [dK,hall,hl]
 have hn:ni s=false:=by simp [ni]; omega
 have HN:Hid (dK wQ s=false):=by show _=_; simp [dK,hn]
 clear hn;by_cases ha:1≤s.size
 ·have hb:12 < s.size:=by omega
  clear h1;go_enter func191,ntmps191;go_wp2;go_ret;exact ⟨ah HN.out.symm,rfl⟩
 have ha':s.size < 1:=by omega
 clear h1;go_enter func191,ntmps191;go_wp2;go_ret;exact ⟨ah HN.out.symm,rfl⟩
theorem xw (s:dB) (w:af) (hs:s.size≤maxLen) :
  Calls prog 197 #[.string s] w fun e w'=>e=.returned (.bool (og s))∧w'=w:=by
 go_enter func197,ntmps197;go_wp2_with (go_at_call 191; refine (xq _ _ hs).mono ?_; rintro e w' ⟨rfl,rfl⟩);go_ret;exact ⟨rfl,rfl⟩
theorem eO {W w1:af} (hb:aa W w1):(∀ b o,b < W.heap.size→w1.cell? ⟨b,o,none⟩=W.cell? ⟨b,o,none⟩)∧(∀ b o,b < W.heap.size→w1.frozen? ⟨b,o,none⟩=W.frozen? ⟨b,o,none⟩) :=
 ⟨fun b o h=>hb.cell (p:=⟨b,o,none⟩) h,fun b o h=>hb.frozen (p:=⟨b,o,none⟩) h⟩
theorem eY (t i:dB) (w:af) (ht:t.size≤maxLen) (hi:i.size≤maxLen) :
  Calls prog 115 #[.agg #[.string t,.string i]] w fun e w'=>e=.returned (.bool (dS t i))∧aa w w':=by
 by_cases hn:aR t=true
 all_goals
  go_enter func115,ntmps115;go_wp2_with (first | (go_at_call 105; refine (aN _ _ ht).mono ?_; rintro e w' ⟨rfl,rfl⟩) | (go_at_call 159; refine (Gg _ _ hi).mono ?_; rintro e w' ⟨rfl,rfl⟩));go_ret;exact ⟨ah (by simp [dS,hn]),(Si _ _).alloc (Sj _) _⟩
theorem eZ (t i:dB) (w:af) (ht:t.size≤maxLen) (hi:i.size≤maxLen) :
  Calls prog 170 #[.agg #[.string t,.string i]] w fun e w'=>e=.returned (.bool (dS t i))∧aa w w':=by
 by_cases hn:aR t=true
 all_goals
  go_enter func170,ntmps170;go_wp2_with (first | (go_at_call 162; refine (aL _ _ ht).mono ?_; rintro e w' ⟨rfl,rfl⟩) | (go_at_call 197; refine (xw _ _ hi).mono ?_; rintro e w' ⟨rfl,rfl⟩));go_ret;exact ⟨ah (by simp [dS,hn]),(Si _ _).alloc (Sj _) _⟩
end Go.Proofs.YtdmniljjnaebbaaGreatDoor
