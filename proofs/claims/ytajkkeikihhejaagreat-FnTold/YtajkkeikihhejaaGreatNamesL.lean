/- Contracts of the functions that look at names and ids, the document's model beside the program's: each returns what the plain function says and leaves the world as it was. -/
import Derived.Test.YtajkkeikihhejaaGreatSq
import Derived.Test.YtajkkeikihhejaaGreatRows
import Derived.Test.YtajkkeikihhejaaGreatPlain
import Derived.WalkLawsBesides
import Derived.ProofKit
open Go.Proofs.Tryz
namespace Go.Proofs.YtajkkeikihhejaaGreat
open Go.ChangeShapes Go.WideShapes Go.ChangeAt Go.RowKit
open Pl
theorem kU (c:UInt8) (w:af) :
  Calls prog 210 #[.int .u8 c.toNat] w fun e w'=>e=.returned (.bool (eG c))∧w'=w:=by
 go_enter func210,ntmps210;go_wp2
 all_goals go_ret
 all_goals refine ⟨ah ?_,rfl⟩
 all_goals (rw [Bool.eq_iff_iff]; simp [eG]; omega)
theorem aS (s:bH) (w:af) (hs:s.size≤maxLen) :
  Calls prog 111 #[.string s] w fun e w'=>e=.returned (.bool (aP s))∧w'=w:=by
 unfold maxLen at hs;by_cases h1:1≤s.size∧s.size≤12
 ·obtain ⟨ha,hb⟩:=h1;go_enter func111,ntmps111;go_wp2
  go_loop [3] (fun i=>∃ k:Nat,k≤s.size∧i=.int .i64 k∧Hid (Hu eG s k=true)) (fun i=>s.size - (intOf i).toNat)
  case atStart=>exact ⟨0,TW _,rfl,ug _ _⟩
  obtain ⟨k,hk,rfl,hu⟩:=hrel;by_cases hlt:k < s.size
  ·by_cases hc:eG s[k]=true
   ·have hc1:97≤s[k].toNat:=by simp [eG] at hc; omega
    have hc2:s[k].toNat≤122:=by simp [eG] at hc; omega
    have HU:Hid (Hu eG s (k + 1)=true):=by show _=_; rw [uh _ _ _ hlt,hc,hu.out]; rfl
    clear hc;go_wp2;go_round;case rel=>exact ⟨k + 1,by omega,by go_num,HU⟩
    simp [intOf]; omega
   have hc':eG s[k]=false:=by simpa using hc
   have HB:Hid (rR eG s=false):=yC _ _ _ hlt hc';have hd:s[k].toNat < 97 ∨ 122 < s[k].toNat:=by simp [eG] at hc'; omega
   clear hc hc';rcases hd with hd | hd
   all_goals
    go_wp2;go_ret;exact ⟨ah (by simp [aP,dL,HB.out]),rfl⟩
  go_wp2;go_ret;refine ⟨ah ?_,rfl⟩;have hall:rR eG s=true:=by rw [← yB eG s k (by omega)]; exact hu.out
  have hl:nG s=true:=by simp [nG]; omega
  simp [aP,dL,yA,hall,hl]
 have hn:nG s=false:=by simp [nG]; omega
 have HN:Hid (aP s=false):=by show _=_; simp [aP,dL,hn]
 clear hn;by_cases ha:1≤s.size
 ·have hb:12 < s.size:=by omega
  clear h1;go_enter func111,ntmps111;go_wp2;go_ret;exact ⟨ah HN.out.symm,rfl⟩
 have ha':s.size < 1:=by omega
 clear h1;go_enter func111,ntmps111;go_wp2;go_ret;exact ⟨ah HN.out.symm,rfl⟩
theorem yM (s:bH) (w:af) (hs:s.size≤maxLen) :
  Calls prog 209 #[.string s,.func (Fn.func 210) #[] #[]] w fun e w'=>e=.returned (.bool (dL eG s))∧w'=w:=by
 unfold maxLen at hs;by_cases h1:1≤s.size∧s.size≤12
 ·obtain ⟨ha,hb⟩:=h1;go_enter func209,ntmps209;go_wp2
  go_loop [16] (fun i=>∃ k:Nat,k≤s.size∧i=.int .i64 k∧Hid (Hu eG s k=true)) (fun i=>s.size - (intOf i).toNat)
  case atStart=>exact ⟨0,TW _,rfl,ug _ _⟩
  obtain ⟨k,hk,rfl,hu⟩:=hrel;by_cases hlt:k < s.size
  ·by_cases hc:eG s[k]=true
   ·have HU:Hid (Hu eG s (k + 1)=true):=by show _=_; rw [uh _ _ _ hlt,hc,hu.out]; rfl
    go_wp2_with (go_at_call 210; refine (kU _ _).mono ?_; rintro e w' ⟨rfl,rfl⟩);go_round;case rel=>exact ⟨k + 1,by omega,by go_num,HU⟩
    simp [intOf]; omega
   have hc':eG s[k]=false:=by simpa using hc
   have HB:Hid (rR eG s=false):=yC _ _ _ hlt hc';clear hc;go_wp2_with (go_at_call 210; refine (kU _ _).mono ?_; rintro e w' ⟨rfl,rfl⟩);go_ret;exact ⟨ah (by simp [dL,HB.out]),rfl⟩
  go_wp2;go_ret;refine ⟨ah ?_,rfl⟩;have hall:rR eG s=true:=by rw [← yB eG s k (by omega)]; exact hu.out
  have hl:nG s=true:=by simp [nG]; omega
  simp [dL,hall,hl]
 have hn:nG s=false:=by simp [nG]; omega
 have HN:Hid (dL eG s=false):=by show _=_; simp [dL,hn]
 clear hn;by_cases ha:1≤s.size
 ·have hb:12 < s.size:=by omega
  clear h1;go_enter func209,ntmps209;go_wp2;go_ret;exact ⟨ah HN.out.symm,rfl⟩
 have ha':s.size < 1:=by omega
 clear h1;go_enter func209,ntmps209;go_wp2;go_ret;exact ⟨ah HN.out.symm,rfl⟩
theorem aL (s:bH) (w:af) (hs:s.size≤maxLen) :
  Calls prog 162 #[.string s] w fun e w'=>e=.returned (.bool (aP s))∧w'=w:=by
 by_cases h:s.toList=[116,104,105,115]
 ·have hb:(s.toList == [116,104,105,115])=true:=by simp [h]
  have HN:Hid (aP s=false):=by show _=_; simp [aP,yA,h]
  clear h;go_enter func162,ntmps162;go_wp2;go_ret;exact ⟨ah HN.out.symm,rfl⟩
 have hb:(s.toList == [116,104,105,115])=false:=by simp [h]
 have HN:Hid (aP s=dL eG s):=by show _=_; simp [aP,yA,h]
 clear h;go_enter func162,ntmps162;go_wp2_with (go_at_call 209; refine (yM _ _ hs).mono ?_; rintro e w' ⟨rfl,rfl⟩);go_ret;exact ⟨ah HN.out.symm,rfl⟩
end Go.Proofs.YtajkkeikihhejaaGreat
