/- Contracts of the functions that look at names and ids, the document's model beside the program's: each returns what the plain function says and leaves the world as it was. -/
import Derived.Test.YtojjoblnpldniaaGreatSq
import Derived.Test.YtojjoblnpldniaaGreatRows
import Derived.Test.YtojjoblnpldniaaGreatPlain
import Derived.WalkLawsBesides
import Derived.ProofKit
open Go.Proofs.Tryz
namespace Go.Proofs.YtojjoblnpldniaaGreat
open ChangeShapes WideShapes ChangeAt RowKit
open Pl
theorem lq(c:UInt8)(w:ae):
  Calls prog 191 #[.int .u8 c.toNat] w fun e w'=>e=.returned (.bool (eY c))/\w'=w:=by
 go_enter func191,ntmps191;go_wp2
 all_goals go_ret
 all_goals refine⟨ah ?_,rfl⟩
 all_goals(rw[VL];simp[eY];omega)
theorem aS(s:bQ)(w:ae)(hs:s.size<=maxLen):
  Calls prog 126 #[.string s] w fun e w'=>e=.returned (.bool (aP s))/\w'=w:=by
 unfold maxLen at hs;by_cases h1:1<=s.size/\s.size<=12
 ·obtain⟨ha,hb⟩:=h1;go_enter func126,ntmps126;go_wp2
  go_loop [3] (fun i=>∃k:Nat,k<=s.size/\i=.int .i64 k/\Hid (IY eY s k=true)) (fun i=>s.size-(intOf i).toNat)
  case atStart=>exact⟨0,Vv _,rfl,uI _ _⟩
  obtain⟨k,hk,rfl,hu⟩:=hrel;by_cases hlt:k<s.size
  ·by_cases hc:eY s[k]=true
   ·have hc1:97<=s[k].toNat:=by simp[eY]at hc;omega
    have hc2:s[k].toNat<=122:=by simp[eY]at hc;omega
    have HU:Hid (IY eY s (k+1)=true):=by show _=_;rw[uJ _ _ _ hlt,hc,hu.out];rfl
    clear hc;go_wp2;go_round;case rel=>exact⟨k+1,by omega,by go_num,HU⟩
    simp[intOf];omega
   have hc':eY s[k]=false:=by simpa using hc
   have HB:Hid (sI eY s=false):=yQ _ _ _ hlt hc';have hd:s[k].toNat<97\/122<s[k].toNat:=by simp[eY]at hc';omega
   clear hc hc';rcases hd with hd|hd
   all_goals
    go_wp2;go_ret;exact⟨ah (by simp[aP,dO,HB.out]),rfl⟩
  go_wp2;go_ret;refine⟨ah ?_,rfl⟩;have hall:sI eY s=true:=by rw[<-yP eY s k (by omega)];exact hu.out
  have hl:nN s=true:=by simp[nN];omega
  simp[aP,dO,yO,hall,hl]
 have hn:nN s=false:=by simp[nN];omega
 have HN:Hid (aP s=false):=by show _=_;simp[aP,dO,hn]
 clear hn;by_cases ha:1<=s.size
 ·have hb:12<s.size:=by omega
  clear h1;go_enter func126,ntmps126;go_wp2;go_ret;exact⟨ah HN.out.symm,rfl⟩
 have ha':s.size<1:=by omega
 clear h1;go_enter func126,ntmps126;go_wp2;go_ret;exact⟨ah HN.out.symm,rfl⟩
theorem ze(s:bQ)(w:ae)(hs:s.size<=maxLen):
  Calls prog 190 #[.string s,.func (Fn.func 191) #[] #[]] w fun e w'=>e=.returned (.bool (dO eY s))/\w'=w:=by
 unfold maxLen at hs;by_cases h1:1<=s.size/\s.size<=12
 ·obtain⟨ha,hb⟩:=h1;go_enter func190,ntmps190;go_wp2
  go_loop [16] (fun i=>∃k:Nat,k<=s.size/\i=.int .i64 k/\Hid (IY eY s k=true)) (fun i=>s.size-(intOf i).toNat)
  case atStart=>exact⟨0,Vv _,rfl,uI _ _⟩
  obtain⟨k,hk,rfl,hu⟩:=hrel;by_cases hlt:k<s.size
  ·by_cases hc:eY s[k]=true
   ·have HU:Hid (IY eY s (k+1)=true):=by show _=_;rw[uJ _ _ _ hlt,hc,hu.out];rfl
    go_wp2_with(go_at_call 191;refine(lq _ _).mono ?_;rintro e w' ⟨rfl,rfl⟩);go_round;case rel=>exact⟨k+1,by omega,by go_num,HU⟩
    simp[intOf];omega
   have hc':eY s[k]=false:=by simpa using hc
   have HB:Hid (sI eY s=false):=yQ _ _ _ hlt hc';clear hc;go_wp2_with(go_at_call 191;refine(lq _ _).mono ?_;rintro e w' ⟨rfl,rfl⟩);go_ret;exact⟨ah (by simp[dO,HB.out]),rfl⟩
  go_wp2;go_ret;refine⟨ah ?_,rfl⟩;have hall:sI eY s=true:=by rw[<-yP eY s k (by omega)];exact hu.out
  have hl:nN s=true:=by simp[nN];omega
  simp[dO,hall,hl]
 have hn:nN s=false:=by simp[nN];omega
 have HN:Hid (dO eY s=false):=by show _=_;simp[dO,hn]
 clear hn;by_cases ha:1<=s.size
 ·have hb:12<s.size:=by omega
  clear h1;go_enter func190,ntmps190;go_wp2;go_ret;exact⟨ah HN.out.symm,rfl⟩
 have ha':s.size<1:=by omega
 clear h1;go_enter func190,ntmps190;go_wp2;go_ret;exact⟨ah HN.out.symm,rfl⟩
theorem aL(s:bQ)(w:ae)(hs:s.size<=maxLen):
  Calls prog 122 #[.string s] w fun e w'=>e=.returned (.bool (aP s))/\w'=w:=by
 by_cases h:s.toList=[116,104,105,115]
 ·have hb:(s.toList==[116,104,105,115])=true:=by simp[h]
  have HN:Hid (aP s=false):=by show _=_;simp[aP,yO,h]
  clear h;go_enter func122,ntmps122;go_wp2;go_ret;exact⟨ah HN.out.symm,rfl⟩
 have hb:(s.toList==[116,104,105,115])=false:=by simp[h]
 have HN:Hid (aP s=dO eY s):=by show _=_;simp[aP,yO,h]
 clear h;go_enter func122,ntmps122;go_wp2_with(go_at_call 190;refine(ze _ _ hs).mono ?_;rintro e w' ⟨rfl,rfl⟩);go_ret;exact⟨ah HN.out.symm,rfl⟩
end Go.Proofs.YtojjoblnpldniaaGreat
