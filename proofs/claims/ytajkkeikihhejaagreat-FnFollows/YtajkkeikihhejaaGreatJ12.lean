/- Contracts of the functions on ids, beside those on names. -/
import Derived.Test.YtajkkeikihhejaaGreatSq
import Derived.Test.YtajkkeikihhejaaGreatJ1
import Derived.Below
open Go.Proofs.Tryz
set_option maxHeartbeats 80000000
namespace Go.Proofs.YtajkkeikihhejaaGreat
open ChangeShapes WideShapes ChangeAt RowKit
open Pl
theorem vw(c:UInt8)(w:af):
  Calls prog 229 #[.int .u8 c.toNat] w fun e w'=>e=.returned (.bool (yZ c))/\w'=w:=by
 by_cases hl:fu c=true
 ·go_enter func229,ntmps229;go_wp2_with(go_at_call 210;refine(lm _ _).mono ?_;rintro e w' ⟨rfl,rfl⟩);go_ret;exact⟨ah (by simp[yZ,hl]),rfl⟩
 have hf:fu c=false:=by simpa using hl
 clear hl;go_enter func229,ntmps229;go_wp2_with(go_at_call 210;refine(lm _ _).mono ?_;rintro e w' ⟨rfl,rfl⟩)
 all_goals go_ret
 all_goals refine⟨ah ?_,rfl⟩
 all_goals(rw[Vd];simp[yZ,hf];omega)
theorem Ji(s:bQ)(w:af)(hs:s.size<=maxLen):
  Calls prog 168 #[.string s] w fun e w'=>e=.returned (.bool (pQ s))/\w'=w:=by
 unfold maxLen at hs;by_cases h1:1<=s.size/\s.size<=12
 ·obtain⟨ha,hb⟩:=h1;go_enter func168,ntmps168;go_wp2
  go_loop [3] (fun i=>∃k:Nat,k<=s.size/\i=.int .i64 k/\Hid (IB yZ s k=true)) (fun i=>s.size-(intOf i).toNat)
  case atStart=>exact⟨0,UY _,rfl,uG _ _⟩
  obtain⟨k,hk,rfl,hu⟩:=hrel;by_cases hlt:k<s.size
  ·by_cases hc:yZ s[k]=true
   ·have hd:(97<=s[k].toNat/\s[k].toNat<=122)\/(48<=s[k].toNat/\s[k].toNat<=57)\/s[k].toNat=95:=by simp[yZ,fu]at hc;omega
    have HU:Hid (IB yZ s (k+1)=true):=by show _=_;rw[uH _ _ _ hlt,hc,hu.out];rfl
    clear hc;rcases hd with⟨hd1,hd2⟩|⟨hd1,hd2⟩|hd1
    all_goals
     go_wp2;go_round;case rel=>exact⟨k+1,by omega,by go_num,HU⟩
     simp[intOf];omega
   have hc':yZ s[k]=false:=by simpa using hc
   have HB:Hid (sD yZ s=false):=ze _ _ _ hlt hc';have hd:s[k].toNat<48\/(57<s[k].toNat/\s[k].toNat<95)\/(95<s[k].toNat/\s[k].toNat<97)\/122<s[k].toNat:=by simp[yZ,fu]at hc';omega
   clear hc hc';rcases hd with hd|⟨hd,hd2⟩|⟨hd,hd2⟩|hd
   all_goals
    have h95:((s[k].toNat:Int) != 95)=true:=by simp;omega
    go_wp2;go_ret;exact⟨ah (by simp[pQ,dP,HB.out]),rfl⟩
  go_wp2;go_ret;refine⟨ah ?_,rfl⟩;have hall:sD yZ s=true:=by rw[<-zb yZ s k (by omega)];exact hu.out
  have hl:nI s=true:=by simp[nI];omega
  simp[pQ,dP,hall,hl]
 have hn:nI s=false:=by simp[nI];omega
 have HN:Hid (pQ s=false):=by show _=_;simp[pQ,dP,hn]
 clear hn;by_cases ha:1<=s.size
 ·have hb:12<s.size:=by omega
  clear h1;go_enter func168,ntmps168;go_wp2;go_ret;exact⟨ah HN.out.symm,rfl⟩
 have ha':s.size<1:=by omega
 clear h1;go_enter func168,ntmps168;go_wp2;go_ret;exact⟨ah HN.out.symm,rfl⟩
theorem Ap(s:bQ)(w:af)(hs:s.size<=maxLen):
  Calls prog 209 #[.string s,.func (Fn.func 229) #[] #[]] w fun e w'=>e=.returned (.bool (dP yZ s))/\w'=w:=by
 unfold maxLen at hs;by_cases h1:1<=s.size/\s.size<=12
 ·obtain⟨ha,hb⟩:=h1;go_enter func209,ntmps209;go_wp2
  go_loop [16] (fun i=>∃k:Nat,k<=s.size/\i=.int .i64 k/\Hid (IB yZ s k=true)) (fun i=>s.size-(intOf i).toNat)
  case atStart=>exact⟨0,UY _,rfl,uG _ _⟩
  obtain⟨k,hk,rfl,hu⟩:=hrel;by_cases hlt:k<s.size
  ·by_cases hc:yZ s[k]=true
   ·have HU:Hid (IB yZ s (k+1)=true):=by show _=_;rw[uH _ _ _ hlt,hc,hu.out];rfl
    go_wp2_with(go_at_call 229;refine(vw _ _).mono ?_;rintro e w' ⟨rfl,rfl⟩);go_round;case rel=>exact⟨k+1,by omega,by go_num,HU⟩
    simp[intOf];omega
   have hc':yZ s[k]=false:=by simpa using hc
   have HB:Hid (sD yZ s=false):=ze _ _ _ hlt hc';clear hc;go_wp2_with(go_at_call 229;refine(vw _ _).mono ?_;rintro e w' ⟨rfl,rfl⟩);go_ret;exact⟨ah (by simp[dP,HB.out]),rfl⟩
  go_wp2;go_ret;refine⟨ah ?_,rfl⟩;have hall:sD yZ s=true:=by rw[<-zb yZ s k (by omega)];exact hu.out
  have hl:nI s=true:=by simp[nI];omega
  simp[dP,hall,hl]
 have hn:nI s=false:=by simp[nI];omega
 have HN:Hid (dP yZ s=false):=by show _=_;simp[dP,hn]
 clear hn;by_cases ha:1<=s.size
 ·have hb:12<s.size:=by omega
  clear h1;go_enter func209,ntmps209;go_wp2;go_ret;exact⟨ah HN.out.symm,rfl⟩
 have ha':s.size<1:=by omega
 clear h1;go_enter func209,ntmps209;go_wp2;go_ret;exact⟨ah HN.out.symm,rfl⟩
theorem Aq(s:bQ)(w:af)(hs:s.size<=maxLen):
  Calls prog 208 #[.string s] w fun e w'=>e=.returned (.bool (pQ s))/\w'=w:=by
 go_enter func208,ntmps208;go_wp2_with(go_at_call 209;refine(Ap _ _ hs).mono ?_;rintro e w' ⟨rfl,rfl⟩);go_ret;exact⟨rfl,rfl⟩
theorem jU{W w1:af}(hb:ae W w1):(∀b o,b<W.heap.size->w1.cell? ⟨b,o,none⟩=W.cell? ⟨b,o,none⟩)/\(∀b o,b<W.heap.size->w1.frozen? ⟨b,o,none⟩=W.frozen? ⟨b,o,none⟩) :=
 ⟨fun b o h=>hb.cell (p:=⟨b,o,none⟩) h,fun b o h=>hb.frozen (p:=⟨b,o,none⟩) h⟩
theorem dZ(t i:bQ)(w:af)(ht:t.size<=maxLen)(hi:i.size<=maxLen):
  Calls prog 110 #[.agg #[.string t,.string i]] w fun e w'=>e=.returned (.bool (fw t i))/\ae w w':=by
 by_cases hn:aT t=true
 all_goals
  go_enter func110,ntmps110;go_wp2_with(first|(go_at_call 111;refine(aS _ _ ht).mono ?_;rintro e w' ⟨rfl,rfl⟩)|(go_at_call 168;refine(Ji _ _ hi).mono ?_;rintro e w' ⟨rfl,rfl⟩));go_ret;exact⟨ah (by simp[fw,hn]),(UV _ _).alloc (UU _) _⟩
theorem gy(t i:bQ)(w:af)(ht:t.size<=maxLen)(hi:i.size<=maxLen):
  Calls prog 161 #[.agg #[.string t,.string i]] w fun e w'=>e=.returned (.bool (fw t i))/\ae w w':=by
 by_cases hn:aT t=true
 all_goals
  go_enter func161,ntmps161;go_wp2_with(first|(go_at_call 162;refine(aP _ _ ht).mono ?_;rintro e w' ⟨rfl,rfl⟩)|(go_at_call 208;refine(Aq _ _ hi).mono ?_;rintro e w' ⟨rfl,rfl⟩));go_ret;exact⟨ah (by simp[fw,hn]),(UV _ _).alloc (UU _) _⟩
end Go.Proofs.YtajkkeikihhejaaGreat
