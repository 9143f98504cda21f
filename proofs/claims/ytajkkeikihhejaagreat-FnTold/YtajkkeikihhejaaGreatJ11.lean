/- Contracts of the functions on ids, beside those on names. -/
import Derived.Test.YtajkkeikihhejaaGreatSq
import Derived.Test.YtajkkeikihhejaaGreatJ1
import Derived.Below
import Derived.Test.YtajkkeikihhejaaGreatJ2
open Go.Proofs.Tryz
set_option maxHeartbeats 80000000
namespace Go.Proofs.YtajkkeikihhejaaGreat
open Go.ChangeShapes Go.WideShapes Go.ChangeAt Go.RowKit
open Pl
theorem uK (c:UInt8) (w:af) :
  Calls prog 229 #[.int .u8 c.toNat] w fun e w'=>e=.returned (.bool (yz c))∧w'=w:=by
 by_cases hl:eG c=true
 ·go_enter func229,ntmps229;go_wp2_with (go_at_call 210; refine (kU _ _).mono ?_; rintro e w' ⟨rfl,rfl⟩);go_ret;exact ⟨ah (by simp [yz,hl]),rfl⟩
 have hf:eG c=false:=by simpa using hl
 clear hl;go_enter func229,ntmps229;go_wp2_with (go_at_call 210; refine (kU _ _).mono ?_; rintro e w' ⟨rfl,rfl⟩)
 all_goals go_ret
 all_goals refine ⟨ah ?_,rfl⟩
 all_goals (rw [Bool.eq_iff_iff]; simp [yz,hf]; omega)
theorem IB (s:bF) (w:af) (hs:s.size≤maxLen) :
  Calls prog 168 #[.string s] w fun e w'=>e=.returned (.bool (pK s))∧w'=w:=by
 unfold maxLen at hs;by_cases h1:1≤s.size∧s.size≤12
 ·obtain ⟨ha,hb⟩:=h1;go_enter func168,ntmps168;go_wp2
  go_loop [3] (fun i=>∃ k:Nat,k≤s.size∧i=.int .i64 k∧Hid (Hu yz s k=true)) (fun i=>s.size - (intOf i).toNat)
  case atStart=>exact ⟨0,TW _,rfl,ug _ _⟩
  obtain ⟨k,hk,rfl,hu⟩:=hrel;by_cases hlt:k < s.size
  ·by_cases hc:yz s[k]=true
   ·have hd:(97≤s[k].toNat∧s[k].toNat≤122) ∨ (48≤s[k].toNat∧s[k].toNat≤57) ∨ s[k].toNat=95:=by simp [yz,eG] at hc; omega
    have HU:Hid (Hu yz s (k + 1)=true):=by show _=_; rw [uh _ _ _ hlt,hc,hu.out]; rfl
    clear hc;rcases hd with ⟨hd1,hd2⟩ | ⟨hd1,hd2⟩ | hd1
    all_goals
     go_wp2;go_round;case rel=>exact ⟨k + 1,by omega,by go_num,HU⟩
     simp [intOf]; omega
   have hc':yz s[k]=false:=by simpa using hc
   have HB:Hid (rR yz s=false):=yC _ _ _ hlt hc';have hd:s[k].toNat < 48 ∨ (57 < s[k].toNat∧s[k].toNat < 95) ∨ (95 < s[k].toNat∧s[k].toNat < 97) ∨ 122 < s[k].toNat:=by simp [yz,eG] at hc'; omega
   clear hc hc';rcases hd with hd | ⟨hd,hd2⟩ | ⟨hd,hd2⟩ | hd
   all_goals
    have h95:((s[k].toNat:Int) != 95)=true:=by simp; omega
    go_wp2;go_ret;exact ⟨ah (by simp [pK,dL,HB.out]),rfl⟩
  go_wp2;go_ret;refine ⟨ah ?_,rfl⟩;have hall:rR yz s=true:=by rw [← yB yz s k (by omega)]; exact hu.out
  have hl:nG s=true:=by simp [nG]; omega
  simp [pK,dL,hall,hl]
 have hn:nG s=false:=by simp [nG]; omega
 have HN:Hid (pK s=false):=by show _=_; simp [pK,dL,hn]
 clear hn;by_cases ha:1≤s.size
 ·have hb:12 < s.size:=by omega
  clear h1;go_enter func168,ntmps168;go_wp2;go_ret;exact ⟨ah HN.out.symm,rfl⟩
 have ha':s.size < 1:=by omega
 clear h1;go_enter func168,ntmps168;go_wp2;go_ret;exact ⟨ah HN.out.symm,rfl⟩
theorem zJ (s:bF) (w:af) (hs:s.size≤maxLen) :
  Calls prog 209 #[.string s,.func (Fn.func 229) #[] #[]] w fun e w'=>e=.returned (.bool (dL yz s))∧w'=w:=by
 unfold maxLen at hs;by_cases h1:1≤s.size∧s.size≤12
 ·obtain ⟨ha,hb⟩:=h1;go_enter func209,ntmps209;go_wp2
  go_loop [16] (fun i=>∃ k:Nat,k≤s.size∧i=.int .i64 k∧Hid (Hu yz s k=true)) (fun i=>s.size - (intOf i).toNat)
  case atStart=>exact ⟨0,TW _,rfl,ug _ _⟩
  obtain ⟨k,hk,rfl,hu⟩:=hrel;by_cases hlt:k < s.size
  ·by_cases hc:yz s[k]=true
   ·have HU:Hid (Hu yz s (k + 1)=true):=by show _=_; rw [uh _ _ _ hlt,hc,hu.out]; rfl
    go_wp2_with (go_at_call 229; refine (uK _ _).mono ?_; rintro e w' ⟨rfl,rfl⟩);go_round;case rel=>exact ⟨k + 1,by omega,by go_num,HU⟩
    simp [intOf]; omega
   have hc':yz s[k]=false:=by simpa using hc
   have HB:Hid (rR yz s=false):=yC _ _ _ hlt hc';clear hc;go_wp2_with (go_at_call 229; refine (uK _ _).mono ?_; rintro e w' ⟨rfl,rfl⟩);go_ret;exact ⟨ah (by simp [dL,HB.out]),rfl⟩
  go_wp2;go_ret;refine ⟨ah ?_,rfl⟩;have hall:rR yz s=true:=by rw [← yB yz s k (by omega)]; exact hu.out
  have hl:nG s=true:=by simp [nG]; omega
  simp [dL,hall,hl]
 have hn:nG s=false:=by simp [nG]; omega
 have HN:Hid (dL yz s=false):=by show _=_; simp [dL,hn]
 clear hn;by_cases ha:1≤s.size
 ·have hb:12 < s.size:=by omega
  clear h1;go_enter func209,ntmps209;go_wp2;go_ret;exact ⟨ah HN.out.symm,rfl⟩
 have ha':s.size < 1:=by omega
 clear h1;go_enter func209,ntmps209;go_wp2;go_ret;exact ⟨ah HN.out.symm,rfl⟩
theorem zL (s:bF) (w:af) (hs:s.size≤maxLen) :
  Calls prog 208 #[.string s] w fun e w'=>e=.returned (.bool (pK s))∧w'=w:=by
 go_enter func208,ntmps208;go_wp2_with (go_at_call 209; refine (zJ _ _ hs).mono ?_; rintro e w' ⟨rfl,rfl⟩);go_ret;exact ⟨rfl,rfl⟩
theorem jO {W w1:af} (hb:ag W w1):(∀ b o,b < W.heap.size→w1.cell? ⟨b,o,none⟩=W.cell? ⟨b,o,none⟩)∧(∀ b o,b < W.heap.size→w1.frozen? ⟨b,o,none⟩=W.frozen? ⟨b,o,none⟩) :=
 ⟨fun b o h=>hb.cell (p:=⟨b,o,none⟩) h,fun b o h=>hb.frozen (p:=⟨b,o,none⟩) h⟩
theorem fV (t i:bF) (w:af) (ht:t.size≤maxLen) (hi:i.size≤maxLen) :
  Calls prog 110 #[.agg #[.string t,.string i]] w fun e w'=>e=.returned (.bool (eH t i))∧ag w w':=by
 by_cases hn:aP t=true
 all_goals
  go_enter func110,ntmps110;go_wp2_with (first | (go_at_call 111; refine (aS _ _ ht).mono ?_; rintro e w' ⟨rfl,rfl⟩) | (go_at_call 168; refine (IB _ _ hi).mono ?_; rintro e w' ⟨rfl,rfl⟩));go_ret;exact ⟨ah (by simp [eH,hn]),(TT _ _).alloc (TS _) _⟩
theorem fZ (t i:bF) (w:af) (ht:t.size≤maxLen) (hi:i.size≤maxLen) :
  Calls prog 161 #[.agg #[.string t,.string i]] w fun e w'=>e=.returned (.bool (eH t i))∧ag w w':=by
 by_cases hn:aP t=true
 all_goals
  go_enter func161,ntmps161;go_wp2_with (first | (go_at_call 162; refine (aL _ _ ht).mono ?_; rintro e w' ⟨rfl,rfl⟩) | (go_at_call 208; refine (zL _ _ hi).mono ?_; rintro e w' ⟨rfl,rfl⟩));go_ret;exact ⟨ah (by simp [eH,hn]),(TT _ _).alloc (TS _) _⟩
theorem yf (t i:bF) (w:af) (ht:t.size≤maxLen) (hi:i.size≤maxLen) :
  Calls prog 225 #[.agg #[.string t,.string i]] w fun e w'=>e=.returned (.string (aB t i))∧ag w w':=by
 by_cases hn:eH t i=true
 ·obtain ⟨h1,h2⟩:=yD hn;have HT:Hid (aB t i=t ++ ⟨#[58]⟩ ++ i):=mJ hn;go_enter func225,ntmps225;go_wp2_with (go_at_call 110; refine (fV _ _ _ ht hi).mono ?_; rintro e w' ⟨rfl,hb⟩; obtain ⟨hc,hf⟩:=jO hb);go_ret;exact ⟨gu HT.out.symm,((TT _ _).alloc (TS _) _).trans (hb.mono (by simp))⟩
 have hn':eH t i=false:=by simpa using hn
 have HT:Hid (aB t i=⟨#[]⟩):=sM hn';clear hn;go_enter func225,ntmps225;go_wp2_with (go_at_call 110; refine (fV _ _ _ ht hi).mono ?_; rintro e w' ⟨rfl,hb⟩; obtain ⟨hc,hf⟩:=jO hb);go_ret;exact ⟨gu HT.out.symm,((TT _ _).alloc (TS _) _).trans (hb.mono (by simp))⟩
theorem yg (t i:bF) (w:af) (ht:t.size≤maxLen) (hi:i.size≤maxLen) :
  Calls prog 207 #[.agg #[.string t,.string i]] w fun e w'=>e=.returned (.string (aB t i))∧ag w w':=by
 by_cases hn:eH t i=true
 ·obtain ⟨h1,h2⟩:=yD hn;have HT:Hid (aB t i=t ++ ⟨#[58]⟩ ++ i):=mJ hn;go_enter func207,ntmps207;go_wp2_with (go_at_call 161; refine (fZ _ _ _ ht hi).mono ?_; rintro e w' ⟨rfl,hb⟩; obtain ⟨hc,hf⟩:=jO hb);go_ret;exact ⟨gu HT.out.symm,((TT _ _).alloc (TS _) _).trans (hb.mono (by simp))⟩
 have hn':eH t i=false:=by simpa using hn
 have HT:Hid (aB t i=⟨#[]⟩):=sM hn';clear hn;go_enter func207,ntmps207;go_wp2_with (go_at_call 161; refine (fZ _ _ _ ht hi).mono ?_; rintro e w' ⟨rfl,hb⟩; obtain ⟨hc,hf⟩:=jO hb);go_ret;exact ⟨gu HT.out.symm,((TT _ _).alloc (TS _) _).trans (hb.mono (by simp))⟩
theorem CJ (s:bF) (w:af) (hs:s.size≤maxLen) :
  Calls prog 163 #[.string s] w fun e w'=>e=.returned (.bool (uj s))∧w'=w:=by
 go_enter func163,ntmps163;go_wp2_with (go_at_call 162; refine (aL _ _ hs).mono ?_; rintro e w' ⟨rfl,rfl⟩)
 all_goals go_ret
 all_goals exact ⟨ah (by simp [uj, *]),rfl⟩
theorem dX (a b r c d s:bF) (w:af) (ha:a.size≤maxLen) (hb:b.size≤maxLen) (hr:r.size≤maxLen) (hc:c.size≤maxLen) (hd:d.size≤maxLen) (hs:s.size≤maxLen) :
  Calls prog 127 #[.agg #[.string a,.string b,.string r,.string c,.string d,.string s]] w fun e w'=>e=.returned (.bool (bI a b r c d s))∧ag w w':=by
 by_cases h1:eH a b=true
 ·by_cases h2:aP r=true
  ·by_cases h3:eH c d=true
   ·have HT:Hid (bI a b r c d s=uj s):=yR h1 h2 h3;go_enter func127,ntmps127;go_wp2_with fail;refine (fV _ _ _ ha hb).mono ?_;rintro e w1 ⟨rfl,hb1⟩;obtain ⟨hc1,hf1⟩:=jO hb1;have hz1:w.heap.size < w1.heap.size:=by have:=hb1.size; simp at this; omega
    go_wp2_with fail;refine (aS _ _ hr).mono ?_;rintro e w1' ⟨rfl,rfl⟩;go_wp2_with fail;refine (fV _ _ _ hc hd).mono ?_;rintro e w2 ⟨rfl,hb2⟩;obtain ⟨hc2,hf2⟩:=jO hb2;have hz2:w.heap.size < w2.heap.size:=by have:=hb2.size; omega
    go_wp2_with (go_at_call 111; refine (aS _ _ hs).mono ?_; rintro e w3 ⟨rfl,rfl⟩)
    all_goals go_ret
    all_goals exact ⟨ah (HT.out.trans (by simp [uj, *])).symm,((TT _ _).alloc (TS _) _).trans ((hb1.mono (by simp)).trans (hb2.mono (by omega)))⟩
   have h3':eH c d=false:=by simpa using h3
   have HT:Hid (bI a b r c d s=false):=yQ h3';clear h3;go_enter func127,ntmps127;go_wp2_with fail;refine (fV _ _ _ ha hb).mono ?_;rintro e w1 ⟨rfl,hb1⟩;obtain ⟨hc1,hf1⟩:=jO hb1;have hz1:w.heap.size < w1.heap.size:=by have:=hb1.size; simp at this; omega
   go_wp2_with fail;refine (aS _ _ hr).mono ?_;rintro e w1' ⟨rfl,rfl⟩;go_wp2_with fail;refine (fV _ _ _ hc hd).mono ?_;rintro e w2 ⟨rfl,hb2⟩;go_wp2;go_ret;exact ⟨ah HT.out.symm,((TT _ _).alloc (TS _) _).trans ((hb1.mono (by simp)).trans (hb2.mono (by omega)))⟩
  have h2':aP r=false:=by simpa using h2
  have HT:Hid (bI a b r c d s=false):=yP h2';clear h2;go_enter func127,ntmps127;go_wp2_with fail;refine (fV _ _ _ ha hb).mono ?_;rintro e w1 ⟨rfl,hb1⟩;obtain ⟨hc1,hf1⟩:=jO hb1;go_wp2_with fail;refine (aS _ _ hr).mono ?_;rintro e w1' ⟨rfl,rfl⟩;go_wp2;go_ret;exact ⟨ah HT.out.symm,((TT _ _).alloc (TS _) _).trans (hb1.mono (by simp))⟩
 have h1':eH a b=false:=by simpa using h1
 have HT:Hid (bI a b r c d s=false):=yO h1';clear h1;go_enter func127,ntmps127;go_wp2_with fail;refine (fV _ _ _ ha hb).mono ?_;rintro e w1 ⟨rfl,hb1⟩;go_wp2;go_ret;exact ⟨ah HT.out.symm,((TT _ _).alloc (TS _) _).trans (hb1.mono (by simp))⟩
theorem gm (a b r c d s:bF) (w:af) (ha:a.size≤maxLen) (hb:b.size≤maxLen) (hr:r.size≤maxLen) (hc:c.size≤maxLen) (hd:d.size≤maxLen) (hs:s.size≤maxLen) :
  Calls prog 108 #[.agg #[.string a,.string b,.string r,.string c,.string d,.string s]] w fun e w'=>e=.returned (.bool (bI a b r c d s))∧ag w w':=by
 by_cases h1:eH a b=true
 ·by_cases h2:aP r=true
  ·by_cases h3:eH c d=true
   ·have HT:Hid (bI a b r c d s=uj s):=yR h1 h2 h3;go_enter func108,ntmps108;go_wp2_with fail;refine (fZ _ _ _ ha hb).mono ?_;rintro e w1 ⟨rfl,hb1⟩;obtain ⟨hc1,hf1⟩:=jO hb1;have hz1:w.heap.size < w1.heap.size:=by have:=hb1.size; simp at this; omega
    go_wp2_with fail;refine (aL _ _ hr).mono ?_;rintro e w1' ⟨rfl,rfl⟩;go_wp2_with fail;refine (fZ _ _ _ hc hd).mono ?_;rintro e w2 ⟨rfl,hb2⟩;obtain ⟨hc2,hf2⟩:=jO hb2;have hz2:w.heap.size < w2.heap.size:=by have:=hb2.size; omega
    go_wp2_with (go_at_call 163; refine (CJ _ _ hs).mono ?_; rintro e w3 ⟨rfl,rfl⟩)
    all_goals go_ret
    all_goals exact ⟨ah (HT.out.trans (by simp [uj, *])).symm,((TT _ _).alloc (TS _) _).trans ((hb1.mono (by simp)).trans (hb2.mono (by omega)))⟩
   have h3':eH c d=false:=by simpa using h3
   have HT:Hid (bI a b r c d s=false):=yQ h3';clear h3;go_enter func108,ntmps108;go_wp2_with fail;refine (fZ _ _ _ ha hb).mono ?_;rintro e w1 ⟨rfl,hb1⟩;obtain ⟨hc1,hf1⟩:=jO hb1;have hz1:w.heap.size < w1.heap.size:=by have:=hb1.size; simp at this; omega
   go_wp2_with fail;refine (aL _ _ hr).mono ?_;rintro e w1' ⟨rfl,rfl⟩;go_wp2_with fail;refine (fZ _ _ _ hc hd).mono ?_;rintro e w2 ⟨rfl,hb2⟩;go_wp2;go_ret;exact ⟨ah HT.out.symm,((TT _ _).alloc (TS _) _).trans ((hb1.mono (by simp)).trans (hb2.mono (by omega)))⟩
  have h2':aP r=false:=by simpa using h2
  have HT:Hid (bI a b r c d s=false):=yP h2';clear h2;go_enter func108,ntmps108;go_wp2_with fail;refine (fZ _ _ _ ha hb).mono ?_;rintro e w1 ⟨rfl,hb1⟩;obtain ⟨hc1,hf1⟩:=jO hb1;go_wp2_with fail;refine (aL _ _ hr).mono ?_;rintro e w1' ⟨rfl,rfl⟩;go_wp2;go_ret;exact ⟨ah HT.out.symm,((TT _ _).alloc (TS _) _).trans (hb1.mono (by simp))⟩
 have h1':eH a b=false:=by simpa using h1
 have HT:Hid (bI a b r c d s=false):=yO h1';clear h1;go_enter func108,ntmps108;go_wp2_with fail;refine (fZ _ _ _ ha hb).mono ?_;rintro e w1 ⟨rfl,hb1⟩;go_wp2;go_ret;exact ⟨ah HT.out.symm,((TT _ _).alloc (TS _) _).trans (hb1.mono (by simp))⟩
end Go.Proofs.YtajkkeikihhejaaGreat
