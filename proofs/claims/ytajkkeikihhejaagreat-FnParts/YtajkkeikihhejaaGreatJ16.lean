/- Contracts of the two functions that write an object's text. -/
import Derived.Test.YtajkkeikihhejaaGreatSq
import Derived.Test.YtajkkeikihhejaaGreatJ4
import Derived.Test.YtajkkeikihhejaaGreatJ6
import Derived.Deep.RegionHeld3
import Derived.Deep.DrawnRows
import Derived.Test.YtajkkeikihhejaaGreatShelf
open Go.Proofs.Tryz
set_option maxHeartbeats 80000000
namespace Go.Proofs.YtajkkeikihhejaaGreat
open Go.ChangeShapes Go.WideShapes Go.ChangeAt Go.RowKit
open Pl
theorem yt (t i:bI)(w:af)(ht:t.size<=maxLen)(hi:i.size<=maxLen) :
  Calls prog 225 #[.agg #[.string t,.string i]] w fun e w'=>e=.returned (.string (aC t i))/\ag w w':=by
 by_cases hn:eT t i=true
 ·obtain ⟨h1,h2⟩:=yL hn;have HT:Hid (aC t i=t++⟨#[58]⟩++i):=mQ hn;go_enter func225,ntmps225;go_wp2_with (go_at_call 110;refine (fV _ _ _ ht hi).mono ?_;rintro e w' ⟨rfl,hb⟩;obtain ⟨hc,hf⟩:=jN hb);go_ret;exact ⟨gp HT.out.symm,((Uf _ _).alloc (Ue _) _).trans (hb.mono (by simp))⟩
 have hn':eT t i=false:=by simpa using hn
 have HT:Hid (aC t i=⟨#[]⟩):=sU hn';clear hn;go_enter func225,ntmps225;go_wp2_with (go_at_call 110;refine (fV _ _ _ ht hi).mono ?_;rintro e w' ⟨rfl,hb⟩;obtain ⟨hc,hf⟩:=jN hb);go_ret;exact ⟨gp HT.out.symm,((Uf _ _).alloc (Ue _) _).trans (hb.mono (by simp))⟩
theorem yu (t i:bI)(w:af)(ht:t.size<=maxLen)(hi:i.size<=maxLen) :
  Calls prog 207 #[.agg #[.string t,.string i]] w fun e w'=>e=.returned (.string (aC t i))/\ag w w':=by
 by_cases hn:eT t i=true
 ·obtain ⟨h1,h2⟩:=yL hn;have HT:Hid (aC t i=t++⟨#[58]⟩++i):=mQ hn;go_enter func207,ntmps207;go_wp2_with (go_at_call 161;refine (fZ _ _ _ ht hi).mono ?_;rintro e w' ⟨rfl,hb⟩;obtain ⟨hc,hf⟩:=jN hb);go_ret;exact ⟨gp HT.out.symm,((Uf _ _).alloc (Ue _) _).trans (hb.mono (by simp))⟩
 have hn':eT t i=false:=by simpa using hn
 have HT:Hid (aC t i=⟨#[]⟩):=sU hn';clear hn;go_enter func207,ntmps207;go_wp2_with (go_at_call 161;refine (fZ _ _ _ ht hi).mono ?_;rintro e w' ⟨rfl,hb⟩;obtain ⟨hc,hf⟩:=jN hb);go_ret;exact ⟨gp HT.out.symm,((Uf _ _).alloc (Ue _) _).trans (hb.mono (by simp))⟩
theorem CU (s:bI)(w:af)(hs:s.size<=maxLen) :
  Calls prog 163 #[.string s] w fun e w'=>e=.returned (.bool (uI s))/\w'=w:=by
 go_enter func163,ntmps163;go_wp2_with (go_at_call 162;refine (aM _ _ hs).mono ?_;rintro e w' ⟨rfl,rfl⟩)
 all_goals go_ret
 all_goals exact ⟨ah (by simp [uI, *]),rfl⟩
theorem dY (a b r c d s:bI)(w:af)(ha:a.size<=maxLen)(hb:b.size<=maxLen)(hr:r.size<=maxLen)(hc:c.size<=maxLen)(hd:d.size<=maxLen)(hs:s.size<=maxLen) :
  Calls prog 127 #[.agg #[.string a,.string b,.string r,.string c,.string d,.string s]] w fun e w'=>e=.returned (.bool (bQ a b r c d s))/\ag w w':=by
 by_cases h1:eT a b=true
 ·by_cases h2:aR r=true
  ·by_cases h3:eT c d=true
   ·have HT:Hid (bQ a b r c d s=uI s):=zn h1 h2 h3;go_enter func127,ntmps127;go_wp2_with fail;refine (fV _ _ _ ha hb).mono ?_;rintro e w1 ⟨rfl,hb1⟩;obtain ⟨hc1,hf1⟩:=jN hb1;have hz1:w.heap.size<w1.heap.size:=by have:=hb1.size;simp at this;omega
    go_wp2_with fail;refine (aT _ _ hr).mono ?_;rintro e w1' ⟨rfl,rfl⟩;go_wp2_with fail;refine (fV _ _ _ hc hd).mono ?_;rintro e w2 ⟨rfl,hb2⟩;obtain ⟨hc2,hf2⟩:=jN hb2;have hz2:w.heap.size<w2.heap.size:=by have:=hb2.size;omega
    go_wp2_with (go_at_call 111;refine (aT _ _ hs).mono ?_;rintro e w3 ⟨rfl,rfl⟩)
    all_goals go_ret
    all_goals exact ⟨ah (HT.out.trans (by simp [uI, *])).symm,((Uf _ _).alloc (Ue _) _).trans ((hb1.mono (by simp)).trans (hb2.mono (by omega)))⟩
   have h3':eT c d=false:=by simpa using h3
   have HT:Hid (bQ a b r c d s=false):=zm h3';clear h3;go_enter func127,ntmps127;go_wp2_with fail;refine (fV _ _ _ ha hb).mono ?_;rintro e w1 ⟨rfl,hb1⟩;obtain ⟨hc1,hf1⟩:=jN hb1;have hz1:w.heap.size<w1.heap.size:=by have:=hb1.size;simp at this;omega
   go_wp2_with fail;refine (aT _ _ hr).mono ?_;rintro e w1' ⟨rfl,rfl⟩;go_wp2_with fail;refine (fV _ _ _ hc hd).mono ?_;rintro e w2 ⟨rfl,hb2⟩;go_wp2;go_ret;exact ⟨ah HT.out.symm,((Uf _ _).alloc (Ue _) _).trans ((hb1.mono (by simp)).trans (hb2.mono (by omega)))⟩
  have h2':aR r=false:=by simpa using h2
  have HT:Hid (bQ a b r c d s=false):=zl h2';clear h2;go_enter func127,ntmps127;go_wp2_with fail;refine (fV _ _ _ ha hb).mono ?_;rintro e w1 ⟨rfl,hb1⟩;obtain ⟨hc1,hf1⟩:=jN hb1;go_wp2_with fail;refine (aT _ _ hr).mono ?_;rintro e w1' ⟨rfl,rfl⟩;go_wp2;go_ret;exact ⟨ah HT.out.symm,((Uf _ _).alloc (Ue _) _).trans (hb1.mono (by simp))⟩
 have h1':eT a b=false:=by simpa using h1
 have HT:Hid (bQ a b r c d s=false):=zk h1';clear h1;go_enter func127,ntmps127;go_wp2_with fail;refine (fV _ _ _ ha hb).mono ?_;rintro e w1 ⟨rfl,hb1⟩;go_wp2;go_ret;exact ⟨ah HT.out.symm,((Uf _ _).alloc (Ue _) _).trans (hb1.mono (by simp))⟩
theorem gm (a b r c d s:bI)(w:af)(ha:a.size<=maxLen)(hb:b.size<=maxLen)(hr:r.size<=maxLen)(hc:c.size<=maxLen)(hd:d.size<=maxLen)(hs:s.size<=maxLen) :
  Calls prog 108 #[.agg #[.string a,.string b,.string r,.string c,.string d,.string s]] w fun e w'=>e=.returned (.bool (bQ a b r c d s))/\ag w w':=by
 by_cases h1:eT a b=true
 ·by_cases h2:aR r=true
  ·by_cases h3:eT c d=true
   ·have HT:Hid (bQ a b r c d s=uI s):=zn h1 h2 h3;go_enter func108,ntmps108;go_wp2_with fail;refine (fZ _ _ _ ha hb).mono ?_;rintro e w1 ⟨rfl,hb1⟩;obtain ⟨hc1,hf1⟩:=jN hb1;have hz1:w.heap.size<w1.heap.size:=by have:=hb1.size;simp at this;omega
    go_wp2_with fail;refine (aM _ _ hr).mono ?_;rintro e w1' ⟨rfl,rfl⟩;go_wp2_with fail;refine (fZ _ _ _ hc hd).mono ?_;rintro e w2 ⟨rfl,hb2⟩;obtain ⟨hc2,hf2⟩:=jN hb2;have hz2:w.heap.size<w2.heap.size:=by have:=hb2.size;omega
    go_wp2_with (go_at_call 163;refine (CU _ _ hs).mono ?_;rintro e w3 ⟨rfl,rfl⟩)
    all_goals go_ret
    all_goals exact ⟨ah (HT.out.trans (by simp [uI, *])).symm,((Uf _ _).alloc (Ue _) _).trans ((hb1.mono (by simp)).trans (hb2.mono (by omega)))⟩
   have h3':eT c d=false:=by simpa using h3
   have HT:Hid (bQ a b r c d s=false):=zm h3';clear h3;go_enter func108,ntmps108;go_wp2_with fail;refine (fZ _ _ _ ha hb).mono ?_;rintro e w1 ⟨rfl,hb1⟩;obtain ⟨hc1,hf1⟩:=jN hb1;have hz1:w.heap.size<w1.heap.size:=by have:=hb1.size;simp at this;omega
   go_wp2_with fail;refine (aM _ _ hr).mono ?_;rintro e w1' ⟨rfl,rfl⟩;go_wp2_with fail;refine (fZ _ _ _ hc hd).mono ?_;rintro e w2 ⟨rfl,hb2⟩;go_wp2;go_ret;exact ⟨ah HT.out.symm,((Uf _ _).alloc (Ue _) _).trans ((hb1.mono (by simp)).trans (hb2.mono (by omega)))⟩
  have h2':aR r=false:=by simpa using h2
  have HT:Hid (bQ a b r c d s=false):=zl h2';clear h2;go_enter func108,ntmps108;go_wp2_with fail;refine (fZ _ _ _ ha hb).mono ?_;rintro e w1 ⟨rfl,hb1⟩;obtain ⟨hc1,hf1⟩:=jN hb1;go_wp2_with fail;refine (aM _ _ hr).mono ?_;rintro e w1' ⟨rfl,rfl⟩;go_wp2;go_ret;exact ⟨ah HT.out.symm,((Uf _ _).alloc (Ue _) _).trans (hb1.mono (by simp))⟩
 have h1':eT a b=false:=by simpa using h1
 have HT:Hid (bQ a b r c d s=false):=zk h1';clear h1;go_enter func108,ntmps108;go_wp2_with fail;refine (fZ _ _ _ ha hb).mono ?_;rintro e w1 ⟨rfl,hb1⟩;go_wp2;go_ret;exact ⟨ah HT.out.symm,((Uf _ _).alloc (Ue _) _).trans (hb1.mono (by simp))⟩
end Go.Proofs.YtajkkeikihhejaaGreat
namespace Go.Proofs.YtajkkeikihhejaaGreat
open Go.ChangeShapes Go.WideShapes Go.ChangeAt Go.RowKit
open Pl
attribute [local go_sem ↓] Go.wp_at_zero Go.wp_at_succ
theorem RP {w W w':af}{n:Nat}{x0 x1 x2 x3 x4 x5:Value}(h:W.cell? ⟨n,0,none⟩=some x0/\W.cell? ⟨n,1,none⟩=some x1/\W.cell? ⟨n,2,none⟩=some x2/\W.cell? ⟨n,3,none⟩=some x3/\W.cell? ⟨n,4,none⟩=some x4/\W.cell? ⟨n,5,none⟩=some x5/\n<W.heap.size/\Below n w W)(hb:ag W w'):w'.cell? ⟨n,0,none⟩=some x0/\w'.cell? ⟨n,1,none⟩=some x1/\w'.cell? ⟨n,2,none⟩=some x2/\w'.cell? ⟨n,3,none⟩=some x3/\w'.cell? ⟨n,4,none⟩=some x4/\w'.cell? ⟨n,5,none⟩=some x5/\n<w'.heap.size/\Below n w w':=by
 obtain ⟨h0,h1,h2,h3,h4,h5,hn,hB⟩:=h;have hc:∀ o,w'.cell? ⟨n,o,none⟩=W.cell? ⟨n,o,none⟩:=fun o=>hb.cell (p:=⟨n,o,none⟩) hn;refine ⟨by rw [hc];exact h0,by rw [hc];exact h1,by rw [hc];exact h2,by rw [hc];exact h3,by rw [hc];exact h4,by rw [hc];exact h5,Uc hn hb.size,hB.trans (hb.mono (Nat.le_of_lt hn))⟩
theorem yw (a b r c d s:bI)(w:af)(ha:a.size<=maxLen)(hb:b.size<=maxLen)(hr:r.size<=maxLen)(hc:c.size<=maxLen)(hd:d.size<=maxLen)(hs:s.size<=maxLen) :
  Calls prog 195 #[.agg #[.string a,.string b,.string r,.string c,.string d,.string s]] w fun e w'=>e=.returned (.string (aY a b r c d s))/\ag w w':=by
 by_cases hn:bQ a b r c d s=true
 ·obtain ⟨h1,h2,h3,h4⟩:=jS hn;have hx:=iG a b;have hy:=iG c d;have Xj:=(nO h2).2;have hs12:=DZ h4;clear h1 h2 h3 h4;go_enter func195,ntmps195;go_wp2_with fail;refine (dY _ _ _ _ _ _ _ ha hb hr hc hd hs).mono ?_;rintro e w1 ⟨rfl,hb1⟩;obtain ⟨hc1,hf1⟩:=jN hb1;have hz1:w.heap.size<w1.heap.size:=by have:=hb1.size;simp at this;omega
  have k:∀ o v,(w.alloc (.cells #[.string a,.string b,.string r,.string c,.string d,.string s] 46)).cell? ⟨w.heap.size,o,none⟩=some v->w1.cell? ⟨w.heap.size,o,none⟩=some v:=fun o v h=>by rw [hc1 _ _ (by simp)];exact h
  have k0:=k 0 (.string a) (by simp);have k1:=k 1 (.string b) (by simp);have k2:=k 2 (.string r) (by simp);have k3:=k 3 (.string c) (by simp);have k4:=k 4 (.string d) (by simp);have k5:=k 5 (.string s) (by simp);have HB1:ag w w1:=((Uf _ _).alloc (Ue _) _).trans (hb1.mono (by simp));clear k hb1 hc1 hf1;have q1:(9223372036854775807<(aC a b).size+1)=False:=by simp;omega
  have q2:(9223372036854775807<(aC a b).size+1+r.size)=False:=by simp;omega
  have q3:(9223372036854775807<(aC a b).size+1+r.size+1)=False:=by simp;omega
  have q4:(9223372036854775807<(aC a b).size+1+r.size+1+(aC c d).size)=False:=by simp;omega
  go_wp2_with fail
  go_region_held3 (fun w'=>w'.cell? ⟨w.heap.size,0,none⟩=some (.string a)/\w'.cell? ⟨w.heap.size,1,none⟩=some (.string b)/\w'.cell? ⟨w.heap.size,2,none⟩=some (.string r)/\w'.cell? ⟨w.heap.size,3,none⟩=some (.string c)/\w'.cell? ⟨w.heap.size,4,none⟩=some (.string d)/\w'.cell? ⟨w.heap.size,5,none⟩=some (.string s)/\w.heap.size<w'.heap.size/\ag w w')
   (first|exact RP (by assumption) hbx|exact ⟨k0,k1,k2,k3,k4,k5,hz1,HB1.drew⟩)
   (first|(go_at_call 225;refine (yt _ _ _ (by assumption) (by assumption)).mono ?_;rintro e w' ⟨rfl,hbx⟩))
  rename_i hH;obtain ⟨g0,g1,g2,g3,g4,g5,gz,gB⟩:=hH;clear k0 k1 k2 k3 k4 k5 hbx q1 q2 q3 q4 HB1;by_cases he:s.toList.isEmpty=true
  ·have HT:Hid (aY a b r c d s=_):=mR hn he;go_wp2;go_ret;exact ⟨gp HT.out.symm,gB⟩
  have he':s.toList.isEmpty=false:=by simpa using he
  have HT:Hid (aY a b r c d s=_):=mU hn he';clear he;go_wp2;go_ret;exact ⟨gp HT.out.symm,gB⟩
 have hn':bQ a b r c d s=false:=by simpa using hn
 have HT:Hid (aY a b r c d s=⟨#[]⟩):=sV hn';clear hn;go_enter func195,ntmps195;go_wp2_with fail;refine (dY _ _ _ _ _ _ _ ha hb hr hc hd hs).mono ?_;rintro e w1 ⟨rfl,hb1⟩;go_wp2;go_ret;exact ⟨gp HT.out.symm,((Uf _ _).alloc (Ue _) _).trans (hb1.mono (by simp))⟩
theorem yx (a b r c d s:bI)(w:af)(ha:a.size<=maxLen)(hb:b.size<=maxLen)(hr:r.size<=maxLen)(hc:c.size<=maxLen)(hd:d.size<=maxLen)(hs:s.size<=maxLen) :
  Calls prog 160 #[.agg #[.string a,.string b,.string r,.string c,.string d,.string s]] w fun e w'=>e=.returned (.string (aY a b r c d s))/\ag w w':=by
 by_cases hn:bQ a b r c d s=true
 ·obtain ⟨h1,h2,h3,h4⟩:=jS hn;have hx:=iG a b;have hy:=iG c d;have Xj:=(nO h2).2;have hs12:=DZ h4;clear h1 h2 h3 h4;go_enter func160,ntmps160;go_wp2_with fail;refine (gm _ _ _ _ _ _ _ ha hb hr hc hd hs).mono ?_;rintro e w1 ⟨rfl,hb1⟩;obtain ⟨hc1,hf1⟩:=jN hb1;have hz1:w.heap.size<w1.heap.size:=by have:=hb1.size;simp at this;omega
  have k:∀ o v,(w.alloc (.cells #[.string a,.string b,.string r,.string c,.string d,.string s] 46)).cell? ⟨w.heap.size,o,none⟩=some v->w1.cell? ⟨w.heap.size,o,none⟩=some v:=fun o v h=>by rw [hc1 _ _ (by simp)];exact h
  have k0:=k 0 (.string a) (by simp);have k1:=k 1 (.string b) (by simp);have k2:=k 2 (.string r) (by simp);have k3:=k 3 (.string c) (by simp);have k4:=k 4 (.string d) (by simp);have k5:=k 5 (.string s) (by simp);have HB1:ag w w1:=((Uf _ _).alloc (Ue _) _).trans (hb1.mono (by simp));clear k hb1 hc1 hf1;have q1:(9223372036854775807<(aC a b).size+1)=False:=by simp;omega
  have q2:(9223372036854775807<(aC a b).size+1+r.size)=False:=by simp;omega
  have q3:(9223372036854775807<(aC a b).size+1+r.size+1)=False:=by simp;omega
  have q4:(9223372036854775807<(aC a b).size+1+r.size+1+(aC c d).size)=False:=by simp;omega
  go_wp2_with fail
  go_region_held3 (fun w'=>w'.cell? ⟨w.heap.size,0,none⟩=some (.string a)/\w'.cell? ⟨w.heap.size,1,none⟩=some (.string b)/\w'.cell? ⟨w.heap.size,2,none⟩=some (.string r)/\w'.cell? ⟨w.heap.size,3,none⟩=some (.string c)/\w'.cell? ⟨w.heap.size,4,none⟩=some (.string d)/\w'.cell? ⟨w.heap.size,5,none⟩=some (.string s)/\w.heap.size<w'.heap.size/\ag w w')
   (first|exact RP (by assumption) hbx|exact ⟨k0,k1,k2,k3,k4,k5,hz1,HB1.drew⟩)
   (first|(go_at_call 207;refine (yu _ _ _ (by assumption) (by assumption)).mono ?_;rintro e w' ⟨rfl,hbx⟩))
  rename_i hH;obtain ⟨g0,g1,g2,g3,g4,g5,gz,gB⟩:=hH;clear k0 k1 k2 k3 k4 k5 hbx q1 q2 q3 q4 HB1;by_cases he:s.toList.isEmpty=true
  ·have HT:Hid (aY a b r c d s=_):=mR hn he;go_wp2;go_ret;exact ⟨gp HT.out.symm,gB⟩
  have he':s.toList.isEmpty=false:=by simpa using he
  have HT:Hid (aY a b r c d s=_):=mU hn he';clear he;go_wp2;go_ret;exact ⟨gp (HT.out.trans (by simp only [ByteArray.append_assoc])).symm,gB⟩
 have hn':bQ a b r c d s=false:=by simpa using hn
 have HT:Hid (aY a b r c d s=⟨#[]⟩):=sV hn';clear hn;go_enter func160,ntmps160;go_wp2_with fail;refine (gm _ _ _ _ _ _ _ ha hb hr hc hd hs).mono ?_;rintro e w1 ⟨rfl,hb1⟩;go_wp2;go_ret;exact ⟨gp HT.out.symm,((Uf _ _).alloc (Ue _) _).trans (hb1.mono (by simp))⟩
end Go.Proofs.YtajkkeikihhejaaGreat
namespace Go.Proofs.YtajkkeikihhejaaGreat
open Go.ChangeShapes Go.WideShapes Go.ChangeAt Go.RowKit
open Pl
attribute [local go_sem ↓] Go.wp_at_zero Go.wp_at_succ
theorem IU {w W w':af}{n m k:Nat}{x0 x1 x2 x3 x4 x5 y0 y1 y2 y3 y4 y5:Value}(hk:k<=n)(h:W.cell? ⟨n,0,none⟩=some x0/\W.cell? ⟨n,1,none⟩=some x1/\W.cell? ⟨n,2,none⟩=some x2/\W.cell? ⟨n,3,none⟩=some x3/\W.cell? ⟨n,4,none⟩=some x4/\W.cell? ⟨n,5,none⟩=some x5/\W.cell? ⟨m,0,none⟩=some y0/\W.cell? ⟨m,1,none⟩=some y1/\W.cell? ⟨m,2,none⟩=some y2/\W.cell? ⟨m,3,none⟩=some y3/\W.cell? ⟨m,4,none⟩=some y4/\W.cell? ⟨m,5,none⟩=some y5/\n<W.heap.size/\m<W.heap.size/\Below k w W)(hb:ag W w'):w'.cell? ⟨n,0,none⟩=some x0/\w'.cell? ⟨n,1,none⟩=some x1/\w'.cell? ⟨n,2,none⟩=some x2/\w'.cell? ⟨n,3,none⟩=some x3/\w'.cell? ⟨n,4,none⟩=some x4/\w'.cell? ⟨n,5,none⟩=some x5/\w'.cell? ⟨m,0,none⟩=some y0/\w'.cell? ⟨m,1,none⟩=some y1/\w'.cell? ⟨m,2,none⟩=some y2/\w'.cell? ⟨m,3,none⟩=some y3/\w'.cell? ⟨m,4,none⟩=some y4/\w'.cell? ⟨m,5,none⟩=some y5/\n<w'.heap.size/\m<w'.heap.size/\Below k w w':=by
 obtain ⟨h0,h1,h2,h3,h4,h5,h6,h7,h8,h9,h10,h11,hn,hm,hB⟩:=h;have hc:∀ o,w'.cell? ⟨n,o,none⟩=W.cell? ⟨n,o,none⟩:=fun o=>hb.cell (p:=⟨n,o,none⟩) hn;have hd:∀ o,w'.cell? ⟨m,o,none⟩=W.cell? ⟨m,o,none⟩:=fun o=>hb.cell (p:=⟨m,o,none⟩) hm;exact ⟨by rw [hc];exact h0,by rw [hc];exact h1,by rw [hc];exact h2,by rw [hc];exact h3,by rw [hc];exact h4,by rw [hc];exact h5,by rw [hd];exact h6,by rw [hd];exact h7,by rw [hd];exact h8,by rw [hd];exact h9,by rw [hd];exact h10,by rw [hd];exact h11,Uc hn hb.size,Uc hm hb.size,hB.trans (hb.mono (by omega))⟩
theorem Ab (w:af)(o1 o2:Obj):ag w ((w.alloc o1).alloc o2) :=
 ((Uf _ _).alloc (Ue _) _).alloc (by simp) _
def IV (a b r c d s a' b' r' c' d' s':ByteArray):Int:=Lib.compareBytes (aY a b r c d s).data.toList (aY a' b' r' c' d' s').data.toList
theorem uV (x y:List UInt8):decide (Lib.compareBytes x y<0)=Op.bytesLess x y:=by
 induction x generalizing y with
 | nil=>cases y <;> simp [Lib.compareBytes,Op.bytesLess]
 | cons a x ih =>
  cases y with
  | nil=>simp [Lib.compareBytes,Op.bytesLess]
  | cons b y =>
   unfold Lib.compareBytes Op.bytesLess;by_cases h:a<b
   ·simp [h]
   by_cases h2:b<a
   ·have hne:(a==b)=false:=by simp;intro e;subst e;exact h h2
    simp [h,h2,hne]
   have he:a=b:=by
    have h1:=UInt8.not_lt.mp h;have h3:=UInt8.not_lt.mp h2;exact UInt8.le_antisymm h3 h1
   subst he;simp [ih]
theorem RQ (a b r c d s a' b' r' c' d' s':bI)(w W:af)(hW:W=((w.alloc (.cells #[.string a,.string b,.string r,.string c,.string d,.string s] 46)).alloc (.cells #[.string a',.string b',.string r',.string c',.string d',.string s'] 46))):W.drew.cell? ⟨w.heap.size,0,none⟩=some (.string a)/\W.drew.cell? ⟨w.heap.size,1,none⟩=some (.string b)/\W.drew.cell? ⟨w.heap.size,2,none⟩=some (.string r)/\W.drew.cell? ⟨w.heap.size,3,none⟩=some (.string c)/\W.drew.cell? ⟨w.heap.size,4,none⟩=some (.string d)/\W.drew.cell? ⟨w.heap.size,5,none⟩=some (.string s)/\W.drew.cell? ⟨w.heap.size+1,0,none⟩=some (.string a')/\W.drew.cell? ⟨w.heap.size+1,1,none⟩=some (.string b')/\W.drew.cell? ⟨w.heap.size+1,2,none⟩=some (.string r')/\W.drew.cell? ⟨w.heap.size+1,3,none⟩=some (.string c')/\W.drew.cell? ⟨w.heap.size+1,4,none⟩=some (.string d')/\W.drew.cell? ⟨w.heap.size+1,5,none⟩=some (.string s')/\w.heap.size<W.drew.heap.size/\w.heap.size+1<W.drew.heap.size/\ag w (W.drew):=by
 subst hW;refine ⟨?_,?_,?_,?_,?_,?_,?_,?_,?_,?_,?_,?_,?_,?_,?_⟩
 all_goals first|exact (Ab _ _ _).drew|(simp;done)|(simp;omega)
theorem uW (a b r c d s a' b' r' c' d' s':bI)(w:af)(ha:a.size<=maxLen)(hb:b.size<=maxLen)(hr:r.size<=maxLen)(hc:c.size<=maxLen)(hd:d.size<=maxLen)(hs:s.size<=maxLen)(ga:a'.size<=maxLen)(gb:b'.size<=maxLen)(gr:r'.size<=maxLen)(gc:c'.size<=maxLen)(gd:d'.size<=maxLen)(gs:s'.size<=maxLen) :
  Calls prog 106 #[.agg #[.string a,.string b,.string r,.string c,.string d,.string s],.agg #[.string a',.string b',.string r',.string c',.string d',.string s']] w fun e w'=>e=.returned (.int .i64 (IV a b r c d s a' b' r' c' d' s'))/\ag w w':=by
 have H0:=RQ a b r c d s a' b' r' c' d' s' w _ rfl;go_enter func106,ntmps106;go_wp2_with fail
 go_region_held3 (fun w'=>w'.cell? ⟨w.heap.size,0,none⟩=some (.string a)/\w'.cell? ⟨w.heap.size,1,none⟩=some (.string b)/\w'.cell? ⟨w.heap.size,2,none⟩=some (.string r)/\w'.cell? ⟨w.heap.size,3,none⟩=some (.string c)/\w'.cell? ⟨w.heap.size,4,none⟩=some (.string d)/\w'.cell? ⟨w.heap.size,5,none⟩=some (.string s)/\w'.cell? ⟨w.heap.size+1,0,none⟩=some (.string a')/\w'.cell? ⟨w.heap.size+1,1,none⟩=some (.string b')/\w'.cell? ⟨w.heap.size+1,2,none⟩=some (.string r')/\w'.cell? ⟨w.heap.size+1,3,none⟩=some (.string c')/\w'.cell? ⟨w.heap.size+1,4,none⟩=some (.string d')/\w'.cell? ⟨w.heap.size+1,5,none⟩=some (.string s')/\w.heap.size<w'.heap.size/\w.heap.size+1<w'.heap.size/\ag w w')
  (first|assumption|exact IU (Ue _) (by assumption) hbx|exact H0)
  (first|(go_at_call 160;refine (yx _ _ _ _ _ _ _ (by assumption) (by assumption) (by assumption) (by assumption) (by assumption) (by assumption)).mono ?_;rintro e w' ⟨rfl,hbx⟩)|(go_at_call 159;refine (Tryz.strings_Compare _ _ _).mono ?_;rintro e w' ⟨rfl,rfl⟩))
 rename_i hH;obtain ⟨-,-,-,-,-,-,-,-,-,-,-,-,-,-,gB⟩:=hH;go_wp2;go_ret;exact ⟨rfl,gB⟩
def fT (a b r c d s a' b' r' c' d' s':ByteArray):Bool:=bQ a b r c d s&&bQ a' b' r' c' d' s'&&Op.bytesLess (aY a b r c d s).toList (aY a' b' r' c' d' s').toList
theorem Ac {a b r c d s a' b' r' c' d' s':ByteArray}(h:bQ a b r c d s=false):fT a b r c d s a' b' r' c' d' s'=false:=by simp [fT,h]
theorem Ad {a b r c d s a' b' r' c' d' s':ByteArray}(h:bQ a' b' r' c' d' s'=false):fT a b r c d s a' b' r' c' d' s'=false:=by simp [fT,h]
theorem tN {a b r c d s a' b' r' c' d' s':ByteArray}(h:bQ a b r c d s=true)(h2:bQ a' b' r' c' d' s'=true):fT a b r c d s a' b' r' c' d' s'=Op.bytesLess (aY a b r c d s).toList (aY a' b' r' c' d' s').toList:=by simp [fT,h,h2]
theorem IW {a b r c d s a' b' r' c' d' s':ByteArray}(h:bQ a b r c d s=true)(h2:bQ a' b' r' c' d' s'=true):fT a b r c d s a' b' r' c' d' s'=decide (IV a b r c d s a' b' r' c' d' s'<0):=by
 rw [tN h h2,IV,uV,Go.ByteArray.toList_eq,Go.ByteArray.toList_eq]
theorem nG (a b r c d s a' b' r' c' d' s':bI)(w:af)(ha:a.size<=maxLen)(hb:b.size<=maxLen)(hr:r.size<=maxLen)(hc:c.size<=maxLen)(hd:d.size<=maxLen)(hs:s.size<=maxLen)(ga:a'.size<=maxLen)(gb:b'.size<=maxLen)(gr:r'.size<=maxLen)(gc:c'.size<=maxLen)(gd:d'.size<=maxLen)(gs:s'.size<=maxLen) :
  Calls prog 137 #[.agg #[.string a,.string b,.string r,.string c,.string d,.string s],.agg #[.string a',.string b',.string r',.string c',.string d',.string s']] w fun e w'=>e=.returned (.bool (fT a b r c d s a' b' r' c' d' s'))/\ag w w':=by
 have H0:=RQ a b r c d s a' b' r' c' d' s' w _ rfl;by_cases h1:bQ a b r c d s=true
 ·by_cases h2:bQ a' b' r' c' d' s'=true
  ·have HT:Hid (fT a b r c d s a' b' r' c' d' s'=_):=tN h1 h2;go_enter func137,ntmps137;go_wp2_with fail
   go_region_held3 (fun w'=>w'.cell? ⟨w.heap.size,0,none⟩=some (.string a)/\w'.cell? ⟨w.heap.size,1,none⟩=some (.string b)/\w'.cell? ⟨w.heap.size,2,none⟩=some (.string r)/\w'.cell? ⟨w.heap.size,3,none⟩=some (.string c)/\w'.cell? ⟨w.heap.size,4,none⟩=some (.string d)/\w'.cell? ⟨w.heap.size,5,none⟩=some (.string s)/\w'.cell? ⟨w.heap.size+1,0,none⟩=some (.string a')/\w'.cell? ⟨w.heap.size+1,1,none⟩=some (.string b')/\w'.cell? ⟨w.heap.size+1,2,none⟩=some (.string r')/\w'.cell? ⟨w.heap.size+1,3,none⟩=some (.string c')/\w'.cell? ⟨w.heap.size+1,4,none⟩=some (.string d')/\w'.cell? ⟨w.heap.size+1,5,none⟩=some (.string s')/\w.heap.size<w'.heap.size/\w.heap.size+1<w'.heap.size/\ag w w')
    (first|assumption|exact IU (Ue _) (by assumption) hbx|exact H0)
    (first|(go_at_call_of 127 (Value.agg #[.string a,.string b,.string r,.string c,.string d,.string s]);refine (dY a b r c d s _ ha hb hr hc hd hs).mono ?_;rintro e w' ⟨he,hbx⟩;rw [h1]at he;subst he)|(go_at_call_of 127 (Value.agg #[.string a',.string b',.string r',.string c',.string d',.string s']);refine (dY a' b' r' c' d' s' _ ga gb gr gc gd gs).mono ?_;rintro e w' ⟨he,hbx⟩;rw [h2]at he;subst he)|(go_at_call 195;refine (yw _ _ _ _ _ _ _ (by assumption) (by assumption) (by assumption) (by assumption) (by assumption) (by assumption)).mono ?_;rintro e w' ⟨rfl,hbx⟩))
   rename_i hH;obtain ⟨-,-,-,-,-,-,-,-,-,-,-,-,-,-,gB⟩:=hH;clear H0;go_wp2;go_ret;exact ⟨ah HT.out.symm,gB⟩
  have h2':bQ a' b' r' c' d' s'=false:=by simpa using h2
  have HT:Hid (fT a b r c d s a' b' r' c' d' s'=false):=Ad h2';clear h2;obtain ⟨u0,u1,u2,u3,u4,u5,u6,u7,u8,u9,u10,u11,un,um,uB⟩:=H0;go_enter func137,ntmps137;go_wp2_with fail
  go_region_with (first|(go_at_call_of 127 (Value.agg #[.string a,.string b,.string r,.string c,.string d,.string s]);refine (dY a b r c d s _ ha hb hr hc hd hs).mono ?_;rintro e w1 ⟨he,hbx⟩;rw [h1]at he;subst he;obtain ⟨k0,k1,k2,k3,k4,k5,k6,k7,k8,k9,k10,k11,kn,km,kB⟩:=IU (Ue _) ⟨u0,u1,u2,u3,u4,u5,u6,u7,u8,u9,u10,u11,un,um,uB⟩ hbx)|(go_at_call_of 127 (Value.agg #[.string a',.string b',.string r',.string c',.string d',.string s']);refine (dY a' b' r' c' d' s' _ ga gb gr gc gd gs).mono ?_;rintro e w2 ⟨he,hby⟩;rw [h2']at he;subst he))
  all_goals clear u0 u1 u2 u3 u4 u5 u6 u7 u8 u9 u10 u11
  all_goals go_wp2
  all_goals go_ret
  all_goals exact ⟨ah HT.out.symm,kB.trans (hby.mono (by omega))⟩
 have h1':bQ a b r c d s=false:=by simpa using h1
 have HT:Hid (fT a b r c d s a' b' r' c' d' s'=false):=Ac h1';clear h1;obtain ⟨u0,u1,u2,u3,u4,u5,u6,u7,u8,u9,u10,u11,un,um,uB⟩:=H0;go_enter func137,ntmps137;go_wp2_with fail
 go_region_with (go_at_call_of 127 (Value.agg #[.string a,.string b,.string r,.string c,.string d,.string s]);refine (dY a b r c d s _ ha hb hr hc hd hs).mono ?_;rintro e w1 ⟨he,hbx⟩;rw [h1']at he;subst he)
 all_goals clear u0 u1 u2 u3 u4 u5 u6 u7 u8 u9 u10 u11
 all_goals go_wp2
 all_goals go_ret
 all_goals exact ⟨ah HT.out.symm,uB.trans (hbx.mono (by omega))⟩
theorem BJ (a b r c d s a' b' r' c' d' s':bI)(w:af)(ha:a.size<=maxLen)(hb:b.size<=maxLen)(hr:r.size<=maxLen)(hc:c.size<=maxLen)(hd:d.size<=maxLen)(hs:s.size<=maxLen)(ga:a'.size<=maxLen)(gb:b'.size<=maxLen)(gr:r'.size<=maxLen)(gc:c'.size<=maxLen)(gd:d'.size<=maxLen)(gs:s'.size<=maxLen) :
  Calls prog 141 #[.agg #[.string a,.string b,.string r,.string c,.string d,.string s],.agg #[.string a',.string b',.string r',.string c',.string d',.string s']] w fun e w'=>e=.returned (.bool (fT a b r c d s a' b' r' c' d' s'))/\ag w w':=by
 by_cases h1:bQ a b r c d s=true
 ·by_cases h2:bQ a' b' r' c' d' s'=true
  ·have HT:Hid (fT a b r c d s a' b' r' c' d' s'=decide (IV a b r c d s a' b' r' c' d' s'<0)):=IW h1 h2;go_enter func141,ntmps141;go_wp2_with fail;refine (gm _ _ _ _ _ _ _ ha hb hr hc hd hs).mono ?_;rintro e w1 ⟨rfl,hb1⟩;obtain ⟨hc1,hf1⟩:=jN hb1;have hz1:w.heap.size+1<w1.heap.size:=by have:=hb1.size;simp at this;omega
   have hy1:w.heap.size<w1.heap.size:=by omega
   have HB1:ag w w1:=(Ab _ _ _).trans (hb1.mono (by simp;omega));go_wp2_with fail;refine (gm _ _ _ _ _ _ _ ga gb gr gc gd gs).mono ?_;rintro e w2 ⟨rfl,hb2⟩;obtain ⟨hc2,hf2⟩:=jN hb2;have hz2:w.heap.size+1<w2.heap.size:=by have:=hb2.size;omega
   have hy2:w.heap.size<w2.heap.size:=by omega
   go_wp2_with fail;refine (uW _ _ _ _ _ _ _ _ _ _ _ _ _ ha hb hr hc hd hs ga gb gr gc gd gs).mono ?_;rintro e w3 ⟨rfl,hb3⟩;go_wp2;go_ret;exact ⟨ah HT.out.symm,HB1.trans ((hb2.mono (by omega)).trans (hb3.mono (by omega)))⟩
  have h2':bQ a' b' r' c' d' s'=false:=by simpa using h2
  have HT:Hid (fT a b r c d s a' b' r' c' d' s'=false):=Ad h2';clear h2;go_enter func141,ntmps141;go_wp2_with fail;refine (gm _ _ _ _ _ _ _ ha hb hr hc hd hs).mono ?_;rintro e w1 ⟨rfl,hb1⟩;obtain ⟨hc1,hf1⟩:=jN hb1;have hz1:w.heap.size+1<w1.heap.size:=by have:=hb1.size;simp at this;omega
  have hy1:w.heap.size<w1.heap.size:=by omega
  have HB1:ag w w1:=(Ab _ _ _).trans (hb1.mono (by simp;omega));go_wp2_with fail;refine (gm _ _ _ _ _ _ _ ga gb gr gc gd gs).mono ?_;rintro e w2 ⟨rfl,hb2⟩;go_wp2;go_ret;exact ⟨ah HT.out.symm,HB1.trans (hb2.mono (by omega))⟩
 have h1':bQ a b r c d s=false:=by simpa using h1
 have HT:Hid (fT a b r c d s a' b' r' c' d' s'=false):=Ac h1';clear h1;go_enter func141,ntmps141;go_wp2_with fail;refine (gm _ _ _ _ _ _ _ ha hb hr hc hd hs).mono ?_;rintro e w1 ⟨rfl,hb1⟩;obtain ⟨hc1,hf1⟩:=jN hb1;have hz1:w.heap.size+1<w1.heap.size:=by have:=hb1.size;simp at this;omega
 have hy1:w.heap.size<w1.heap.size:=by omega
 have HB1:ag w w1:=(Ab _ _ _).trans (hb1.mono (by simp;omega));go_wp2;go_ret;exact ⟨ah HT.out.symm,HB1⟩
end Go.Proofs.YtajkkeikihhejaaGreat
