/- Contracts of the law's helpers that mark tuples, and that look whether the marks are held. -/
import Derived.Test.YtogjfppkbkgaeaaGreatJ6
import Derived.Test.YtogjfppkbkgaeaaGreatJ7
import Derived.Deep.RegionHeld3
import Derived.Deep.DrawnRows
import Derived.Test.YtogjfppkbkgaeaaGreatJ32
import Derived.Test.YtogjfppkbkgaeaaGreatMarkFac
import Derived.Test.YtogjfppkbkgaeaaGreatJ19
import Derived.Test.YtogjfppkbkgaeaaGreatJ2
import Derived.Test.YtogjfppkbkgaeaaGreatJ21
namespace Go.Proofs.YtogjfppkbkgaeaaGreat
open Go.ChangeShapes Go.WideShapes Go.ChangeAt Go.RowKit
open Pl
def MH (k:Nat) (xs:List Tp):List Tp:=(List.range xs.length).map fun i=>⟨bz (k + 6 * i),bz (k + 6 * i + 1),bz (k + 6 * i + 2),bz (k + 6 * i + 3),bz (k + 6 * i + 4),bz (k + 6 * i + 5)⟩
theorem LC (k:Nat) (xs:List Tp):(MH k xs).length=xs.length:=by simp [MH]
theorem MI (k:Nat) (xs:List Tp) (i:Nat) (h:i < (MH k xs).length):(MH k xs)[i]=⟨bz (k + 6 * i),bz (k + 6 * i + 1),bz (k + 6 * i + 2),bz (k + 6 * i + 3),bz (k + 6 * i + 4),bz (k + 6 * i + 5)⟩:=by simp [MH]
theorem Sl.chg {S:Nat→Prop} {w w':World} {ad:Option Addr} {xs:List Tp} (h:Sl w ad xs) (hc:Chg S w w') (hn:∀ g o,xs ≠ []→ad=some ⟨g,o,none⟩→¬ S g):Sl w' ad xs:=by
 rcases h with h | ⟨b,off,e,hb,hr⟩
 ·exact .inl h
 ·by_cases hx:xs=[]
  ·exact .inl hx
  ·exact .inr ⟨b,off,e,Nat.lt_of_lt_of_le hb hc.size,fun i hi=>(hr i hi).same fun o=>hc.cell hb (hn b off hx e)⟩
set_option maxRecDepth 8000 in
set_option maxHeartbeats 4000000 in
theorem xC (ad:Option Addr) (cap:Nat) (xs:List Tp) (k:Nat) (w:World) (hs:Sl w ad xs) (hg:xs ≠ []→∃ g,ad=some ⟨g,0,none⟩∧cB w g) (h0:0 < k) (h1:k + 6 * xs.length≤1000000000) :
  Calls Tryz.prog 17 #[.slice ad xs.length cap,.int .i64 (k:Int)] w fun e w'=>e=.returned (.int .i64 ((k + 6 * xs.length:Nat):Int))∧Sl w' ad (MH k xs)∧Chg (fun g=>xs ≠ []∧ad=some ⟨g,0,none⟩) w w':=by
 by_cases hz:xs=[]
 ·subst hz;go_enter Tryz.func17,Tryz.ntmps17;go_wp2;go_loopw [1,5] (fun kv i wr=>kv=.int .i64 (k:Int)∧i=.int .i64 0∧wr=w) (fun _ _ _=>0);case atStart=>exact ⟨rfl,rfl,rfl⟩
  case round =>
   obtain ⟨rfl,rfl,rfl⟩:=hrel;go_wp2;go_ret;exact ⟨rfl,.inl rfl,Chg.refl _ _⟩
 obtain ⟨g,rfl,hfree⟩:=hg hz;rcases hs with h | ⟨b,off,hbo,hb,hr⟩
 ·exact absurd h hz
 obtain ⟨rfl,rfl⟩:g=b∧0=off:=by injection hbo with e; injection e with e1 e2; exact ⟨e1,e2⟩
 have HZ:Hid (xs ≠ []):=hz;clear hz hbo hg;go_enter Tryz.func17,Tryz.ntmps17;go_wp2;go_loopw [1,5] (fun kv i wr=>∃ j:Nat,j≤xs.length∧kv=.int .i64 ((k + 6 * j:Nat):Int)∧i=.int .i64 (j:Int)∧Hid (∀ (x:Nat) (hx:x < xs.length),I5 wr g (x * 6) (if x < j then ⟨bz (k + 6 * x),bz (k + 6 * x + 1),bz (k + 6 * x + 2),bz (k + 6 * x + 3),bz (k + 6 * x + 4),bz (k + 6 * x + 5)⟩ else xs[x]))∧Hid (cB wr g)∧Hid (Chg (fun y=>xs ≠ []∧(some ⟨g,0,none⟩:Option Addr)=some ⟨y,0,none⟩) w wr)) (fun _ i _=>xs.length - (intOf i).toNat);case atStart=>exact ⟨0,Nat.zero_le _,rfl,rfl,fun x hx=>by have:=hr x hx; simpa using this,hfree,Chg.refl _ _⟩
 case round =>
  clear hr;obtain ⟨j,hj,rfl,rfl,HC,HFR,HCH⟩:=hrel;by_cases hlt:j < xs.length
  ·obtain ⟨c0,c1,c2,c3,c4,c5⟩:=HC.out j hlt;rw [if_neg (by omega)] at c0 c1 c2 c3 c4 c5;have hgl:g < wr.heap.size:=Nat.lt_of_lt_of_le hb HCH.out.size;have hj1:(0:Int)≤(j:Int):=by omega
   have hj2:(j:Int) < (xs.length:Int):=by omega
   have hjb:k + 6 * j + 6≤1000000000:=by omega
   have HV0:Hid (Chg (fun y=>y=g) wr wr):=Chg.refl _ _;have HO0:Hid (∀ o,(∀ c,c < 0→o ≠ j * 6 + c)→wr.cell? ⟨g,o,none⟩=wr.cell? ⟨g,o,none⟩):=fun o _=>rfl;go_wp2_with fail;refine (aQ _ (k + 6 * j) _ (by omega) (by omega) (by omega)).mono ?_;rintro e u0 ⟨rfl,hb0⟩;have HB0:Hid (Below wr.heap.size wr u0):=hb0;have e0_0:u0.cell? ⟨g,j * 6,none⟩=some (.string xs[j].a):=mK hb0 hgl c0;have e0_1:u0.cell? ⟨g,j * 6 + 1,none⟩=some (.string xs[j].b):=mK hb0 hgl c1;have e0_2:u0.cell? ⟨g,j * 6 + 2,none⟩=some (.string xs[j].r):=mK hb0 hgl c2;have e0_3:u0.cell? ⟨g,j * 6 + 3,none⟩=some (.string xs[j].c):=mK hb0 hgl c3;have e0_4:u0.cell? ⟨g,j * 6 + 4,none⟩=some (.string xs[j].d):=mK hb0 hgl c4;have e0_5:u0.cell? ⟨g,j * 6 + 5,none⟩=some (.string xs[j].s):=mK hb0 hgl c5;have fz0:∀ y,u0.frozen? ⟨g,y,none⟩=false:=fun y=>mF hb0 hgl (HV0.out.free g hgl HFR.out y);obtain ⟨v1,hV1⟩:∃ v,v=u0.setCell ⟨g,j * 6,none⟩ (.string (bz (k + 6 * j))):=⟨_,rfl⟩;have HV1:Hid (Chg (fun y=>y=g) wr v1):=HV0.out.trans ((Chg.of HB0.out).trans (by rw [hV1]; exact Chg.set _ rfl));have hg1:g < v1.heap.size:=Nat.lt_of_lt_of_le hgl HV1.out.size;have HO1:Hid (∀ o,(∀ c,c < 1→o ≠ j * 6 + c)→v1.cell? ⟨g,o,none⟩=wr.cell? ⟨g,o,none⟩):=fun o ho=>by rw [hV1,mO (by have:=ho 0 (by omega); omega),HB0.out.cell (p:=⟨g,o,none⟩) hgl]
   have HW1_0:Hid (v1.cell? ⟨g,j * 6,none⟩=some (.string (bz (k + 6 * j)))):=by show _=_; rw [hV1]; exact mS e0_0
   replace c1:v1.cell? ⟨g,j * 6 + 1,none⟩=some (.string xs[j].b):=by rw [hV1,mO (by omega)]; exact e0_1
   replace c2:v1.cell? ⟨g,j * 6 + 2,none⟩=some (.string xs[j].r):=by rw [hV1,mO (by omega)]; exact e0_2
   replace c3:v1.cell? ⟨g,j * 6 + 3,none⟩=some (.string xs[j].c):=by rw [hV1,mO (by omega)]; exact e0_3
   replace c4:v1.cell? ⟨g,j * 6 + 4,none⟩=some (.string xs[j].d):=by rw [hV1,mO (by omega)]; exact e0_4
   replace c5:v1.cell? ⟨g,j * 6 + 5,none⟩=some (.string xs[j].s):=by rw [hV1,mO (by omega)]; exact e0_5
   clear hb0 c0;go_wp2_with fail;rw [← hV1];refine (aQ _ (k + 6 * j + 1) _ (by omega) (by omega) (by omega)).mono ?_;rintro e u1 ⟨rfl,hb1⟩;have HB1:Hid (Below v1.heap.size v1 u1):=hb1;have e1_1:u1.cell? ⟨g,j * 6 + 1,none⟩=some (.string xs[j].b):=mK hb1 hg1 c1;have e1_2:u1.cell? ⟨g,j * 6 + 2,none⟩=some (.string xs[j].r):=mK hb1 hg1 c2;have e1_3:u1.cell? ⟨g,j * 6 + 3,none⟩=some (.string xs[j].c):=mK hb1 hg1 c3;have e1_4:u1.cell? ⟨g,j * 6 + 4,none⟩=some (.string xs[j].d):=mK hb1 hg1 c4;have e1_5:u1.cell? ⟨g,j * 6 + 5,none⟩=some (.string xs[j].s):=mK hb1 hg1 c5;have fz1:∀ y,u1.frozen? ⟨g,y,none⟩=false:=fun y=>mF hb1 hg1 (HV1.out.free g hgl HFR.out y);obtain ⟨v2,hV2⟩:∃ v,v=u1.setCell ⟨g,j * 6 + 1,none⟩ (.string (bz (k + 6 * j + 1))):=⟨_,rfl⟩;have HV2:Hid (Chg (fun y=>y=g) wr v2):=HV1.out.trans ((Chg.of HB1.out).trans (by rw [hV2]; exact Chg.set _ rfl));have hg2:g < v2.heap.size:=Nat.lt_of_lt_of_le hgl HV2.out.size;have HO2:Hid (∀ o,(∀ c,c < 2→o ≠ j * 6 + c)→v2.cell? ⟨g,o,none⟩=wr.cell? ⟨g,o,none⟩):=fun o ho=>by rw [hV2,mO (by have:=ho 1 (by omega); omega),HB1.out.cell (p:=⟨g,o,none⟩) hg1]; exact HO1.out o fun c hc=>ho c (by omega)
   have HW2_1:Hid (v2.cell? ⟨g,j * 6 + 1,none⟩=some (.string (bz (k + 6 * j + 1)))):=by show _=_; rw [hV2]; exact mS e1_1
   have HW2_0:Hid (v2.cell? ⟨g,j * 6,none⟩=some (.string (bz (k + 6 * j)))):=by show _=_; rw [hV2,mO (by omega),HB1.out.cell (p:=⟨g,j * 6,none⟩) hg1]; exact HW1_0.out
   replace c2:v2.cell? ⟨g,j * 6 + 2,none⟩=some (.string xs[j].r):=by rw [hV2,mO (by omega)]; exact e1_2
   replace c3:v2.cell? ⟨g,j * 6 + 3,none⟩=some (.string xs[j].c):=by rw [hV2,mO (by omega)]; exact e1_3
   replace c4:v2.cell? ⟨g,j * 6 + 4,none⟩=some (.string xs[j].d):=by rw [hV2,mO (by omega)]; exact e1_4
   replace c5:v2.cell? ⟨g,j * 6 + 5,none⟩=some (.string xs[j].s):=by rw [hV2,mO (by omega)]; exact e1_5
   clear hb1 hV1 fz0 e0_0 e0_1 e0_2 e0_3 e0_4 e0_5 c1;go_wp2_with fail;rw [← hV2];refine (aQ _ (k + 6 * j + 2) _ (by omega) (by omega) (by omega)).mono ?_;rintro e u2 ⟨rfl,hb2⟩;have HB2:Hid (Below v2.heap.size v2 u2):=hb2;have e2_2:u2.cell? ⟨g,j * 6 + 2,none⟩=some (.string xs[j].r):=mK hb2 hg2 c2;have e2_3:u2.cell? ⟨g,j * 6 + 3,none⟩=some (.string xs[j].c):=mK hb2 hg2 c3;have e2_4:u2.cell? ⟨g,j * 6 + 4,none⟩=some (.string xs[j].d):=mK hb2 hg2 c4;have e2_5:u2.cell? ⟨g,j * 6 + 5,none⟩=some (.string xs[j].s):=mK hb2 hg2 c5;have fz2:∀ y,u2.frozen? ⟨g,y,none⟩=false:=fun y=>mF hb2 hg2 (HV2.out.free g hgl HFR.out y);obtain ⟨v3,hV3⟩:∃ v,v=u2.setCell ⟨g,j * 6 + 2,none⟩ (.string (bz (k + 6 * j + 2))):=⟨_,rfl⟩;have HV3:Hid (Chg (fun y=>y=g) wr v3):=HV2.out.trans ((Chg.of HB2.out).trans (by rw [hV3]; exact Chg.set _ rfl));have hg3:g < v3.heap.size:=Nat.lt_of_lt_of_le hgl HV3.out.size;have HO3:Hid (∀ o,(∀ c,c < 3→o ≠ j * 6 + c)→v3.cell? ⟨g,o,none⟩=wr.cell? ⟨g,o,none⟩):=fun o ho=>by rw [hV3,mO (by have:=ho 2 (by omega); omega),HB2.out.cell (p:=⟨g,o,none⟩) hg2]; exact HO2.out o fun c hc=>ho c (by omega)
   have HW3_2:Hid (v3.cell? ⟨g,j * 6 + 2,none⟩=some (.string (bz (k + 6 * j + 2)))):=by show _=_; rw [hV3]; exact mS e2_2
   have HW3_0:Hid (v3.cell? ⟨g,j * 6,none⟩=some (.string (bz (k + 6 * j)))):=by show _=_; rw [hV3,mO (by omega),HB2.out.cell (p:=⟨g,j * 6,none⟩) hg2]; exact HW2_0.out
   have HW3_1:Hid (v3.cell? ⟨g,j * 6 + 1,none⟩=some (.string (bz (k + 6 * j + 1)))):=by show _=_; rw [hV3,mO (by omega),HB2.out.cell (p:=⟨g,j * 6 + 1,none⟩) hg2]; exact HW2_1.out
   replace c3:v3.cell? ⟨g,j * 6 + 3,none⟩=some (.string xs[j].c):=by rw [hV3,mO (by omega)]; exact e2_3
   replace c4:v3.cell? ⟨g,j * 6 + 4,none⟩=some (.string xs[j].d):=by rw [hV3,mO (by omega)]; exact e2_4
   replace c5:v3.cell? ⟨g,j * 6 + 5,none⟩=some (.string xs[j].s):=by rw [hV3,mO (by omega)]; exact e2_5
   clear hb2 hV2 fz1 e1_1 e1_2 e1_3 e1_4 e1_5 c2;go_wp2_with fail;rw [← hV3];refine (aQ _ (k + 6 * j + 3) _ (by omega) (by omega) (by omega)).mono ?_;rintro e u3 ⟨rfl,hb3⟩;have HB3:Hid (Below v3.heap.size v3 u3):=hb3;have e3_3:u3.cell? ⟨g,j * 6 + 3,none⟩=some (.string xs[j].c):=mK hb3 hg3 c3;have e3_4:u3.cell? ⟨g,j * 6 + 4,none⟩=some (.string xs[j].d):=mK hb3 hg3 c4;have e3_5:u3.cell? ⟨g,j * 6 + 5,none⟩=some (.string xs[j].s):=mK hb3 hg3 c5;have fz3:∀ y,u3.frozen? ⟨g,y,none⟩=false:=fun y=>mF hb3 hg3 (HV3.out.free g hgl HFR.out y);obtain ⟨v4,hV4⟩:∃ v,v=u3.setCell ⟨g,j * 6 + 3,none⟩ (.string (bz (k + 6 * j + 3))):=⟨_,rfl⟩;have HV4:Hid (Chg (fun y=>y=g) wr v4):=HV3.out.trans ((Chg.of HB3.out).trans (by rw [hV4]; exact Chg.set _ rfl));have hg4:g < v4.heap.size:=Nat.lt_of_lt_of_le hgl HV4.out.size;have HO4:Hid (∀ o,(∀ c,c < 4→o ≠ j * 6 + c)→v4.cell? ⟨g,o,none⟩=wr.cell? ⟨g,o,none⟩):=fun o ho=>by rw [hV4,mO (by have:=ho 3 (by omega); omega),HB3.out.cell (p:=⟨g,o,none⟩) hg3]; exact HO3.out o fun c hc=>ho c (by omega)
   have HW4_3:Hid (v4.cell? ⟨g,j * 6 + 3,none⟩=some (.string (bz (k + 6 * j + 3)))):=by show _=_; rw [hV4]; exact mS e3_3
   have HW4_0:Hid (v4.cell? ⟨g,j * 6,none⟩=some (.string (bz (k + 6 * j)))):=by show _=_; rw [hV4,mO (by omega),HB3.out.cell (p:=⟨g,j * 6,none⟩) hg3]; exact HW3_0.out
   have HW4_1:Hid (v4.cell? ⟨g,j * 6 + 1,none⟩=some (.string (bz (k + 6 * j + 1)))):=by show _=_; rw [hV4,mO (by omega),HB3.out.cell (p:=⟨g,j * 6 + 1,none⟩) hg3]; exact HW3_1.out
   have HW4_2:Hid (v4.cell? ⟨g,j * 6 + 2,none⟩=some (.string (bz (k + 6 * j + 2)))):=by show _=_; rw [hV4,mO (by omega),HB3.out.cell (p:=⟨g,j * 6 + 2,none⟩) hg3]; exact HW3_2.out
   replace c4:v4.cell? ⟨g,j * 6 + 4,none⟩=some (.string xs[j].d):=by rw [hV4,mO (by omega)]; exact e3_4
   replace c5:v4.cell? ⟨g,j * 6 + 5,none⟩=some (.string xs[j].s):=by rw [hV4,mO (by omega)]; exact e3_5
   clear hb3 hV3 fz2 e2_2 e2_3 e2_4 e2_5 c3;go_wp2_with fail;rw [← hV4];refine (aQ _ (k + 6 * j + 4) _ (by omega) (by omega) (by omega)).mono ?_;rintro e u4 ⟨rfl,hb4⟩;have HB4:Hid (Below v4.heap.size v4 u4):=hb4;have e4_4:u4.cell? ⟨g,j * 6 + 4,none⟩=some (.string xs[j].d):=mK hb4 hg4 c4;have e4_5:u4.cell? ⟨g,j * 6 + 5,none⟩=some (.string xs[j].s):=mK hb4 hg4 c5;have fz4:∀ y,u4.frozen? ⟨g,y,none⟩=false:=fun y=>mF hb4 hg4 (HV4.out.free g hgl HFR.out y);obtain ⟨v5,hV5⟩:∃ v,v=u4.setCell ⟨g,j * 6 + 4,none⟩ (.string (bz (k + 6 * j + 4))):=⟨_,rfl⟩;have HV5:Hid (Chg (fun y=>y=g) wr v5):=HV4.out.trans ((Chg.of HB4.out).trans (by rw [hV5]; exact Chg.set _ rfl));have hg5:g < v5.heap.size:=Nat.lt_of_lt_of_le hgl HV5.out.size;have HO5:Hid (∀ o,(∀ c,c < 5→o ≠ j * 6 + c)→v5.cell? ⟨g,o,none⟩=wr.cell? ⟨g,o,none⟩):=fun o ho=>by rw [hV5,mO (by have:=ho 4 (by omega); omega),HB4.out.cell (p:=⟨g,o,none⟩) hg4]; exact HO4.out o fun c hc=>ho c (by omega)
   have HW5_4:Hid (v5.cell? ⟨g,j * 6 + 4,none⟩=some (.string (bz (k + 6 * j + 4)))):=by show _=_; rw [hV5]; exact mS e4_4
   have HW5_0:Hid (v5.cell? ⟨g,j * 6,none⟩=some (.string (bz (k + 6 * j)))):=by show _=_; rw [hV5,mO (by omega),HB4.out.cell (p:=⟨g,j * 6,none⟩) hg4]; exact HW4_0.out
   have HW5_1:Hid (v5.cell? ⟨g,j * 6 + 1,none⟩=some (.string (bz (k + 6 * j + 1)))):=by show _=_; rw [hV5,mO (by omega),HB4.out.cell (p:=⟨g,j * 6 + 1,none⟩) hg4]; exact HW4_1.out
   have HW5_2:Hid (v5.cell? ⟨g,j * 6 + 2,none⟩=some (.string (bz (k + 6 * j + 2)))):=by show _=_; rw [hV5,mO (by omega),HB4.out.cell (p:=⟨g,j * 6 + 2,none⟩) hg4]; exact HW4_2.out
   have HW5_3:Hid (v5.cell? ⟨g,j * 6 + 3,none⟩=some (.string (bz (k + 6 * j + 3)))):=by show _=_; rw [hV5,mO (by omega),HB4.out.cell (p:=⟨g,j * 6 + 3,none⟩) hg4]; exact HW4_3.out
   replace c5:v5.cell? ⟨g,j * 6 + 5,none⟩=some (.string xs[j].s):=by rw [hV5,mO (by omega)]; exact e4_5
   clear hb4 hV4 fz3 e3_3 e3_4 e3_5 c4;go_wp2_with fail;rw [← hV5];refine (aQ _ (k + 6 * j + 5) _ (by omega) (by omega) (by omega)).mono ?_;rintro e u5 ⟨rfl,hb5⟩;have HB5:Hid (Below v5.heap.size v5 u5):=hb5;have e5_5:u5.cell? ⟨g,j * 6 + 5,none⟩=some (.string xs[j].s):=mK hb5 hg5 c5;have fz5:∀ y,u5.frozen? ⟨g,y,none⟩=false:=fun y=>mF hb5 hg5 (HV5.out.free g hgl HFR.out y);obtain ⟨v6,hV6⟩:∃ v,v=u5.setCell ⟨g,j * 6 + 5,none⟩ (.string (bz (k + 6 * j + 5))):=⟨_,rfl⟩;have HV6:Hid (Chg (fun y=>y=g) wr v6):=HV5.out.trans ((Chg.of HB5.out).trans (by rw [hV6]; exact Chg.set _ rfl));have hg6:g < v6.heap.size:=Nat.lt_of_lt_of_le hgl HV6.out.size;have HO6:Hid (∀ o,(∀ c,c < 6→o ≠ j * 6 + c)→v6.cell? ⟨g,o,none⟩=wr.cell? ⟨g,o,none⟩):=fun o ho=>by rw [hV6,mO (by have:=ho 5 (by omega); omega),HB5.out.cell (p:=⟨g,o,none⟩) hg5]; exact HO5.out o fun c hc=>ho c (by omega)
   have HW6_5:Hid (v6.cell? ⟨g,j * 6 + 5,none⟩=some (.string (bz (k + 6 * j + 5)))):=by show _=_; rw [hV6]; exact mS e5_5
   have HW6_0:Hid (v6.cell? ⟨g,j * 6,none⟩=some (.string (bz (k + 6 * j)))):=by show _=_; rw [hV6,mO (by omega),HB5.out.cell (p:=⟨g,j * 6,none⟩) hg5]; exact HW5_0.out
   have HW6_1:Hid (v6.cell? ⟨g,j * 6 + 1,none⟩=some (.string (bz (k + 6 * j + 1)))):=by show _=_; rw [hV6,mO (by omega),HB5.out.cell (p:=⟨g,j * 6 + 1,none⟩) hg5]; exact HW5_1.out
   have HW6_2:Hid (v6.cell? ⟨g,j * 6 + 2,none⟩=some (.string (bz (k + 6 * j + 2)))):=by show _=_; rw [hV6,mO (by omega),HB5.out.cell (p:=⟨g,j * 6 + 2,none⟩) hg5]; exact HW5_2.out
   have HW6_3:Hid (v6.cell? ⟨g,j * 6 + 3,none⟩=some (.string (bz (k + 6 * j + 3)))):=by show _=_; rw [hV6,mO (by omega),HB5.out.cell (p:=⟨g,j * 6 + 3,none⟩) hg5]; exact HW5_3.out
   have HW6_4:Hid (v6.cell? ⟨g,j * 6 + 4,none⟩=some (.string (bz (k + 6 * j + 4)))):=by show _=_; rw [hV6,mO (by omega),HB5.out.cell (p:=⟨g,j * 6 + 4,none⟩) hg5]; exact HW5_4.out
   clear hb5 hV5 fz4 e4_4 e4_5 c5;have HCN:Hid (∀ (x:Nat) (hx:x < xs.length),I5 v6 g (x * 6) (if x < j + 1 then ⟨bz (k + 6 * x),bz (k + 6 * x + 1),bz (k + 6 * x + 2),bz (k + 6 * x + 3),bz (k + 6 * x + 4),bz (k + 6 * x + 5)⟩ else xs[x])):=by
    intro x hx;by_cases e:x=j
    ·subst e;rw [if_pos (by omega)];exact ⟨HW6_0.out,HW6_1.out,HW6_2.out,HW6_3.out,HW6_4.out,HW6_5.out⟩
    ·have hx2:=HC.out x hx;have e2:(if x < j + 1 then (⟨bz (k + 6 * x),bz (k + 6 * x + 1),bz (k + 6 * x + 2),bz (k + 6 * x + 3),bz (k + 6 * x + 4),bz (k + 6 * x + 5)⟩:Tp) else xs[x])=(if x < j then ⟨bz (k + 6 * x),bz (k + 6 * x + 1),bz (k + 6 * x + 2),bz (k + 6 * x + 3),bz (k + 6 * x + 4),bz (k + 6 * x + 5)⟩ else xs[x]):=by
      by_cases h2:x < j
      ·rw [if_pos h2,if_pos (by omega)]
      ·rw [if_neg h2,if_neg (by omega)]
     rw [e2];obtain ⟨p0,p1,p2,p3,p4,p5⟩:=hx2;exact ⟨by rw [HO6.out _ (fun c hc=>by omega)]; exact p0,by rw [HO6.out _ (fun c hc=>by omega)]; exact p1,by rw [HO6.out _ (fun c hc=>by omega)]; exact p2,by rw [HO6.out _ (fun c hc=>by omega)]; exact p3,by rw [HO6.out _ (fun c hc=>by omega)]; exact p4,by rw [HO6.out _ (fun c hc=>by omega)]; exact p5⟩
   have HCHN:Hid (Chg (fun y=>xs ≠ []∧(some ⟨g,0,none⟩:Option Addr)=some ⟨y,0,none⟩) w v6):=HCH.out.trans (HV6.out.mono fun y hy=>⟨HZ.out,by rw [hy]⟩);have HFN:Hid (cB v6 g):=HV6.out.free g hgl HFR.out;have HVE:Hid (v6=_):=hV6;clear hV6;go_wp2;rw [← HVE.out];go_roundw;case rel=>exact ⟨j + 1,by omega,by go_num,by go_num,HCN,HFN,HCHN⟩
   case measure=>simp [intOf] <;> omega
  ·obtain rfl:j=xs.length:=by omega
   have HS3:Hid (Sl wr (some ⟨g,0,none⟩) (MH k xs)):=.inr ⟨g,0,rfl,Nat.lt_of_lt_of_le hb HCH.out.size,fun i hi=>by
    have h2:i < xs.length:=by rw [LC] at hi; exact hi
    have:=HC.out i h2;rw [if_pos h2] at this;rw [Nat.zero_add,MI]; exact this⟩
   go_wp2;go_ret;exact ⟨by go_num,HS3.out,HCH.out⟩
set_option linter.unusedSectionVars false
set_option linter.unusedVariables false
set_option maxRecDepth 100000
theorem Ig {w:World} {base size n:Nat} {e:TypeId} {v:Value} {xs:List Value} (h:w.ownsRow base e size v n xs) {g:Nat} (hg:v.ownBlock=some g):cB w g:=fun j=>by
 rcases h.2 with ⟨rfl,-⟩ | ⟨g',cap,cur,rfl,-,h2,-⟩
 ·simp [Value.ownBlock] at hg
 ·have e:g'=g:=by simpa [Value.ownBlock] using hg
  subst e;simp [World.frozen?,h2]
def zH (B:Nat) (w:World) (ad:Option Addr) (L:List Fc):Prop:=qZ w ad L∧(L ≠ []→∃ g,ad=some ⟨g,0,none⟩∧B≤g∧cB w g)
theorem Kh {w:World} {ad:Option Addr} {L:List Fc} (h:qZ w ad L) (hne:L ≠ []) {g o:Nat} (e:ad=some ⟨g,o,none⟩):g < w.heap.size:=by
 rcases h with h | ⟨b,off,e2,hb,-⟩
 ·exact absurd h hne
 ·rw [e] at e2; injection e2 with e2; injection e2 with e2 e3; omega
theorem zH.later {B:Nat} {w w':World} {ad:Option Addr} {L:List Fc} (h:zH B w ad L) (hb:Below w.heap.size w w'):zH B w' ad L:=⟨h.1.below hb,fun hne=>by
 obtain ⟨g,e,h1,h2⟩:=h.2 hne;exact ⟨g,e,h1,fun j=>mF hb (Kh h.1 hne e) (h2 j)⟩⟩
theorem zH.chg {B:Nat} {S:Nat→Prop} {w w':World} {ad:Option Addr} {L:List Fc} (h:zH B w ad L) (hc:Chg S w w') (hn:∀ g,B≤g→¬ S g):zH B w' ad L:=⟨h.1.chg hc (fun g o hne e=>by
  obtain ⟨g',e',h1,-⟩:=h.2 hne;rw [e] at e'; injection e' with e'; injection e' with e' e3;exact hn g (by omega)),fun hne=>by
 obtain ⟨g,e,h1,h2⟩:=h.2 hne;exact ⟨g,e,h1,hc.free g (Kh h.1 hne e) h2⟩⟩
section
variable [DecidableEq Fc]
theorem pG {st:ByteArray × ByteArray→Int} {rs rs':List TR} {ts:List Tp} (h:af rs'=af rs):dU st rs' ts=dU st rs ts:=by
 have e:gH rs'=gH rs:=by funext t; unfold gH; rw [h]
 unfold dU dS aV lH;rw [e,h]
end
set_option maxHeartbeats 1000000 in
theorem kr (ad ad':Option Addr) (cap cap':Nat) (xs:List Al) (w:World) (hlen:xs.length≤maxLen) (hs:dm w ad xs) (hs':dm w ad' xs) :
  Calls Tryz.prog 28 #[.slice ad xs.length cap,.slice ad' xs.length cap'] w fun e w'=>e=.returned (.bool true)∧Below w.heap.size w w':=by
 unfold maxLen at hlen;go_enter Tryz.func28,Tryz.ntmps28;go_wp2;go_loopw [5] (fun i wr=>∃ k:Nat,k≤xs.length∧i=.int .i64 k∧Below w.heap.size w wr) (fun i _=>xs.length - (intOf i).toNat);case atStart=>exact ⟨0,Nat.zero_le _,rfl,Below.refl _ _⟩
 case round =>
  obtain ⟨k,hk,rfl,hB⟩:=hrel;by_cases hlt:k < xs.length
  ·rcases hs.below hB with rfl | ⟨b,off,rfl,hb,hr⟩
   ·simp at hlt
   rcases hs'.below hB with rfl | ⟨b',off',rfl,hb',hr'⟩
   ·simp at hlt
   obtain ⟨t0,t1⟩:=hr k hlt;obtain ⟨q0,q1⟩:=hr' k hlt;have hk1:(0:Int)≤(k:Int):=by omega
   have hk2:(k:Int) < (xs.length:Int):=by omega
   clear hr hr' hs hs';go_wp2_with fail
   go_region_held3 (fun w'=>w'.cell? ⟨b,off + k * 2,none⟩=some (.string xs[k].t)∧w'.cell? ⟨b,off + k * 2 + 1,none⟩=some (.string xs[k].s)∧w'.cell? ⟨b',off' + k * 2,none⟩=some (.string xs[k].t)∧w'.cell? ⟨b',off' + k * 2 + 1,none⟩=some (.string xs[k].s)∧b < w'.heap.size∧b' < w'.heap.size∧Below w.heap.size w w')
    (first | assumption | exact Fu (by assumption) hbx | exact ⟨t0,t1,q0,q1,hb,hb',hB.drew⟩)
    (first | (go_at_call 51; refine (jE _ _ _).mono ?_; rintro e w' ⟨rfl,hbx⟩))
   rename_i hH;obtain ⟨-,-,-,-,-,-,gB⟩:=hH;clear t0 t1 q0 q1 hB hb hb';go_wp2;go_roundw;case rel=>exact ⟨k + 1,by omega,by go_num,gB⟩
   case measure=>simp [intOf]; omega
  ·go_wp2;go_ret;exact ⟨rfl,hB⟩
def oH (B:Nat) (w:World) (ad:Option Addr) (L:List Al):Prop:=dm w ad L∧(L ≠ []→∃ g,ad=some ⟨g,0,none⟩∧B≤g∧cB w g)
theorem xD {w:World} {ad:Option Addr} {L:List Al} (h:dm w ad L) (hne:L ≠ []) {g o:Nat} (e:ad=some ⟨g,o,none⟩):g < w.heap.size:=by
 rcases h with h | ⟨b,off,e2,hb,-⟩
 ·exact absurd h hne
 ·rw [e] at e2; injection e2 with e2; injection e2 with e2 e3; omega
theorem oH.later {B:Nat} {w w':World} {ad:Option Addr} {L:List Al} (h:oH B w ad L) (hb:Below w.heap.size w w'):oH B w' ad L:=⟨h.1.below hb,fun hne=>by
 obtain ⟨g,e,h1,h2⟩:=h.2 hne;exact ⟨g,e,h1,fun j=>mF hb (xD h.1 hne e) (h2 j)⟩⟩
theorem oH.chg {B:Nat} {S:Nat→Prop} {w w':World} {ad:Option Addr} {L:List Al} (h:oH B w ad L) (hc:Chg S w w') (hn:∀ g,B≤g→¬ S g):oH B w' ad L:=⟨h.1.chg hc (fun g o hne e=>by
  obtain ⟨g',e',h1,-⟩:=h.2 hne;rw [e] at e'; injection e' with e'; injection e' with e' e3;exact hn g (by omega)),fun hne=>by
 obtain ⟨g,e,h1,h2⟩:=h.2 hne;exact ⟨g,e,h1,hc.free g (xD h.1 hne e) h2⟩⟩
theorem Ki {w:World} {base:Nat} {v:Value} {fs:List Al} (h:w.ownsRow base 45 2 v fs.length (pairs fs)):∃ ad cap,v=.slice ad fs.length cap∧oH base w ad fs:=by
 obtain ⟨ad,cap,e,hs⟩:=fU h;subst e;refine ⟨ad,cap,rfl,hs,fun hne=>?_⟩;obtain ⟨g,e1,e2⟩:=rq h (fun e=>hne (List.length_eq_zero_iff.1 e));exact ⟨g,e1,(h.lt g e2).1,Ig h e2⟩
end Go.Proofs.YtogjfppkbkgaeaaGreat
