/- Contracts of the law's helpers that mark tuples, and that look whether the marks are held. -/
import Derived.Test.YtdmniljjnaebbaaGreatDoorSq
import Derived.Test.YtdmniljjnaebbaaGreatDoorJ5
import Derived.Sort.Grow
import Derived.Test.YtdmniljjnaebbaaGreatDoorJ6
open Go.Proofs.Tryz
set_option maxHeartbeats 80000000
namespace Go.Proofs.YtdmniljjnaebbaaGreatDoor
open Go.ChangeShapes Go.WideShapes Go.ChangeAt Go.RowKit
open Pl
def QH (k:Nat) (xs:List Tp):List Tp:=(List.range xs.length).map fun i=>⟨aT (k + 6 * i),aT (k + 6 * i + 1),aT (k + 6 * i + 2),aT (k + 6 * i + 3),aT (k + 6 * i + 4),aT (k + 6 * i + 5)⟩
theorem Pe (k:Nat) (xs:List Tp):(QH k xs).length=xs.length:=by simp [QH]
theorem QI (k:Nat) (xs:List Tp) (i:Nat) (h:i < (QH k xs).length):(QH k xs)[i]=⟨aT (k + 6 * i),aT (k + 6 * i + 1),aT (k + 6 * i + 2),aT (k + 6 * i + 3),aT (k + 6 * i + 4),aT (k + 6 * i + 5)⟩:=by simp [QH]
theorem Sl.chg {S:Nat→Prop} {w w':af} {ad:Option Addr} {xs:List Tp} (h:Sl w ad xs) (hc:Chg S w w') (hn:∀ g o,xs ≠ []→ad=some ⟨g,o,none⟩→¬ S g):Sl w' ad xs:=by
 rcases h with h | ⟨b,off,e,hb,hr⟩
 ·exact .inl h
 by_cases hx:xs=[]
 ·exact .inl hx
 exact .inr ⟨b,off,e,Sg hb hc.size,fun i hi=>(hr i hi).same fun o=>hc.cell hb (hn b off hx e)⟩
set_option maxRecDepth 8000 in
theorem zm (ad:Option Addr) (cap:Nat) (xs:List Tp) (k:Nat) (w:af) (hs:Sl w ad xs) (hg:xs ≠ []→∃ g,ad=some ⟨g,0,none⟩∧dD w g) (h0:0 < k) (h1:k + 6 * xs.length≤1000000000) :
  Calls prog 17 #[.slice ad xs.length cap,.int .i64 (k:Int)] w fun e w'=>e=.returned (.int .i64 ((k + 6 * xs.length:Nat):Int))∧Sl w' ad (QH k xs)∧Chg (fun g=>xs ≠ []∧ad=some ⟨g,0,none⟩) w w':=by
 by_cases hz:xs=[]
 ·subst hz;go_enter func17,ntmps17;go_wp2;go_loopw [1,5] (fun kv i wr=>kv=.int .i64 (k:Int)∧i=.int .i64 0∧wr=w) (fun _ _ _=>0);case atStart=>exact ⟨rfl,rfl,rfl⟩
  obtain ⟨rfl,rfl,rfl⟩:=hrel;go_wp2;go_ret;exact ⟨rfl,.inl rfl,Chg.refl _ _⟩
 obtain ⟨g,rfl,hfree⟩:=hg hz;rcases hs with h | ⟨b,off,Vw,hb,hr⟩
 ·exact absurd h hz
 obtain ⟨rfl,rfl⟩:g=b∧0=off:=by injection Vw with e; injection e with e1 e2; exact ⟨e1,e2⟩
 have HZ:=ay hz;clear hz Vw hg;go_enter func17,ntmps17;go_wp2;go_loopw [1,5] (fun kv i wr=>∃ j:Nat,j≤xs.length∧kv=.int .i64 ((k + 6 * j:Nat):Int)∧i=.int .i64 (j:Int)∧Hid (∀ (x:Nat) (hx:x < xs.length),Mm wr g (x * 6) (if x < j then ⟨aT (k + 6 * x),aT (k + 6 * x + 1),aT (k + 6 * x + 2),aT (k + 6 * x + 3),aT (k + 6 * x + 4),aT (k + 6 * x + 5)⟩ else xs[x]))∧Hid (dD wr g)∧Hid (Chg (fun y=>xs ≠ []∧(some ⟨g,0,none⟩:Option Addr)=some ⟨y,0,none⟩) w wr)) (fun _ i _=>xs.length - (intOf i).toNat);case atStart=>exact ⟨0,Sm _,rfl,rfl,fun x hx=>by have:=hr x hx; simpa using this,hfree,Chg.refl _ _⟩
 clear hr;obtain ⟨j,hj,rfl,rfl,HC,TP,Um⟩:=hrel;by_cases hlt:j < xs.length
 ·obtain ⟨c0,c1,c2,c3,c4,c5⟩:=HC.out j hlt;rw [if_neg (by omega)] at c0 c1 c2 c3 c4 c5;have hgl:g < wr.heap.size:=Sg hb Um.out.size;have hj1:=bH j;have hj2:(j:Int) < (xs.length:Int):=by omega
  have hjb:k + 6 * j + 6≤1000000000:=by omega
  have Ww:Hid (Chg (fun y=>y=g) wr wr):=Chg.refl _ _;have XF:Hid (∀ o,(∀ c,c < 0→o ≠ j * 6 + c)→wr.cell? ⟨g,o,none⟩=wr.cell? ⟨g,o,none⟩):=fun o _=>rfl;go_wp2_with fail;refine (aI _ (k + 6 * j) _ (by omega) (by omega) (by omega)).mono ?_;rintro e u0 ⟨rfl,hb0⟩;have HB0:=ay hb0;have Yn:u0.cell? ⟨g,j * 6,none⟩=some (.string xs[j].a):=mK hb0 hgl c0;have Yo:u0.cell? ⟨g,j * 6 + 1,none⟩=some (.string xs[j].b):=mK hb0 hgl c1;have Yp:u0.cell? ⟨g,j * 6 + 2,none⟩=some (.string xs[j].r):=mK hb0 hgl c2;have Yq:u0.cell? ⟨g,j * 6 + 3,none⟩=some (.string xs[j].c):=mK hb0 hgl c3;have Yr:u0.cell? ⟨g,j * 6 + 4,none⟩=some (.string xs[j].d):=mK hb0 hgl c4;have e0_5:u0.cell? ⟨g,j * 6 + 5,none⟩=some (.string xs[j].s):=mK hb0 hgl c5;have fz0:∀ y,u0.frozen? ⟨g,y,none⟩=false:=fun y=>mF hb0 hgl (Ww.out.free g hgl TP.out y);obtain ⟨v1,hV1⟩:∃ v,v=u0.setCell ⟨g,j * 6,none⟩ (.string (aT (k + 6 * j))):=⟨_,rfl⟩;have UQ:Hid (Chg (fun y=>y=g) wr v1):=Ww.out.trans ((Chg.of HB0.out).trans (by rw [hV1]; exact Chg.set _ rfl));have hg1:g < v1.heap.size:=Sg hgl UQ.out.size;have TM:Hid (∀ o,(∀ c,c < 1→o ≠ j * 6 + c)→v1.cell? ⟨g,o,none⟩=wr.cell? ⟨g,o,none⟩):=fun o ho=>by rw [hV1,mO (by have:=ho 0 (by omega); omega),HB0.out.cell (p:=⟨g,o,none⟩) hgl]
  have Yt:Hid (v1.cell? ⟨g,j * 6,none⟩=some (.string (aT (k + 6 * j)))):=by show _=_; rw [hV1]; exact mS Yn
  replace c1:v1.cell? ⟨g,j * 6 + 1,none⟩=some (.string xs[j].b):=by rw [hV1,mO (by omega)]; exact Yo
  replace c2:v1.cell? ⟨g,j * 6 + 2,none⟩=some (.string xs[j].r):=by rw [hV1,mO (by omega)]; exact Yp
  replace c3:v1.cell? ⟨g,j * 6 + 3,none⟩=some (.string xs[j].c):=by rw [hV1,mO (by omega)]; exact Yq
  replace c4:v1.cell? ⟨g,j * 6 + 4,none⟩=some (.string xs[j].d):=by rw [hV1,mO (by omega)]; exact Yr
  replace c5:v1.cell? ⟨g,j * 6 + 5,none⟩=some (.string xs[j].s):=by rw [hV1,mO (by omega)]; exact e0_5
  clear hb0 c0;go_wp2_with fail;rw [← hV1];refine (aI _ (k + 6 * j + 1) _ (by omega) (by omega) (by omega)).mono ?_;rintro e u1 ⟨rfl,hb1⟩;have HB1:=ay hb1;have Yu:u1.cell? ⟨g,j * 6 + 1,none⟩=some (.string xs[j].b):=mK hb1 hg1 c1;have Yv:u1.cell? ⟨g,j * 6 + 2,none⟩=some (.string xs[j].r):=mK hb1 hg1 c2;have Yw:u1.cell? ⟨g,j * 6 + 3,none⟩=some (.string xs[j].c):=mK hb1 hg1 c3;have Yx:u1.cell? ⟨g,j * 6 + 4,none⟩=some (.string xs[j].d):=mK hb1 hg1 c4;have e1_5:u1.cell? ⟨g,j * 6 + 5,none⟩=some (.string xs[j].s):=mK hb1 hg1 c5;have fz1:∀ y,u1.frozen? ⟨g,y,none⟩=false:=fun y=>mF hb1 hg1 (UQ.out.free g hgl TP.out y);obtain ⟨v2,hV2⟩:∃ v,v=u1.setCell ⟨g,j * 6 + 1,none⟩ (.string (aT (k + 6 * j + 1))):=⟨_,rfl⟩;have UR:Hid (Chg (fun y=>y=g) wr v2):=UQ.out.trans ((Chg.of HB1.out).trans (by rw [hV2]; exact Chg.set _ rfl));have hg2:g < v2.heap.size:=Sg hgl UR.out.size;have Tj:Hid (∀ o,(∀ c,c < 2→o ≠ j * 6 + c)→v2.cell? ⟨g,o,none⟩=wr.cell? ⟨g,o,none⟩):=fun o ho=>by rw [hV2,mO (by have:=ho 1 (by omega); omega),HB1.out.cell (p:=⟨g,o,none⟩) hg1]; exact TM.out o fun c hc=>ho c (by omega)
  have Yy:Hid (v2.cell? ⟨g,j * 6 + 1,none⟩=some (.string (aT (k + 6 * j + 1)))):=by show _=_; rw [hV2]; exact mS Yu
  have Yz:Hid (v2.cell? ⟨g,j * 6,none⟩=some (.string (aT (k + 6 * j)))):=by show _=_; rw [hV2,mO (by omega),HB1.out.cell (p:=⟨g,j * 6,none⟩) hg1]; exact Yt.out
  replace c2:v2.cell? ⟨g,j * 6 + 2,none⟩=some (.string xs[j].r):=by rw [hV2,mO (by omega)]; exact Yv
  replace c3:v2.cell? ⟨g,j * 6 + 3,none⟩=some (.string xs[j].c):=by rw [hV2,mO (by omega)]; exact Yw
  replace c4:v2.cell? ⟨g,j * 6 + 4,none⟩=some (.string xs[j].d):=by rw [hV2,mO (by omega)]; exact Yx
  replace c5:v2.cell? ⟨g,j * 6 + 5,none⟩=some (.string xs[j].s):=by rw [hV2,mO (by omega)]; exact e1_5
  clear hb1 hV1 fz0 Yn Yo Yp Yq Yr e0_5 c1;go_wp2_with fail;rw [← hV2];refine (aI _ (k + 6 * j + 2) _ (by omega) (by omega) (by omega)).mono ?_;rintro e u2 ⟨rfl,hb2⟩;have HB2:=ay hb2;have YA:u2.cell? ⟨g,j * 6 + 2,none⟩=some (.string xs[j].r):=mK hb2 hg2 c2;have YB:u2.cell? ⟨g,j * 6 + 3,none⟩=some (.string xs[j].c):=mK hb2 hg2 c3;have YC:u2.cell? ⟨g,j * 6 + 4,none⟩=some (.string xs[j].d):=mK hb2 hg2 c4;have e2_5:u2.cell? ⟨g,j * 6 + 5,none⟩=some (.string xs[j].s):=mK hb2 hg2 c5;have fz2:∀ y,u2.frozen? ⟨g,y,none⟩=false:=fun y=>mF hb2 hg2 (UR.out.free g hgl TP.out y);obtain ⟨v3,UH⟩:∃ v,v=u2.setCell ⟨g,j * 6 + 2,none⟩ (.string (aT (k + 6 * j + 2))):=⟨_,rfl⟩;have WA:Hid (Chg (fun y=>y=g) wr v3):=UR.out.trans ((Chg.of HB2.out).trans (by rw [UH]; exact Chg.set _ rfl));have hg3:g < v3.heap.size:=Sg hgl WA.out.size;have TD:Hid (∀ o,(∀ c,c < 3→o ≠ j * 6 + c)→v3.cell? ⟨g,o,none⟩=wr.cell? ⟨g,o,none⟩):=fun o ho=>by rw [UH,mO (by have:=ho 2 (by omega); omega),HB2.out.cell (p:=⟨g,o,none⟩) hg2]; exact Tj.out o fun c hc=>ho c (by omega)
  have YD:Hid (v3.cell? ⟨g,j * 6 + 2,none⟩=some (.string (aT (k + 6 * j + 2)))):=by show _=_; rw [UH]; exact mS YA
  have YE:Hid (v3.cell? ⟨g,j * 6,none⟩=some (.string (aT (k + 6 * j)))):=by show _=_; rw [UH,mO (by omega),HB2.out.cell (p:=⟨g,j * 6,none⟩) hg2]; exact Yz.out
  have YF:Hid (v3.cell? ⟨g,j * 6 + 1,none⟩=some (.string (aT (k + 6 * j + 1)))):=by show _=_; rw [UH,mO (by omega),HB2.out.cell (p:=⟨g,j * 6 + 1,none⟩) hg2]; exact Yy.out
  replace c3:v3.cell? ⟨g,j * 6 + 3,none⟩=some (.string xs[j].c):=by rw [UH,mO (by omega)]; exact YB
  replace c4:v3.cell? ⟨g,j * 6 + 4,none⟩=some (.string xs[j].d):=by rw [UH,mO (by omega)]; exact YC
  replace c5:v3.cell? ⟨g,j * 6 + 5,none⟩=some (.string xs[j].s):=by rw [UH,mO (by omega)]; exact e2_5
  clear hb2 hV2 fz1 Yu Yv Yw Yx e1_5 c2;go_wp2_with fail;rw [← UH];refine (aI _ (k + 6 * j + 3) _ (by omega) (by omega) (by omega)).mono ?_;rintro e u3 ⟨rfl,hb3⟩;have HB3:=ay hb3;have YG:u3.cell? ⟨g,j * 6 + 3,none⟩=some (.string xs[j].c):=mK hb3 hg3 c3;have YH:u3.cell? ⟨g,j * 6 + 4,none⟩=some (.string xs[j].d):=mK hb3 hg3 c4;have e3_5:u3.cell? ⟨g,j * 6 + 5,none⟩=some (.string xs[j].s):=mK hb3 hg3 c5;have fz3:∀ y,u3.frozen? ⟨g,y,none⟩=false:=fun y=>mF hb3 hg3 (WA.out.free g hgl TP.out y);obtain ⟨v4,Vq⟩:∃ v,v=u3.setCell ⟨g,j * 6 + 3,none⟩ (.string (aT (k + 6 * j + 3))):=⟨_,rfl⟩;have HV4:Hid (Chg (fun y=>y=g) wr v4):=WA.out.trans ((Chg.of HB3.out).trans (by rw [Vq]; exact Chg.set _ rfl));have hg4:g < v4.heap.size:=Sg hgl HV4.out.size;have TJ:Hid (∀ o,(∀ c,c < 4→o ≠ j * 6 + c)→v4.cell? ⟨g,o,none⟩=wr.cell? ⟨g,o,none⟩):=fun o ho=>by rw [Vq,mO (by have:=ho 3 (by omega); omega),HB3.out.cell (p:=⟨g,o,none⟩) hg3]; exact TD.out o fun c hc=>ho c (by omega)
  have YI:Hid (v4.cell? ⟨g,j * 6 + 3,none⟩=some (.string (aT (k + 6 * j + 3)))):=by show _=_; rw [Vq]; exact mS YG
  have YJ:Hid (v4.cell? ⟨g,j * 6,none⟩=some (.string (aT (k + 6 * j)))):=by show _=_; rw [Vq,mO (by omega),HB3.out.cell (p:=⟨g,j * 6,none⟩) hg3]; exact YE.out
  have YK:Hid (v4.cell? ⟨g,j * 6 + 1,none⟩=some (.string (aT (k + 6 * j + 1)))):=by show _=_; rw [Vq,mO (by omega),HB3.out.cell (p:=⟨g,j * 6 + 1,none⟩) hg3]; exact YF.out
  have YL:Hid (v4.cell? ⟨g,j * 6 + 2,none⟩=some (.string (aT (k + 6 * j + 2)))):=by show _=_; rw [Vq,mO (by omega),HB3.out.cell (p:=⟨g,j * 6 + 2,none⟩) hg3]; exact YD.out
  replace c4:v4.cell? ⟨g,j * 6 + 4,none⟩=some (.string xs[j].d):=by rw [Vq,mO (by omega)]; exact YH
  replace c5:v4.cell? ⟨g,j * 6 + 5,none⟩=some (.string xs[j].s):=by rw [Vq,mO (by omega)]; exact e3_5
  clear hb3 UH fz2 YA YB YC e2_5 c3;go_wp2_with fail;rw [← Vq];refine (aI _ (k + 6 * j + 4) _ (by omega) (by omega) (by omega)).mono ?_;rintro e u4 ⟨rfl,hb4⟩;have TA:=ay hb4;have ZO:u4.cell? ⟨g,j * 6 + 4,none⟩=some (.string xs[j].d):=mK hb4 hg4 c4;have e4_5:u4.cell? ⟨g,j * 6 + 5,none⟩=some (.string xs[j].s):=mK hb4 hg4 c5;have fz4:∀ y,u4.frozen? ⟨g,y,none⟩=false:=fun y=>mF hb4 hg4 (HV4.out.free g hgl TP.out y);obtain ⟨v5,Vr⟩:∃ v,v=u4.setCell ⟨g,j * 6 + 4,none⟩ (.string (aT (k + 6 * j + 4))):=⟨_,rfl⟩;have HV5:Hid (Chg (fun y=>y=g) wr v5):=HV4.out.trans ((Chg.of TA.out).trans (by rw [Vr]; exact Chg.set _ rfl));have hg5:g < v5.heap.size:=Sg hgl HV5.out.size;have Uc:Hid (∀ o,(∀ c,c < 5→o ≠ j * 6 + c)→v5.cell? ⟨g,o,none⟩=wr.cell? ⟨g,o,none⟩):=fun o ho=>by rw [Vr,mO (by have:=ho 4 (by omega); omega),TA.out.cell (p:=⟨g,o,none⟩) hg4]; exact TJ.out o fun c hc=>ho c (by omega)
  have YM:Hid (v5.cell? ⟨g,j * 6 + 4,none⟩=some (.string (aT (k + 6 * j + 4)))):=by show _=_; rw [Vr]; exact mS ZO
  have YN:Hid (v5.cell? ⟨g,j * 6,none⟩=some (.string (aT (k + 6 * j)))):=by show _=_; rw [Vr,mO (by omega),TA.out.cell (p:=⟨g,j * 6,none⟩) hg4]; exact YJ.out
  have YO:Hid (v5.cell? ⟨g,j * 6 + 1,none⟩=some (.string (aT (k + 6 * j + 1)))):=by show _=_; rw [Vr,mO (by omega),TA.out.cell (p:=⟨g,j * 6 + 1,none⟩) hg4]; exact YK.out
  have YP:Hid (v5.cell? ⟨g,j * 6 + 2,none⟩=some (.string (aT (k + 6 * j + 2)))):=by show _=_; rw [Vr,mO (by omega),TA.out.cell (p:=⟨g,j * 6 + 2,none⟩) hg4]; exact YL.out
  have YQ:Hid (v5.cell? ⟨g,j * 6 + 3,none⟩=some (.string (aT (k + 6 * j + 3)))):=by show _=_; rw [Vr,mO (by omega),TA.out.cell (p:=⟨g,j * 6 + 3,none⟩) hg4]; exact YI.out
  replace c5:v5.cell? ⟨g,j * 6 + 5,none⟩=some (.string xs[j].s):=by rw [Vr,mO (by omega)]; exact e4_5
  clear hb4 Vq fz3 YG YH e3_5 c4;go_wp2_with fail;rw [← Vr];refine (aI _ (k + 6 * j + 5) _ (by omega) (by omega) (by omega)).mono ?_;rintro e u5 ⟨rfl,hb5⟩;have TI:=ay hb5;have e5_5:u5.cell? ⟨g,j * 6 + 5,none⟩=some (.string xs[j].s):=mK hb5 hg5 c5;have fz5:∀ y,u5.frozen? ⟨g,y,none⟩=false:=fun y=>mF hb5 hg5 (HV5.out.free g hgl TP.out y);obtain ⟨v6,Zo⟩:∃ v,v=u5.setCell ⟨g,j * 6 + 5,none⟩ (.string (aT (k + 6 * j + 5))):=⟨_,rfl⟩;have HV6:Hid (Chg (fun y=>y=g) wr v6):=HV5.out.trans ((Chg.of TI.out).trans (by rw [Zo]; exact Chg.set _ rfl));have WZ:g < v6.heap.size:=Sg hgl HV6.out.size;have Ub:Hid (∀ o,(∀ c,c < 6→o ≠ j * 6 + c)→v6.cell? ⟨g,o,none⟩=wr.cell? ⟨g,o,none⟩):=fun o ho=>by rw [Zo,mO (by have:=ho 5 (by omega); omega),TI.out.cell (p:=⟨g,o,none⟩) hg5]; exact Uc.out o fun c hc=>ho c (by omega)
  have HW6_5:Hid (v6.cell? ⟨g,j * 6 + 5,none⟩=some (.string (aT (k + 6 * j + 5)))):=by show _=_; rw [Zo]; exact mS e5_5
  have HW6_0:Hid (v6.cell? ⟨g,j * 6,none⟩=some (.string (aT (k + 6 * j)))):=by show _=_; rw [Zo,mO (by omega),TI.out.cell (p:=⟨g,j * 6,none⟩) hg5]; exact YN.out
  have HW6_1:Hid (v6.cell? ⟨g,j * 6 + 1,none⟩=some (.string (aT (k + 6 * j + 1)))):=by show _=_; rw [Zo,mO (by omega),TI.out.cell (p:=⟨g,j * 6 + 1,none⟩) hg5]; exact YO.out
  have HW6_2:Hid (v6.cell? ⟨g,j * 6 + 2,none⟩=some (.string (aT (k + 6 * j + 2)))):=by show _=_; rw [Zo,mO (by omega),TI.out.cell (p:=⟨g,j * 6 + 2,none⟩) hg5]; exact YP.out
  have HW6_3:Hid (v6.cell? ⟨g,j * 6 + 3,none⟩=some (.string (aT (k + 6 * j + 3)))):=by show _=_; rw [Zo,mO (by omega),TI.out.cell (p:=⟨g,j * 6 + 3,none⟩) hg5]; exact YQ.out
  have HW6_4:Hid (v6.cell? ⟨g,j * 6 + 4,none⟩=some (.string (aT (k + 6 * j + 4)))):=by show _=_; rw [Zo,mO (by omega),TI.out.cell (p:=⟨g,j * 6 + 4,none⟩) hg5]; exact YM.out
  clear hb5 Vr fz4 ZO e4_5 c5;have TE:Hid (∀ (x:Nat) (hx:x < xs.length),Mm v6 g (x * 6) (if x < j + 1 then ⟨aT (k + 6 * x),aT (k + 6 * x + 1),aT (k + 6 * x + 2),aT (k + 6 * x + 3),aT (k + 6 * x + 4),aT (k + 6 * x + 5)⟩ else xs[x])):=by
   intro x hx;by_cases e:x=j
   ·subst e;rw [if_pos (by omega)];exact ⟨HW6_0.out,HW6_1.out,HW6_2.out,HW6_3.out,HW6_4.out,HW6_5.out⟩
   have hx2:=HC.out x hx;have e2:(if x < j + 1 then (⟨aT (k + 6 * x),aT (k + 6 * x + 1),aT (k + 6 * x + 2),aT (k + 6 * x + 3),aT (k + 6 * x + 4),aT (k + 6 * x + 5)⟩:Tp) else xs[x])=(if x < j then ⟨aT (k + 6 * x),aT (k + 6 * x + 1),aT (k + 6 * x + 2),aT (k + 6 * x + 3),aT (k + 6 * x + 4),aT (k + 6 * x + 5)⟩ else xs[x]):=by
    by_cases h2:x < j
    ·rw [if_pos h2,if_pos (by omega)]
    rw [if_neg h2,if_neg (by omega)]
   rw [e2];obtain ⟨p0,p1,p2,p3,p4,p5⟩:=hx2;exact ⟨by rw [Ub.out _ (fun c hc=>by omega)]; exact p0,by rw [Ub.out _ (fun c hc=>by omega)]; exact p1,by rw [Ub.out _ (fun c hc=>by omega)]; exact p2,by rw [Ub.out _ (fun c hc=>by omega)]; exact p3,by rw [Ub.out _ (fun c hc=>by omega)]; exact p4,by rw [Ub.out _ (fun c hc=>by omega)]; exact p5⟩
  have VF:Hid (Chg (fun y=>xs ≠ []∧(some ⟨g,0,none⟩:Option Addr)=some ⟨y,0,none⟩) w v6):=Um.out.trans (HV6.out.mono fun y hy=>⟨HZ.out,by rw [hy]⟩);have HFN:Hid (dD v6 g):=HV6.out.free g hgl TP.out;have HVE:Hid (v6=_):=Zo;clear Zo;go_wp2;rw [← HVE.out];go_roundw;case rel=>exact ⟨j + 1,by omega,by go_num,by go_num,TE,HFN,VF⟩
  simp [intOf] <;> omega
 obtain rfl:j=xs.length:=by omega
 have UN:Hid (Sl wr (some ⟨g,0,none⟩) (QH k xs)):=.inr ⟨g,0,rfl,Sg hb Um.out.size,fun i hi=>by
  have h2:i < xs.length:=by rw [Pe] at hi; exact hi
  have:=HC.out i h2;rw [if_pos h2] at this;rw [SG,QI]; exact this⟩
 go_wp2;go_ret;exact ⟨by go_num,UN.out,Um.out⟩
end Go.Proofs.YtdmniljjnaebbaaGreatDoor
namespace Go.Proofs.YtdmniljjnaebbaaGreatDoor
open Go.ChangeShapes Go.WideShapes Go.ChangeAt Go.RowKit
open Pl
attribute [local go_sem ↓] Go.wp_at_zero Go.wp_at_succ
structure BelowD (B:Nat) (w w':World):Prop where
 b:Below B w w'
 d:w.drawn≤w'.drawn
theorem BelowD.size {B:Nat} {w w':af} (h:BelowD B w w'):w.heap.size≤w'.heap.size:=h.b.size
theorem BelowD.refl (B:Nat) (w:af):BelowD B w w:=⟨Si B w,Sj _⟩
theorem BelowD.trans {B:Nat} {a b c:af} (h:BelowD B a b) (k:BelowD B b c):BelowD B a c:=⟨h.b.trans k.b,Sq h.d k.d⟩
theorem BelowD.mono {B B':Nat} {w w':af} (h:BelowD B w w') (hB:B'≤B):BelowD B' w w':=⟨h.b.mono hB,h.d⟩
theorem BelowD.drew {B:Nat} {a w:af} (h:BelowD B a w):BelowD B a w.drew:=⟨h.b.drew,Sq h.d (Nat.le_succ _)⟩
theorem BelowD.alloc {B:Nat} {a w:af} (h:BelowD B a w) (hB:B≤w.heap.size) (o:Obj):BelowD B a (w.alloc o):=⟨h.b.alloc hB o,h.d⟩
theorem BelowD.cell {B:Nat} {w w':af} (h:BelowD B w w') {p:Addr} (hp:p.block < B):w'.cell? p=w.cell? p:=h.b.cell hp
theorem BelowD.frozen {B:Nat} {w w':af} (h:BelowD B w w') {p:Addr} (hp:p.block < B):w'.frozen? p=w.frozen? p:=h.b.frozen hp
theorem BelowD.grew {w w':af} (h:BelowD w.heap.size w w'):∃ q os,w'=Go.Sort.grow (w.drewN q) os:=by
 obtain ⟨⟨h1,h2,h3,h4,h5⟩,h6⟩:=h;refine ⟨w'.drawn - w.drawn,w'.heap.extract w.heap.size w'.heap.size,?_⟩;obtain ⟨hp,tp,dr,os,ou⟩:=w';simp only at h1 h2 h3 h4 h5 h6;subst h1 h2 h3;simp only [Go.Sort.grow,World.drewN,World.mk.injEq,true_and,and_true];refine ⟨?_,by omega⟩;apply Array.ext
 ·simp; omega
 intro i hi hj;by_cases hlt:i < w.heap.size
 ·have:=h5 i hlt;rw [SS hi,SS hlt] at this;injection this with this;rw [this,Array.getElem_append_left hlt]
 rw [Array.getElem_append_right (by omega)];simp;congr 1;omega
theorem ry {W w1:af} (hb:BelowD W.heap.size W w1):(∀ b o,b < W.heap.size→w1.cell? ⟨b,o,none⟩=W.cell? ⟨b,o,none⟩)∧(∀ b o,b < W.heap.size→w1.frozen? ⟨b,o,none⟩=W.frozen? ⟨b,o,none⟩) :=
 ⟨fun b o h=>hb.cell (p:=⟨b,o,none⟩) h,fun b o h=>hb.frozen (p:=⟨b,o,none⟩) h⟩
theorem eB (t i:dB) (w:af) (ht:t.size≤maxLen) (hi:i.size≤maxLen) :
  Calls prog 170 #[.agg #[.string t,.string i]] w fun e w'=>e=.returned (.bool (dS t i))∧BelowD w.heap.size w w':=by
 by_cases hn:aR t=true
 all_goals
  go_enter func170,ntmps170;go_wp2_with (first | (go_at_call 162; refine (aL _ _ ht).mono ?_; rintro e w' ⟨rfl,rfl⟩) | (go_at_call 197; refine (xw _ _ hi).mono ?_; rintro e w' ⟨rfl,rfl⟩));go_ret;exact ⟨ah (by simp [dS,hn]),(BelowD.refl _ _).alloc (Sj _) _⟩
theorem uG (t i:dB) (w:af) (ht:t.size≤maxLen) (hi:i.size≤maxLen) :
  Calls prog 183 #[.agg #[.string t,.string i]] w fun e w'=>e=.returned (.string (ax t i))∧BelowD w.heap.size w w':=by
 by_cases hn:dS t i=true
 ·obtain ⟨h1,h2⟩:=wW hn;have HT:Hid (ax t i=t ++ ⟨#[58]⟩ ++ i):=kS hn;go_enter func183,ntmps183;go_wp2_with (go_at_call 170; refine (eB _ _ _ ht hi).mono ?_; rintro e w' ⟨rfl,hb⟩; obtain ⟨hc,hf⟩:=ry hb);go_ret;exact ⟨fu HT.out.symm,((BelowD.refl _ _).alloc (Sj _) _).trans (hb.mono (by simp))⟩
 have hn':dS t i=false:=by simpa using hn
 have HT:Hid (ax t i=⟨#[]⟩):=qM hn';clear hn;go_enter func183,ntmps183;go_wp2_with (go_at_call 170; refine (eB _ _ _ ht hi).mono ?_; rintro e w' ⟨rfl,hb⟩; obtain ⟨hc,hf⟩:=ry hb);go_ret;exact ⟨fu HT.out.symm,((BelowD.refl _ _).alloc (Sj _) _).trans (hb.mono (by simp))⟩
theorem sP (a b r c d s:dB) (w:af) (ha:a.size≤maxLen) (hb:b.size≤maxLen) (hr:r.size≤maxLen) (hc:c.size≤maxLen) (hd:d.size≤maxLen) (hs:s.size≤maxLen) :
  Calls prog 128 #[.agg #[.string a,.string b,.string r,.string c,.string d,.string s]] w fun e w'=>e=.returned (.bool (bn a b r c d s))∧BelowD w.heap.size w w':=by
 by_cases h1:dS a b=true
 ·by_cases h2:aR r=true
  ·by_cases h3:dS c d=true
   ·have HT:Hid (bn a b r c d s=rH s):=xG h1 h2 h3;go_enter func128,ntmps128;go_wp2_with fail;refine (eB _ _ _ ha hb).mono ?_;rintro e w1 ⟨rfl,hb1⟩;obtain ⟨hc1,hf1⟩:=ry hb1;have hz1:w.heap.size < w1.heap.size:=by have:=hb1.size; simp at this; omega
    go_wp2_with fail;refine (aL _ _ hr).mono ?_;rintro e w1' ⟨rfl,rfl⟩;go_wp2_with fail;refine (eB _ _ _ hc hd).mono ?_;rintro e w2 ⟨rfl,hb2⟩;obtain ⟨hc2,hf2⟩:=ry hb2;have hz2:w.heap.size < w2.heap.size:=by have:=hb2.size; omega
    go_wp2_with (go_at_call 171; refine (AV _ _ hs).mono ?_; rintro e w3 ⟨rfl,rfl⟩)
    all_goals go_ret
    all_goals exact ⟨ah (HT.out.trans (by simp [rH, *])).symm,((BelowD.refl _ _).alloc (Sj _) _).trans ((hb1.mono (by simp)).trans (hb2.mono (by omega)))⟩
   have h3':dS c d=false:=by simpa using h3
   have HT:Hid (bn a b r c d s=false):=xE h3';clear h3;go_enter func128,ntmps128;go_wp2_with fail;refine (eB _ _ _ ha hb).mono ?_;rintro e w1 ⟨rfl,hb1⟩;obtain ⟨hc1,hf1⟩:=ry hb1;have hz1:w.heap.size < w1.heap.size:=by have:=hb1.size; simp at this; omega
   go_wp2_with fail;refine (aL _ _ hr).mono ?_;rintro e w1' ⟨rfl,rfl⟩;go_wp2_with fail;refine (eB _ _ _ hc hd).mono ?_;rintro e w2 ⟨rfl,hb2⟩;go_wp2;go_ret;exact ⟨ah HT.out.symm,((BelowD.refl _ _).alloc (Sj _) _).trans ((hb1.mono (by simp)).trans (hb2.mono (by omega)))⟩
  have h2':aR r=false:=by simpa using h2
  have HT:Hid (bn a b r c d s=false):=xD h2';clear h2;go_enter func128,ntmps128;go_wp2_with fail;refine (eB _ _ _ ha hb).mono ?_;rintro e w1 ⟨rfl,hb1⟩;obtain ⟨hc1,hf1⟩:=ry hb1;go_wp2_with fail;refine (aL _ _ hr).mono ?_;rintro e w1' ⟨rfl,rfl⟩;go_wp2;go_ret;exact ⟨ah HT.out.symm,((BelowD.refl _ _).alloc (Sj _) _).trans (hb1.mono (by simp))⟩
 have h1':dS a b=false:=by simpa using h1
 have HT:Hid (bn a b r c d s=false):=xC h1';clear h1;go_enter func128,ntmps128;go_wp2_with fail;refine (eB _ _ _ ha hb).mono ?_;rintro e w1 ⟨rfl,hb1⟩;go_wp2;go_ret;exact ⟨ah HT.out.symm,((BelowD.refl _ _).alloc (Sj _) _).trans (hb1.mono (by simp))⟩
theorem QJ {w W w':af} {n:Nat} {x0 x1 x2 x3 x4 x5:Value} (h:W.cell? ⟨n,0,none⟩=some x0∧W.cell? ⟨n,1,none⟩=some x1∧W.cell? ⟨n,2,none⟩=some x2∧W.cell? ⟨n,3,none⟩=some x3∧W.cell? ⟨n,4,none⟩=some x4∧W.cell? ⟨n,5,none⟩=some x5∧n < W.heap.size∧BelowD n w W) (hb:BelowD W.heap.size W w'):w'.cell? ⟨n,0,none⟩=some x0∧w'.cell? ⟨n,1,none⟩=some x1∧w'.cell? ⟨n,2,none⟩=some x2∧w'.cell? ⟨n,3,none⟩=some x3∧w'.cell? ⟨n,4,none⟩=some x4∧w'.cell? ⟨n,5,none⟩=some x5∧n < w'.heap.size∧BelowD n w w':=by
 obtain ⟨h0,h1,h2,h3,h4,h5,hn,hB⟩:=h;have hc:∀ o,w'.cell? ⟨n,o,none⟩=W.cell? ⟨n,o,none⟩:=fun o=>hb.cell (p:=⟨n,o,none⟩) hn;refine ⟨by rw [hc]; exact h0,by rw [hc]; exact h1,by rw [hc]; exact h2,by rw [hc]; exact h3,by rw [hc]; exact h4,by rw [hc]; exact h5,Sg hn hb.size,hB.trans (hb.mono (Tf hn))⟩
theorem uH (a b r c d s:dB) (w:af) (ha:a.size≤maxLen) (hb:b.size≤maxLen) (hr:r.size≤maxLen) (hc:c.size≤maxLen) (hd:d.size≤maxLen) (hs:s.size≤maxLen) :
  Calls prog 148 #[.agg #[.string a,.string b,.string r,.string c,.string d,.string s]] w fun e w'=>e=.returned (.string (aU a b r c d s))∧BelowD w.heap.size w w':=by
 by_cases hn:bn a b r c d s=true
 ·obtain ⟨h1,h2,h3,h4⟩:=jf hn;have hx:=fZ a b;have hy:=fZ c d;have hr12:=(lW h2).2;have hs12:=Ce h4;clear h1 h2 h3 h4;go_enter func148,ntmps148;go_wp2_with fail;refine (sP _ _ _ _ _ _ _ ha hb hr hc hd hs).mono ?_;rintro e w1 ⟨rfl,hb1⟩;obtain ⟨hc1,hf1⟩:=ry hb1;have hz1:w.heap.size < w1.heap.size:=by have:=hb1.size; simp at this; omega
  have k:∀ o v,(w.alloc (.cells #[.string a,.string b,.string r,.string c,.string d,.string s] 42)).cell? ⟨w.heap.size,o,none⟩=some v→w1.cell? ⟨w.heap.size,o,none⟩=some v:=fun o v h=>by rw [hc1 _ _ (by simp)]; exact h
  have k0:=k 0 (.string a) (by simp);have k1:=k 1 (.string b) (by simp);have k2:=k 2 (.string r) (by simp);have k3:=k 3 (.string c) (by simp);have k4:=k 4 (.string d) (by simp);have k5:=k 5 (.string s) (by simp);have HB1:BelowD w.heap.size w w1:=((BelowD.refl _ _).alloc (Sj _) _).trans (hb1.mono (by simp));clear k hb1 hc1 hf1;have q1:(9223372036854775807 < (ax a b).size + 1)=False:=by simp; omega
  have q2:(9223372036854775807 < (ax a b).size + 1 + r.size)=False:=by simp; omega
  have q3:(9223372036854775807 < (ax a b).size + 1 + r.size + 1)=False:=by simp; omega
  have q4:(9223372036854775807 < (ax a b).size + 1 + r.size + 1 + (ax c d).size)=False:=by simp; omega
  go_wp2_with fail
  go_region_held3 (fun w'=>w'.cell? ⟨w.heap.size,0,none⟩=some (.string a)∧w'.cell? ⟨w.heap.size,1,none⟩=some (.string b)∧w'.cell? ⟨w.heap.size,2,none⟩=some (.string r)∧w'.cell? ⟨w.heap.size,3,none⟩=some (.string c)∧w'.cell? ⟨w.heap.size,4,none⟩=some (.string d)∧w'.cell? ⟨w.heap.size,5,none⟩=some (.string s)∧w.heap.size < w'.heap.size∧BelowD w.heap.size w w')
   (first | exact QJ (by assumption) hbx | exact ⟨k0,k1,k2,k3,k4,k5,hz1,HB1.drew⟩)
   (first | (go_at_call 183; refine (uG _ _ _ (by assumption) (by assumption)).mono ?_; rintro e w' ⟨rfl,hbx⟩))
  rename_i hH;obtain ⟨g0,g1,g2,g3,g4,g5,gz,gB⟩:=hH;clear k0 k1 k2 k3 k4 k5 hbx q1 q2 q3 q4 HB1;by_cases he:s.toList.isEmpty=true
  ·have HT:Hid (aU a b r c d s=_):=kT hn he;go_wp2;go_ret;exact ⟨fu HT.out.symm,gB⟩
  have he':s.toList.isEmpty=false:=by simpa using he
  have HT:Hid (aU a b r c d s=_):=kU hn he';clear he;go_wp2;go_ret;exact ⟨fu (HT.out.trans (by simp only [ByteArray.append_assoc])).symm,gB⟩
 have hn':bn a b r c d s=false:=by simpa using hn
 have HT:Hid (aU a b r c d s=⟨#[]⟩):=qN hn';clear hn;go_enter func148,ntmps148;go_wp2_with fail;refine (sP _ _ _ _ _ _ _ ha hb hr hc hd hs).mono ?_;rintro e w1 ⟨rfl,hb1⟩;go_wp2;go_ret;exact ⟨fu HT.out.symm,((BelowD.refl _ _).alloc (Sj _) _).trans (hb1.mono (by simp))⟩
theorem Pf {w W w':af} {n m k:Nat} {x0 x1 x2 x3 x4 x5 y0 y1 y2 y3 y4 y5:Value} (hk:k≤n) (h:W.cell? ⟨n,0,none⟩=some x0∧W.cell? ⟨n,1,none⟩=some x1∧W.cell? ⟨n,2,none⟩=some x2∧W.cell? ⟨n,3,none⟩=some x3∧W.cell? ⟨n,4,none⟩=some x4∧W.cell? ⟨n,5,none⟩=some x5∧W.cell? ⟨m,0,none⟩=some y0∧W.cell? ⟨m,1,none⟩=some y1∧W.cell? ⟨m,2,none⟩=some y2∧W.cell? ⟨m,3,none⟩=some y3∧W.cell? ⟨m,4,none⟩=some y4∧W.cell? ⟨m,5,none⟩=some y5∧n < W.heap.size∧m < W.heap.size∧BelowD k w W) (hb:BelowD W.heap.size W w'):w'.cell? ⟨n,0,none⟩=some x0∧w'.cell? ⟨n,1,none⟩=some x1∧w'.cell? ⟨n,2,none⟩=some x2∧w'.cell? ⟨n,3,none⟩=some x3∧w'.cell? ⟨n,4,none⟩=some x4∧w'.cell? ⟨n,5,none⟩=some x5∧w'.cell? ⟨m,0,none⟩=some y0∧w'.cell? ⟨m,1,none⟩=some y1∧w'.cell? ⟨m,2,none⟩=some y2∧w'.cell? ⟨m,3,none⟩=some y3∧w'.cell? ⟨m,4,none⟩=some y4∧w'.cell? ⟨m,5,none⟩=some y5∧n < w'.heap.size∧m < w'.heap.size∧BelowD k w w':=by
 obtain ⟨h0,h1,h2,h3,h4,h5,h6,h7,h8,h9,h10,h11,hn,hm,hB⟩:=h;have hc:∀ o,w'.cell? ⟨n,o,none⟩=W.cell? ⟨n,o,none⟩:=fun o=>hb.cell (p:=⟨n,o,none⟩) hn;have hd:∀ o,w'.cell? ⟨m,o,none⟩=W.cell? ⟨m,o,none⟩:=fun o=>hb.cell (p:=⟨m,o,none⟩) hm;exact ⟨by rw [hc]; exact h0,by rw [hc]; exact h1,by rw [hc]; exact h2,by rw [hc]; exact h3,by rw [hc]; exact h4,by rw [hc]; exact h5,by rw [hd]; exact h6,by rw [hd]; exact h7,by rw [hd]; exact h8,by rw [hd]; exact h9,by rw [hd]; exact h10,by rw [hd]; exact h11,Sg hn hb.size,Sg hm hb.size,hB.trans (hb.mono (by omega))⟩
theorem Jh (w:af) (o1 o2:Obj):BelowD w.heap.size w ((w.alloc o1).alloc o2) :=
 ((BelowD.refl _ _).alloc (Sj _) _).alloc (by simp) _
theorem rz (a b r c d s a' b' r' c' d' s':dB) (w:af) (ha:a.size≤maxLen) (hb:b.size≤maxLen) (hr:r.size≤maxLen) (hc:c.size≤maxLen) (hd:d.size≤maxLen) (hs:s.size≤maxLen) (ga:a'.size≤maxLen) (gb:b'.size≤maxLen) (gr:r'.size≤maxLen) (gc:c'.size≤maxLen) (gd:d'.size≤maxLen) (gs:s'.size≤maxLen) :
  Calls prog 100 #[.agg #[.string a,.string b,.string r,.string c,.string d,.string s],.agg #[.string a',.string b',.string r',.string c',.string d',.string s']] w fun e w'=>e=.returned (.int .i64 (D6 a b r c d s a' b' r' c' d' s'))∧BelowD w.heap.size w w':=by
 have H0:((w.alloc (.cells #[.string a,.string b,.string r,.string c,.string d,.string s] 42)).alloc (.cells #[.string a',.string b',.string r',.string c',.string d',.string s'] 42)).drew.cell? ⟨w.heap.size,0,none⟩=some (.string a)∧((w.alloc (.cells #[.string a,.string b,.string r,.string c,.string d,.string s] 42)).alloc (.cells #[.string a',.string b',.string r',.string c',.string d',.string s'] 42)).drew.cell? ⟨w.heap.size,1,none⟩=some (.string b)∧((w.alloc (.cells #[.string a,.string b,.string r,.string c,.string d,.string s] 42)).alloc (.cells #[.string a',.string b',.string r',.string c',.string d',.string s'] 42)).drew.cell? ⟨w.heap.size,2,none⟩=some (.string r)∧((w.alloc (.cells #[.string a,.string b,.string r,.string c,.string d,.string s] 42)).alloc (.cells #[.string a',.string b',.string r',.string c',.string d',.string s'] 42)).drew.cell? ⟨w.heap.size,3,none⟩=some (.string c)∧((w.alloc (.cells #[.string a,.string b,.string r,.string c,.string d,.string s] 42)).alloc (.cells #[.string a',.string b',.string r',.string c',.string d',.string s'] 42)).drew.cell? ⟨w.heap.size,4,none⟩=some (.string d)∧((w.alloc (.cells #[.string a,.string b,.string r,.string c,.string d,.string s] 42)).alloc (.cells #[.string a',.string b',.string r',.string c',.string d',.string s'] 42)).drew.cell? ⟨w.heap.size,5,none⟩=some (.string s)∧((w.alloc (.cells #[.string a,.string b,.string r,.string c,.string d,.string s] 42)).alloc (.cells #[.string a',.string b',.string r',.string c',.string d',.string s'] 42)).drew.cell? ⟨w.heap.size + 1,0,none⟩=some (.string a')∧((w.alloc (.cells #[.string a,.string b,.string r,.string c,.string d,.string s] 42)).alloc (.cells #[.string a',.string b',.string r',.string c',.string d',.string s'] 42)).drew.cell? ⟨w.heap.size + 1,1,none⟩=some (.string b')∧((w.alloc (.cells #[.string a,.string b,.string r,.string c,.string d,.string s] 42)).alloc (.cells #[.string a',.string b',.string r',.string c',.string d',.string s'] 42)).drew.cell? ⟨w.heap.size + 1,2,none⟩=some (.string r')∧((w.alloc (.cells #[.string a,.string b,.string r,.string c,.string d,.string s] 42)).alloc (.cells #[.string a',.string b',.string r',.string c',.string d',.string s'] 42)).drew.cell? ⟨w.heap.size + 1,3,none⟩=some (.string c')∧((w.alloc (.cells #[.string a,.string b,.string r,.string c,.string d,.string s] 42)).alloc (.cells #[.string a',.string b',.string r',.string c',.string d',.string s'] 42)).drew.cell? ⟨w.heap.size + 1,4,none⟩=some (.string d')∧((w.alloc (.cells #[.string a,.string b,.string r,.string c,.string d,.string s] 42)).alloc (.cells #[.string a',.string b',.string r',.string c',.string d',.string s'] 42)).drew.cell? ⟨w.heap.size + 1,5,none⟩=some (.string s')∧w.heap.size < ((w.alloc (.cells #[.string a,.string b,.string r,.string c,.string d,.string s] 42)).alloc (.cells #[.string a',.string b',.string r',.string c',.string d',.string s'] 42)).drew.heap.size∧w.heap.size + 1 < ((w.alloc (.cells #[.string a,.string b,.string r,.string c,.string d,.string s] 42)).alloc (.cells #[.string a',.string b',.string r',.string c',.string d',.string s'] 42)).drew.heap.size∧BelowD w.heap.size w (((w.alloc (.cells #[.string a,.string b,.string r,.string c,.string d,.string s] 42)).alloc (.cells #[.string a',.string b',.string r',.string c',.string d',.string s'] 42)).drew):=by
  refine ⟨?_,?_,?_,?_,?_,?_,?_,?_,?_,?_,?_,?_,?_,?_,?_⟩
  all_goals first | exact (Jh _ _ _).drew | (simp; done) | (simp; omega)
 go_enter func100,ntmps100;go_wp2_with fail
 go_region_held3 (fun w'=>w'.cell? ⟨w.heap.size,0,none⟩=some (.string a)∧w'.cell? ⟨w.heap.size,1,none⟩=some (.string b)∧w'.cell? ⟨w.heap.size,2,none⟩=some (.string r)∧w'.cell? ⟨w.heap.size,3,none⟩=some (.string c)∧w'.cell? ⟨w.heap.size,4,none⟩=some (.string d)∧w'.cell? ⟨w.heap.size,5,none⟩=some (.string s)∧w'.cell? ⟨w.heap.size + 1,0,none⟩=some (.string a')∧w'.cell? ⟨w.heap.size + 1,1,none⟩=some (.string b')∧w'.cell? ⟨w.heap.size + 1,2,none⟩=some (.string r')∧w'.cell? ⟨w.heap.size + 1,3,none⟩=some (.string c')∧w'.cell? ⟨w.heap.size + 1,4,none⟩=some (.string d')∧w'.cell? ⟨w.heap.size + 1,5,none⟩=some (.string s')∧w.heap.size < w'.heap.size∧w.heap.size + 1 < w'.heap.size∧BelowD w.heap.size w w')
  (first | assumption | exact Pf (Sj _) (by assumption) hbx | exact H0)
  (first | (go_at_call 148; refine (uH _ _ _ _ _ _ _ (by assumption) (by assumption) (by assumption) (by assumption) (by assumption) (by assumption)).mono ?_; rintro e w' ⟨rfl,hbx⟩) | (go_at_call 147; refine (Tryz.strings_Compare _ _ _).mono ?_; rintro e w' ⟨rfl,rfl⟩))
 rename_i hH;obtain ⟨-,-,-,-,-,-,-,-,-,-,-,-,-,-,gB⟩:=hH;go_wp2;go_ret;exact ⟨rfl,gB⟩
end Go.Proofs.YtdmniljjnaebbaaGreatDoor
namespace Go.Proofs.YtdmniljjnaebbaaGreatDoor
open Go.ChangeShapes Go.WideShapes Go.ChangeAt Go.RowKit
open Pl
attribute [local go_sem ↓] Go.wp_at_zero Go.wp_at_succ
theorem KC (a b r c d:dB) (w:af) :
  Calls prog 116 #[.agg #[.string a,.string b,.string r,.string c,.string d]] w fun e w'=>e=.returned (.agg #[.string a,.string b,.string r,.string c,.string d,.string ⟨#[]⟩])∧aa w w':=by
 go_enter func116,ntmps116;go_wp2;exact bodyPost_ret (v:=.agg #[.string a,.string b,.string r,.string c,.string d,.string ⟨#[]⟩]) (by simp [results,Tryz.results116,go_sem, *]) rfl ⟨rfl,by
  repeat (first | exact Si _ _ | refine Below.setCell ?_ (by first | (simp; done) | (simp; omega)) _ | refine Below.alloc ?_ (by first | (simp; done) | (simp; omega)) _)⟩
theorem Pg {w W w':af} {n m k:Nat} {x0 x1 x2 x3 x4 y0 y1 y2 y3 y4:Value} (hk:k≤n) (h:W.cell? ⟨n,0,none⟩=some x0∧W.cell? ⟨n,1,none⟩=some x1∧W.cell? ⟨n,2,none⟩=some x2∧W.cell? ⟨n,3,none⟩=some x3∧W.cell? ⟨n,4,none⟩=some x4∧W.cell? ⟨m,0,none⟩=some y0∧W.cell? ⟨m,1,none⟩=some y1∧W.cell? ⟨m,2,none⟩=some y2∧W.cell? ⟨m,3,none⟩=some y3∧W.cell? ⟨m,4,none⟩=some y4∧n < W.heap.size∧m < W.heap.size∧Below k w W) (hb:aa W w'):w'.cell? ⟨n,0,none⟩=some x0∧w'.cell? ⟨n,1,none⟩=some x1∧w'.cell? ⟨n,2,none⟩=some x2∧w'.cell? ⟨n,3,none⟩=some x3∧w'.cell? ⟨n,4,none⟩=some x4∧w'.cell? ⟨m,0,none⟩=some y0∧w'.cell? ⟨m,1,none⟩=some y1∧w'.cell? ⟨m,2,none⟩=some y2∧w'.cell? ⟨m,3,none⟩=some y3∧w'.cell? ⟨m,4,none⟩=some y4∧n < w'.heap.size∧m < w'.heap.size∧Below k w w':=by
 obtain ⟨h0,h1,h2,h3,h4,h5,h6,h7,h8,h9,hn,hm,hB⟩:=h;have hc:∀ o,w'.cell? ⟨n,o,none⟩=W.cell? ⟨n,o,none⟩:=fun o=>hb.cell (p:=⟨n,o,none⟩) hn;have hd:∀ o,w'.cell? ⟨m,o,none⟩=W.cell? ⟨m,o,none⟩:=fun o=>hb.cell (p:=⟨m,o,none⟩) hm;exact ⟨by rw [hc]; exact h0,by rw [hc]; exact h1,by rw [hc]; exact h2,by rw [hc]; exact h3,by rw [hc]; exact h4,by rw [hd]; exact h5,by rw [hd]; exact h6,by rw [hd]; exact h7,by rw [hd]; exact h8,by rw [hd]; exact h9,Sg hn hb.size,Sg hm hb.size,hB.trans (hb.mono (by omega))⟩
theorem Ry (a b r c d a' b' r' c' d':dB) (w W:af) (hW:W=((w.alloc (.cells #[.string a,.string b,.string r,.string c,.string d] 63)).alloc (.cells #[.string a',.string b',.string r',.string c',.string d'] 63))):W.drew.cell? ⟨w.heap.size,0,none⟩=some (.string a)∧W.drew.cell? ⟨w.heap.size,1,none⟩=some (.string b)∧W.drew.cell? ⟨w.heap.size,2,none⟩=some (.string r)∧W.drew.cell? ⟨w.heap.size,3,none⟩=some (.string c)∧W.drew.cell? ⟨w.heap.size,4,none⟩=some (.string d)∧W.drew.cell? ⟨w.heap.size + 1,0,none⟩=some (.string a')∧W.drew.cell? ⟨w.heap.size + 1,1,none⟩=some (.string b')∧W.drew.cell? ⟨w.heap.size + 1,2,none⟩=some (.string r')∧W.drew.cell? ⟨w.heap.size + 1,3,none⟩=some (.string c')∧W.drew.cell? ⟨w.heap.size + 1,4,none⟩=some (.string d')∧w.heap.size < W.drew.heap.size∧w.heap.size + 1 < W.drew.heap.size∧aa w W.drew:=by
 subst hW;refine ⟨?_,?_,?_,?_,?_,?_,?_,?_,?_,?_,?_,?_,?_⟩
 all_goals first | exact (xQ _ _ _).drew | (simp; done) | (simp; omega)
theorem sQ (a b r c d a' b' r' c' d':dB) (w:af) (ha:a.size≤maxLen) (hb:b.size≤maxLen) (hr:r.size≤maxLen) (hc:c.size≤maxLen) (hd:d.size≤maxLen) (ga:a'.size≤maxLen) (gb:b'.size≤maxLen) (gr:r'.size≤maxLen) (gc:c'.size≤maxLen) (gd:d'.size≤maxLen) :
  Calls prog 81 #[.agg #[.string a,.string b,.string r,.string c,.string d],.agg #[.string a',.string b',.string r',.string c',.string d']] w fun e w'=>e=.returned (.bool (eQ a b r c d ⟨#[]⟩ a' b' r' c' d' ⟨#[]⟩))∧aa w w':=by
 have he0:(⟨#[]⟩:ByteArray).size≤maxLen:=by decide
 have H0:=Ry a b r c d a' b' r' c' d' w _ rfl;go_enter func81,ntmps81;go_wp2_with fail
 go_region_held3 (fun w'=>w'.cell? ⟨w.heap.size,0,none⟩=some (.string a)∧w'.cell? ⟨w.heap.size,1,none⟩=some (.string b)∧w'.cell? ⟨w.heap.size,2,none⟩=some (.string r)∧w'.cell? ⟨w.heap.size,3,none⟩=some (.string c)∧w'.cell? ⟨w.heap.size,4,none⟩=some (.string d)∧w'.cell? ⟨w.heap.size + 1,0,none⟩=some (.string a')∧w'.cell? ⟨w.heap.size + 1,1,none⟩=some (.string b')∧w'.cell? ⟨w.heap.size + 1,2,none⟩=some (.string r')∧w'.cell? ⟨w.heap.size + 1,3,none⟩=some (.string c')∧w'.cell? ⟨w.heap.size + 1,4,none⟩=some (.string d')∧w.heap.size < w'.heap.size∧w.heap.size + 1 < w'.heap.size∧aa w w')
  (first | assumption | exact Pg (Sj _) (by assumption) hbx | exact H0)
  (first | (go_at_call 116; refine (KC _ _ _ _ _ _).mono ?_; rintro e w' ⟨rfl,hbx⟩) | (go_at_call 113; refine (lF _ _ _ _ _ _ _ _ _ _ _ _ _ (by assumption) (by assumption) (by assumption) (by assumption) (by assumption) (by assumption) (by assumption) (by assumption) (by assumption) (by assumption) (by assumption) (by assumption)).mono ?_; rintro e w' ⟨rfl,hbx⟩))
 rename_i hJ;obtain ⟨-,-,-,-,-,-,-,-,-,-,-,-,gB⟩:=hJ;go_wp2;go_ret;exact ⟨rfl,gB⟩
end Go.Proofs.YtdmniljjnaebbaaGreatDoor
namespace Go.Proofs.YtdmniljjnaebbaaGreatDoor
open Go.ChangeShapes Go.WideShapes Go.ChangeAt Go.RowKit
open Pl
theorem zn (r:RR) (w:af) (hr:r.ok w) (hl:r.light) :
  Calls prog 86 #[r.val] w fun e w'=>∃ r':RR,e=.returned r'.val∧r'.p=r.p∧r'.new w.heap.size∧r'.ok w'∧r'.caps∧aa w w':=by
 obtain ⟨name,rows,ad,cap⟩:=r;obtain ⟨l1,l2⟩:=hl;have HO:=ay hr;have HL:=ay l2;simp only at l1;simp only [RR.val];clear hr l2;go_enter func86,ntmps86;go_wp2_with fail;obtain ⟨W1,hW1⟩:∃ W1,W1=((w.alloc (.cells #[.string name,.slice ad rows.length cap] 133)).alloc (.cells #[.string ⟨#[]⟩,.slice none 0 0] 122)).alloc (.cells #[.string name,.slice none 0 0] 122):=⟨_,rfl⟩;rw [← hW1];have hz1:w.heap.size + 3≤W1.heap.size:=by rw [hW1]; simp only [World.size_alloc]; omega
 have hb0:aa w W1:=by rw [hW1]; exact (((Si w.heap.size w).alloc (Sj _) _).alloc (by simp) _).alloc (by simp; omega) _
 have bC:Below ((w.alloc (.cells #[.string name,.slice ad rows.length cap] 133)).alloc (.cells #[.string ⟨#[]⟩,.slice none 0 0] 122)).heap.size ((w.alloc (.cells #[.string name,.slice ad rows.length cap] 133)).alloc (.cells #[.string ⟨#[]⟩,.slice none 0 0] 122)) W1:=by rw [hW1]; exact (Si _ _).alloc (Sj _) _
 have f1:∀ i,W1.frozen? ⟨w.heap.size + 1,i,none⟩=false:=fun i=>dV bC (by simp) (nA _ _ _ _);have f2:∀ i,W1.frozen? ⟨w.heap.size + 1 + 1,i,none⟩=false:=fun i=>by rw [hW1]; exact pQ _ _ _ _ _
 have z0:W1.cell? ⟨w.heap.size + 1,0,none⟩=some (.string ⟨#[]⟩):=kept bC (by simp) (dM _ _ _ _ _ rfl);have z1:W1.cell? ⟨w.heap.size + 1,1,none⟩=some (.slice none 0 0):=kept bC (by simp) (dM _ _ _ _ _ rfl);have o0:W1.cell? ⟨w.heap.size + 1 + 1,0,none⟩=some (.string name):=by rw [hW1]; exact fw _ _ _ _ _ _ rfl
 have o1:W1.cell? ⟨w.heap.size + 1 + 1,1,none⟩=some (.slice none 0 0):=by rw [hW1]; exact fw _ _ _ _ _ _ rfl
 clear hW1 bC;refine (D9 ad cap rows W1 l1 (fQ.below HO.out hb0) HL.out).mono ?_;rintro e w1 ⟨qs,rfl,hqe,YR,hqc,UL,hb1⟩;replace z0:=kept hb1 (by omega) z0;replace z1:=kept hb1 (by omega) z1;replace o0:=kept hb1 (by omega) o0;replace o1:=kept hb1 (by omega) o1;have k1:∀ i,w1.frozen? ⟨w.heap.size + 1,i,none⟩=false:=fun i=>dV hb1 (by omega) (f1 i);have k2:∀ i,w1.frozen? ⟨w.heap.size + 1 + 1,i,none⟩=false:=fun i=>dV hb1 (by omega) (f2 i);have HB1:Hid (aa w w1):=hb0.trans (hb1.mono (by omega));have hs1:w.heap.size + 3≤w1.heap.size:=by have:=hb1.size; omega
 have hnew:∀ B,B≤W1.heap.size→(⟨name,qs,some ⟨W1.heap.size,0,none⟩,qs.length⟩:RR).new w.heap.size∧(B < W1.heap.size→(⟨name,qs,some ⟨W1.heap.size,0,none⟩,qs.length⟩:RR).new B):=fun B hB =>
  ⟨⟨⟨_,rfl,by omega⟩,fun q hq=>(UL q hq).mono (by omega)⟩,fun hlt=>⟨⟨_,rfl,hlt⟩,fun q hq=>(UL q hq).mono (by omega)⟩⟩
 have Vd:Hid ((⟨name,qs,some ⟨W1.heap.size,0,none⟩,qs.length⟩:RR).new w.heap.size):=(hnew 0 (Sm _)).1;have WC:Hid ((⟨name,qs,some ⟨W1.heap.size,0,none⟩,qs.length⟩:RR).new (w.heap.size + 1)):=(hnew _ (by omega)).2 (by omega);have UZ:Hid ((⟨name,qs,some ⟨W1.heap.size,0,none⟩,qs.length⟩:RR).new (w.heap.size + 1 + 1)):=(hnew _ (by omega)).2 (by omega);have HK:Hid ((⟨name,qs,some ⟨W1.heap.size,0,none⟩,qs.length⟩:RR).ok w1):=YR;have HC:Hid ((⟨name,qs,some ⟨W1.heap.size,0,none⟩,qs.length⟩:RR).caps):=⟨Sj _,fun q hq=>Nat.le_of_eq (hqc q hq).symm⟩;have HE:Hid ((⟨name,qs,some ⟨W1.heap.size,0,none⟩,qs.length⟩:RR).p=⟨name,ai rows⟩):=by show _=_; simp only [RR.p,hqe]
 clear hqe YR hqc UL hb1 hb0 f1 f2 hnew;go_wp2;refine bodyPost_ret (v:=.agg #[.string name,.slice (some ⟨W1.heap.size,0,none⟩) qs.length qs.length]) (by simp [results,Tryz.results86,go_sem, *]) rfl ⟨⟨name,qs,some ⟨W1.heap.size,0,none⟩,qs.length⟩,rfl,HE.out,Vd.out,?_,HC.out,?_⟩
 ·exact ((HK.out.set UZ.out).set WC.out).set WC.out
 exact ((HB1.out.setCell (p:=⟨w.heap.size + 1 + 1,1,none⟩) (by simp; omega) _).setCell (p:=⟨w.heap.size + 1,0,none⟩) (by simp) _).setCell (p:=⟨w.heap.size + 1,1,none⟩) (by simp) _
def RR.row (r:RR):List Value:=[.string r.name,.slice r.ad r.rows.length r.cap]
def rowRR (rs:List RR):List Value:=rs.flatMap RR.row
theorem qd:∀ rs:List RR,(rowRR rs).length=rs.length * 2
 | []=>rfl
 | r::rs=>by have:=qd rs; simp only [rowRR,RR.row,List.flatMap_cons,Sr,List.length_cons,List.length_nil] at this ⊢; omega
theorem Ff:∀ (rs:List RR) (i:Nat) (h:i < rs.length) (j:Nat),j < 2→(rowRR rs)[i * 2 + j]?=(rs[i]).row[j]?
 | [],i,h,_,_=>by simp at h
 | r::rs,0,_,j,hj=>by
  simp only [rowRR,List.flatMap_cons,Nat.zero_mul,SG,List.getElem_cons_zero];rw [List.getElem?_append_left (by simpa [RR.row] using hj)]
 | r::rs,i + 1,h,j,hj=>by
  have:=Ff rs i (by simpa using h) j hj;simp only [rowRR,List.flatMap_cons,List.getElem_cons_succ] at this ⊢;rw [List.getElem?_append_right (by simp [RR.row]; omega),← this];congr 1;simp [RR.row]; omega
theorem Fil.rowRR {w w':af} {g:Nat} {rs:List RR} (h:Fil w w' g (rs.length * 2) (rowRR rs)) (hok:∀ r ∈ rs,r.ok w'):vv w' (some ⟨g,0,none⟩) rs:=by
 refine .inr ⟨g,0,rfl,h.lt,fun i hi=>?_,hok⟩;have hl:=qd rs;have key:∀ j,j < 2→w'.cell? ⟨g,0 + i * 2 + j,none⟩=(rs[i]).row[j]?:=fun j hj=>by
  rw [SG,h.done (i * 2 + j) (by omega),← Ff rs i hi j hj,Sw (by omega)]
 exact ⟨key 0 (by omega),key 1 (by omega)⟩
theorem wF (ad:Option Addr) (cap:Nat) (rs:List RR) (w:af) (hlen:rs.length≤1048576) (hs:vv w ad rs) (hl:∀ r ∈ rs,r.light) :
  Calls prog 55 #[.slice ad rs.length cap] w fun e w'=>∃ rs':List RR,e=.returned (.slice (some ⟨w.heap.size,0,none⟩) rs'.length rs'.length)∧bZ rs'=bZ rs∧vv w' (some ⟨w.heap.size,0,none⟩) rs'∧(∀ r ∈ rs',r.caps)∧(∀ r ∈ rs',r.new w.heap.size)∧aa w w':=by
 obtain ⟨inf,z,hi,hz0,hz1,hz2⟩:=lH (t:=122) (n:=2) (b:=40) (by kernel_rfl);have Uj:=ay hs;have UC:=ay hl;clear hs hl;go_enter func55,ntmps55;go_wp2_with (at_make; refine wpList_make_full _ rfl _ _ 76 rfl w.heap.size 122 inf z 2 underlying76 hi hz0 hz1 .i64 .i64 _ _ rs.length rfl rfl rfl rfl (by rw [hz2]; omega) (by unfold maxLen; omega) (Sj _) ?_; intro w0 hown0 Tg);have F0:Fil w w0 w.heap.size (rs.length * 2) []:=gX hown0 Tg;clear hown0 Tg hi hz0 hz1 hz2;go_loopw [4] (fun i wr=>∃ (k:Nat) (qs:List RR),k≤rs.length∧i=.int .i64 k∧Hid (qs.length=k∧bZ qs=(bZ rs).take k∧(∀ q ∈ qs,q.ok wr∧q.new w.heap.size∧q.caps))∧Fil w wr w.heap.size (rs.length * 2) (rowRR qs)) (fun i _=>rs.length - (intOf i).toNat);case atStart=>exact ⟨0,[],Sm _,rfl,⟨rfl,by simp [bZ],(fun q hq=>by cases hq)⟩,F0⟩
 obtain ⟨k,qs,hk,rfl,HQ,F⟩:=hrel;by_cases hlt:k < rs.length
 ·rcases Uj.out.below F.below with rfl | ⟨b,off,rfl,hb,hr,hok⟩
  ·simp at hlt
  obtain ⟨t0,t1⟩:=hr k hlt;have ok:=hok rs[k] (Sd hlt);have lg:=UC.out rs[k] (Sd hlt);clear hr hok;go_wp2_with fail;refine (zn rs[k] _ ok lg).mono ?_;rintro e w1 ⟨q,rfl,hqe,UL,Ue,hqc,hb1⟩;have F1:=F.later hb1;have fz:=F1.free;obtain ⟨v0,u0⟩:=Option.isSome_iff_exists.mp (F1.there (k * 2) (by omega));obtain ⟨v1,u1⟩:=Option.isSome_iff_exists.mp (F1.there (k * 2 + 1) (by omega));have hpl:(rowRR qs).length=k * 2:=by rw [qd,HQ.out.1]
  have F2:=(F1.put (.string q.name) (o:=k * 2) hpl.symm (by omega)).put (.slice q.ad q.rows.length q.cap) (o:=k * 2 + 1) (by simp [hpl]) (by omega);have e5:(rowRR qs ++ [.string q.name]) ++ [.slice q.ad q.rows.length q.cap]=rowRR (qs ++ [q]):=by simp [rowRR,RR.row]
  rw [e5] at F2;obtain ⟨wn,hwn⟩:∃ wn,wn=(w1.setCell ⟨w.heap.size,k * 2,none⟩ (.string q.name)).setCell ⟨w.heap.size,k * 2 + 1,none⟩ (.slice q.ad q.rows.length q.cap):=⟨_,rfl⟩;have hnew:q.new w.heap.size:=UL.mono (Tf F.lt);have WF:Hid ((qs ++ [q]).length=k + 1∧bZ (qs ++ [q])=(bZ rs).take (k + 1)∧∀ p ∈ qs ++ [q],p.ok wn∧p.new w.heap.size∧p.caps):=by
   obtain ⟨h1,h2,h3⟩:=HQ.out;refine ⟨by simp [h1],?_,?_⟩
   ·rw [Sk (by rw [fB]; exact hlt),← h2];simp [bZ,hqe]
   intro p hp;rw [Sz,SF] at hp;have st:∀ p:RR,p.ok w1→p.new w.heap.size→p.ok wn:=fun p h n=>by rw [hwn]; exact (h.set n).set n
   rcases hp with hp | rfl
   ·exact ⟨st p ((h3 p hp).1.below hb1) (h3 p hp).2.1,(h3 p hp).2⟩
   exact ⟨st p Ue hnew,hnew,hqc⟩
  rw [← hwn] at F2;have HF:=ay F2;clear F F0 F1 F2 t0 t1 hb1 hpl e5 ok lg HQ hqe UL Ue hqc hnew;simp only [RR.val];go_wp2;rw [← hwn];go_roundw;case rel=>exact ⟨k + 1,qs ++ [q],by omega,by go_num,WF,HF.out⟩
  simp [intOf]; omega
 obtain rfl:k=rs.length:=by omega
 obtain ⟨h1,h2,h3⟩:=HQ.out;have XY:Hid (qs.length=rs.length):=h1;have Xm:Hid (bZ qs=bZ rs):=by rw [← fB rs,Su] at h2; exact h2
 have UN:Hid (vv wr (some ⟨w.heap.size,0,none⟩) qs):=by
  rw [← h1] at F;exact F.rowRR fun r hr=>(h3 r hr).1
 have HB3:Hid (aa w wr):=F.below;have XZ:Hid (∀ r ∈ qs,r.new w.heap.size):=fun r hr=>(h3 r hr).2.1;have Uy:Hid (∀ r ∈ qs,r.caps):=fun r hr=>(h3 r hr).2.2;clear h1 h2 h3 F F0 HQ;go_wp2;go_ret;exact ⟨qs,by rw [XY.out]; rfl,Xm.out,UN.out,Uy.out,XZ.out,HB3.out⟩
theorem Ih (r:TR) (w:af) (hr:r.ok w) (hl:r.light) :
  Calls prog 32 #[r.val] w fun e w'=>∃ r':TR,e=.returned r'.val∧r'.p=r.p∧r'.new w.heap.size∧r'.ok w'∧r'.caps∧aa w w':=by
 obtain ⟨name,rows,ad,cap⟩:=r;obtain ⟨l1,l2⟩:=hl;have HO:=ay hr;have HL:=ay l2;simp only at l1;simp only [TR.val];clear hr l2;go_enter func32,ntmps32;go_wp2_with fail;obtain ⟨W1,hW1⟩:∃ W1,W1=((w.alloc (.cells #[.string name,.slice ad rows.length cap] 70)).alloc (.cells #[.string ⟨#[]⟩,.slice none 0 0] 78)).alloc (.cells #[.string name,.slice none 0 0] 78):=⟨_,rfl⟩;rw [← hW1];have hz1:w.heap.size + 3≤W1.heap.size:=by rw [hW1]; simp only [World.size_alloc]; omega
 have hb0:aa w W1:=by rw [hW1]; exact (((Si w.heap.size w).alloc (Sj _) _).alloc (by simp) _).alloc (by simp; omega) _
 have bC:Below ((w.alloc (.cells #[.string name,.slice ad rows.length cap] 70)).alloc (.cells #[.string ⟨#[]⟩,.slice none 0 0] 78)).heap.size ((w.alloc (.cells #[.string name,.slice ad rows.length cap] 70)).alloc (.cells #[.string ⟨#[]⟩,.slice none 0 0] 78)) W1:=by rw [hW1]; exact (Si _ _).alloc (Sj _) _
 have f1:∀ i,W1.frozen? ⟨w.heap.size + 1,i,none⟩=false:=fun i=>dV bC (by simp) (nA _ _ _ _);have f2:∀ i,W1.frozen? ⟨w.heap.size + 1 + 1,i,none⟩=false:=fun i=>by rw [hW1]; exact pQ _ _ _ _ _
 have z0:W1.cell? ⟨w.heap.size + 1,0,none⟩=some (.string ⟨#[]⟩):=kept bC (by simp) (dM _ _ _ _ _ rfl);have z1:W1.cell? ⟨w.heap.size + 1,1,none⟩=some (.slice none 0 0):=kept bC (by simp) (dM _ _ _ _ _ rfl);have o0:W1.cell? ⟨w.heap.size + 1 + 1,0,none⟩=some (.string name):=by rw [hW1]; exact fw _ _ _ _ _ _ rfl
 have o1:W1.cell? ⟨w.heap.size + 1 + 1,1,none⟩=some (.slice none 0 0):=by rw [hW1]; exact fw _ _ _ _ _ _ rfl
 clear hW1 bC;refine (wF ad cap rows W1 l1 (vv.below HO.out hb0) HL.out).mono ?_;rintro e w1 ⟨qs,rfl,hqe,YR,hqc,UL,hb1⟩;replace z0:=kept hb1 (by omega) z0;replace z1:=kept hb1 (by omega) z1;replace o0:=kept hb1 (by omega) o0;replace o1:=kept hb1 (by omega) o1;have k1:∀ i,w1.frozen? ⟨w.heap.size + 1,i,none⟩=false:=fun i=>dV hb1 (by omega) (f1 i);have k2:∀ i,w1.frozen? ⟨w.heap.size + 1 + 1,i,none⟩=false:=fun i=>dV hb1 (by omega) (f2 i);have HB1:Hid (aa w w1):=hb0.trans (hb1.mono (by omega));have hs1:w.heap.size + 3≤w1.heap.size:=by have:=hb1.size; omega
 have hnew:∀ B,B≤W1.heap.size→(⟨name,qs,some ⟨W1.heap.size,0,none⟩,qs.length⟩:TR).new w.heap.size∧(B < W1.heap.size→(⟨name,qs,some ⟨W1.heap.size,0,none⟩,qs.length⟩:TR).new B):=fun B hB =>
  ⟨⟨⟨_,rfl,by omega⟩,fun q hq=>(UL q hq).mono (by omega)⟩,fun hlt=>⟨⟨_,rfl,hlt⟩,fun q hq=>(UL q hq).mono (by omega)⟩⟩
 have Vd:Hid ((⟨name,qs,some ⟨W1.heap.size,0,none⟩,qs.length⟩:TR).new w.heap.size):=(hnew 0 (Sm _)).1;have WC:Hid ((⟨name,qs,some ⟨W1.heap.size,0,none⟩,qs.length⟩:TR).new (w.heap.size + 1)):=(hnew _ (by omega)).2 (by omega);have UZ:Hid ((⟨name,qs,some ⟨W1.heap.size,0,none⟩,qs.length⟩:TR).new (w.heap.size + 1 + 1)):=(hnew _ (by omega)).2 (by omega);have HK:Hid ((⟨name,qs,some ⟨W1.heap.size,0,none⟩,qs.length⟩:TR).ok w1):=YR;have HC:Hid ((⟨name,qs,some ⟨W1.heap.size,0,none⟩,qs.length⟩:TR).caps):=⟨Sj _,hqc⟩;have HE:Hid ((⟨name,qs,some ⟨W1.heap.size,0,none⟩,qs.length⟩:TR).p=⟨name,bZ rows⟩):=by show _=_; simp only [TR.p,hqe]
 clear hqe YR hqc UL hb1 hb0 f1 f2 hnew;go_wp2;refine bodyPost_ret (v:=.agg #[.string name,.slice (some ⟨W1.heap.size,0,none⟩) qs.length qs.length]) (by simp [results,Tryz.results32,go_sem, *]) rfl ⟨⟨name,qs,some ⟨W1.heap.size,0,none⟩,qs.length⟩,rfl,HE.out,Vd.out,?_,HC.out,?_⟩
 ·exact ((HK.out.set UZ.out).set WC.out).set WC.out
 exact ((HB1.out.setCell (p:=⟨w.heap.size + 1 + 1,1,none⟩) (by simp; omega) _).setCell (p:=⟨w.heap.size + 1,0,none⟩) (by simp) _).setCell (p:=⟨w.heap.size + 1,1,none⟩) (by simp) _
def TR.row (r:TR):List Value:=[.string r.name,.slice r.ad r.rows.length r.cap]
def rowTR (rs:List TR):List Value:=rs.flatMap TR.row
theorem qg:∀ rs:List TR,(rowTR rs).length=rs.length * 2
 | []=>rfl
 | r::rs=>by have:=qg rs; simp only [rowTR,TR.row,List.flatMap_cons,Sr,List.length_cons,List.length_nil] at this ⊢; omega
theorem Fg:∀ (rs:List TR) (i:Nat) (h:i < rs.length) (j:Nat),j < 2→(rowTR rs)[i * 2 + j]?=(rs[i]).row[j]?
 | [],i,h,_,_=>by simp at h
 | r::rs,0,_,j,hj=>by
  simp only [rowTR,List.flatMap_cons,Nat.zero_mul,SG,List.getElem_cons_zero];rw [List.getElem?_append_left (by simpa [TR.row] using hj)]
 | r::rs,i + 1,h,j,hj=>by
  have:=Fg rs i (by simpa using h) j hj;simp only [rowTR,List.flatMap_cons,List.getElem_cons_succ] at this ⊢;rw [List.getElem?_append_right (by simp [TR.row]; omega),← this];congr 1;simp [TR.row]; omega
theorem Fil.rowTR {w w':af} {g:Nat} {rs:List TR} (h:Fil w w' g (rs.length * 2) (rowTR rs)) (hok:∀ r ∈ rs,r.ok w'):iN w' (some ⟨g,0,none⟩) rs:=by
 refine .inr ⟨g,0,rfl,h.lt,fun i hi=>?_,hok⟩;have hl:=qg rs;have key:∀ j,j < 2→w'.cell? ⟨g,0 + i * 2 + j,none⟩=(rs[i]).row[j]?:=fun j hj=>by
  rw [SG,h.done (i * 2 + j) (by omega),← Fg rs i hi j hj,Sw (by omega)]
 exact ⟨key 0 (by omega),key 1 (by omega)⟩
theorem Fh (ad:Option Addr) (cap:Nat) (rs:List TR) (w:af) (hlen:rs.length≤1048576) (hs:iN w ad rs) (hl:∀ r ∈ rs,r.light) :
  Calls prog 9 #[.slice ad rs.length cap] w fun e w'=>∃ rs':List TR,e=.returned (.slice (some ⟨w.heap.size,0,none⟩) rs'.length rs'.length)∧ag rs'=ag rs∧iN w' (some ⟨w.heap.size,0,none⟩) rs'∧(∀ r ∈ rs',r.caps)∧(∀ r ∈ rs',r.new w.heap.size)∧aa w w':=by
 obtain ⟨inf,z,hi,hz0,hz1,hz2⟩:=lH (t:=78) (n:=2) (b:=40) (by kernel_rfl);have Uj:=ay hs;have UC:=ay hl;clear hs hl;go_enter func9,ntmps9;go_wp2_with (at_make; refine wpList_make_full _ rfl _ _ 36 rfl w.heap.size 78 inf z 2 underlying36 hi hz0 hz1 .i64 .i64 _ _ rs.length rfl rfl rfl rfl (by rw [hz2]; omega) (by unfold maxLen; omega) (Sj _) ?_; intro w0 hown0 Tg);have F0:Fil w w0 w.heap.size (rs.length * 2) []:=gX hown0 Tg;clear hown0 Tg hi hz0 hz1 hz2;go_loopw [4] (fun i wr=>∃ (k:Nat) (qs:List TR),k≤rs.length∧i=.int .i64 k∧Hid (qs.length=k∧ag qs=(ag rs).take k∧(∀ q ∈ qs,q.ok wr∧q.new w.heap.size∧q.caps))∧Fil w wr w.heap.size (rs.length * 2) (rowTR qs)) (fun i _=>rs.length - (intOf i).toNat);case atStart=>exact ⟨0,[],Sm _,rfl,⟨rfl,by simp [ag],(fun q hq=>by cases hq)⟩,F0⟩
 obtain ⟨k,qs,hk,rfl,HQ,F⟩:=hrel;by_cases hlt:k < rs.length
 ·rcases Uj.out.below F.below with rfl | ⟨b,off,rfl,hb,hr,hok⟩
  ·simp at hlt
  obtain ⟨t0,t1⟩:=hr k hlt;have ok:=hok rs[k] (Sd hlt);have lg:=UC.out rs[k] (Sd hlt);clear hr hok;go_wp2_with fail;refine (Ih rs[k] _ ok lg).mono ?_;rintro e w1 ⟨q,rfl,hqe,UL,Ue,hqc,hb1⟩;have F1:=F.later hb1;have fz:=F1.free;obtain ⟨v0,u0⟩:=Option.isSome_iff_exists.mp (F1.there (k * 2) (by omega));obtain ⟨v1,u1⟩:=Option.isSome_iff_exists.mp (F1.there (k * 2 + 1) (by omega));have hpl:(rowTR qs).length=k * 2:=by rw [qg,HQ.out.1]
  have F2:=(F1.put (.string q.name) (o:=k * 2) hpl.symm (by omega)).put (.slice q.ad q.rows.length q.cap) (o:=k * 2 + 1) (by simp [hpl]) (by omega);have e5:(rowTR qs ++ [.string q.name]) ++ [.slice q.ad q.rows.length q.cap]=rowTR (qs ++ [q]):=by simp [rowTR,TR.row]
  rw [e5] at F2;obtain ⟨wn,hwn⟩:∃ wn,wn=(w1.setCell ⟨w.heap.size,k * 2,none⟩ (.string q.name)).setCell ⟨w.heap.size,k * 2 + 1,none⟩ (.slice q.ad q.rows.length q.cap):=⟨_,rfl⟩;have hnew:q.new w.heap.size:=UL.mono (Tf F.lt);have WF:Hid ((qs ++ [q]).length=k + 1∧ag (qs ++ [q])=(ag rs).take (k + 1)∧∀ p ∈ qs ++ [q],p.ok wn∧p.new w.heap.size∧p.caps):=by
   obtain ⟨h1,h2,h3⟩:=HQ.out;refine ⟨by simp [h1],?_,?_⟩
   ·rw [Sk (by rw [eH]; exact hlt),← h2];simp [ag,hqe]
   intro p hp;rw [Sz,SF] at hp;have st:∀ p:TR,p.ok w1→p.new w.heap.size→p.ok wn:=fun p h n=>by rw [hwn]; exact (h.set n).set n
   rcases hp with hp | rfl
   ·exact ⟨st p ((h3 p hp).1.below hb1) (h3 p hp).2.1,(h3 p hp).2⟩
   exact ⟨st p Ue hnew,hnew,hqc⟩
  rw [← hwn] at F2;have HF:=ay F2;clear F F0 F1 F2 t0 t1 hb1 hpl e5 ok lg HQ hqe UL Ue hqc hnew;simp only [TR.val];go_wp2;rw [← hwn];go_roundw;case rel=>exact ⟨k + 1,qs ++ [q],by omega,by go_num,WF,HF.out⟩
  simp [intOf]; omega
 obtain rfl:k=rs.length:=by omega
 obtain ⟨h1,h2,h3⟩:=HQ.out;have XY:Hid (qs.length=rs.length):=h1;have Xm:Hid (ag qs=ag rs):=by rw [← eH rs,Su] at h2; exact h2
 have UN:Hid (iN wr (some ⟨w.heap.size,0,none⟩) qs):=by
  rw [← h1] at F;exact F.rowTR fun r hr=>(h3 r hr).1
 have HB3:Hid (aa w wr):=F.below;have XZ:Hid (∀ r ∈ qs,r.new w.heap.size):=fun r hr=>(h3 r hr).2.1;have Uy:Hid (∀ r ∈ qs,r.caps):=fun r hr=>(h3 r hr).2.2;clear h1 h2 h3 F F0 HQ;go_wp2;go_ret;exact ⟨qs,by rw [XY.out]; rfl,Xm.out,UN.out,Uy.out,XZ.out,HB3.out⟩
theorem KD {a b r c d s:ByteArray} {left:Int} (h:jQ a b r c d s left < 0):jQ a b r c d s left=-1:=by
 unfold jQ at h ⊢
 repeat (split; · rfl)
 simp only [*,if_false] at h
theorem C9 (k:Int) (a b r c d s:dB) (left:Int) (w:af) (ha:a.size≤maxLen) (hb:b.size≤maxLen) (hr:r.size≤maxLen) (hc:c.size≤maxLen) (hd:d.size≤maxLen) (hs:s.size≤maxLen) (h0:0≤left) (h1:left≤1048576) :
  Calls prog 7 #[.agg #[.int .i64 k,.string a,.string b,.string r,.string c,.string d,.string s],.int .i64 left] w fun e w'=>e=.returned (.int .i64 (jQ a b r c d s left))∧aa w w':=by
 have hle:=xO a b r c d s left;go_enter func7,ntmps7;go_wp2_with fail;refine (vg _ _ _ _ _ _ _ _ ha hb hr hc hd hs h0 h1).mono ?_;rintro e w1 ⟨rfl,hb1⟩;have HB1:aa w w1:=((Si _ _).alloc (Sj _) _).trans (hb1.mono (by simp));clear hb1;by_cases hn:jQ a b r c d s left < 0
 ·go_wp2;go_ret;exact ⟨nz (KD hn).symm,HB1⟩
 go_wp2;go_ret;exact ⟨rfl,HB1⟩
theorem nV (k:Int) (a b r c d s:dB) (w:af) :
  Calls prog 11 #[.agg #[.int .i64 k,.string a,.string b,.string r,.string c,.string d,.string s]] w fun e w'=>e=.returned (.agg #[.int .i64 k,.string a,.string b,.string r,.string c,.string d,.string s])∧aa w w':=by
 go_enter func11,ntmps11;go_wp2_with fail;refine (vk _ _ _ _ _ _ _).mono ?_;rintro e w1 ⟨rfl,hb1⟩;obtain ⟨hc1,hf1⟩:=eO hb1;have hz1:w.heap.size + 1 + 1 < w1.heap.size:=by have:=hb1.size; simp at this; omega
 have hy1:w.heap.size + 1 < w1.heap.size:=by omega
 have hx1:w.heap.size < w1.heap.size:=by omega
 have HB1:aa w w1:=Below.trans (by
  repeat (first | exact Si _ _ | refine Below.setCell ?_ (by first | (simp; done) | (simp; omega)) _ | refine Below.alloc ?_ (by first | (simp; done) | (simp; omega)) _)) (hb1.mono (by simp; omega))
 clear hb1;go_wp2;exact bodyPost_ret (v:=.agg #[.int .i64 k,.string a,.string b,.string r,.string c,.string d,.string s]) (by simp [results,Tryz.results11,go_sem, *]) rfl ⟨rfl,by
  repeat (first | refine Below.setCell ?_ (by first | (simp; done) | (simp; omega)) _ | with_reducible exact HB1)⟩
theorem wG (r r':RR) (w:af) (he:r'.p=r.p) (hr:r.ok w) (hr':r'.ok w) (hl:r.light) :
  Calls prog 102 #[r.val,r'.val] w fun e w'=>e=.returned (.bool true)∧aa w w':=by
 obtain ⟨name,rows,ad,cap⟩:=r;obtain ⟨name',rows',Ti,cap'⟩:=r';simp only [RR.p,Rl.mk.injEq] at he;obtain ⟨rfl,he⟩:=he;obtain ⟨l1,l2⟩:=hl;have HO:=ay hr;have HO':=ay hr';have HL:=ay l2;have HE:Hid (ai rows'=ai rows):=he;simp only at l1;simp only [RR.val];clear hr hr' l2 he;have HB:Hid (aa w ((w.alloc (.cells #[.string name',.slice ad rows.length cap] 122)).alloc (.cells #[.string name',.slice Ti rows'.length cap'] 122))):=((Si w.heap.size w).alloc (Sj _) _).alloc (by simp) _;go_enter func102,ntmps102;go_wp2_with fail;refine (Cu ad Ti cap cap' rows rows' _ l1 HE.out (fQ.below HO.out HB.out) (fQ.below HO'.out HB.out) HL.out).mono ?_;rintro e w1 ⟨rfl,hb1⟩;have HB1:=jb HB hb1;clear hb1 HB;go_wp2;go_ret;exact ⟨rfl,HB1.out⟩
theorem QK {wr W w':af} {b b' o o':Nat} {x0 x1 y0 y1:Value} (h:W.cell? ⟨b,o,none⟩=some x0∧W.cell? ⟨b,o + 1,none⟩=some x1∧W.cell? ⟨b',o',none⟩=some y0∧W.cell? ⟨b',o' + 1,none⟩=some y1∧b < W.heap.size∧b' < W.heap.size∧aa wr W) (hb:aa W w') :
  w'.cell? ⟨b,o,none⟩=some x0∧w'.cell? ⟨b,o + 1,none⟩=some x1∧w'.cell? ⟨b',o',none⟩=some y0∧w'.cell? ⟨b',o' + 1,none⟩=some y1∧b < w'.heap.size∧b' < w'.heap.size∧aa wr w':=Ms h hb
theorem Ji {wr W:af} {b b' o o':Nat} {x0 x1 y0 y1:Value} (h:W.cell? ⟨b,o,none⟩=some x0∧W.cell? ⟨b,o + 1,none⟩=some x1∧W.cell? ⟨b',o',none⟩=some y0∧W.cell? ⟨b',o' + 1,none⟩=some y1∧b < W.heap.size∧b' < W.heap.size∧aa wr W):aa wr W:=h.2.2.2.2.2.2
theorem uI (ad Ti:Option Addr) (cap cap':Nat) (rs rs':List RR) (w:af) (hlen:rs.length≤1048576) (he:bZ rs'=bZ rs) (hs:vv w ad rs) (hs':vv w Ti rs') (hl:∀ r ∈ rs,r.light) :
  Calls prog 66 #[.slice ad rs.length cap,.slice Ti rs'.length cap'] w fun e w'=>e=.returned (.bool true)∧aa w w':=by
 have hll:rs'.length=rs.length:=by rw [← fB,he,fB]
 have Uj:=ay hs;have XP:=ay hs';have UC:=ay hl;have HEE:Hid (bZ rs'=bZ rs):=he;have Xn:Hid (rs'.length=rs.length):=hll;rw [hll];clear hs hs' hl he hll;go_enter func66,ntmps66;go_wp2;go_loopw [5] (fun i wr=>∃ k:Nat,k≤rs.length∧i=.int .i64 k∧aa w wr) (fun i _=>rs.length - (intOf i).toNat);case atStart=>exact ⟨0,Sm _,rfl,Si _ _⟩
 obtain ⟨k,hk,rfl,hB⟩:=hrel;by_cases hlt:k < rs.length
 ·have hlt':k < rs'.length:=by rw [Xn.out]; exact hlt
  rcases Uj.out.below hB with rfl | ⟨b,off,rfl,hb,hr,hok⟩
  ·simp at hlt
  rcases XP.out.below hB with rfl | ⟨b',off',rfl,hb',hr',hok'⟩
  ·simp at hlt'
  obtain ⟨t0,t1⟩:=hr k hlt;obtain ⟨q0,q1⟩:=hr' k hlt';have HK1:Hid (rs[k].ok wr):=hok rs[k] (Sd hlt);have HK2:Hid (rs'[k].ok wr):=hok' rs'[k] (Sd hlt');have Zb:Hid (rs'[k].p=rs[k].p):=by
   have h1:(bZ rs')[k]?=(bZ rs)[k]?:=by rw [HEE.out]
   show _=_;simpa [bZ,hlt,hlt'] using h1
  have HK4:Hid (rs[k].light):=UC.out rs[k] (Sd hlt);have hk1:=bH k;have hk2:(k:Int) < (rs.length:Int):=by omega
  clear hr hr' hok hok';go_wp2_with fail
  go_region_held3 (fun w'=>w'.cell? ⟨b,off + k * 2,none⟩=some (.string rs[k].name)∧w'.cell? ⟨b,off + k * 2 + 1,none⟩=some (.slice rs[k].ad rs[k].rows.length rs[k].cap)∧w'.cell? ⟨b',off' + k * 2,none⟩=some (.string rs'[k].name)∧w'.cell? ⟨b',off' + k * 2 + 1,none⟩=some (.slice rs'[k].ad rs'[k].rows.length rs'[k].cap)∧b < w'.heap.size∧b' < w'.heap.size∧aa wr w')
   (first | assumption | exact QK (by assumption) hbx | exact ⟨t0,t1,q0,q1,hb,hb',(Si _ _).drew⟩)
   (first | (go_at_call 102; refine (wG rs[k] rs'[k] _ Zb.out (HK1.out.below (Ji (by assumption))) (HK2.out.below (Ji (by assumption))) HK4.out).mono ?_; rintro e w' ⟨rfl,hbx⟩))
  rename_i hH;obtain ⟨-,-,-,-,-,-,gB⟩:=hH;clear t0 t1 q0 q1 hb hb';go_wp2;go_roundw;case rel=>exact ⟨k + 1,by omega,by go_num,hB.trans (gB.mono hB.size)⟩
  simp [intOf]; omega
 go_wp2;go_ret;exact ⟨rfl,hB⟩
theorem Fj (r r':TR) (w:af) (he:r'.p=r.p) (hr:r.ok w) (hr':r'.ok w) (hl:r.light) :
  Calls prog 38 #[r.val,r'.val] w fun e w'=>e=.returned (.bool true)∧aa w w':=by
 obtain ⟨name,rows,ad,cap⟩:=r;obtain ⟨name',rows',Ti,cap'⟩:=r';simp only [TR.p,Ty.mk.injEq] at he;obtain ⟨rfl,he⟩:=he;obtain ⟨l1,l2⟩:=hl;have HO:=ay hr;have HO':=ay hr';have HL:=ay l2;have HE:Hid (bZ rows'=bZ rows):=he;simp only at l1;simp only [TR.val];clear hr hr' l2 he;have HB:Hid (aa w ((w.alloc (.cells #[.string name',.slice ad rows.length cap] 78)).alloc (.cells #[.string name',.slice Ti rows'.length cap'] 78))):=((Si w.heap.size w).alloc (Sj _) _).alloc (by simp) _;go_enter func38,ntmps38;go_wp2_with fail;refine (uI ad Ti cap cap' rows rows' _ l1 HE.out (vv.below HO.out HB.out) (vv.below HO'.out HB.out) HL.out).mono ?_;rintro e w1 ⟨rfl,hb1⟩;have HB1:=jb HB hb1;clear hb1 HB;go_wp2;go_ret;exact ⟨rfl,HB1.out⟩
theorem QL {wr W w':af} {b b' o o':Nat} {x0 x1 y0 y1:Value} (h:W.cell? ⟨b,o,none⟩=some x0∧W.cell? ⟨b,o + 1,none⟩=some x1∧W.cell? ⟨b',o',none⟩=some y0∧W.cell? ⟨b',o' + 1,none⟩=some y1∧b < W.heap.size∧b' < W.heap.size∧aa wr W) (hb:aa W w') :
  w'.cell? ⟨b,o,none⟩=some x0∧w'.cell? ⟨b,o + 1,none⟩=some x1∧w'.cell? ⟨b',o',none⟩=some y0∧w'.cell? ⟨b',o' + 1,none⟩=some y1∧b < w'.heap.size∧b' < w'.heap.size∧aa wr w':=Ms h hb
theorem Jj {wr W:af} {b b' o o':Nat} {x0 x1 y0 y1:Value} (h:W.cell? ⟨b,o,none⟩=some x0∧W.cell? ⟨b,o + 1,none⟩=some x1∧W.cell? ⟨b',o',none⟩=some y0∧W.cell? ⟨b',o' + 1,none⟩=some y1∧b < W.heap.size∧b' < W.heap.size∧aa wr W):aa wr W:=h.2.2.2.2.2.2
theorem Da (ad Ti:Option Addr) (cap cap':Nat) (rs rs':List TR) (w:af) (hlen:rs.length≤1048576) (he:ag rs'=ag rs) (hs:iN w ad rs) (hs':iN w Ti rs') (hl:∀ r ∈ rs,r.light) :
  Calls prog 14 #[.slice ad rs.length cap,.slice Ti rs'.length cap'] w fun e w'=>e=.returned (.bool true)∧aa w w':=by
 have hll:rs'.length=rs.length:=by rw [← eH,he,eH]
 have Uj:=ay hs;have XP:=ay hs';have UC:=ay hl;have HEE:Hid (ag rs'=ag rs):=he;have Xn:Hid (rs'.length=rs.length):=hll;rw [hll];clear hs hs' hl he hll;go_enter func14,ntmps14;go_wp2;go_loopw [5] (fun i wr=>∃ k:Nat,k≤rs.length∧i=.int .i64 k∧aa w wr) (fun i _=>rs.length - (intOf i).toNat);case atStart=>exact ⟨0,Sm _,rfl,Si _ _⟩
 obtain ⟨k,hk,rfl,hB⟩:=hrel;by_cases hlt:k < rs.length
 ·have hlt':k < rs'.length:=by rw [Xn.out]; exact hlt
  rcases Uj.out.below hB with rfl | ⟨b,off,rfl,hb,hr,hok⟩
  ·simp at hlt
  rcases XP.out.below hB with rfl | ⟨b',off',rfl,hb',hr',hok'⟩
  ·simp at hlt'
  obtain ⟨t0,t1⟩:=hr k hlt;obtain ⟨q0,q1⟩:=hr' k hlt';have HK1:Hid (rs[k].ok wr):=hok rs[k] (Sd hlt);have HK2:Hid (rs'[k].ok wr):=hok' rs'[k] (Sd hlt');have Zb:Hid (rs'[k].p=rs[k].p):=by
   have h1:(ag rs')[k]?=(ag rs)[k]?:=by rw [HEE.out]
   show _=_;simpa [ag,hlt,hlt'] using h1
  have HK4:Hid (rs[k].light):=UC.out rs[k] (Sd hlt);have hk1:=bH k;have hk2:(k:Int) < (rs.length:Int):=by omega
  clear hr hr' hok hok';go_wp2_with fail
  go_region_held3 (fun w'=>w'.cell? ⟨b,off + k * 2,none⟩=some (.string rs[k].name)∧w'.cell? ⟨b,off + k * 2 + 1,none⟩=some (.slice rs[k].ad rs[k].rows.length rs[k].cap)∧w'.cell? ⟨b',off' + k * 2,none⟩=some (.string rs'[k].name)∧w'.cell? ⟨b',off' + k * 2 + 1,none⟩=some (.slice rs'[k].ad rs'[k].rows.length rs'[k].cap)∧b < w'.heap.size∧b' < w'.heap.size∧aa wr w')
   (first | assumption | exact QL (by assumption) hbx | exact ⟨t0,t1,q0,q1,hb,hb',(Si _ _).drew⟩)
   (first | (go_at_call 38; refine (Fj rs[k] rs'[k] _ Zb.out (HK1.out.below (Jj (by assumption))) (HK2.out.below (Jj (by assumption))) HK4.out).mono ?_; rintro e w' ⟨rfl,hbx⟩))
  rename_i hH;obtain ⟨-,-,-,-,-,-,gB⟩:=hH;clear t0 t1 q0 q1 hb hb';go_wp2;go_roundw;case rel=>exact ⟨k + 1,by omega,by go_num,hB.trans (gB.mono hB.size)⟩
  simp [intOf]; omega
 go_wp2;go_ret;exact ⟨rfl,hB⟩
end Go.Proofs.YtdmniljjnaebbaaGreatDoor
