/- Contracts of the law's helpers that mark tuples, and that look whether the marks are held. -/
import Derived.Test.YtdaoiceeidoehaaGreatJ37
open Go.Proofs.Tryz
set_option maxHeartbeats 80000000
namespace Go.Proofs.YtdaoiceeidoehaaGreat
open Go.ChangeShapes Go.WideShapes Go.ChangeAt Go.RowKit
open Pl
def QR (k:Nat) (xs:List Tp):List Tp:=(List.range xs.length).map fun i=>⟨aT (k + 6 * i),aT (k + 6 * i + 1),aT (k + 6 * i + 2),aT (k + 6 * i + 3),aT (k + 6 * i + 4),aT (k + 6 * i + 5)⟩
theorem PQ (k:Nat) (xs:List Tp):(QR k xs).length=xs.length:=by simp [QR]
theorem QS (k:Nat) (xs:List Tp) (i:Nat) (h:i < (QR k xs).length):(QR k xs)[i]=⟨aT (k + 6 * i),aT (k + 6 * i + 1),aT (k + 6 * i + 2),aT (k + 6 * i + 3),aT (k + 6 * i + 4),aT (k + 6 * i + 5)⟩:=by simp [QR]
theorem Sl.chg {S:Nat→Prop} {w w':World} {ad:Option Addr} {xs:List Tp} (h:Sl w ad xs) (hc:Chg S w w') (hn:∀ g o,xs ≠ []→ad=some ⟨g,o,none⟩→¬ S g):Sl w' ad xs:=by
 rcases h with h | ⟨b,off,e,hb,hr⟩
 ·exact .inl h
 ·by_cases hx:xs=[]
  ·exact .inl hx
  ·exact .inr ⟨b,off,e,RZ hb hc.size,fun i hi=>(hr i hi).same fun o=>hc.cell hb (hn b off hx e)⟩
set_option maxRecDepth 8000 in
theorem zt (ad:Option Addr) (cap:Nat) (xs:List Tp) (k:Nat) (w:World) (hs:Sl w ad xs) (hg:xs ≠ []→∃ g,ad=some ⟨g,0,none⟩∧dL w g) (h0:0 < k) (h1:k + 6 * xs.length≤1000000000) :
  Calls prog 24 #[.slice ad xs.length cap,.int .i64 (k:Int)] w fun e w'=>e=.returned (.int .i64 ((k + 6 * xs.length:Nat):Int))∧Sl w' ad (QR k xs)∧Chg (fun g=>xs ≠ []∧ad=some ⟨g,0,none⟩) w w':=by
 by_cases hz:xs=[]
 ·subst hz;go_enter func24,ntmps24;go_wp2;go_loopw [1,5] (fun kv i wr=>kv=.int .i64 (k:Int)∧i=.int .i64 0∧wr=w) (fun _ _ _=>0);case atStart=>exact ⟨rfl,rfl,rfl⟩
  case round =>
   obtain ⟨rfl,rfl,rfl⟩:=hrel;go_wp2;go_ret;exact ⟨rfl,.inl rfl,Chg.refl _ _⟩
 obtain ⟨g,rfl,hfree⟩:=hg hz;rcases hs with h | ⟨b,off,VC,hb,hr⟩
 ·exact absurd h hz
 obtain ⟨rfl,rfl⟩:g=b∧0=off:=by injection VC with e; injection e with e1 e2; exact ⟨e1,e2⟩
 have HZ:=aC hz;clear hz VC hg;go_enter func24,ntmps24;go_wp2;go_loopw [1,5] (fun kv i wr=>∃ j:Nat,j≤xs.length∧kv=.int .i64 ((k + 6 * j:Nat):Int)∧i=.int .i64 (j:Int)∧Hid (∀ (x:Nat) (hx:x < xs.length),Md wr g (x * 6) (if x < j then ⟨aT (k + 6 * x),aT (k + 6 * x + 1),aT (k + 6 * x + 2),aT (k + 6 * x + 3),aT (k + 6 * x + 4),aT (k + 6 * x + 5)⟩ else xs[x]))∧Hid (dL wr g)∧Hid (Chg (fun y=>xs ≠ []∧(some ⟨g,0,none⟩:Option Addr)=some ⟨y,0,none⟩) w wr)) (fun _ i _=>xs.length - (intOf i).toNat);case atStart=>exact ⟨0,R6 _,rfl,rfl,fun x hx=>by have:=hr x hx; simpa using this,hfree,Chg.refl _ _⟩
 case round =>
  clear hr;obtain ⟨j,hj,rfl,rfl,HC,TD,Uf⟩:=hrel;by_cases hlt:j < xs.length
  ·obtain ⟨c0,c1,c2,c3,c4,c5⟩:=HC.out j hlt;rw [if_neg (by omega)] at c0 c1 c2 c3 c4 c5;have hgl:g < wr.heap.size:=RZ hb Uf.out.size;have hj1:=bn j;have hj2:(j:Int) < (xs.length:Int):=by omega
   have hjb:k + 6 * j + 6≤1000000000:=by omega
   have WF:Hid (Chg (fun y=>y=g) wr wr):=Chg.refl _ _;have Z5:Hid (∀ o,(∀ c,c < 0→o ≠ j * 6 + c)→wr.cell? ⟨g,o,none⟩=wr.cell? ⟨g,o,none⟩):=fun o _=>rfl;go_wp2_with fail;refine (aG _ (k + 6 * j) _ (by omega) (by omega) (by omega)).mono ?_;rintro e u0 ⟨rfl,hb0⟩;have HB0:=aC hb0;have Y0:u0.cell? ⟨g,j * 6,none⟩=some (.string xs[j].a):=mK hb0 hgl c0;have Y8:u0.cell? ⟨g,j * 6 + 1,none⟩=some (.string xs[j].b):=mK hb0 hgl c1;have Y9:u0.cell? ⟨g,j * 6 + 2,none⟩=some (.string xs[j].r):=mK hb0 hgl c2;have Za:u0.cell? ⟨g,j * 6 + 3,none⟩=some (.string xs[j].c):=mK hb0 hgl c3;have Zb:u0.cell? ⟨g,j * 6 + 4,none⟩=some (.string xs[j].d):=mK hb0 hgl c4;have e0_5:u0.cell? ⟨g,j * 6 + 5,none⟩=some (.string xs[j].s):=mK hb0 hgl c5;have fz0:∀ y,u0.frozen? ⟨g,y,none⟩=false:=fun y=>mF hb0 hgl (WF.out.free g hgl TD.out y);obtain ⟨v1,hV1⟩:∃ v,v=u0.setCell ⟨g,j * 6,none⟩ (.string (aT (k + 6 * j))):=⟨_,rfl⟩;have WC:Hid (Chg (fun y=>y=g) wr v1):=WF.out.trans ((Chg.of HB0.out).trans (by rw [hV1]; exact Chg.set _ rfl));have hg1:g < v1.heap.size:=RZ hgl WC.out.size;have Ug:Hid (∀ o,(∀ c,c < 1→o ≠ j * 6 + c)→v1.cell? ⟨g,o,none⟩=wr.cell? ⟨g,o,none⟩):=fun o ho=>by rw [hV1,mO (by have:=ho 0 (by omega); omega),HB0.out.cell (p:=⟨g,o,none⟩) hgl]
   have Zc:Hid (v1.cell? ⟨g,j * 6,none⟩=some (.string (aT (k + 6 * j)))):=by show _=_; rw [hV1]; exact mS Y0
   replace c1:v1.cell? ⟨g,j * 6 + 1,none⟩=some (.string xs[j].b):=by rw [hV1,mO (by omega)]; exact Y8
   replace c2:v1.cell? ⟨g,j * 6 + 2,none⟩=some (.string xs[j].r):=by rw [hV1,mO (by omega)]; exact Y9
   replace c3:v1.cell? ⟨g,j * 6 + 3,none⟩=some (.string xs[j].c):=by rw [hV1,mO (by omega)]; exact Za
   replace c4:v1.cell? ⟨g,j * 6 + 4,none⟩=some (.string xs[j].d):=by rw [hV1,mO (by omega)]; exact Zb
   replace c5:v1.cell? ⟨g,j * 6 + 5,none⟩=some (.string xs[j].s):=by rw [hV1,mO (by omega)]; exact e0_5
   clear hb0 c0;go_wp2_with fail;rw [← hV1];refine (aG _ (k + 6 * j + 1) _ (by omega) (by omega) (by omega)).mono ?_;rintro e u1 ⟨rfl,hb1⟩;have HB1:=aC hb1;have Zd:u1.cell? ⟨g,j * 6 + 1,none⟩=some (.string xs[j].b):=mK hb1 hg1 c1;have Ze:u1.cell? ⟨g,j * 6 + 2,none⟩=some (.string xs[j].r):=mK hb1 hg1 c2;have Zf:u1.cell? ⟨g,j * 6 + 3,none⟩=some (.string xs[j].c):=mK hb1 hg1 c3;have Zg:u1.cell? ⟨g,j * 6 + 4,none⟩=some (.string xs[j].d):=mK hb1 hg1 c4;have e1_5:u1.cell? ⟨g,j * 6 + 5,none⟩=some (.string xs[j].s):=mK hb1 hg1 c5;have fz1:∀ y,u1.frozen? ⟨g,y,none⟩=false:=fun y=>mF hb1 hg1 (WC.out.free g hgl TD.out y);obtain ⟨v2,hV2⟩:∃ v,v=u1.setCell ⟨g,j * 6 + 1,none⟩ (.string (aT (k + 6 * j + 1))):=⟨_,rfl⟩;have Vf:Hid (Chg (fun y=>y=g) wr v2):=WC.out.trans ((Chg.of HB1.out).trans (by rw [hV2]; exact Chg.set _ rfl));have hg2:g < v2.heap.size:=RZ hgl Vf.out.size;have Ta:Hid (∀ o,(∀ c,c < 2→o ≠ j * 6 + c)→v2.cell? ⟨g,o,none⟩=wr.cell? ⟨g,o,none⟩):=fun o ho=>by rw [hV2,mO (by have:=ho 1 (by omega); omega),HB1.out.cell (p:=⟨g,o,none⟩) hg1]; exact Ug.out o fun c hc=>ho c (by omega)
   have Zh:Hid (v2.cell? ⟨g,j * 6 + 1,none⟩=some (.string (aT (k + 6 * j + 1)))):=by show _=_; rw [hV2]; exact mS Zd
   have Zi:Hid (v2.cell? ⟨g,j * 6,none⟩=some (.string (aT (k + 6 * j)))):=by show _=_; rw [hV2,mO (by omega),HB1.out.cell (p:=⟨g,j * 6,none⟩) hg1]; exact Zc.out
   replace c2:v2.cell? ⟨g,j * 6 + 2,none⟩=some (.string xs[j].r):=by rw [hV2,mO (by omega)]; exact Ze
   replace c3:v2.cell? ⟨g,j * 6 + 3,none⟩=some (.string xs[j].c):=by rw [hV2,mO (by omega)]; exact Zf
   replace c4:v2.cell? ⟨g,j * 6 + 4,none⟩=some (.string xs[j].d):=by rw [hV2,mO (by omega)]; exact Zg
   replace c5:v2.cell? ⟨g,j * 6 + 5,none⟩=some (.string xs[j].s):=by rw [hV2,mO (by omega)]; exact e1_5
   clear hb1 hV1 fz0 Y0 Y8 Y9 Za Zb e0_5 c1;go_wp2_with fail;rw [← hV2];refine (aG _ (k + 6 * j + 2) _ (by omega) (by omega) (by omega)).mono ?_;rintro e u2 ⟨rfl,hb2⟩;have HB2:=aC hb2;have Zj:u2.cell? ⟨g,j * 6 + 2,none⟩=some (.string xs[j].r):=mK hb2 hg2 c2;have Zk:u2.cell? ⟨g,j * 6 + 3,none⟩=some (.string xs[j].c):=mK hb2 hg2 c3;have Zl:u2.cell? ⟨g,j * 6 + 4,none⟩=some (.string xs[j].d):=mK hb2 hg2 c4;have e2_5:u2.cell? ⟨g,j * 6 + 5,none⟩=some (.string xs[j].s):=mK hb2 hg2 c5;have fz2:∀ y,u2.frozen? ⟨g,y,none⟩=false:=fun y=>mF hb2 hg2 (Vf.out.free g hgl TD.out y);obtain ⟨v3,UG⟩:∃ v,v=u2.setCell ⟨g,j * 6 + 2,none⟩ (.string (aT (k + 6 * j + 2))):=⟨_,rfl⟩;have Z7:Hid (Chg (fun y=>y=g) wr v3):=Vf.out.trans ((Chg.of HB2.out).trans (by rw [UG]; exact Chg.set _ rfl));have hg3:g < v3.heap.size:=RZ hgl Z7.out.size;have Ui:Hid (∀ o,(∀ c,c < 3→o ≠ j * 6 + c)→v3.cell? ⟨g,o,none⟩=wr.cell? ⟨g,o,none⟩):=fun o ho=>by rw [UG,mO (by have:=ho 2 (by omega); omega),HB2.out.cell (p:=⟨g,o,none⟩) hg2]; exact Ta.out o fun c hc=>ho c (by omega)
   have Zm:Hid (v3.cell? ⟨g,j * 6 + 2,none⟩=some (.string (aT (k + 6 * j + 2)))):=by show _=_; rw [UG]; exact mS Zj
   have Zn:Hid (v3.cell? ⟨g,j * 6,none⟩=some (.string (aT (k + 6 * j)))):=by show _=_; rw [UG,mO (by omega),HB2.out.cell (p:=⟨g,j * 6,none⟩) hg2]; exact Zi.out
   have Zo:Hid (v3.cell? ⟨g,j * 6 + 1,none⟩=some (.string (aT (k + 6 * j + 1)))):=by show _=_; rw [UG,mO (by omega),HB2.out.cell (p:=⟨g,j * 6 + 1,none⟩) hg2]; exact Zh.out
   replace c3:v3.cell? ⟨g,j * 6 + 3,none⟩=some (.string xs[j].c):=by rw [UG,mO (by omega)]; exact Zk
   replace c4:v3.cell? ⟨g,j * 6 + 4,none⟩=some (.string xs[j].d):=by rw [UG,mO (by omega)]; exact Zl
   replace c5:v3.cell? ⟨g,j * 6 + 5,none⟩=some (.string xs[j].s):=by rw [UG,mO (by omega)]; exact e2_5
   clear hb2 hV2 fz1 Zd Ze Zf Zg e1_5 c2;go_wp2_with fail;rw [← UG];refine (aG _ (k + 6 * j + 3) _ (by omega) (by omega) (by omega)).mono ?_;rintro e u3 ⟨rfl,hb3⟩;have HB3:=aC hb3;have Zp:u3.cell? ⟨g,j * 6 + 3,none⟩=some (.string xs[j].c):=mK hb3 hg3 c3;have Zq:u3.cell? ⟨g,j * 6 + 4,none⟩=some (.string xs[j].d):=mK hb3 hg3 c4;have e3_5:u3.cell? ⟨g,j * 6 + 5,none⟩=some (.string xs[j].s):=mK hb3 hg3 c5;have fz3:∀ y,u3.frozen? ⟨g,y,none⟩=false:=fun y=>mF hb3 hg3 (Z7.out.free g hgl TD.out y);obtain ⟨v4,Vx⟩:∃ v,v=u3.setCell ⟨g,j * 6 + 3,none⟩ (.string (aT (k + 6 * j + 3))):=⟨_,rfl⟩;have HV4:Hid (Chg (fun y=>y=g) wr v4):=Z7.out.trans ((Chg.of HB3.out).trans (by rw [Vx]; exact Chg.set _ rfl));have hg4:g < v4.heap.size:=RZ hgl HV4.out.size;have TU:Hid (∀ o,(∀ c,c < 4→o ≠ j * 6 + c)→v4.cell? ⟨g,o,none⟩=wr.cell? ⟨g,o,none⟩):=fun o ho=>by rw [Vx,mO (by have:=ho 3 (by omega); omega),HB3.out.cell (p:=⟨g,o,none⟩) hg3]; exact Ui.out o fun c hc=>ho c (by omega)
   have Zr:Hid (v4.cell? ⟨g,j * 6 + 3,none⟩=some (.string (aT (k + 6 * j + 3)))):=by show _=_; rw [Vx]; exact mS Zp
   have Zt:Hid (v4.cell? ⟨g,j * 6,none⟩=some (.string (aT (k + 6 * j)))):=by show _=_; rw [Vx,mO (by omega),HB3.out.cell (p:=⟨g,j * 6,none⟩) hg3]; exact Zn.out
   have Zu:Hid (v4.cell? ⟨g,j * 6 + 1,none⟩=some (.string (aT (k + 6 * j + 1)))):=by show _=_; rw [Vx,mO (by omega),HB3.out.cell (p:=⟨g,j * 6 + 1,none⟩) hg3]; exact Zo.out
   have Zv:Hid (v4.cell? ⟨g,j * 6 + 2,none⟩=some (.string (aT (k + 6 * j + 2)))):=by show _=_; rw [Vx,mO (by omega),HB3.out.cell (p:=⟨g,j * 6 + 2,none⟩) hg3]; exact Zm.out
   replace c4:v4.cell? ⟨g,j * 6 + 4,none⟩=some (.string xs[j].d):=by rw [Vx,mO (by omega)]; exact Zq
   replace c5:v4.cell? ⟨g,j * 6 + 5,none⟩=some (.string xs[j].s):=by rw [Vx,mO (by omega)]; exact e3_5
   clear hb3 UG fz2 Zj Zk Zl e2_5 c3;go_wp2_with fail;rw [← Vx];refine (aG _ (k + 6 * j + 4) _ (by omega) (by omega) (by omega)).mono ?_;rintro e u4 ⟨rfl,hb4⟩;have Uo:=aC hb4;have e4_4:u4.cell? ⟨g,j * 6 + 4,none⟩=some (.string xs[j].d):=mK hb4 hg4 c4;have e4_5:u4.cell? ⟨g,j * 6 + 5,none⟩=some (.string xs[j].s):=mK hb4 hg4 c5;have fz4:∀ y,u4.frozen? ⟨g,y,none⟩=false:=fun y=>mF hb4 hg4 (HV4.out.free g hgl TD.out y);obtain ⟨v5,Vy⟩:∃ v,v=u4.setCell ⟨g,j * 6 + 4,none⟩ (.string (aT (k + 6 * j + 4))):=⟨_,rfl⟩;have HV5:Hid (Chg (fun y=>y=g) wr v5):=HV4.out.trans ((Chg.of Uo.out).trans (by rw [Vy]; exact Chg.set _ rfl));have hg5:g < v5.heap.size:=RZ hgl HV5.out.size;have TA:Hid (∀ o,(∀ c,c < 5→o ≠ j * 6 + c)→v5.cell? ⟨g,o,none⟩=wr.cell? ⟨g,o,none⟩):=fun o ho=>by rw [Vy,mO (by have:=ho 4 (by omega); omega),Uo.out.cell (p:=⟨g,o,none⟩) hg4]; exact TU.out o fun c hc=>ho c (by omega)
   have Zw:Hid (v5.cell? ⟨g,j * 6 + 4,none⟩=some (.string (aT (k + 6 * j + 4)))):=by show _=_; rw [Vy]; exact mS e4_4
   have Zx:Hid (v5.cell? ⟨g,j * 6,none⟩=some (.string (aT (k + 6 * j)))):=by show _=_; rw [Vy,mO (by omega),Uo.out.cell (p:=⟨g,j * 6,none⟩) hg4]; exact Zt.out
   have Zy:Hid (v5.cell? ⟨g,j * 6 + 1,none⟩=some (.string (aT (k + 6 * j + 1)))):=by show _=_; rw [Vy,mO (by omega),Uo.out.cell (p:=⟨g,j * 6 + 1,none⟩) hg4]; exact Zu.out
   have Zz:Hid (v5.cell? ⟨g,j * 6 + 2,none⟩=some (.string (aT (k + 6 * j + 2)))):=by show _=_; rw [Vy,mO (by omega),Uo.out.cell (p:=⟨g,j * 6 + 2,none⟩) hg4]; exact Zv.out
   have ZA:Hid (v5.cell? ⟨g,j * 6 + 3,none⟩=some (.string (aT (k + 6 * j + 3)))):=by show _=_; rw [Vy,mO (by omega),Uo.out.cell (p:=⟨g,j * 6 + 3,none⟩) hg4]; exact Zr.out
   replace c5:v5.cell? ⟨g,j * 6 + 5,none⟩=some (.string xs[j].s):=by rw [Vy,mO (by omega)]; exact e4_5
   clear hb4 Vx fz3 Zp Zq e3_5 c4;go_wp2_with fail;rw [← Vy];refine (aG _ (k + 6 * j + 5) _ (by omega) (by omega) (by omega)).mono ?_;rintro e u5 ⟨rfl,hb5⟩;have TK:=aC hb5;have e5_5:u5.cell? ⟨g,j * 6 + 5,none⟩=some (.string xs[j].s):=mK hb5 hg5 c5;have fz5:∀ y,u5.frozen? ⟨g,y,none⟩=false:=fun y=>mF hb5 hg5 (HV5.out.free g hgl TD.out y);obtain ⟨v6,Z8⟩:∃ v,v=u5.setCell ⟨g,j * 6 + 5,none⟩ (.string (aT (k + 6 * j + 5))):=⟨_,rfl⟩;have HV6:Hid (Chg (fun y=>y=g) wr v6):=HV5.out.trans ((Chg.of TK.out).trans (by rw [Z8]; exact Chg.set _ rfl));have hg6:g < v6.heap.size:=RZ hgl HV6.out.size;have Ut:Hid (∀ o,(∀ c,c < 6→o ≠ j * 6 + c)→v6.cell? ⟨g,o,none⟩=wr.cell? ⟨g,o,none⟩):=fun o ho=>by rw [Z8,mO (by have:=ho 5 (by omega); omega),TK.out.cell (p:=⟨g,o,none⟩) hg5]; exact TA.out o fun c hc=>ho c (by omega)
   have HW6_5:Hid (v6.cell? ⟨g,j * 6 + 5,none⟩=some (.string (aT (k + 6 * j + 5)))):=by show _=_; rw [Z8]; exact mS e5_5
   have HW6_0:Hid (v6.cell? ⟨g,j * 6,none⟩=some (.string (aT (k + 6 * j)))):=by show _=_; rw [Z8,mO (by omega),TK.out.cell (p:=⟨g,j * 6,none⟩) hg5]; exact Zx.out
   have HW6_1:Hid (v6.cell? ⟨g,j * 6 + 1,none⟩=some (.string (aT (k + 6 * j + 1)))):=by show _=_; rw [Z8,mO (by omega),TK.out.cell (p:=⟨g,j * 6 + 1,none⟩) hg5]; exact Zy.out
   have HW6_2:Hid (v6.cell? ⟨g,j * 6 + 2,none⟩=some (.string (aT (k + 6 * j + 2)))):=by show _=_; rw [Z8,mO (by omega),TK.out.cell (p:=⟨g,j * 6 + 2,none⟩) hg5]; exact Zz.out
   have HW6_3:Hid (v6.cell? ⟨g,j * 6 + 3,none⟩=some (.string (aT (k + 6 * j + 3)))):=by show _=_; rw [Z8,mO (by omega),TK.out.cell (p:=⟨g,j * 6 + 3,none⟩) hg5]; exact ZA.out
   have HW6_4:Hid (v6.cell? ⟨g,j * 6 + 4,none⟩=some (.string (aT (k + 6 * j + 4)))):=by show _=_; rw [Z8,mO (by omega),TK.out.cell (p:=⟨g,j * 6 + 4,none⟩) hg5]; exact Zw.out
   clear hb5 Vy fz4 e4_4 e4_5 c5;have Tx:Hid (∀ (x:Nat) (hx:x < xs.length),Md v6 g (x * 6) (if x < j + 1 then ⟨aT (k + 6 * x),aT (k + 6 * x + 1),aT (k + 6 * x + 2),aT (k + 6 * x + 3),aT (k + 6 * x + 4),aT (k + 6 * x + 5)⟩ else xs[x])):=by
    intro x hx;by_cases e:x=j
    ·subst e;rw [if_pos (by omega)];exact ⟨HW6_0.out,HW6_1.out,HW6_2.out,HW6_3.out,HW6_4.out,HW6_5.out⟩
    ·have hx2:=HC.out x hx;have e2:(if x < j + 1 then (⟨aT (k + 6 * x),aT (k + 6 * x + 1),aT (k + 6 * x + 2),aT (k + 6 * x + 3),aT (k + 6 * x + 4),aT (k + 6 * x + 5)⟩:Tp) else xs[x])=(if x < j then ⟨aT (k + 6 * x),aT (k + 6 * x + 1),aT (k + 6 * x + 2),aT (k + 6 * x + 3),aT (k + 6 * x + 4),aT (k + 6 * x + 5)⟩ else xs[x]):=by
      by_cases h2:x < j
      ·rw [if_pos h2,if_pos (by omega)]
      ·rw [if_neg h2,if_neg (by omega)]
     rw [e2];obtain ⟨p0,p1,p2,p3,p4,p5⟩:=hx2;exact ⟨by rw [Ut.out _ (fun c hc=>by omega)]; exact p0,by rw [Ut.out _ (fun c hc=>by omega)]; exact p1,by rw [Ut.out _ (fun c hc=>by omega)]; exact p2,by rw [Ut.out _ (fun c hc=>by omega)]; exact p3,by rw [Ut.out _ (fun c hc=>by omega)]; exact p4,by rw [Ut.out _ (fun c hc=>by omega)]; exact p5⟩
   have VL:Hid (Chg (fun y=>xs ≠ []∧(some ⟨g,0,none⟩:Option Addr)=some ⟨y,0,none⟩) w v6):=Uf.out.trans (HV6.out.mono fun y hy=>⟨HZ.out,by rw [hy]⟩);have HFN:Hid (dL v6 g):=HV6.out.free g hgl TD.out;have HVE:Hid (v6=_):=Z8;clear Z8;go_wp2;rw [← HVE.out];go_roundw;case rel=>exact ⟨j + 1,by omega,by go_num,by go_num,Tx,HFN,VL⟩
   case measure=>simp [intOf] <;> omega
  ·obtain rfl:j=xs.length:=by omega
   have V7:Hid (Sl wr (some ⟨g,0,none⟩) (QR k xs)):=.inr ⟨g,0,rfl,RZ hb Uf.out.size,fun i hi=>by
    have h2:i < xs.length:=by rw [PQ] at hi; exact hi
    have:=HC.out i h2;rw [if_pos h2] at this;rw [Su,QS]; exact this⟩
   go_wp2;go_ret;exact ⟨by go_num,V7.out,Uf.out⟩
set_option linter.unusedSectionVars false
set_option linter.unusedVariables false
set_option maxRecDepth 100000
theorem Lc {w:World} {base size n:Nat} {e:TypeId} {v:Value} {xs:List Value} (h:w.ownsRow base e size v n xs) {g:Nat} (hg:v.ownBlock=some g):dL w g:=fun j=>by
 rcases h.2 with ⟨rfl,-⟩ | ⟨g',cap,cur,rfl,-,h2,-⟩
 ·simp [Value.ownBlock] at hg
 ·have e:g'=g:=by simpa [Value.ownBlock] using hg
  subst e;simp [World.frozen?,h2]
def l7 (B:Nat) (w:World) (ad:Option Addr) (L:List Fc):Prop:=gX w ad L∧(L ≠ []→∃ g,ad=some ⟨g,0,none⟩∧B≤g∧dL w g)
theorem zu {w:World} {ad:Option Addr} {L:List Fc} (h:gX w ad L) (hne:L ≠ []) {g o:Nat} (e:ad=some ⟨g,o,none⟩):g < w.heap.size:=by
 rcases h with h | ⟨b,off,e2,hb,-⟩
 ·exact absurd h hne
 ·rw [e] at e2; injection e2 with e2; injection e2 with e2 e3; omega
theorem l7.later {B:Nat} {w w':World} {ad:Option Addr} {L:List Fc} (h:l7 B w ad L) (hb:Below w.heap.size w w'):l7 B w' ad L:=⟨h.1.below hb,fun hne=>by
 obtain ⟨g,e,h1,h2⟩:=h.2 hne;exact ⟨g,e,h1,fun j=>mF hb (zu h.1 hne e) (h2 j)⟩⟩
theorem l7.chg {B:Nat} {S:Nat→Prop} {w w':World} {ad:Option Addr} {L:List Fc} (h:l7 B w ad L) (hc:Chg S w w') (hn:∀ g,B≤g→¬ S g):l7 B w' ad L:=⟨h.1.chg hc (fun g o hne e=>by
  obtain ⟨g',e',h1,-⟩:=h.2 hne;rw [e] at e'; injection e' with e'; injection e' with e' e3;exact hn g (by omega)),fun hne=>by
 obtain ⟨g,e,h1,h2⟩:=h.2 hne;exact ⟨g,e,h1,hc.free g (zu h.1 hne e) h2⟩⟩
theorem Oc {w:World} {base:Nat} {v:Value} {fs:List Fc} (h:w.ownsRow base 42 5 v fs.length (au fs)):∃ ad cap,v=.slice ad fs.length cap∧l7 base w ad fs:=by
 obtain ⟨ad,cap,e,hs⟩:=iH h;subst e;refine ⟨ad,cap,rfl,hs,fun hne=>?_⟩;obtain ⟨g,e1,e2⟩:=uu h (fun e=>hne (Si.1 e));exact ⟨g,e1,(h.lt g e2).1,Lc h e2⟩
open Go.Sort
theorem FO (a b r c d:ByteArray) (w:World) :
  Calls prog 44 #[.agg #[.string a,.string b,.string r,.string c,.string d],.agg #[.string a,.string b,.string r,.string c,.string d]] w fun e w'=>e=.returned (.bool true)∧Below w.heap.size w w':=by
 go_enter func44,ntmps44;go_wp2_with fail;refine (ja _ _ _).mono ?_;rintro e w1 ⟨rfl,hb1⟩;obtain ⟨hc1,hf1⟩:=ed hb1;have hz1:w.heap.size + 1 < w1.heap.size:=by have:=hb1.size; simp at this; omega
 have hy1:w.heap.size < w1.heap.size:=by omega
 have HB1:Below w.heap.size w w1:=(((R3 _ _).alloc (R4 _) _).alloc (by simp) _).trans (hb1.mono (by simp; omega));go_wp2_with fail;refine (ja _ _ _).mono ?_;rintro e w2 ⟨rfl,hb2⟩;obtain ⟨hc2,hf2⟩:=ed hb2;have hz2:w.heap.size + 1 < w2.heap.size:=by have:=hb2.size; omega
 have hy2:w.heap.size < w2.heap.size:=by omega
 go_wp2;go_ret;exact ⟨rfl,HB1.trans (hb2.mono (by omega))⟩
theorem Dm (ad SQ:Option Addr) (cap cap':Nat) (w:World) :
  Calls prog 18 #[.slice ad 0 cap,.slice SQ 0 cap'] w fun e w'=>e=.returned (.bool true)∧Below w.heap.size w w':=by
 go_enter func18,ntmps18;go_wp2;refine wp_loop_rounds 1 ?_;rw [rounds_succ];go_wp2;go_ret;exact ⟨rfl,R3 _ _⟩
theorem Dn (b b' off off' cap cap':Nat) (ts:List Fc) (w:World) (hlen:ts.length≤maxLen) (hr:O8 w b off ts) (hb:b < w.heap.size) (hr':O8 w b' off' ts) (hb':b' < w.heap.size) :
  Calls prog 18 #[.slice (some ⟨b,off,none⟩) ts.length cap,.slice (some ⟨b',off',none⟩) ts.length cap'] w fun e w'=>e=.returned (.bool true)∧Below w.heap.size w w':=by
 unfold maxLen at hlen;have HR:=ag hr;have HR':=ag hr';clear hr hr';go_enter func18,ntmps18;go_wp2;go_loopw [5] (fun i wr=>∃ k:Nat,k≤ts.length∧i=.int .i64 k∧Hid (Below w.heap.size w wr)) (fun i _=>ts.length - (intOf i).toNat);case atStart=>exact ⟨0,R6 _,rfl,R3 _ _⟩
 case round =>
  obtain ⟨k,hk,rfl,HB⟩:=hrel;by_cases hlt:k < ts.length
  ·have h1:=(HR.out k hlt).same (fun o=>HB.out.cell (p:=⟨b,o,none⟩) hb);have h2:=(HR'.out k hlt).same (fun o=>HB.out.cell (p:=⟨b',o,none⟩) hb');obtain ⟨x,hx⟩:∃ x,ts[k]=x:=⟨_,rfl⟩;rw [hx] at h1 h2;obtain ⟨s0,s1,s2,s3,s4⟩:=h1;obtain ⟨y0,y1,y2,y3,y4⟩:=h2;clear hx;have hk1:=bn k;have hk2:(k:Int) < (ts.length:Int):=by omega
   replace s0:=cell_regrown s0;replace y0:=cell_regrown y0;replace s1:=cell_regrown s1;replace y1:=cell_regrown y1;replace s2:=cell_regrown s2;replace y2:=cell_regrown y2;replace s3:=cell_regrown s3;replace y3:=cell_regrown y3;replace s4:=cell_regrown s4;replace y4:=cell_regrown y4;have Ws:Hid (∀ d os,Calls prog 44 #[.agg #[.string x.a,.string x.b,.string x.r,.string x.c,.string x.d],.agg #[.string x.a,.string x.b,.string x.r,.string x.c,.string x.d]] (grow (redrawn wr d) os) fun e w''=>e=.returned (.bool true)∧∃ p:Regrown,w''=grow (redrawn wr p.d) p.os):=cz fun W' _=>FO _ _ _ _ _ _;go_wp2_with fail;refine wp_region_quiet_below (by kernel_rfl) (by kernel_rfl) ?_
   repeat (go_big_quiet_step (exact Ws.out _ _))
   refine wpQuiet_nil ?_;rintro _ ⟨⟨dq,osq⟩,rfl⟩;have HJB:=ag (HB.out.trans ((below_regrown wr dq osq).mono HB.out.size));go_wp2;go_roundw;case rel=>exact ⟨k + 1,by omega,by go_num,HJB⟩
   case measure=>simp [intOf] <;> omega
  ·go_wp2;go_ret;exact ⟨rfl,HB.out⟩
theorem pg (ad SQ:Option Addr) (cap cap':Nat) (ts:List Fc) (w:World) (hlen:ts.length≤maxLen) (hs:gX w ad ts) (hs':gX w SQ ts) :
  Calls prog 18 #[.slice ad ts.length cap,.slice SQ ts.length cap'] w fun e w'=>e=.returned (.bool true)∧Below w.heap.size w w':=by
 by_cases h:ts=[]
 ·subst h; exact Dm ad SQ cap cap' w
 ·rcases hs with h1 | ⟨b,off,rfl,hb,hr⟩
  ·exact absurd h1 h
  rcases hs' with h1 | ⟨b',off',rfl,hb',hr'⟩
  ·exact absurd h1 h
  exact Dn b b' off off' cap cap' ts w hlen hr hb hr' hb'
end Go.Proofs.YtdaoiceeidoehaaGreat
