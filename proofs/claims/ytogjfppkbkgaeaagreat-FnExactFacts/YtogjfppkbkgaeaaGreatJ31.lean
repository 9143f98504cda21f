/- Contract of the document's Facts. -/
import Derived.Test.YtogjfppkbkgaeaaGreatJ30
import Derived.Test.YtogjfppkbkgaeaaGreatL4Sort
import Derived.Test.YtogjfppkbkgaeaaGreatJ18
import Derived.Test.YtogjfppkbkgaeaaGreatJ8
import Derived.Test.YtogjfppkbkgaeaaGreatJ7
import Derived.Deep.RegionHeld3
import Derived.Deep.DrawnRows
namespace Go.Proofs.YtogjfppkbkgaeaaGreat
set_option maxRecDepth 100000
set_option linter.unusedVariables false
set_option linter.unusedSectionVars false
open Go.ChangeShapes Go.WideShapes Go.ChangeAt Go.RowKit Go.Maps
open Pl
section
variable [DecidableEq Fc]
set_option maxHeartbeats 4000000 in
theorem xR (st:ByteArray × ByteArray→Int) (ad:Option Addr) (cap:Nat) (rs:List TR) (ad':Option Addr) (cap':Nat) (ts:List Tp) (w:World) (hlen:rs.length≤1048576) (hs:fo w ad rs) (hl:∀ r ∈ rs,r.light) (hfr:∀ r ∈ rs,r.fits) (hlt:ts.length≤1048576) (hst:Sl w ad' ts) (hft:∀ x ∈ ts,x.fits) (hle:dh (af rs)=true→Least (af rs) st) :
  Calls Tryz.prog 9 #[.slice ad rs.length cap,.slice ad' ts.length cap'] w fun e w'=>(∃ v,e=.returned v∧w'.ownsRow w.heap.size 47 5 v (gu st rs ts).length (aA (gu st rs ts)))∧Below w.heap.size w w':=by
 have hLl:=xm st (rs:=rs) (ts:=ts);have HFQ:=ax (CX (st:=st) hfr hft);have HRC:=ax (CS ad cap rs ad' cap' ts w hlen hs hl hfr hlt hst hft);have HAC:Hid (aV (gp rs) rs ts=true→∀ W':World,Below w.heap.size w W'→Calls Tryz.prog 37 #[.slice ad rs.length cap,.slice ad' ts.length cap'] W' fun e w'=>(∃ v,e=.returned v∧w'.ownsRow W'.heap.size 47 5 v (dP st rs ts).length (aA (dP st rs ts)))∧Below W'.heap.size W' w'):=fun hr W' hb=>by
  have hsd:dh (af rs)=true∧ts.length≤40:=by
   unfold aV dR at hr;simp only [Bool.and_eq_true,decide_eq_true_eq] at hr;exact ⟨hr.1.1,hr.1.2.1⟩
  have:=Hl st ad cap rs ad' cap' ts W' (bR.1 hsd.1) (hle hsd.1) (hs.below hb) hl hsd.2 (hst.below hb);rw [← jB hr] at this;exact this
 clear hs hl hfr hst hft hle;go_enter Tryz.func9,Tryz.ntmps9;go_wp2_with fail;refine HRC.out.mono ?_;rintro e w1 ⟨rfl,hb1⟩;have HB1:=ax hb1;clear hb1 HRC;cases hr:aV (gp rs) rs ts with
 | false =>
  have HN:Hid (gu st rs ts=[]):=by show _=_; unfold gu; rw [jl hr]; rfl
  clear hr HAC;obtain ⟨W2,hW2⟩:∃ W2,W2=w1.alloc (.cells #[] 47):=⟨_,rfl⟩;have HO2:Hid (W2.ownsRow w.heap.size 47 5 (.slice (some ⟨w1.heap.size,0,none⟩) 0 0) 0 []):=by
   show World.ownsRow _ _ _ _ _ _ _;rw [hW2];exact World.ownsRow_lit w1 #[] 0 HB1.out.size (by unfold maxLen; omega) (by simp)
  have HB2:Hid (Below w.heap.size w W2):=by show Below _ _ _; rw [hW2]; exact HB1.out.alloc HB1.out.size _
  go_wp2;rw [← hW2];go_ret;exact ⟨⟨_,rfl,by rw [HN.out]; exact HO2.out⟩,HB2.out⟩
 | true =>
  have HA:=ax (HAC.out hr);clear HAC hr;obtain ⟨L,hL⟩:∃ L,dP st rs ts=L:=⟨_,rfl⟩;have HSL:Hid (gu st rs ts=iU kH L):=by show _=_; unfold gu; rw [hL]
  rw [hL] at HA HFQ hLl;clear hL;go_wp2_with fail;refine (HA.out _ HB1.out).mono ?_;rintro e w2 ⟨⟨v,rfl,hown⟩,hb2⟩;obtain ⟨adL,capL,rfl,hsl⟩:=mq hown;have HSF:=ax hsl;have HB2:Hid (Below w.heap.size w w2):=HB1.out.trans (hb2.mono HB1.out.size);clear hown hsl hb2 HB1 HA;have HLL:Hid (L.length≤1048576):=Nat.le_trans hLl (by decide);clear hLl;go_wp2_with fail;refine (EZ adL capL L _ HLL.out HSF.out HFQ.out).mono ?_;rintro e w3 ⟨⟨v,rfl,hown⟩,hb3⟩;have HB3:Hid (Below w.heap.size w w3):=HB2.out.trans (hb3.mono HB2.out.size);have HO3:Hid (w3.ownsRow w.heap.size 47 5 v (gu st rs ts).length (aA (gu st rs ts))):=by
   show World.ownsRow _ _ _ _ _ _ _;rw [HSL.out,(iD L).length_eq];exact rX hown HB2.out.size
  clear hown hb3;go_wp2;go_ret;exact ⟨⟨v,rfl,HO3.out⟩,HB3.out⟩
end
theorem CY (a b r c d:ByteArray) (w:World) :
  Calls Tryz.prog 44 #[.agg #[.string a,.string b,.string r,.string c,.string d],.agg #[.string a,.string b,.string r,.string c,.string d]] w fun e w'=>e=.returned (.bool true)∧Below w.heap.size w w':=by
 go_enter Tryz.func44,Tryz.ntmps44;go_wp2_with fail;refine (ic _ _ _).mono ?_;rintro e w1 ⟨rfl,hb1⟩;obtain ⟨hc1,hf1⟩:=dW hb1;have hz1:w.heap.size + 1 < w1.heap.size:=by have:=hb1.size; simp at this; omega
 have hy1:w.heap.size < w1.heap.size:=by omega
 have HB1:Below w.heap.size w w1:=(((Below.refl _ _).alloc (Nat.le_refl _) _).alloc (by simp) _).trans (hb1.mono (by simp; omega));go_wp2_with fail;refine (ic _ _ _).mono ?_;rintro e w2 ⟨rfl,hb2⟩;obtain ⟨hc2,hf2⟩:=dW hb2;have hz2:w.heap.size + 1 < w2.heap.size:=by have:=hb2.size; omega
 have hy2:w.heap.size < w2.heap.size:=by omega
 go_wp2;go_ret;exact ⟨rfl,HB1.trans (hb2.mono (by omega))⟩
theorem AQ (ad ad':Option Addr) (cap cap':Nat) (w:World) :
  Calls Tryz.prog 13 #[.slice ad 0 cap,.slice ad' 0 cap'] w fun e w'=>e=.returned (.bool true)∧Below w.heap.size w w':=by
 go_enter Tryz.func13,Tryz.ntmps13;go_wp2;refine wp_loop_rounds 1 ?_;rw [rounds_succ];go_wp2;go_ret;exact ⟨rfl,Below.refl _ _⟩
set_option maxHeartbeats 2000000 in
theorem AR (b b' off off' cap cap':Nat) (ts:List Fc) (w:World) (hlen:ts.length≤maxLen) (hr:LZ w b off ts) (hb:b < w.heap.size) (hr':LZ w b' off' ts) (hb':b' < w.heap.size) :
  Calls Tryz.prog 13 #[.slice (some ⟨b,off,none⟩) ts.length cap,.slice (some ⟨b',off',none⟩) ts.length cap'] w fun e w'=>e=.returned (.bool true)∧Below w.heap.size w w':=by
 unfold maxLen at hlen;have HR:=ax hr;have HR':=ax hr';clear hr hr';go_enter Tryz.func13,Tryz.ntmps13;go_wp2;go_loopw [5] (fun i wr=>∃ k:Nat,k≤ts.length∧i=.int .i64 k∧Hid (Below w.heap.size w wr)) (fun i _=>ts.length - (intOf i).toNat);case atStart=>exact ⟨0,Nat.zero_le _,rfl,Below.refl _ _⟩
 case round =>
  obtain ⟨k,hk,rfl,HB⟩:=hrel;by_cases hlt:k < ts.length
  ·have h1:=(HR.out k hlt).same (fun o=>HB.out.cell (p:=⟨b,o,none⟩) hb);have h2:=(HR'.out k hlt).same (fun o=>HB.out.cell (p:=⟨b',o,none⟩) hb');obtain ⟨x,hx⟩:∃ x,ts[k]=x:=⟨_,rfl⟩;rw [hx] at h1 h2;obtain ⟨s0,s1,s2,s3,s4⟩:=h1;obtain ⟨y0,y1,y2,y3,y4⟩:=h2;clear hx;have hk1:(0:Int)≤(k:Int):=by omega
   have hk2:(k:Int) < (ts.length:Int):=by omega
   have hbp:=HB.out;have hbr:b < wr.heap.size:=aB s0;have hbr':b' < wr.heap.size:=aB y0;go_wp2_with fail
   go_region_held3 (fun w'=>w'.cell? ⟨b,off + k * 5,none⟩=some (.string x.a)∧w'.cell? ⟨b,off + k * 5 + 1,none⟩=some (.string x.b)∧w'.cell? ⟨b,off + k * 5 + 2,none⟩=some (.string x.r)∧w'.cell? ⟨b,off + k * 5 + 3,none⟩=some (.string x.c)∧w'.cell? ⟨b,off + k * 5 + 4,none⟩=some (.string x.d)∧w'.cell? ⟨b',off' + k * 5,none⟩=some (.string x.a)∧w'.cell? ⟨b',off' + k * 5 + 1,none⟩=some (.string x.b)∧w'.cell? ⟨b',off' + k * 5 + 2,none⟩=some (.string x.r)∧w'.cell? ⟨b',off' + k * 5 + 3,none⟩=some (.string x.c)∧w'.cell? ⟨b',off' + k * 5 + 4,none⟩=some (.string x.d)∧Below w.heap.size w w')
    (first | assumption | exact AP (by assumption) hbx | exact ⟨s0,s1,s2,s3,s4,y0,y1,y2,y3,y4,hbp.drew⟩)
    (first | (go_at_call 44; refine (CY _ _ _ _ _ _).mono ?_; rintro e w' ⟨rfl,hbx⟩))
   rename_i hJ;have HJB:=ax hJ.2.2.2.2.2.2.2.2.2.2;clear hJ s0 s1 s2 s3 s4 y0 y1 y2 y3 y4;go_wp2;go_roundw;case rel=>exact ⟨k + 1,by omega,by go_num,HJB⟩
   case measure=>simp [intOf] <;> omega
  ·go_wp2;go_ret;exact ⟨rfl,HB.out⟩
theorem mX (ad ad':Option Addr) (cap cap':Nat) (ts:List Fc) (w:World) (hlen:ts.length≤maxLen) (hs:jF w ad ts) (hs':jF w ad' ts) :
  Calls Tryz.prog 13 #[.slice ad ts.length cap,.slice ad' ts.length cap'] w fun e w'=>e=.returned (.bool true)∧Below w.heap.size w w':=by
 by_cases h:ts=[]
 ·subst h; exact AQ ad ad' cap cap' w
 ·rcases hs with h1 | ⟨b,off,rfl,hb,hr⟩
  ·exact absurd h1 h
  rcases hs' with h1 | ⟨b',off',rfl,hb',hr'⟩
  ·exact absurd h1 h
  exact AR b b' off off' cap cap' ts w hlen hr hb hr' hb'
def E8 (k:Nat) (xs:List Fc):List Fc:=(List.range xs.length).map fun i=>⟨aK (k + 5 * i),aK (k + 5 * i + 1),aK (k + 5 * i + 2),aK (k + 5 * i + 3),aK (k + 5 * i + 4)⟩
theorem AU (k:Nat) (xs:List Fc):(E8 k xs).length=xs.length:=by simp [E8]
theorem J6 (k:Nat) (xs:List Fc) (i:Nat) (h:i < (E8 k xs).length):(E8 k xs)[i]=⟨aK (k + 5 * i),aK (k + 5 * i + 1),aK (k + 5 * i + 2),aK (k + 5 * i + 3),aK (k + 5 * i + 4)⟩:=by simp [E8]
theorem Lj {k:Nat} {xs:List Fc}:E8 k xs=[] ↔ xs=[]:=by
 constructor
 ·intro h; have:=congrArg List.length h; rw [AU] at this; exact List.length_eq_zero_iff.1 this
 ·rintro rfl; rfl
theorem jF.chg {S:Nat→Prop} {w w':World} {ad:Option Addr} {xs:List Fc} (h:jF w ad xs) (hc:Chg S w w') (hn:∀ g o,xs ≠ []→ad=some ⟨g,o,none⟩→¬ S g):jF w' ad xs:=by
 rcases h with h | ⟨b,off,e,hb,hr⟩
 ·exact .inl h
 ·by_cases hx:xs=[]
  ·exact .inl hx
  ·exact .inr ⟨b,off,e,Nat.lt_of_lt_of_le hb hc.size,fun i hi=>(hr i hi).same fun o=>hc.cell hb (hn b off hx e)⟩
set_option maxRecDepth 8000 in
set_option maxHeartbeats 4000000 in
theorem xS (ad:Option Addr) (cap:Nat) (xs:List Fc) (k:Nat) (w:World) (hs:jF w ad xs) (hg:xs ≠ []→∃ g,ad=some ⟨g,0,none⟩∧cz w g) (h0:0 < k) (h1:k + 5 * xs.length≤1000000000) :
  Calls Tryz.prog 18 #[.slice ad xs.length cap,.int .i64 (k:Int)] w fun e w'=>e=.returned (.int .i64 ((k + 5 * xs.length:Nat):Int))∧jF w' ad (E8 k xs)∧Chg (fun g=>xs ≠ []∧ad=some ⟨g,0,none⟩) w w':=by
 by_cases hz:xs=[]
 ·subst hz;go_enter Tryz.func18,Tryz.ntmps18;go_wp2;go_loopw [1,5] (fun kv i wr=>kv=.int .i64 (k:Int)∧i=.int .i64 0∧wr=w) (fun _ _ _=>0);case atStart=>exact ⟨rfl,rfl,rfl⟩
  case round =>
   obtain ⟨rfl,rfl,rfl⟩:=hrel;go_wp2;go_ret;exact ⟨rfl,.inl rfl,Chg.refl _ _⟩
 obtain ⟨g,rfl,hfree⟩:=hg hz;rcases hs with h | ⟨b,off,hbo,hb,hr⟩
 ·exact absurd h hz
 obtain ⟨rfl,rfl⟩:g=b∧0=off:=by injection hbo with e; injection e with e1 e2; exact ⟨e1,e2⟩
 have HZ:Hid (xs ≠ []):=hz;clear hz hbo hg;go_enter Tryz.func18,Tryz.ntmps18;go_wp2;go_loopw [1,5] (fun kv i wr=>∃ j:Nat,j≤xs.length∧kv=.int .i64 ((k + 5 * j:Nat):Int)∧i=.int .i64 (j:Int)∧Hid (∀ (x:Nat) (hx:x < xs.length),BC wr g (x * 5) (if x < j then ⟨aK (k + 5 * x),aK (k + 5 * x + 1),aK (k + 5 * x + 2),aK (k + 5 * x + 3),aK (k + 5 * x + 4)⟩ else xs[x]))∧Hid (cz wr g)∧Hid (Chg (fun y=>xs ≠ []∧(some ⟨g,0,none⟩:Option Addr)=some ⟨y,0,none⟩) w wr)) (fun _ i _=>xs.length - (intOf i).toNat);case atStart=>exact ⟨0,Nat.zero_le _,rfl,rfl,fun x hx=>by have:=hr x hx; simpa using this,hfree,Chg.refl _ _⟩
 case round =>
  clear hr;obtain ⟨j,hj,rfl,rfl,HC,HFR,HCH⟩:=hrel;by_cases hlt:j < xs.length
  ·obtain ⟨c0,c1,c2,c3,c4⟩:=HC.out j hlt;rw [if_neg (by omega)] at c0 c1 c2 c3 c4;have hgl:g < wr.heap.size:=Nat.lt_of_lt_of_le hb HCH.out.size;have hj1:(0:Int)≤(j:Int):=by omega
   have hj2:(j:Int) < (xs.length:Int):=by omega
   have hjb:k + 5 * j + 5≤1000000000:=by omega
   have HV0:Hid (Chg (fun y=>y=g) wr wr):=Chg.refl _ _;have HO0:Hid (∀ o,(∀ c,c < 0→o ≠ j * 5 + c)→wr.cell? ⟨g,o,none⟩=wr.cell? ⟨g,o,none⟩):=fun o _=>rfl;go_wp2_with fail;refine (aF _ (k + 5 * j) _ (by omega) (by omega) (by omega)).mono ?_;rintro e u0 ⟨rfl,hb0⟩;have HB0:Hid (Below wr.heap.size wr u0):=hb0;have e0_0:u0.cell? ⟨g,j * 5,none⟩=some (.string xs[j].a):=mK hb0 hgl c0;have e0_1:u0.cell? ⟨g,j * 5 + 1,none⟩=some (.string xs[j].b):=mK hb0 hgl c1;have e0_2:u0.cell? ⟨g,j * 5 + 2,none⟩=some (.string xs[j].r):=mK hb0 hgl c2;have e0_3:u0.cell? ⟨g,j * 5 + 3,none⟩=some (.string xs[j].c):=mK hb0 hgl c3;have e0_4:u0.cell? ⟨g,j * 5 + 4,none⟩=some (.string xs[j].d):=mK hb0 hgl c4;have fz0:∀ y,u0.frozen? ⟨g,y,none⟩=false:=fun y=>mF hb0 hgl (HV0.out.free g hgl HFR.out y);obtain ⟨v1,hV1⟩:∃ v,v=u0.setCell ⟨g,j * 5,none⟩ (.string (aK (k + 5 * j))):=⟨_,rfl⟩;have HV1:Hid (Chg (fun y=>y=g) wr v1):=HV0.out.trans ((Chg.of HB0.out).trans (by rw [hV1]; exact Chg.set _ rfl));have hg1:g < v1.heap.size:=Nat.lt_of_lt_of_le hgl HV1.out.size;have HO1:Hid (∀ o,(∀ c,c < 1→o ≠ j * 5 + c)→v1.cell? ⟨g,o,none⟩=wr.cell? ⟨g,o,none⟩):=fun o ho=>by rw [hV1,mO (by have:=ho 0 (by omega); omega),HB0.out.cell (p:=⟨g,o,none⟩) hgl]
   have HW1_0:Hid (v1.cell? ⟨g,j * 5,none⟩=some (.string (aK (k + 5 * j)))):=by show _=_; rw [hV1]; exact mS e0_0
   replace c1:v1.cell? ⟨g,j * 5 + 1,none⟩=some (.string xs[j].b):=by rw [hV1,mO (by omega)]; exact e0_1
   replace c2:v1.cell? ⟨g,j * 5 + 2,none⟩=some (.string xs[j].r):=by rw [hV1,mO (by omega)]; exact e0_2
   replace c3:v1.cell? ⟨g,j * 5 + 3,none⟩=some (.string xs[j].c):=by rw [hV1,mO (by omega)]; exact e0_3
   replace c4:v1.cell? ⟨g,j * 5 + 4,none⟩=some (.string xs[j].d):=by rw [hV1,mO (by omega)]; exact e0_4
   clear hb0 c0;go_wp2_with fail;rw [← hV1];refine (aF _ (k + 5 * j + 1) _ (by omega) (by omega) (by omega)).mono ?_;rintro e u1 ⟨rfl,hb1⟩;have HB1:Hid (Below v1.heap.size v1 u1):=hb1;have e1_1:u1.cell? ⟨g,j * 5 + 1,none⟩=some (.string xs[j].b):=mK hb1 hg1 c1;have e1_2:u1.cell? ⟨g,j * 5 + 2,none⟩=some (.string xs[j].r):=mK hb1 hg1 c2;have e1_3:u1.cell? ⟨g,j * 5 + 3,none⟩=some (.string xs[j].c):=mK hb1 hg1 c3;have e1_4:u1.cell? ⟨g,j * 5 + 4,none⟩=some (.string xs[j].d):=mK hb1 hg1 c4;have fz1:∀ y,u1.frozen? ⟨g,y,none⟩=false:=fun y=>mF hb1 hg1 (HV1.out.free g hgl HFR.out y);obtain ⟨v2,hV2⟩:∃ v,v=u1.setCell ⟨g,j * 5 + 1,none⟩ (.string (aK (k + 5 * j + 1))):=⟨_,rfl⟩;have HV2:Hid (Chg (fun y=>y=g) wr v2):=HV1.out.trans ((Chg.of HB1.out).trans (by rw [hV2]; exact Chg.set _ rfl));have hg2:g < v2.heap.size:=Nat.lt_of_lt_of_le hgl HV2.out.size;have HO2:Hid (∀ o,(∀ c,c < 2→o ≠ j * 5 + c)→v2.cell? ⟨g,o,none⟩=wr.cell? ⟨g,o,none⟩):=fun o ho=>by rw [hV2,mO (by have:=ho 1 (by omega); omega),HB1.out.cell (p:=⟨g,o,none⟩) hg1]; exact HO1.out o fun c hc=>ho c (by omega)
   have HW2_1:Hid (v2.cell? ⟨g,j * 5 + 1,none⟩=some (.string (aK (k + 5 * j + 1)))):=by show _=_; rw [hV2]; exact mS e1_1
   have HW2_0:Hid (v2.cell? ⟨g,j * 5,none⟩=some (.string (aK (k + 5 * j)))):=by show _=_; rw [hV2,mO (by omega),HB1.out.cell (p:=⟨g,j * 5,none⟩) hg1]; exact HW1_0.out
   replace c2:v2.cell? ⟨g,j * 5 + 2,none⟩=some (.string xs[j].r):=by rw [hV2,mO (by omega)]; exact e1_2
   replace c3:v2.cell? ⟨g,j * 5 + 3,none⟩=some (.string xs[j].c):=by rw [hV2,mO (by omega)]; exact e1_3
   replace c4:v2.cell? ⟨g,j * 5 + 4,none⟩=some (.string xs[j].d):=by rw [hV2,mO (by omega)]; exact e1_4
   clear hb1 hV1 fz0 e0_0 e0_1 e0_2 e0_3 e0_4 c1;go_wp2_with fail;rw [← hV2];refine (aF _ (k + 5 * j + 2) _ (by omega) (by omega) (by omega)).mono ?_;rintro e u2 ⟨rfl,hb2⟩;have HB2:Hid (Below v2.heap.size v2 u2):=hb2;have e2_2:u2.cell? ⟨g,j * 5 + 2,none⟩=some (.string xs[j].r):=mK hb2 hg2 c2;have e2_3:u2.cell? ⟨g,j * 5 + 3,none⟩=some (.string xs[j].c):=mK hb2 hg2 c3;have e2_4:u2.cell? ⟨g,j * 5 + 4,none⟩=some (.string xs[j].d):=mK hb2 hg2 c4;have fz2:∀ y,u2.frozen? ⟨g,y,none⟩=false:=fun y=>mF hb2 hg2 (HV2.out.free g hgl HFR.out y);obtain ⟨v3,hV3⟩:∃ v,v=u2.setCell ⟨g,j * 5 + 2,none⟩ (.string (aK (k + 5 * j + 2))):=⟨_,rfl⟩;have HV3:Hid (Chg (fun y=>y=g) wr v3):=HV2.out.trans ((Chg.of HB2.out).trans (by rw [hV3]; exact Chg.set _ rfl));have hg3:g < v3.heap.size:=Nat.lt_of_lt_of_le hgl HV3.out.size;have HO3:Hid (∀ o,(∀ c,c < 3→o ≠ j * 5 + c)→v3.cell? ⟨g,o,none⟩=wr.cell? ⟨g,o,none⟩):=fun o ho=>by rw [hV3,mO (by have:=ho 2 (by omega); omega),HB2.out.cell (p:=⟨g,o,none⟩) hg2]; exact HO2.out o fun c hc=>ho c (by omega)
   have HW3_2:Hid (v3.cell? ⟨g,j * 5 + 2,none⟩=some (.string (aK (k + 5 * j + 2)))):=by show _=_; rw [hV3]; exact mS e2_2
   have HW3_0:Hid (v3.cell? ⟨g,j * 5,none⟩=some (.string (aK (k + 5 * j)))):=by show _=_; rw [hV3,mO (by omega),HB2.out.cell (p:=⟨g,j * 5,none⟩) hg2]; exact HW2_0.out
   have HW3_1:Hid (v3.cell? ⟨g,j * 5 + 1,none⟩=some (.string (aK (k + 5 * j + 1)))):=by show _=_; rw [hV3,mO (by omega),HB2.out.cell (p:=⟨g,j * 5 + 1,none⟩) hg2]; exact HW2_1.out
   replace c3:v3.cell? ⟨g,j * 5 + 3,none⟩=some (.string xs[j].c):=by rw [hV3,mO (by omega)]; exact e2_3
   replace c4:v3.cell? ⟨g,j * 5 + 4,none⟩=some (.string xs[j].d):=by rw [hV3,mO (by omega)]; exact e2_4
   clear hb2 hV2 fz1 e1_1 e1_2 e1_3 e1_4 c2;go_wp2_with fail;rw [← hV3];refine (aF _ (k + 5 * j + 3) _ (by omega) (by omega) (by omega)).mono ?_;rintro e u3 ⟨rfl,hb3⟩;have HB3:Hid (Below v3.heap.size v3 u3):=hb3;have e3_3:u3.cell? ⟨g,j * 5 + 3,none⟩=some (.string xs[j].c):=mK hb3 hg3 c3;have e3_4:u3.cell? ⟨g,j * 5 + 4,none⟩=some (.string xs[j].d):=mK hb3 hg3 c4;have fz3:∀ y,u3.frozen? ⟨g,y,none⟩=false:=fun y=>mF hb3 hg3 (HV3.out.free g hgl HFR.out y);obtain ⟨v4,hV4⟩:∃ v,v=u3.setCell ⟨g,j * 5 + 3,none⟩ (.string (aK (k + 5 * j + 3))):=⟨_,rfl⟩;have HV4:Hid (Chg (fun y=>y=g) wr v4):=HV3.out.trans ((Chg.of HB3.out).trans (by rw [hV4]; exact Chg.set _ rfl));have hg4:g < v4.heap.size:=Nat.lt_of_lt_of_le hgl HV4.out.size;have HO4:Hid (∀ o,(∀ c,c < 4→o ≠ j * 5 + c)→v4.cell? ⟨g,o,none⟩=wr.cell? ⟨g,o,none⟩):=fun o ho=>by rw [hV4,mO (by have:=ho 3 (by omega); omega),HB3.out.cell (p:=⟨g,o,none⟩) hg3]; exact HO3.out o fun c hc=>ho c (by omega)
   have HW4_3:Hid (v4.cell? ⟨g,j * 5 + 3,none⟩=some (.string (aK (k + 5 * j + 3)))):=by show _=_; rw [hV4]; exact mS e3_3
   have HW4_0:Hid (v4.cell? ⟨g,j * 5,none⟩=some (.string (aK (k + 5 * j)))):=by show _=_; rw [hV4,mO (by omega),HB3.out.cell (p:=⟨g,j * 5,none⟩) hg3]; exact HW3_0.out
   have HW4_1:Hid (v4.cell? ⟨g,j * 5 + 1,none⟩=some (.string (aK (k + 5 * j + 1)))):=by show _=_; rw [hV4,mO (by omega),HB3.out.cell (p:=⟨g,j * 5 + 1,none⟩) hg3]; exact HW3_1.out
   have HW4_2:Hid (v4.cell? ⟨g,j * 5 + 2,none⟩=some (.string (aK (k + 5 * j + 2)))):=by show _=_; rw [hV4,mO (by omega),HB3.out.cell (p:=⟨g,j * 5 + 2,none⟩) hg3]; exact HW3_2.out
   replace c4:v4.cell? ⟨g,j * 5 + 4,none⟩=some (.string xs[j].d):=by rw [hV4,mO (by omega)]; exact e3_4
   clear hb3 hV3 fz2 e2_2 e2_3 e2_4 c3;go_wp2_with fail;rw [← hV4];refine (aF _ (k + 5 * j + 4) _ (by omega) (by omega) (by omega)).mono ?_;rintro e u4 ⟨rfl,hb4⟩;have HB4:Hid (Below v4.heap.size v4 u4):=hb4;have e4_4:u4.cell? ⟨g,j * 5 + 4,none⟩=some (.string xs[j].d):=mK hb4 hg4 c4;have fz4:∀ y,u4.frozen? ⟨g,y,none⟩=false:=fun y=>mF hb4 hg4 (HV4.out.free g hgl HFR.out y);obtain ⟨v5,hV5⟩:∃ v,v=u4.setCell ⟨g,j * 5 + 4,none⟩ (.string (aK (k + 5 * j + 4))):=⟨_,rfl⟩;have HV5:Hid (Chg (fun y=>y=g) wr v5):=HV4.out.trans ((Chg.of HB4.out).trans (by rw [hV5]; exact Chg.set _ rfl));have hg5:g < v5.heap.size:=Nat.lt_of_lt_of_le hgl HV5.out.size;have HO5:Hid (∀ o,(∀ c,c < 5→o ≠ j * 5 + c)→v5.cell? ⟨g,o,none⟩=wr.cell? ⟨g,o,none⟩):=fun o ho=>by rw [hV5,mO (by have:=ho 4 (by omega); omega),HB4.out.cell (p:=⟨g,o,none⟩) hg4]; exact HO4.out o fun c hc=>ho c (by omega)
   have HW5_4:Hid (v5.cell? ⟨g,j * 5 + 4,none⟩=some (.string (aK (k + 5 * j + 4)))):=by show _=_; rw [hV5]; exact mS e4_4
   have HW5_0:Hid (v5.cell? ⟨g,j * 5,none⟩=some (.string (aK (k + 5 * j)))):=by show _=_; rw [hV5,mO (by omega),HB4.out.cell (p:=⟨g,j * 5,none⟩) hg4]; exact HW4_0.out
   have HW5_1:Hid (v5.cell? ⟨g,j * 5 + 1,none⟩=some (.string (aK (k + 5 * j + 1)))):=by show _=_; rw [hV5,mO (by omega),HB4.out.cell (p:=⟨g,j * 5 + 1,none⟩) hg4]; exact HW4_1.out
   have HW5_2:Hid (v5.cell? ⟨g,j * 5 + 2,none⟩=some (.string (aK (k + 5 * j + 2)))):=by show _=_; rw [hV5,mO (by omega),HB4.out.cell (p:=⟨g,j * 5 + 2,none⟩) hg4]; exact HW4_2.out
   have HW5_3:Hid (v5.cell? ⟨g,j * 5 + 3,none⟩=some (.string (aK (k + 5 * j + 3)))):=by show _=_; rw [hV5,mO (by omega),HB4.out.cell (p:=⟨g,j * 5 + 3,none⟩) hg4]; exact HW4_3.out
   clear hb4 hV4 fz3 e3_3 e3_4 c4;have HCN:Hid (∀ (x:Nat) (hx:x < xs.length),BC v5 g (x * 5) (if x < j + 1 then ⟨aK (k + 5 * x),aK (k + 5 * x + 1),aK (k + 5 * x + 2),aK (k + 5 * x + 3),aK (k + 5 * x + 4)⟩ else xs[x])):=by
    intro x hx;by_cases e:x=j
    ·subst e;rw [if_pos (by omega)];exact ⟨HW5_0.out,HW5_1.out,HW5_2.out,HW5_3.out,HW5_4.out⟩
    ·have hx2:=HC.out x hx;have e2:(if x < j + 1 then (⟨aK (k + 5 * x),aK (k + 5 * x + 1),aK (k + 5 * x + 2),aK (k + 5 * x + 3),aK (k + 5 * x + 4)⟩:Fc) else xs[x])=(if x < j then ⟨aK (k + 5 * x),aK (k + 5 * x + 1),aK (k + 5 * x + 2),aK (k + 5 * x + 3),aK (k + 5 * x + 4)⟩ else xs[x]):=by
      by_cases h2:x < j
      ·rw [if_pos h2,if_pos (by omega)]
      ·rw [if_neg h2,if_neg (by omega)]
     rw [e2];obtain ⟨p0,p1,p2,p3,p4⟩:=hx2;exact ⟨by rw [HO5.out _ (fun c hc=>by omega)]; exact p0,by rw [HO5.out _ (fun c hc=>by omega)]; exact p1,by rw [HO5.out _ (fun c hc=>by omega)]; exact p2,by rw [HO5.out _ (fun c hc=>by omega)]; exact p3,by rw [HO5.out _ (fun c hc=>by omega)]; exact p4⟩
   have HCHN:Hid (Chg (fun y=>xs ≠ []∧(some ⟨g,0,none⟩:Option Addr)=some ⟨y,0,none⟩) w v5):=HCH.out.trans (HV5.out.mono fun y hy=>⟨HZ.out,by rw [hy]⟩);have HFN:Hid (cz v5 g):=HV5.out.free g hgl HFR.out;have HVE:Hid (v5=_):=hV5;clear hV5;go_wp2;rw [← HVE.out];go_roundw;case rel=>exact ⟨j + 1,by omega,by go_num,by go_num,HCN,HFN,HCHN⟩
   case measure=>simp [intOf] <;> omega
  ·obtain rfl:j=xs.length:=by omega
   have HS3:Hid (jF wr (some ⟨g,0,none⟩) (E8 k xs)):=.inr ⟨g,0,rfl,Nat.lt_of_lt_of_le hb HCH.out.size,fun i hi=>by
    have h2:i < xs.length:=by rw [AU] at hi; exact hi
    have:=HC.out i h2;rw [if_pos h2] at this;rw [Nat.zero_add,J6]; exact this⟩
   go_wp2;go_ret;exact ⟨by go_num,HS3.out,HCH.out⟩
theorem kJ {w w1 w2:World} {b o:Nat} {z0 z1 z2 z3 z4:Value} (h:w1.cell? ⟨b,o,none⟩=some z0∧w1.cell? ⟨b,o + 1,none⟩=some z1∧w1.cell? ⟨b,o + 2,none⟩=some z2∧w1.cell? ⟨b,o + 3,none⟩=some z3∧w1.cell? ⟨b,o + 4,none⟩=some z4∧b < w1.heap.size∧Below w.heap.size w w1) (hb:Below w1.heap.size w1 w2):w2.cell? ⟨b,o,none⟩=some z0∧w2.cell? ⟨b,o + 1,none⟩=some z1∧w2.cell? ⟨b,o + 2,none⟩=some z2∧w2.cell? ⟨b,o + 3,none⟩=some z3∧w2.cell? ⟨b,o + 4,none⟩=some z4∧b < w2.heap.size∧Below w.heap.size w w2:=by
 obtain ⟨a0,a1,a2,a3,a4,h1,h2⟩:=h;exact ⟨mK hb h1 a0,mK hb h1 a1,mK hb h1 a2,mK hb h1 a3,mK hb h1 a4,Nat.lt_of_lt_of_le h1 hb.size,h2.trans (hb.mono h2.size)⟩
set_option maxRecDepth 8000 in
set_option maxHeartbeats 4000000 in
theorem ow (ad:Option Addr) (cap:Nat) (xs:List Fc) (k:Nat) (w:World) (hs:jF w ad (E8 k xs)) (h0:0 < k) (h1:k + 5 * xs.length≤1000000000) :
  Calls Tryz.prog 19 #[.slice ad xs.length cap,.int .i64 (k:Int)] w fun e w'=>e=.returned (.int .i64 ((k + 5 * xs.length:Nat):Int))∧Below w.heap.size w w':=by
 have HS:Hid (jF w ad (E8 k xs)):=hs;clear hs;go_enter Tryz.func19,Tryz.ntmps19;go_wp2;go_loopw [1,5] (fun kv i wr=>∃ j:Nat,j≤xs.length∧kv=.int .i64 ((k + 5 * j:Nat):Int)∧i=.int .i64 (j:Int)∧Hid (Below w.heap.size w wr)) (fun _ i _=>xs.length - (intOf i).toNat);case atStart=>exact ⟨0,Nat.zero_le _,rfl,rfl,Below.refl _ _⟩
 case round =>
  obtain ⟨j,hj,rfl,rfl,HB⟩:=hrel;by_cases hlt:j < xs.length
  ·rcases HS.out.below HB.out with h | ⟨b,off,rfl,hb,hr⟩
   ·rw [Lj] at h; rw [h] at hlt; simp at hlt
   obtain ⟨c0,c1,c2,c3,c4⟩:=hr j (by rw [AU]; exact hlt);rw [J6] at c0 c1 c2 c3 c4;have hj1:(0:Int)≤(j:Int):=by omega
   have hj2:(j:Int) < (xs.length:Int):=by omega
   have hjb:k + 5 * j + 5≤1000000000:=by omega
   clear hr;go_wp2_with fail
   go_region_held3 (fun w'=>w'.cell? ⟨b,off + j * 5,none⟩=some (.string (aK (k + 5 * j)))∧w'.cell? ⟨b,off + j * 5 + 1,none⟩=some (.string (aK (k + 5 * j + 1)))∧w'.cell? ⟨b,off + j * 5 + 2,none⟩=some (.string (aK (k + 5 * j + 2)))∧w'.cell? ⟨b,off + j * 5 + 3,none⟩=some (.string (aK (k + 5 * j + 3)))∧w'.cell? ⟨b,off + j * 5 + 4,none⟩=some (.string (aK (k + 5 * j + 4)))∧b < w'.heap.size∧Below w.heap.size w w')
    (first | assumption | exact kJ (by assumption) hbx | exact ⟨c0,c1,c2,c3,c4,hb,HB.out.drew⟩)
    (first | (go_at_call 47; refine (aF _ (k + 5 * j) _ (by omega) (by omega) (by omega)).mono ?_; rintro e w' ⟨rfl,hbx⟩))
   rename_i hH;clear c0 c1 c2 c3 c4 hb HB;obtain ⟨c0,c1,c2,c3,c4,hb,hB⟩:=hH;have HB:Hid (Below w.heap.size w _):=hB;clear hB;go_wp2_with fail
   go_region_held3 (fun w'=>w'.cell? ⟨b,off + j * 5,none⟩=some (.string (aK (k + 5 * j)))∧w'.cell? ⟨b,off + j * 5 + 1,none⟩=some (.string (aK (k + 5 * j + 1)))∧w'.cell? ⟨b,off + j * 5 + 2,none⟩=some (.string (aK (k + 5 * j + 2)))∧w'.cell? ⟨b,off + j * 5 + 3,none⟩=some (.string (aK (k + 5 * j + 3)))∧w'.cell? ⟨b,off + j * 5 + 4,none⟩=some (.string (aK (k + 5 * j + 4)))∧b < w'.heap.size∧Below w.heap.size w w')
    (first | assumption | exact kJ (by assumption) hbx | exact ⟨c0,c1,c2,c3,c4,hb,HB.out.drew⟩)
    (first | (go_at_call 47; refine (aF _ (k + 5 * j + 1) _ (by omega) (by omega) (by omega)).mono ?_; rintro e w' ⟨rfl,hbx⟩))
   rename_i hH;clear c0 c1 c2 c3 c4 hb HB;obtain ⟨c0,c1,c2,c3,c4,hb,hB⟩:=hH;have HB:Hid (Below w.heap.size w _):=hB;clear hB;go_wp2_with fail
   go_region_held3 (fun w'=>w'.cell? ⟨b,off + j * 5,none⟩=some (.string (aK (k + 5 * j)))∧w'.cell? ⟨b,off + j * 5 + 1,none⟩=some (.string (aK (k + 5 * j + 1)))∧w'.cell? ⟨b,off + j * 5 + 2,none⟩=some (.string (aK (k + 5 * j + 2)))∧w'.cell? ⟨b,off + j * 5 + 3,none⟩=some (.string (aK (k + 5 * j + 3)))∧w'.cell? ⟨b,off + j * 5 + 4,none⟩=some (.string (aK (k + 5 * j + 4)))∧b < w'.heap.size∧Below w.heap.size w w')
    (first | assumption | exact kJ (by assumption) hbx | exact ⟨c0,c1,c2,c3,c4,hb,HB.out.drew⟩)
    (first | (go_at_call 47; refine (aF _ (k + 5 * j + 2) _ (by omega) (by omega) (by omega)).mono ?_; rintro e w' ⟨rfl,hbx⟩))
   rename_i hH;clear c0 c1 c2 c3 c4 hb HB;obtain ⟨c0,c1,c2,c3,c4,hb,hB⟩:=hH;have HB:Hid (Below w.heap.size w _):=hB;clear hB;go_wp2_with fail
   go_region_held3 (fun w'=>w'.cell? ⟨b,off + j * 5,none⟩=some (.string (aK (k + 5 * j)))∧w'.cell? ⟨b,off + j * 5 + 1,none⟩=some (.string (aK (k + 5 * j + 1)))∧w'.cell? ⟨b,off + j * 5 + 2,none⟩=some (.string (aK (k + 5 * j + 2)))∧w'.cell? ⟨b,off + j * 5 + 3,none⟩=some (.string (aK (k + 5 * j + 3)))∧w'.cell? ⟨b,off + j * 5 + 4,none⟩=some (.string (aK (k + 5 * j + 4)))∧b < w'.heap.size∧Below w.heap.size w w')
    (first | assumption | exact kJ (by assumption) hbx | exact ⟨c0,c1,c2,c3,c4,hb,HB.out.drew⟩)
    (first | (go_at_call 47; refine (aF _ (k + 5 * j + 3) _ (by omega) (by omega) (by omega)).mono ?_; rintro e w' ⟨rfl,hbx⟩))
   rename_i hH;clear c0 c1 c2 c3 c4 hb HB;obtain ⟨c0,c1,c2,c3,c4,hb,hB⟩:=hH;have HB:Hid (Below w.heap.size w _):=hB;clear hB;go_wp2_with fail
   go_region_held3 (fun w'=>w'.cell? ⟨b,off + j * 5,none⟩=some (.string (aK (k + 5 * j)))∧w'.cell? ⟨b,off + j * 5 + 1,none⟩=some (.string (aK (k + 5 * j + 1)))∧w'.cell? ⟨b,off + j * 5 + 2,none⟩=some (.string (aK (k + 5 * j + 2)))∧w'.cell? ⟨b,off + j * 5 + 3,none⟩=some (.string (aK (k + 5 * j + 3)))∧w'.cell? ⟨b,off + j * 5 + 4,none⟩=some (.string (aK (k + 5 * j + 4)))∧b < w'.heap.size∧Below w.heap.size w w')
    (first | assumption | exact kJ (by assumption) hbx | exact ⟨c0,c1,c2,c3,c4,hb,HB.out.drew⟩)
    (first | (go_at_call 47; refine (aF _ (k + 5 * j + 4) _ (by omega) (by omega) (by omega)).mono ?_; rintro e w' ⟨rfl,hbx⟩))
   rename_i hH;clear c0 c1 c2 c3 c4 hb HB;obtain ⟨c0,c1,c2,c3,c4,hb,hB⟩:=hH;have HB:Hid (Below w.heap.size w _):=hB;clear hB;clear c0 c1 c2 c3 c4 hb;go_wp2;go_roundw;case rel=>exact ⟨j + 1,by omega,by go_num,by go_num,HB⟩
   case measure=>simp [intOf] <;> omega
  ·obtain rfl:j=xs.length:=by omega
   go_wp2;go_ret;exact ⟨by go_num,HB.out⟩
end Go.Proofs.YtogjfppkbkgaeaaGreat
