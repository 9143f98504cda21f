/- Proved here: FnExactDelta answers true for every slice of types, every slice of tuples and every change and leaves them as they were; the program's six errors and the library's type of errors start as the text lays them (the card). -/
import Derived.Test.YtdmniljjnaebbaaGreatDoorSq
import Derived.Test.YtdmniljjnaebbaaGreatDoorDelA
import Derived.Test.YtdmniljjnaebbaaGreatDoorCards
import Derived.Test.YtdmniljjnaebbaaGreatDoorTie
import Derived.LaidMore
import Derived.Lay
import Derived.LaidHandle
import Derived.Stop.Joined
import Derived.ChangeVars
open Go.Proofs.Tryz
set_option maxHeartbeats 80000000
namespace Go.Proofs.YtdmniljjnaebbaaGreatDoor.fnExactDelta
open Go.ChangeShapes Go.WideShapes Go.ChangeAt Go.RowKit Go.Joins
open Go.ChangeMaps (open_string shut_string)
open Pl
set_option linter.unusedVariables false
theorem RS {rs rs':List ER} {p:Ex→Prop} (h:ai rs'=ai rs) (hp:∀ r ∈ rs,p r.e):∀ r ∈ rs',p r.e:=by
 intro r hr;have h1:r.e ∈ ai rs':=Sy.2 ⟨r,hr,rfl⟩;rw [h] at h1;obtain ⟨q,hq,e⟩:=Sy.1 h1;rw [← e];exact hp q hq
theorem RU {rs rs':List RR} (h:bZ rs'=bZ rs):∀ r ∈ rs',∃ q ∈ rs,q.name=r.name∧ai r.rows=ai q.rows:=by
 intro r hr;have h1:r.p ∈ bZ rs':=Sy.2 ⟨r,hr,rfl⟩;rw [h] at h1;obtain ⟨q,hq,e⟩:=Sy.1 h1;injection e with e1 e2;exact ⟨q,hq,e1,e2.symm⟩
theorem RV {rs rs':List TR} (h:ag rs'=ag rs):∀ r ∈ rs',∃ q ∈ rs,q.name=r.name∧bZ r.rows=bZ q.rows:=by
 intro r hr;have h1:r.p ∈ ag rs':=Sy.2 ⟨r,hr,rfl⟩;rw [h] at h1;obtain ⟨q,hq,e⟩:=Sy.1 h1;injection e with e1 e2;exact ⟨q,hq,e1,e2.symm⟩
theorem zP {rs rs':List TR} (h:ag rs'=ag rs) (hl:∀ r ∈ rs,r.light):∀ r ∈ rs',r.light:=by
 intro r hr;obtain ⟨q,hq,-,e⟩:=RV h r hr;have h1:=hl q hq;refine ⟨by rw [← fB,e,fB]; exact h1.1,fun x hx=>?_⟩;obtain ⟨y,hy,-,e2⟩:=RU e x hx;have h2:=h1.2 y hy;exact ⟨by rw [← aS,e2,aS]; exact h2.1,RS e2 h2.2⟩
theorem Oz {rs rs':List TR} (h:ag rs'=ag rs) (hl:∀ r ∈ rs,r.fits):∀ r ∈ rs',r.fits:=by
 intro r hr;obtain ⟨q,hq,en,e⟩:=RV h r hr;have h1:=hl q hq;refine ⟨by rw [← en]; exact h1.1,by rw [← fB,e,fB]; exact h1.2.1,fun x hx=>?_⟩;obtain ⟨y,hy,en2,e2⟩:=RU e x hx;have h2:=h1.2.2 y hy;exact ⟨by rw [← en2]; exact h2.1,by rw [← aS,e2,aS]; exact h2.2.1,RS e2 h2.2.2⟩
theorem OA {rs rs':List TR} (h:ag rs'=ag rs):rs'.length=rs.length:=by rw [← eH,h,eH]
theorem lZ {w W w':af} {B:Nat} (h:Below B w W) (hB:B≤W.heap.size) (hb:aa W w'):Below B w w':=h.trans (hb.mono hB)
theorem tH {w W w':af} {n:Nat} {x0 x1 x2 x3 x4 x5 x6:Value} (h:W.cell? ⟨n,0,none⟩=some x0∧W.cell? ⟨n,1,none⟩=some x1∧W.cell? ⟨n,2,none⟩=some x2∧W.cell? ⟨n,3,none⟩=some x3∧W.cell? ⟨n,4,none⟩=some x4∧W.cell? ⟨n,5,none⟩=some x5∧W.cell? ⟨n,6,none⟩=some x6∧n < W.heap.size∧aa w W) (hb:aa W w') :
  w'.cell? ⟨n,0,none⟩=some x0∧w'.cell? ⟨n,1,none⟩=some x1∧w'.cell? ⟨n,2,none⟩=some x2∧w'.cell? ⟨n,3,none⟩=some x3∧w'.cell? ⟨n,4,none⟩=some x4∧w'.cell? ⟨n,5,none⟩=some x5∧w'.cell? ⟨n,6,none⟩=some x6∧n < w'.heap.size∧aa w w':=by
 obtain ⟨h0,h1,h2,h3,h4,h5,h6,hl,hB⟩:=h;have hc:=fun o=>hb.cell (p:=⟨n,o,none⟩) hl;exact ⟨by rw [hc]; exact h0,by rw [hc]; exact h1,by rw [hc]; exact h2,by rw [hc]; exact h3,by rw [hc]; exact h4,by rw [hc]; exact h5,by rw [hc]; exact h6,Sg hl hb.size,hB.trans (hb.mono hB.size)⟩
theorem mX [DecidableEq Fc] {st:ByteArray × ByteArray→Int} {rs rs':List TR} (h:ag rs'=ag rs) (ts:List Tp) (k:Int) (t:Tp):ow st rs' ts k t=ow st rs ts k t∧oz st rs' ts k t=oz st rs ts k t:=by
 unfold ow oz;rw [(zH h ts k t).1,(zH h ts k t).2,zM h,zM h];exact ⟨rfl,rfl⟩
theorem Ga (ad:Option Addr) (cap:Nat) (rs:List TR) (w:af) (hlen:rs.length≤1048576) (hs:iN w ad rs) (hl:∀ r ∈ rs,r.light) :
  Calls prog 9 #[.slice ad rs.length cap] w fun e w'=>∃ rs':List TR,e=.returned (.slice (some ⟨w.heap.size,0,none⟩) rs'.length rs'.length)∧ag rs'=ag rs∧iN w' (some ⟨w.heap.size,0,none⟩) rs'∧(∀ r ∈ rs',r.caps)∧aa w w' :=
 (BO ad cap rs w hlen hs hl).mono fun e w' ⟨rs',h1,h2,h3,h4,h5,_,_,_,hb⟩=>⟨rs',h1,h2,h3,h4,hb⟩
theorem far {B:Nat} {w:af} {ad:Option Addr} {L:List Fc} (h:lq B w ad L) {g:Nat} (hg:L ≠ []∧ad=some ⟨g,0,none⟩):B≤g:=by
 obtain ⟨g',e,h1,-⟩:=h.2 hg.1;have e2:=hg.2;rw [e] at e2; injection e2 with e2; injection e2 with e2 e3; omega
theorem R9 {v:Value} {ad:Option Addr} {M:List Fc} {cap m:Nat} (h:∀ g,v.ownBlock=some g→g < m) (e:v=.slice ad M.length cap):∀ g,(M ≠ []∧ad=some ⟨g,0,none⟩)→g < m:=fun g hg=>h g (by rw [e,hg.2]; simp [Value.ownBlock])
set_option maxRecDepth 100000 in
theorem walk [DecidableEq Fc] (ad:Option Addr) (cap:Nat) (rs:List TR) (Ti:Option Addr) (cap':Nat) (ts:List Tp) (k0:Int) (t0:Tp) (a:Nat→Addr) (v:af) (hE:ErrsD v a) (hmr:rs.length≤maxLen) (hs:iN v ad rs) (hf:∀ r ∈ rs,r.fits) (hm:ts.length≤maxLen) (hst:Sl v Ti ts) (hft:∀ x ∈ ts,x.fits) (ht0:t0.fits) :
  Calls prog 3 #[.slice ad rs.length cap,.slice Ti ts.length cap',.agg #[.int .i64 k0,.string t0.a,.string t0.b,.string t0.r,.string t0.c,.string t0.d,.string t0.s]] v fun e w'=>e=.returned (.bool true)∧aa v w':=by
 obtain ⟨st,hst0⟩:=RL (ag rs);have Uk:=aX hst0;clear hst0;obtain ⟨w,hW0⟩:∃ w,w=v.alloc (.cells #[.int .i64 k0,.string t0.a,.string t0.b,.string t0.r,.string t0.c,.string t0.d,.string t0.s] 29):=⟨_,rfl⟩;have hvw:aa v w:=by rw [hW0]; exact (Si _ _).alloc (Sj _) _
 have h7:w.cell? ⟨v.heap.size,0,none⟩=some (.int .i64 k0)∧w.cell? ⟨v.heap.size,1,none⟩=some (.string t0.a)∧w.cell? ⟨v.heap.size,2,none⟩=some (.string t0.b)∧w.cell? ⟨v.heap.size,3,none⟩=some (.string t0.r)∧w.cell? ⟨v.heap.size,4,none⟩=some (.string t0.c)∧w.cell? ⟨v.heap.size,5,none⟩=some (.string t0.d)∧w.cell? ⟨v.heap.size,6,none⟩=some (.string t0.s)∧v.heap.size < w.heap.size∧aa w w:=by
  refine ⟨?_,?_,?_,?_,?_,?_,?_,?_,Si _ _⟩ <;> (rw [hW0]; simp)
 have HX:Hid (∀ W,aa w W→W.cell? ⟨v.heap.size,0,none⟩=some (.int .i64 k0)∧W.cell? ⟨v.heap.size,1,none⟩=some (.string t0.a)∧W.cell? ⟨v.heap.size,2,none⟩=some (.string t0.b)∧W.cell? ⟨v.heap.size,3,none⟩=some (.string t0.r)∧W.cell? ⟨v.heap.size,4,none⟩=some (.string t0.c)∧W.cell? ⟨v.heap.size,5,none⟩=some (.string t0.d)∧W.cell? ⟨v.heap.size,6,none⟩=some (.string t0.s)∧v.heap.size < W.heap.size∧aa w W):=fun W h=>tH h7 h;have FIN:Hid (∀ x,aa w x→aa v x):=fun x h=>lZ hvw hvw.size h;replace hs:=hs.below hvw;replace hst:=hst.below hvw;replace hE:=hE.below hvw;clear h7 hvw;have HS:=aX hs;have HF:=aX hf;have HST:=aX hst;have Tv:=aX hft;have HER:=aX hE;have HT0:=aX ht0;clear hs hf hst hft hE ht0;go_enter func3,ntmps3;go_wp2_with fail;rw [← hW0];clear hW0;refine (Lg ad cap rs 1048576 _ hmr HS.out HF.out (by omega) (by omega)).mono ?_;rintro e w1 ⟨⟨n,rfl,hn⟩,hb1⟩;have HB1:=aX hb1;clear hb1;rcases hn with rfl | ⟨hn0,hn1,hn2,WL⟩
 ·go_wp2;go_ret;exact ⟨rfl,FIN.out _ HB1.out⟩
 have HL:=aX WL;have hlen:rs.length≤1048576:=by omega
 have HWT:Hid (1 + wT rs≤20000000):=by have:=Qq rs; show _≤_; omega
 clear WL hn2;go_wp2_with fail;refine (Co Ti cap' ts n _ hm (HST.out.below HB1.out) Tv.out (by omega) (by omega)).mono ?_;rintro e w2 ⟨⟨m,rfl,hq⟩,hb2⟩;have HB2:Hid (aa w w2):=lZ HB1.out HB1.out.size hb2;clear hb2 HB1;rcases hq with rfl | ⟨hq0,hq1,hq2⟩
 ·go_wp2;go_ret;exact ⟨rfl,FIN.out _ HB2.out⟩
 have hlt:ts.length≤1048576:=by omega
 have hszl:=xO t0.a t0.b t0.r t0.c t0.d t0.s m;obtain ⟨x0,x1,x2,x3,x4,x5,x6,xl,-⟩:=HX.out _ HB2.out;go_wp2_with fail;refine (C9 k0 t0.a t0.b t0.r t0.c t0.d t0.s m _ HT0.out.1 HT0.out.2.1 HT0.out.2.2.1 HT0.out.2.2.2.1 HT0.out.2.2.2.2.1 HT0.out.2.2.2.2.2 hq0 (by omega)).mono ?_;rintro e Zr ⟨rfl,hb2b⟩;have HB2b:Hid (aa w Zr):=lZ HB2.out HB2.out.size hb2b;clear hb2b HB2 x0 x1 x2 x3 x4 x5 x6 xl;by_cases hsn:jQ t0.a t0.b t0.r t0.c t0.d t0.s m < 0
 ·go_wp2;go_ret;exact ⟨rfl,FIN.out _ HB2b.out⟩
 have HB2:=HB2b;clear HB2b hszl;clear hq2 hq1 hn1;obtain ⟨M,hM⟩:∃ M,ow st rs ts k0 t0=M:=⟨_,rfl⟩;obtain ⟨L,hL⟩:∃ L,oz st rs ts k0 t0=L:=⟨_,rfl⟩;obtain ⟨q0,hQ⟩:∃ q0,LA rs ts k0 t0=q0:=⟨_,rfl⟩;have HMM:=aX hM;have Xn:=aX hL;have HQQ:=aX hQ;have hM2:M.length≤115200:=by rw [← hM]; exact (F9 st rs ts k0 t0).1
 have hL2:L.length≤115200:=by rw [← hL]; exact (F9 st rs ts k0 t0).2
 have hMl:M.length≤maxLen:=by unfold maxLen; omega
 have ZY:L.length≤maxLen:=by unfold maxLen; omega
 clear hM hL hQ;have H0:Zr.drew.cell? ⟨v.heap.size,0,none⟩=some (.int .i64 k0)∧Zr.drew.cell? ⟨v.heap.size,1,none⟩=some (.string t0.a)∧Zr.drew.cell? ⟨v.heap.size,2,none⟩=some (.string t0.b)∧Zr.drew.cell? ⟨v.heap.size,3,none⟩=some (.string t0.r)∧Zr.drew.cell? ⟨v.heap.size,4,none⟩=some (.string t0.c)∧Zr.drew.cell? ⟨v.heap.size,5,none⟩=some (.string t0.d)∧Zr.drew.cell? ⟨v.heap.size,6,none⟩=some (.string t0.s)∧v.heap.size < Zr.drew.heap.size∧aa w Zr.drew:=HX.out _ HB2.out.drew;go_wp2_with fail
 go_region_held3 (fun w'=>w'.cell? ⟨v.heap.size,0,none⟩=some (.int .i64 k0)∧w'.cell? ⟨v.heap.size,1,none⟩=some (.string t0.a)∧w'.cell? ⟨v.heap.size,2,none⟩=some (.string t0.b)∧w'.cell? ⟨v.heap.size,3,none⟩=some (.string t0.r)∧w'.cell? ⟨v.heap.size,4,none⟩=some (.string t0.c)∧w'.cell? ⟨v.heap.size,5,none⟩=some (.string t0.d)∧w'.cell? ⟨v.heap.size,6,none⟩=some (.string t0.s)∧v.heap.size < w'.heap.size∧aa w w')
  (first | assumption | exact tH (by assumption) hb3 | exact tH (by assumption) F4.below | exact tH (by assumption) Y6 | exact tH (by assumption) hb5 | exact H0)
  (first | (go_at_call 9; refine (Fh ad cap rs _ hlen (HS.out.below HB2.out.drew) HL.out).mono ?_; rintro e w3 ⟨rs1,rfl,he1,hs1,hc1,hnw1,hb3⟩) | (go_at_call 10; refine (jX Ti cap' ts _ hlt (HST.out.below (lZ HB2.out.drew HB2.out.drew.size hb3))).mono ?_; rintro e w4 ⟨rfl,F4⟩) | (go_at_call 11; refine (nV k0 t0.a t0.b t0.r t0.c t0.d t0.s _).mono ?_; rintro e w4b ⟨rfl,Y6⟩) | (go_at_call 8; refine (Av st _ _ rs1 _ _ ts k0 t0 _ (by rw [OA he1]; exact hlen) ((hs1.below F4.below).below Y6) (zP he1 HL.out) (Oz he1 HF.out) hlt (Sj _) (F4.later Y6).lt (F4.later Y6).row Tv.out HT0.out (fun h=>by rw [he1] at h ⊢; exact Uk.out h)).mono ?_; rintro e w5 ⟨v5,u5,m5,he5,hv5,hu5,-,-,hb5⟩; rw [(mX he1 ts k0 t0).1,HMM.out] at hv5; rw [(mX he1 ts k0 t0).2,Xn.out] at hu5; rw [(zH he1 ts k0 t0).2,HQQ.out] at he5; obtain ⟨adM,capM,ev5,hsM⟩:=iD hv5; obtain ⟨Wz,VG,eu5,hsL⟩:=iD hu5; rw [ev5,eu5] at he5; subst he5))
 rename_i hH;obtain ⟨-,-,-,-,-,-,-,-,gB⟩:=hH;have TI:=aX gB;have HM5:=aX hsM;have HL5:=aX hsL;have KM5:=HM5;have KL5:=HL5;clear H0 gB hb3 F4 Y6 hb5 hsM hsL hv5 hu5 ev5 eu5 he1 hs1 hc1 hnw1 HB2;have s5:w.heap.size≤w5.heap.size:=TI.out.size;go_wp2_with fail;refine (BO ad cap rs _ hlen (HS.out.below TI.out) HL.out).mono ?_;rintro e w6 ⟨rs2,rfl,he2,hs2,hc2,hnw2,ho2,hf2,hlx2,hb6⟩;have HE2:=aX he2;have Tx:=aX hc2;have Tj:=aX ho2;have Ug:=aX hf2;have HL2:=aX hlx2;have Wy:Hid (∀ g,Ij w5.heap.size rs2 g→w5.heap.size≤g∧g < w6.heap.size):=by
  rintro g (rfl | ⟨q,hq,h2⟩)
  ·exact ⟨Sj _,HL2.out⟩
  have:=Tj.out.2 q hq g h2; omega
 have TZ:=aX (TI.out.trans (hb6.mono TI.out.size));have KM6:=aX (KM5.out.below hb6);have KL6:=aX (KL5.out.below hb6);clear hb6 TI KM5 KL5;have HT6:=aX hs2;have HZ6:Hid (aa w6 w6):=Si _ _;clear he2 hs2 hc2 ho2 hf2 hlx2 hnw2;go_wp2_with fail;refine (jX Ti cap' ts _ hlt (HST.out.below TZ.out)).mono ?_;rintro e w7 ⟨rfl,F7⟩;have HF7:=aX F7;have WV:=F7.below;clear F7;have X9:=aX (TZ.out.trans (WV.mono TZ.out.size));have KM7:=aX (KM6.out.below WV);have KL7:=aX (KL6.out.below WV);have HT7:=aX (HT6.out.below WV);have HZ7:=aX (HZ6.out.trans (WV.mono HZ6.out.size));clear WV TZ KM6 KL6 HT6 HZ6;have HY7:Hid (aa w7 w7):=Si _ _;obtain ⟨x0,x1,x2,x3,x4,x5,x6,xl,-⟩:=HX.out _ X9.out;go_wp2_with fail;refine (nV k0 t0.a t0.b t0.r t0.c t0.d t0.s _).mono ?_;rintro e w7b ⟨rfl,VL⟩;clear x0 x1 x2 x3 x4 x5 x6 xl;go_wp2_with fail;refine (qI st a _ _ rs2 _ _ ts k0 t0 _ (HER.out.below (lZ X9.out X9.out.size VL)) (by rw [OA HE2.out]; exact hlen) (HT7.out.below VL) (zP HE2.out HL.out) (Oz HE2.out HF.out) Tx.out hlt (Sj _) (HF7.out.later VL).lt (HF7.out.later VL).row Tv.out HT0.out (fun h=>by rw [HE2.out] at h ⊢; exact Uk.out h)).mono ?_;rintro e w8 ⟨v8,u8,m8,he8,hv8,hu8,XR,hsp,hb8'⟩;have hb8:aa w7 w8:=lZ VL VL.size hb8';rw [(mX HE2.out ts k0 t0).1,HMM.out] at hv8;rw [(mX HE2.out ts k0 t0).2,Xn.out] at hu8;rw [(zH HE2.out ts k0 t0).2,HQQ.out] at he8;obtain ⟨Xx,Y7,ev8,hoG⟩:=FV hv8;obtain ⟨ZZ,Y8,eu8,hoJ⟩:=FV hu8;have HSP:=aX (R9 hsp ev8);have HGO:Hid (M ≠ []→∃ g,Xx=some ⟨g,0,none⟩∧True):=fun h=>by obtain ⟨g,e,-⟩:=hoG.2 h; exact ⟨g,e,trivial⟩
 rw [ev8,eu8] at he8;subst he8;have HG8:Hid (lq w7.heap.size w8 Xx M):=⟨hoG.1,fun h=>by obtain ⟨g,e,h1,h2⟩:=hoG.2 h; exact ⟨g,e,Sq VL.size h1,h2⟩⟩;have HJ8:=ay hoJ;have hm7:w7.heap.size≤m8:=Sq VL.size XR;clear hv8 hu8 XR hsp hb8' ev8 eu8 hoG hoJ VL;have HB8:=aX (X9.out.trans (hb8.mono X9.out.size));have KM8:=aX (KM7.out.below hb8);have KL8:=aX (KL7.out.below hb8);have HT8:=aX (HT7.out.below hb8);have HZ8:=aX (HZ7.out.trans (hb8.mono HZ7.out.size));have HY8:=aX (HY7.out.trans (hb8.mono HY7.out.size));clear hb8 X9 KM7 KL7 HT7 HZ7 HY7;go_wp2_with fail;refine (iG Xx adM Y7 capM M _ hMl HG8.out.1 KM8.out).mono ?_;rintro e w9 ⟨rfl,Z5⟩;have HB9:=aX (HB8.out.trans (Z5.mono HB8.out.size));have KM9:=aX (KM8.out.below Z5);have KL9:=aX (KL8.out.below Z5);have HT9:=aX (HT8.out.below Z5);have HZ9:=aX (HZ8.out.trans (Z5.mono HZ8.out.size));have HY9:=aX (HY8.out.trans (Z5.mono HY8.out.size));have HG9:=aX (HG8.out.later Z5);have HJ9:=aX (HJ8.out.later Z5);clear Z5 HB8 KM8 KL8 HT8 HZ8 HY8 HG8 HJ8;go_wp2_with fail;refine (iG ZZ Wz Y8 VG L _ ZY HJ9.out.1 KL9.out).mono ?_;rintro e w9b ⟨rfl,VM⟩;have Z6:=aX (HB9.out.trans (VM.mono HB9.out.size));have KM9b:=aX (KM9.out.below VM);have KL9b:=aX (KL9.out.below VM);have HT9b:=aX (HT9.out.below VM);have HZ9b:=aX (HZ9.out.trans (VM.mono HZ9.out.size));have HY9b:=aX (HY9.out.trans (VM.mono HY9.out.size));have HG9b:=aX (HG9.out.later VM);have HJ9b:=aX (HJ9.out.later VM);clear VM HB9 KM9 KL9 HT9 HZ9 HY9 HG9 HJ9;go_wp2_with fail;refine (Ga ad cap rs _ hlen (HS.out.below Z6.out) HL.out).mono ?_;rintro e w10 ⟨rs3,rfl,he3,hs3,-,VN⟩;have HB10:=aX (Z6.out.trans (VN.mono Z6.out.size));have KM10:=aX (KM9b.out.below VN);have KL10:=aX (KL9b.out.below VN);have HT10:=aX (HT9b.out.below VN);have HZ10:=aX (HZ9b.out.trans (VN.mono HZ9b.out.size));have HY10:=aX (HY9b.out.trans (VN.mono HY9b.out.size));have HG10:=aX (HG9b.out.later VN);have HJ10:=aX (HJ9b.out.later VN);clear VN Z6 KM9b KL9b HT9b HZ9b HY9b HG9b HJ9b;have Xm:=aX he3;have UN:=aX hs3;clear he3 hs3;go_wp2_with fail;refine (Da _ _ _ _ rs2 rs3 _ (by rw [OA HE2.out]; exact hlen) (by rw [Xm.out,HE2.out]) HT10.out UN.out (zP HE2.out HL.out)).mono ?_;rintro e w11 ⟨rfl,VO⟩;have Z7:=aX (HB10.out.trans (VO.mono HB10.out.size));have KM11:=aX (KM10.out.below VO);have KL11:=aX (KL10.out.below VO);have HT11:=aX (HT10.out.below VO);have HZ11:=aX (HZ10.out.trans (VO.mono HZ10.out.size));have HY11:=aX (HY10.out.trans (VO.mono HY10.out.size));have HG11:=aX (HG10.out.later VO);have HJ11:=aX (HJ10.out.later VO);clear VO HB10 KM10 KL10 HT10 HZ10 HY10 HG10 HJ10;clear UN;go_wp2_with fail;refine (jX Ti cap' ts _ hlt (HST.out.below Z7.out)).mono ?_;rintro e w12 ⟨rfl,F12⟩;have HG12':=aX F12.sl;have VP:=F12.below;clear F12;have HB12:=aX (Z7.out.trans (VP.mono Z7.out.size));have KM12:=aX (KM11.out.below VP);have KL12:=aX (KL11.out.below VP);have HT12:=aX (HT11.out.below VP);have HZ12:=aX (HZ11.out.trans (VP.mono HZ11.out.size));have Z8:=aX (HY11.out.trans (VP.mono HY11.out.size));have HG12:=aX (HG11.out.later VP);have HJ12:=aX (HJ11.out.later VP);clear VP Z7 KM11 KL11 HT11 HZ11 HY11 HG11 HJ11;go_wp2_with fail;refine (Db _ _ _ _ ts _ hm (HF7.out.later Z8.out).sl HG12'.out).mono ?_;rintro e w13 ⟨rfl,VQ⟩;have HB13:=aX (HB12.out.trans (VQ.mono HB12.out.size));have KM13:=aX (KM12.out.below VQ);have KL13:=aX (KL12.out.below VQ);have HT13:=aX (HT12.out.below VQ);have HZ13:=aX (HZ12.out.trans (VQ.mono HZ12.out.size));have HY13:=aX (Z8.out.trans (VQ.mono Z8.out.size));have HG13:=aX (HG12.out.later VQ);have HJ13:=aX (HJ12.out.later VQ);clear VQ HB12 KM12 KL12 HT12 HZ12 Z8 HG12 HJ12;clear HG12';have HW2T:Hid (1 + wT rs2≤1000000000):=by show _≤_; rw [IR HE2.out]; have:=HWT.out; omega
 obtain ⟨M0,hM0⟩:∃ M0:Nat,M0=1 + wT rs2:=⟨_,rfl⟩;have HM0:=aX hM0;have Xq:Hid (0 < M0∧M0 + 6 * ts.length≤1000000000):=by show _∧_; rw [hM0,IR HE2.out]; have:=HWT.out; omega
 have h56:w5.heap.size < w6.heap.size:=HL2.out;have h67:w6.heap.size < w7.heap.size:=HF7.out.lt;have h613:w6.heap.size≤w13.heap.size:=HZ13.out.size;have h713:w7.heap.size≤w13.heap.size:=HY13.out.size;have hc6:Chg (fun _=>False) w6 w13:=Chg.of HZ13.out;have Z9:=aX (HF7.out.later HY13.out);have HOC:=aX (Tj.out.chg hc6);have HFC:=aX (hc6.free _ HL2.out Ug.out);clear hM0 hc6;go_wp2_with fail;refine (PQ w5.heap.size _ rs2 _ HT13.out (by omega) HOC.out HFC.out (zP HE2.out HL.out) (by rw [OA HE2.out]; exact hlen) HW2T.out).mono ?_;rintro e w14 ⟨he,VR⟩;rw [← HM0.out] at he;subst he;have HB14:Hid (aa w w14):=HB13.out.trans (VR.below (fun g hg=>Sq s5 (Wy.out g hg).1) HB13.out.size);have KM14:Hid (jP w14 adM M):=KM13.out.chg VR (fun g o hne e hg=>by
  have:=(Wy.out g hg).1;have:=lQ HM5.out hne e;omega)
 have KL14:Hid (jP w14 Wz L):=KL13.out.chg VR (fun g o hne e hg=>by
  have:=(Wy.out g hg).1;have:=lQ HL5.out hne e;omega)
 have HG14:Hid (lq w7.heap.size w14 Xx M):=HG13.out.chg VR (fun g hge hg=>by
  have:=(Wy.out g hg).2;omega)
 have HJ14:Hid (lq m8 w14 ZZ L):=HJ13.out.chg VR (fun g hge hg=>by
  have:=(Wy.out g hg).2;omega)
 have HX14:Hid (Sl w14 (some ⟨w6.heap.size,0,none⟩) ts):=Z9.out.sl.chg VR (fun g o hne e hg=>by
  have:=(Wy.out g hg).2;injection e with e; injection e with e1 e2;omega)
 have HFX14:Hid (dD w14 w6.heap.size):=VR.free _ Z9.out.lt Z9.out.free;have h14:w13.heap.size≤w14.heap.size:=VR.size;clear VR HT13 HOC HFC Z9 HB13 KM13 KL13 HG13 HJ13 HZ13 HY13;go_wp2_with fail;refine (zm _ _ ts M0 _ HX14.out (fun _=>⟨_,rfl,HFX14.out⟩) Xq.out.1 Xq.out.2).mono ?_;rintro e w15 ⟨rfl,-,XL⟩;have HB15:Hid (aa w w15):=HB14.out.trans (XL.below (fun g hg=>by obtain ⟨-,e⟩:=hg; injection e with e; injection e with e; omega) HB14.out.size);have KM15:Hid (jP w15 adM M):=KM14.out.chg XL (fun g o hne e hg=>by
  obtain ⟨-,e2⟩:=hg;injection e2 with e2; injection e2 with e2 e3;have:=lQ HM5.out hne e;omega)
 have KL15:Hid (jP w15 Wz L):=KL14.out.chg XL (fun g o hne e hg=>by
  obtain ⟨-,e2⟩:=hg;injection e2 with e2; injection e2 with e2 e3;have:=lQ HL5.out hne e;omega)
 have HG15:Hid (lq w7.heap.size w15 Xx M):=HG14.out.chg XL (fun g hge hg=>by
  obtain ⟨-,e2⟩:=hg;injection e2 with e2; injection e2 with e2 e3;omega)
 have HJ15:Hid (lq m8 w15 ZZ L):=HJ14.out.chg XL (fun g hge hg=>by
  obtain ⟨-,e2⟩:=hg;injection e2 with e2; injection e2 with e2 e3;omega)
 obtain ⟨M2,hM2'⟩:∃ M2:Nat,M2=M0 + 6 * ts.length:=⟨_,rfl⟩;rw [← hM2'];have hk1:¬ ((M2:Nat):Int) < 0:=by omega
 clear XL hM2' HB14 KM14 KL14 HG14 HJ14 HX14 HFX14;go_wp2_with fail;refine (iG Xx adM Y7 capM M _ hMl HG15.out.1 KM15.out).mono ?_;rintro e w16 ⟨rfl,XM⟩;have HB16:=aX (HB15.out.trans (XM.mono HB15.out.size));have KM16:=aX (KM15.out.below XM);have KL16:=aX (KL15.out.below XM);have HG16:=aX (HG15.out.later XM);have HJ16:=aX (HJ15.out.later XM);clear XM HB15 KM15 KL15 HG15 HJ15;go_wp2_with fail;refine (iG ZZ Wz Y8 VG L _ ZY HJ16.out.1 KL16.out).mono ?_;rintro e w16b ⟨rfl,Vu⟩;have Y9:=aX (HB16.out.trans (Vu.mono HB16.out.size));have KM16b:=aX (KM16.out.below Vu);have KL16b:=aX (KL16.out.below Vu);have Vv:=aX (HG16.out.later Vu);have HJ16b:=aX (HJ16.out.later Vu);clear Vu HB16 KM16 KL16 HG16 HJ16;go_wp2_with fail;refine (qF Xx Y7 M 1 _ Vv.out.1 (fun h=>by obtain ⟨g,e,-,hfr⟩:=Vv.out.2 h; exact ⟨g,e,hfr⟩) (by omega) (by omega)).mono ?_;rintro e w17 ⟨rfl,hs17,hc17⟩;have HG17:=ay hs17;have HB17:Hid (aa w w17):=Y9.out.trans (hc17.below (fun g hg=>by have:=far Vv.out hg; omega) Y9.out.size);have KM17:Hid (jP w17 adM M):=KM16b.out.chg hc17 (fun g o hne e hg=>by
  have:=far Vv.out hg;have:=lQ HM5.out hne e;omega)
 have KL17:Hid (jP w17 Wz L):=KL16b.out.chg hc17 (fun g o hne e hg=>by
  have:=far Vv.out hg;have:=lQ HL5.out hne e;omega)
 have WY:Hid (lq m8 w17 ZZ L):=HJ16b.out.chg hc17 (fun g hge hg=>by
  have:=HSP.out g hg;omega)
 clear hs17 hc17 Y9 KM16b KL16b Vv HJ16b;obtain ⟨k1,Vz⟩:∃ k1:Nat,k1=1 + 5 * M.length:=⟨_,rfl⟩;have hk1z:0 < k1∧k1≤1000000:=by omega
 have HK1:=aX Vz;rw [← Vz];clear Vz;go_wp2_with fail;refine (qF ZZ Y8 L k1 _ WY.out.1 (fun h=>by obtain ⟨g,e,-,hfr⟩:=WY.out.2 h; exact ⟨g,e,hfr⟩) hk1z.1 (by omega)).mono ?_;rintro e w18 ⟨rfl,hs18,hc18⟩;have HJ18:=ay hs18;have HB18:Hid (aa w w18):=HB17.out.trans (hc18.below (fun g hg=>by have:=far WY.out hg; omega) HB17.out.size);have KM18:Hid (jP w18 adM M):=KM17.out.chg hc18 (fun g o hne e hg=>by
  have:=far WY.out hg;have:=lQ HM5.out hne e;omega)
 have KL18:Hid (jP w18 Wz L):=KL17.out.chg hc18 (fun g o hne e hg=>by
  have:=far WY.out hg;have:=lQ HL5.out hne e;omega)
 have HG18:Hid (jP w18 Xx (LB 1 M)):=HG17.out.chg hc18 (fun g o hne e hg=>by
  have h1:=far WY.out hg;have hne2:M ≠ []:=fun h=>hne (JB.2 h);have h2:o=0:=by
   obtain ⟨g',e',-⟩:=HGO.out hne2;rw [e] at e'; injection e' with e'; injection e' with e1 e2
  subst h2;have:=HSP.out g ⟨hne2,e⟩;omega)
 clear hs18 hc18 HB17 KM17 KL17 HG17 WY;obtain ⟨k2,hk2'⟩:∃ k2:Nat,k2=k1 + 5 * L.length:=⟨_,rfl⟩;have hk2z:¬ ((k2:Nat):Int) < 0:=by omega
 have hk1y:¬ ((k1:Nat):Int) < 0:=by omega
 have hk2e:((k2:Int) != (k2:Int))=false:=by simp
 have HK2:=aX hk2';rw [← hk2'];clear hk2';go_wp2_with fail;refine (jw Xx Y7 M 1 _ HG18.out (by omega) (by omega)).mono ?_;rintro e w19 ⟨rfl,XN⟩;rw [← HK1.out];have HB19:=aX (HB18.out.trans (XN.mono HB18.out.size));have KM19:=aX (KM18.out.below XN);have KL19:=aX (KL18.out.below XN);have HG19:=aX (HG18.out.below XN);have HJ19:=aX (HJ18.out.below XN);clear XN HB18 KM18 KL18 HG18 HJ18;go_wp2_with fail;refine (jw ZZ Y8 L k1 _ HJ19.out hk1z.1 (by omega)).mono ?_;rintro e w20 ⟨rfl,XO⟩;rw [← HK2.out];have VS:=aX (HB19.out.trans (XO.mono HB19.out.size));have KM20:=aX (KM19.out.below XO);have KL20:=aX (KL19.out.below XO);have HG20:=aX (HG19.out.below XO);have HJ20:=aX (HJ19.out.below XO);clear XO HB19 KM19 KL19 HG19 HJ19;have H0:w20.drew.cell? ⟨v.heap.size,0,none⟩=some (.int .i64 k0)∧w20.drew.cell? ⟨v.heap.size,1,none⟩=some (.string t0.a)∧w20.drew.cell? ⟨v.heap.size,2,none⟩=some (.string t0.b)∧w20.drew.cell? ⟨v.heap.size,3,none⟩=some (.string t0.r)∧w20.drew.cell? ⟨v.heap.size,4,none⟩=some (.string t0.c)∧w20.drew.cell? ⟨v.heap.size,5,none⟩=some (.string t0.d)∧w20.drew.cell? ⟨v.heap.size,6,none⟩=some (.string t0.s)∧v.heap.size < w20.drew.heap.size∧aa w w20.drew:=HX.out _ VS.out.drew;go_wp2_with fail
 go_region_held3 (fun w'=>w'.cell? ⟨v.heap.size,0,none⟩=some (.int .i64 k0)∧w'.cell? ⟨v.heap.size,1,none⟩=some (.string t0.a)∧w'.cell? ⟨v.heap.size,2,none⟩=some (.string t0.b)∧w'.cell? ⟨v.heap.size,3,none⟩=some (.string t0.r)∧w'.cell? ⟨v.heap.size,4,none⟩=some (.string t0.c)∧w'.cell? ⟨v.heap.size,5,none⟩=some (.string t0.d)∧w'.cell? ⟨v.heap.size,6,none⟩=some (.string t0.s)∧v.heap.size < w'.heap.size∧aa w w')
  (first | assumption | exact tH (by assumption) Vm | exact tH (by assumption) F22.below | exact tH (by assumption) Uq | exact tH (by assumption) Ux | exact H0)
  (first | (go_at_call 9; refine (Ga ad cap rs _ hlen (HS.out.below VS.out.drew) HL.out).mono ?_; rintro e w21 ⟨rs4,rfl,he4,hs4,hc4,Vm⟩) | (go_at_call 10; refine (jX Ti cap' ts _ hlt (HST.out.below (lZ VS.out.drew VS.out.drew.size Vm))).mono ?_; rintro e w22 ⟨rfl,F22⟩) | (go_at_call 11; refine (nV k0 t0.a t0.b t0.r t0.c t0.d t0.s _).mono ?_; rintro e w22b ⟨rfl,Uq⟩) | (go_at_call 12; refine (qI st a _ _ rs4 _ _ ts k0 t0 _ (HER.out.below (lZ (lZ (lZ VS.out.drew VS.out.drew.size Vm) (Sq VS.out.drew.size Vm.size) F22.below) (Sq (Sq VS.out.drew.size Vm.size) F22.below.size) Uq)) (by rw [OA he4]; exact hlen) ((hs4.below F22.below).below Uq) (zP he4 HL.out) (Oz he4 HF.out) hc4 hlt (Sj _) (F22.later Uq).lt (F22.later Uq).row Tv.out HT0.out (fun h=>by rw [he4] at h ⊢; exact Uk.out h)).mono ?_; rintro e w23 ⟨v23,u23,m23,he23,hv23,hu23,-,-,Ux⟩; rw [(mX he4 ts k0 t0).1,HMM.out] at hv23; rw [(mX he4 ts k0 t0).2,Xn.out] at hu23; rw [(zH he4 ts k0 t0).2,HQQ.out] at he23; obtain ⟨adP,capP,ev23,hsP⟩:=iD hv23; obtain ⟨UI,Ui,eu23,hsR⟩:=iD hu23; rw [ev23,eu23] at he23; subst he23))
 rename_i hH;obtain ⟨-,-,-,-,-,-,-,-,gB⟩:=hH;have Za:aa w20 w20.drew:=(Si _ _).drew;have UJ:=aX gB;have KM23:Hid (jP w23 adM M):=((((KM20.out.below Za).below Vm).below F22.below).below Uq).below Ux;have KL23:Hid (jP w23 Wz L):=((((KL20.out.below Za).below Vm).below F22.below).below Uq).below Ux;have HG23:Hid (jP w23 Xx (LB 1 M)):=((((HG20.out.below Za).below Vm).below F22.below).below Uq).below Ux;have HJ23:Hid (jP w23 ZZ (LB k1 L)):=((((HJ20.out.below Za).below Vm).below F22.below).below Uq).below Ux;have HP23:=aX hsP;have HR23:=aX hsR;clear H0 gB Za Vm F22 Uq Ux hsP hsR hv23 hu23 ev23 eu23 he4 hs4 hc4 VS KM20 KL20 HG20 HJ20;go_wp2_with fail;refine (iG adP adM capP capM M _ hMl HP23.out KM23.out).mono ?_;rintro e w24 ⟨rfl,Wq⟩;have HB24:=aX (UJ.out.trans (Wq.mono UJ.out.size));have KM24:=aX (KM23.out.below Wq);have KL24:=aX (KL23.out.below Wq);have HG24:=aX (HG23.out.below Wq);have HJ24:=aX (HJ23.out.below Wq);have HP24:=aX (HP23.out.below Wq);have HR24:=aX (HR23.out.below Wq);clear Wq UJ KM23 KL23 HG23 HJ23 HP23 HR23;go_wp2_with fail;refine (iG UI Wz Ui VG L _ ZY HR24.out KL24.out).mono ?_;rintro e w25 ⟨rfl,Ws⟩;have HB25:=aX (HB24.out.trans (Ws.mono HB24.out.size));have KM25:=aX (KM24.out.below Ws);have KL25:=aX (KL24.out.below Ws);have HG25:=aX (HG24.out.below Ws);have HJ25:=aX (HJ24.out.below Ws);have HP25:=aX (HP24.out.below Ws);have HR25:=aX (HR24.out.below Ws);clear Ws HB24 KM24 KL24 HG24 HJ24 HP24 HR24;go_wp2_with fail;refine (jw Xx Y7 M 1 _ HG25.out (by omega) (by omega)).mono ?_;rintro e w26 ⟨rfl,Wt⟩;rw [← HK1.out];have HB26:=aX (HB25.out.trans (Wt.mono HB25.out.size));have KM26:=aX (KM25.out.below Wt);have KL26:=aX (KL25.out.below Wt);have HG26:=aX (HG25.out.below Wt);have HJ26:=aX (HJ25.out.below Wt);have HP26:=aX (HP25.out.below Wt);have HR26:=aX (HR25.out.below Wt);clear Wt HB25 KM25 KL25 HG25 HJ25 HP25 HR25;go_wp2_with fail;refine (jw ZZ Y8 L k1 _ HJ26.out hk1z.1 (by omega)).mono ?_;rintro e w27 ⟨rfl,Wu⟩;rw [← HK2.out];have HB27:=aX (HB26.out.trans (Wu.mono HB26.out.size));have KM27:=aX (KM26.out.below Wu);have KL27:=aX (KL26.out.below Wu);have HG27:=aX (HG26.out.below Wu);have HJ27:=aX (HJ26.out.below Wu);have HP27:=aX (HP26.out.below Wu);have HR27:=aX (HR26.out.below Wu);clear Wu HB26 KM26 KL26 HG26 HJ26 HP26 HR26;go_wp2;go_ret;exact ⟨rfl,FIN.out _ HB27.out⟩
open Pl
set_option linter.unusedVariables false
theorem own:ownKnob prog.godebug=none:=by kernel_rfl
theorem laidOut:laidOutB prog=true:=by kernel_rfl
abbrev nm (i:Nat):String:=(Rows.fnExactDeltaSpec.vars[i]?).getD default
theorem n0:prog.globalNamed (nm 0)=some 0:=by kernel_rfl
theorem n2:prog.globalNamed (nm 1)=some 2:=by kernel_rfl
theorem n3:prog.globalNamed (nm 3)=some 3:=by kernel_rfl
theorem n4:prog.globalNamed (nm 4)=some 4:=by kernel_rfl
theorem n5:prog.globalNamed (nm 2)=some 5:=by kernel_rfl
theorem n6:prog.globalNamed (nm 5)=some 6:=by kernel_rfl
theorem n1 : Tryz.prog.globalNamed "errors.errorType" = some 1 := by kernel_rfl
theorem t0:(prog.globals[0]?).map (·.type)=some 98:=by kernel_rfl
theorem t2:(prog.globals[2]?).map (·.type)=some 98:=by kernel_rfl
theorem t3:(prog.globals[3]?).map (·.type)=some 98:=by kernel_rfl
theorem t4:(prog.globals[4]?).map (·.type)=some 98:=by kernel_rfl
theorem t5:(prog.globals[5]?).map (·.type)=some 98:=by kernel_rfl
theorem t6:(prog.globals[6]?).map (·.type)=some 98:=by kernel_rfl
theorem star : "*" ++ "errors.errorString" = "*errors.errorString" := by decide
theorem Lu (u : TypeId) (h : Tryz.prog.typeName? 3 u = some "*errors.errorString") : u = 321 :=
 typeName_ptr_named (nm := "errors.errorString") (by rw [star]; kernel_rfl) (by kernel_rfl) (by decide) u (by rw [star]; exact h)
theorem cellsE:prog.cellsOf 342=1:=by kernel_rfl
theorem cellsS:prog.cellsOf 9=1:=by kernel_rfl
theorem rt : (Tryz.prog.cutTypes.find? (·.1 == "internal/reflectlite.rtype")).map (·.2) = some 213 := by kernel_rfl
theorem Re:((List.range prog.types.size).filter fun t=>prog.rowNamed t [101,114,114,111,114])=[98]:=by kernel_rfl
theorem hnd:typeHandle prog 98=.pointer (some ⟨8,98,none⟩):=by kernel_rfl
theorem parts {W : World} (h : laidMetH Tryz.prog Rows.fnExactDeltaRow.laid W) : laidMet Tryz.prog (Rows.fnExactDeltaRow.laid.drop 1) W ∧ handlesMet Tryz.prog [("errors.errorType", Rows.laid_errors_errorType)] W := h
theorem Rf {W:af} (h:laidMetH prog Rows.fnExactDeltaRow.laid W):1 < W.heap.size∧W.cell? ⟨1,0,none⟩=some (.iface 213 (.agg #[.pointer (some ⟨8,98,none⟩)])):=by
 obtain ⟨name,u,ty,e1,e2,e3,e4,e5⟩:=(parts h).2 _ (SF.2 rfl);have en:name=[101,114,114,111,114]:=(Option.some.inj e1).symm;subst en;obtain rfl:=Option.some.inj (rt.symm.trans e2);have hm:ty ∈ (List.range prog.types.size).filter fun t=>prog.rowNamed t [101,114,114,111,114]:=SX.2 ⟨List.mem_range.2 e3,e4⟩;rw [Re] at hm;obtain rfl:=SF.1 hm;rw [hnd] at e5;have hc:W.cell? ⟨1,0,none⟩=some (.iface 213 (.agg #[.pointer (some ⟨8,98,none⟩)])):=by simpa using World.var?_cell n1 e5 0
 exact ⟨World.block_lt_of_cell? W ⟨1,0,none⟩ hc,hc⟩
set_option maxRecDepth 100000 in
theorem PX {W:af} (h:laidMetH prog Rows.fnExactDeltaRow.laid W) :
  ∃ a0 a2 a3 a4 a5 a6:Addr,[a0,a2,a3,a4,a5,a6].Nodup∧W.var? prog (nm 0)=some #[.iface 321 (.pointer (some a0))]∧W.var? prog (nm 1)=some #[.iface 321 (.pointer (some a2))]∧W.var? prog (nm 3)=some #[.iface 321 (.pointer (some a3))]∧W.var? prog (nm 4)=some #[.iface 321 (.pointer (some a4))]∧W.var? prog (nm 2)=some #[.iface 321 (.pointer (some a5))]∧W.var? prog (nm 5)=some #[.iface 321 (.pointer (some a6))]∧(∃ c T,W.heap[a0.block]?=some (.cells c T (0,0)))∧(∃ c T,W.heap[a2.block]?=some (.cells c T (0,0)))∧(∃ c T,W.heap[a3.block]?=some (.cells c T (0,0)))∧(∃ c T,W.heap[a4.block]?=some (.cells c T (0,0)))∧(∃ c T,W.heap[a5.block]?=some (.cells c T (0,0)))∧(∃ c T,W.heap[a6.block]?=some (.cells c T (0,0))):=by
 obtain ⟨ps,⟨g0,k0,cs0,f0,p0,q0,hg0,ht0,hv0,hd0,⟨g2,k2,cs2,f2,p2,q2,hg2,ht2,hv2,hd2,⟨g3,k3,cs3,f3,p3,q3,hg3,ht3,hv3,hd3,⟨g4,k4,cs4,f4,p4,q4,hg4,ht4,hv4,hd4,⟨g5,k5,cs5,f5,p5,q5,hg5,ZI,hv5,hd5,⟨g6,k6,cs6,f6,p6,q6,WZ,ht6,hv6,hd6,hq6,e6⟩,e5⟩,e4⟩,e3⟩,e2⟩,e0⟩,hnd,hrows⟩:=(parts h).1;obtain rfl:=Option.some.inj (n0.symm.trans hg0);obtain rfl:=Option.some.inj (n2.symm.trans hg2);obtain rfl:=Option.some.inj (n3.symm.trans hg3);obtain rfl:=Option.some.inj (n4.symm.trans hg4);obtain rfl:=Option.some.inj (n5.symm.trans hg5);obtain rfl:=Option.some.inj (n6.symm.trans WZ);obtain rfl:=Option.some.inj (t0.symm.trans ht0);obtain rfl:=Option.some.inj (t2.symm.trans ht2);obtain rfl:=Option.some.inj (t3.symm.trans ht3);obtain rfl:=Option.some.inj (t4.symm.trans ht4);obtain rfl:=Option.some.inj (t5.symm.trans ZI);obtain rfl:=Option.some.inj (t6.symm.trans ht6);have hq6':q6=[]:=hq6;subst hq6';subst e6;subst e5;subst e4;subst e3;subst e2;subst e0;obtain ⟨l0⟩:=cs0;obtain ⟨l2⟩:=cs2;obtain ⟨l3⟩:=cs3;obtain ⟨l4⟩:=cs4;obtain ⟨l5⟩:=cs5;obtain ⟨l6⟩:=cs6;have ok0:∀ u v,l0=[.iface u v]→Value.okWide prog W .any 0 u v:=fun u v e=>by
  subst e;exact (hrows 0 0 (by simp [MemPlace.row])).2 u v (by simpa using World.var?_cell hg0 hv0 0)
 have ok2:∀ u v,l2=[.iface u v]→Value.okWide prog W .any 0 u v:=fun u v e=>by
  subst e;exact (hrows 2 0 (by simp [MemPlace.row])).2 u v (by simpa using World.var?_cell hg2 hv2 0)
 have ok3:∀ u v,l3=[.iface u v]→Value.okWide prog W .any 0 u v:=fun u v e=>by
  subst e;exact (hrows 3 0 (by simp [MemPlace.row])).2 u v (by simpa using World.var?_cell hg3 hv3 0)
 have ok4:∀ u v,l4=[.iface u v]→Value.okWide prog W .any 0 u v:=fun u v e=>by
  subst e;exact (hrows 4 0 (by simp [MemPlace.row])).2 u v (by simpa using World.var?_cell hg4 hv4 0)
 have ok5:∀ u v,l5=[.iface u v]→Value.okWide prog W .any 0 u v:=fun u v e=>by
  subst e;exact (hrows 5 0 (by simp [MemPlace.row])).2 u v (by simpa using World.var?_cell hg5 hv5 0)
 have ok6:∀ u v,l6=[.iface u v]→Value.okWide prog W .any 0 u v:=fun u v e=>by
  subst e;exact (hrows 6 0 (by simp [MemPlace.row])).2 u v (by simpa using World.var?_cell WZ hv6 0)
 obtain ⟨a0,s0,rfl,-,-,-,rfl⟩:=errorString_of_trod underlying98 Lu underlying321 underlying342 rfl rfl underlying9 cellsE cellsS hd0 ok0;obtain ⟨a2,s2,rfl,-,-,-,rfl⟩:=errorString_of_trod underlying98 Lu underlying321 underlying342 rfl rfl underlying9 cellsE cellsS hd2 ok2;obtain ⟨a3,s3,rfl,-,-,-,rfl⟩:=errorString_of_trod underlying98 Lu underlying321 underlying342 rfl rfl underlying9 cellsE cellsS hd3 ok3;obtain ⟨a4,s4,rfl,-,-,-,rfl⟩:=errorString_of_trod underlying98 Lu underlying321 underlying342 rfl rfl underlying9 cellsE cellsS hd4 ok4;obtain ⟨a5,s5,rfl,-,-,-,rfl⟩:=errorString_of_trod underlying98 Lu underlying321 underlying342 rfl rfl underlying9 cellsE cellsS hd5 ok5;obtain ⟨a6,s6,rfl,-,-,-,rfl⟩:=errorString_of_trod underlying98 Lu underlying321 underlying342 rfl rfl underlying9 cellsE cellsS hd6 ok6;have b0:=(hrows a0.block a0.off (by simp [MemPlace.row])).1;have b2:=(hrows a2.block a2.off (by simp [MemPlace.row])).1;have b3:=(hrows a3.block a3.off (by simp [MemPlace.row])).1;have b4:=(hrows a4.block a4.off (by simp [MemPlace.row])).1;have b5:=(hrows a5.block a5.off (by simp [MemPlace.row])).1;have b6:=(hrows a6.block a6.off (by simp [MemPlace.row])).1;refine ⟨a0,a2,a3,a4,a5,a6,?_,hv0,hv2,hv3,hv4,hv5,hv6,b0,b2,b3,b4,b5,b6⟩;have x02:a0 ≠ a2:=by rintro rfl; simp [MemPlace.row] at hnd
 have x03:a0 ≠ a3:=by rintro rfl; simp [MemPlace.row] at hnd
 have x04:a0 ≠ a4:=by rintro rfl; simp [MemPlace.row] at hnd
 have x05:a0 ≠ a5:=by rintro rfl; simp [MemPlace.row] at hnd
 have x06:a0 ≠ a6:=by rintro rfl; simp [MemPlace.row] at hnd
 have x23:a2 ≠ a3:=by rintro rfl; simp [MemPlace.row] at hnd
 have x24:a2 ≠ a4:=by rintro rfl; simp [MemPlace.row] at hnd
 have x25:a2 ≠ a5:=by rintro rfl; simp [MemPlace.row] at hnd
 have x26:a2 ≠ a6:=by rintro rfl; simp [MemPlace.row] at hnd
 have x34:a3 ≠ a4:=by rintro rfl; simp [MemPlace.row] at hnd
 have x35:a3 ≠ a5:=by rintro rfl; simp [MemPlace.row] at hnd
 have x36:a3 ≠ a6:=by rintro rfl; simp [MemPlace.row] at hnd
 have x45:a4 ≠ a5:=by rintro rfl; simp [MemPlace.row] at hnd
 have x46:a4 ≠ a6:=by rintro rfl; simp [MemPlace.row] at hnd
 have x56:a5 ≠ a6:=by rintro rfl; simp [MemPlace.row] at hnd
 simp [x02,x03,x04,x05,x06,x23,x24,x25,x26,x34,x35,x36,x45,x46,x56]
def pick (a0 a2 a3 a4 a5 a6:Addr) (g:Nat):Addr:=if g=0 then a0 else if g=2 then a2 else if g=3 then a3 else if g=4 then a4 else if g=5 then a5 else a6
end Go.Proofs.YtdmniljjnaebbaaGreatDoor.fnExactDelta
