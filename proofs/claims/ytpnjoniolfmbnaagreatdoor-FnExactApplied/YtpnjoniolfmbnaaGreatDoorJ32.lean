/- Proved here: FnExactApplied answers true for every slice of types, every slice of tuples and every change and leaves them as they were; the program's six errors and the library's type of errors start as the text lays them (the card). -/
import Derived.Test.YtpnjoniolfmbnaaGreatDoorJ28
import Derived.Test.YtpnjoniolfmbnaaGreatDoorJ23
import Derived.Test.YtpnjoniolfmbnaaGreatDoorJ30
import Derived.Test.YtpnjoniolfmbnaaGreatDoorJ31
import Derived.Test.YtpnjoniolfmbnaaGreatDoorJ2
import Derived.Test.YtpnjoniolfmbnaaGreatDoorCards
import Derived.Test.YtpnjoniolfmbnaaGreatDoorTie
import Derived.ProofKit
import Derived.Deep.RegionHeld3
import Derived.LaidMore
import Derived.Lay
import Derived.LaidHandle
import Derived.SevenTiedAt
import Derived.Stop.Joined
import Derived.RowKitTokens
import Derived.ChangeVars
namespace Go.Proofs.YtpnjoniolfmbnaaGreatDoor.fnExactApplied
open Go.ChangeShapes Go.WideShapes Go.ChangeAt Go.RowKit Go.Joins
open Go.ChangeMaps (open_string shut_string)
open Pl
set_option linter.unusedVariables false
theorem exsP {rs rs':List ER} {p:Ex→Prop} (h:exs rs'=exs rs) (hp:∀ r ∈ rs,p r.e):∀ r ∈ rs',p r.e:=by
 intro r hr
 have h1:r.e ∈ exs rs':=List.mem_map.2 ⟨r,hr,rfl⟩
 rw [h] at h1
 obtain ⟨q,hq,e⟩:=List.mem_map.1 h1
 rw [← e]
 exact hp q hq
theorem rlsP {rs rs':List RR} (h:rls rs'=rls rs):∀ r ∈ rs',∃ q ∈ rs,q.name=r.name∧exs r.rows=exs q.rows:=by
 intro r hr
 have h1:r.p ∈ rls rs':=List.mem_map.2 ⟨r,hr,rfl⟩
 rw [h] at h1
 obtain ⟨q,hq,e⟩:=List.mem_map.1 h1
 injection e with e1 e2
 exact ⟨q,hq,e1,e2.symm⟩
theorem tysP {rs rs':List TR} (h:tys rs'=tys rs):∀ r ∈ rs',∃ q ∈ rs,q.name=r.name∧rls r.rows=rls q.rows:=by
 intro r hr
 have h1:r.p ∈ tys rs':=List.mem_map.2 ⟨r,hr,rfl⟩
 rw [h] at h1
 obtain ⟨q,hq,e⟩:=List.mem_map.1 h1
 injection e with e1 e2
 exact ⟨q,hq,e1,e2.symm⟩
theorem lightP {rs rs':List TR} (h:tys rs'=tys rs) (hl:∀ r ∈ rs,r.light):∀ r ∈ rs',r.light:=by
 intro r hr
 obtain ⟨q,hq,-,e⟩:=tysP h r hr
 have h1:=hl q hq
 refine ⟨by rw [← rls_len,e,rls_len]; exact h1.1,fun x hx=>?_⟩
 obtain ⟨y,hy,-,e2⟩:=rlsP e x hx
 have h2:=h1.2 y hy
 exact ⟨by rw [← exs_len,e2,exs_len]; exact h2.1,exsP e2 h2.2⟩
theorem fitsP {rs rs':List TR} (h:tys rs'=tys rs) (hl:∀ r ∈ rs,r.fits):∀ r ∈ rs',r.fits:=by
 intro r hr
 obtain ⟨q,hq,en,e⟩:=tysP h r hr
 have h1:=hl q hq
 refine ⟨by rw [← en]; exact h1.1,by rw [← rls_len,e,rls_len]; exact h1.2.1,fun x hx=>?_⟩
 obtain ⟨y,hy,en2,e2⟩:=rlsP e x hx
 have h2:=h1.2.2 y hy
 exact ⟨by rw [← en2]; exact h2.1,by rw [← exs_len,e2,exs_len]; exact h2.2.1,exsP e2 h2.2.2⟩
theorem lenP {rs rs':List TR} (h:tys rs'=tys rs):rs'.length=rs.length:=by rw [← tys_len,h,tys_len]
theorem keepB {w W w':World} {B:Nat} (h:Below B w W) (hB:B≤W.heap.size) (hb:Below W.heap.size W w'):Below B w w':=h.trans (hb.mono hB)
theorem keep7 {w W w':World} {n:Nat} {x0 x1 x2 x3 x4 x5 x6:Value} (h:W.cell? ⟨n,0,none⟩=some x0∧W.cell? ⟨n,1,none⟩=some x1∧W.cell? ⟨n,2,none⟩=some x2∧W.cell? ⟨n,3,none⟩=some x3∧W.cell? ⟨n,4,none⟩=some x4∧W.cell? ⟨n,5,none⟩=some x5∧W.cell? ⟨n,6,none⟩=some x6∧n < W.heap.size∧Below w.heap.size w W) (hb:Below W.heap.size W w') :
  w'.cell? ⟨n,0,none⟩=some x0∧w'.cell? ⟨n,1,none⟩=some x1∧w'.cell? ⟨n,2,none⟩=some x2∧w'.cell? ⟨n,3,none⟩=some x3∧w'.cell? ⟨n,4,none⟩=some x4∧w'.cell? ⟨n,5,none⟩=some x5∧w'.cell? ⟨n,6,none⟩=some x6∧n < w'.heap.size∧Below w.heap.size w w':=by
 obtain ⟨h0,h1,h2,h3,h4,h5,h6,hl,hB⟩:=h
 have hc:=fun o=>hb.cell (p:=⟨n,o,none⟩) hl
 exact ⟨by rw [hc]; exact h0,by rw [hc]; exact h1,by rw [hc]; exact h2,by rw [hc]; exact h3,by rw [hc]; exact h4,by rw [hc]; exact h5,by rw [hc]; exact h6,Nat.lt_of_lt_of_le hl hb.size,hB.trans (hb.mono hB.size)⟩
set_option maxRecDepth 100000 in
set_option maxHeartbeats 8000000 in
theorem walk (ad:Option Addr) (cap:Nat) (rs:List TR) (ad':Option Addr) (cap':Nat) (ts:List Tp) (k0:Int) (t0:Tp) (a:Nat→Addr) (v:World) (hE:ErrsD v a) (hmr:rs.length≤maxLen) (hs:SlT v ad rs) (hf:∀ r ∈ rs,r.fits) (hm:ts.length≤maxLen) (hst:Sl v ad' ts) (hft:∀ x ∈ ts,x.fits) (ht0:t0.fits) :
  Calls Tryz.prog 4 #[.slice ad rs.length cap,.slice ad' ts.length cap',.agg #[.int .i64 k0,.string t0.a,.string t0.b,.string t0.r,.string t0.c,.string t0.d,.string t0.s]] v fun e w'=>e=.returned (.bool true)∧Below v.heap.size v w':=by
 obtain ⟨w,hW0⟩:∃ w,w=v.alloc (.cells #[.int .i64 k0,.string t0.a,.string t0.b,.string t0.r,.string t0.c,.string t0.d,.string t0.s] 44):=⟨_,rfl⟩
 have hvw:Below v.heap.size v w:=by rw [hW0]; exact (Below.refl _ _).alloc (Nat.le_refl _) _
 have h7:w.cell? ⟨v.heap.size,0,none⟩=some (.int .i64 k0)∧w.cell? ⟨v.heap.size,1,none⟩=some (.string t0.a)∧w.cell? ⟨v.heap.size,2,none⟩=some (.string t0.b)∧w.cell? ⟨v.heap.size,3,none⟩=some (.string t0.r)∧w.cell? ⟨v.heap.size,4,none⟩=some (.string t0.c)∧w.cell? ⟨v.heap.size,5,none⟩=some (.string t0.d)∧w.cell? ⟨v.heap.size,6,none⟩=some (.string t0.s)∧v.heap.size < w.heap.size∧Below w.heap.size w w:=by
  refine ⟨?_,?_,?_,?_,?_,?_,?_,?_,Below.refl _ _⟩ <;> (rw [hW0]; simp)
 have HX:Hid (∀ W,Below w.heap.size w W→W.cell? ⟨v.heap.size,0,none⟩=some (.int .i64 k0)∧W.cell? ⟨v.heap.size,1,none⟩=some (.string t0.a)∧W.cell? ⟨v.heap.size,2,none⟩=some (.string t0.b)∧W.cell? ⟨v.heap.size,3,none⟩=some (.string t0.r)∧W.cell? ⟨v.heap.size,4,none⟩=some (.string t0.c)∧W.cell? ⟨v.heap.size,5,none⟩=some (.string t0.d)∧W.cell? ⟨v.heap.size,6,none⟩=some (.string t0.s)∧v.heap.size < W.heap.size∧Below w.heap.size w W):=fun W h=>keep7 h7 h
 have FIN:Hid (∀ x,Below w.heap.size w x→Below v.heap.size v x):=fun x h=>keepB hvw hvw.size h
 replace hs:=hs.below hvw
 replace hst:=hst.below hvw
 replace hE:=hE.below hvw
 clear h7 hvw
 have HS:=HID hs
 have HF:=HID hf
 have HST:=HID hst
 have HFT:=HID hft
 have HER:=HID hE
 have HT0:=HID ht0
 clear hs hf hst hft hE ht0
 go_enter Tryz.func4,Tryz.ntmps4
 go_wp2_with fail
 rw [← hW0]
 clear hW0
 refine (szTypeS_w ad cap rs 1048576 _ hmr HS.out HF.out (by omega) (by omega)).mono ?_
 rintro e w1 ⟨⟨n,rfl,hn⟩,hb1⟩
 have HB1:=HID hb1
 clear hb1
 rcases hn with rfl | ⟨hn0,hn1,hn2,hn3⟩
 ·go_wp2
  go_ret
  exact ⟨rfl,FIN.out _ HB1.out⟩
 have HL:=HID hn3
 have hlen:rs.length≤1048576:=by omega
 have HWT:Hid (1 + wT rs≤20000000):=by have:=wT_sT rs; show _≤_; omega
 clear hn3 hn2
 go_wp2_with fail
 refine (szTupleS_any ad' cap' ts n _ hm (HST.out.below HB1.out) HFT.out (by omega) (by omega)).mono ?_
 rintro e w2 ⟨⟨m,rfl,hq⟩,hb2⟩
 have HB2:Hid (Below w.heap.size w w2):=keepB HB1.out HB1.out.size hb2
 clear hb2 HB1
 rcases hq with rfl | ⟨hq0,hq1,hq2⟩
 ·go_wp2
  go_ret
  exact ⟨rfl,FIN.out _ HB2.out⟩
 have hlt:ts.length≤1048576:=by omega
 have hszl:=szTup_le t0.a t0.b t0.r t0.c t0.d t0.s m
 obtain ⟨x0,x1,x2,x3,x4,x5,x6,xl,-⟩:=HX.out _ HB2.out
 go_wp2_with fail
 refine (szChange_any k0 t0.a t0.b t0.r t0.c t0.d t0.s m _ HT0.out.1 HT0.out.2.1 HT0.out.2.2.1 HT0.out.2.2.2.1 HT0.out.2.2.2.2.1 HT0.out.2.2.2.2.2 hq0 (by omega)).mono ?_
 rintro e w2b ⟨rfl,hb2b⟩
 have HB2b:Hid (Below w.heap.size w w2b):=keepB HB2.out HB2.out.size hb2b
 clear hb2b HB2 x0 x1 x2 x3 x4 x5 x6 xl
 by_cases hsn:szTup t0.a t0.b t0.r t0.c t0.d t0.s m < 0
 ·go_wp2
  go_ret
  exact ⟨rfl,FIN.out _ HB2b.out⟩
 have HB2:=HB2b
 clear HB2b hszl
 clear hq2 hq1 hn1
 obtain ⟨L,hL⟩:∃ L,apL rs ts k0 t0=L:=⟨_,rfl⟩
 obtain ⟨q0,hQ⟩:∃ q0,apC rs ts k0 t0=q0:=⟨_,rfl⟩
 have HLL:=HID hL
 have HQQ:=HID hQ
 have hl2:L.length≤1048576:=by rw [← hL]; exact Nat.le_trans (apL_len _ _ _ _) (by omega)
 have hll:L.length≤maxLen:=by unfold maxLen; omega
 clear hL hQ
 have H0:w2b.drew.cell? ⟨v.heap.size,0,none⟩=some (.int .i64 k0)∧w2b.drew.cell? ⟨v.heap.size,1,none⟩=some (.string t0.a)∧w2b.drew.cell? ⟨v.heap.size,2,none⟩=some (.string t0.b)∧w2b.drew.cell? ⟨v.heap.size,3,none⟩=some (.string t0.r)∧w2b.drew.cell? ⟨v.heap.size,4,none⟩=some (.string t0.c)∧w2b.drew.cell? ⟨v.heap.size,5,none⟩=some (.string t0.d)∧w2b.drew.cell? ⟨v.heap.size,6,none⟩=some (.string t0.s)∧v.heap.size < w2b.drew.heap.size∧Below w.heap.size w w2b.drew:=HX.out _ HB2.out.drew
 go_wp2_with fail
 go_region_held3 (fun w'=>w'.cell? ⟨v.heap.size,0,none⟩=some (.int .i64 k0)∧w'.cell? ⟨v.heap.size,1,none⟩=some (.string t0.a)∧w'.cell? ⟨v.heap.size,2,none⟩=some (.string t0.b)∧w'.cell? ⟨v.heap.size,3,none⟩=some (.string t0.r)∧w'.cell? ⟨v.heap.size,4,none⟩=some (.string t0.c)∧w'.cell? ⟨v.heap.size,5,none⟩=some (.string t0.d)∧w'.cell? ⟨v.heap.size,6,none⟩=some (.string t0.s)∧v.heap.size < w'.heap.size∧Below w.heap.size w w')
  (first | assumption | exact keep7 (by assumption) hb3 | exact keep7 (by assumption) F4.below | exact keep7 (by assumption) hb4b | exact keep7 (by assumption) hb5 | exact H0)
  (first | (go_at_call 15; refine (toTypeS_any ad cap rs _ hlen (HS.out.below HB2.out.drew) HL.out).mono ?_; rintro e w3 ⟨rs1,rfl,he1,hs1,hc1,hnw1,hb3⟩) | (go_at_call 16; refine (toTupleS_any ad' cap' ts _ hlt (HST.out.below (keepB HB2.out.drew HB2.out.drew.size hb3))).mono ?_; rintro e w4 ⟨rfl,F4⟩) | (go_at_call 17; refine (toChange_any k0 t0.a t0.b t0.r t0.c t0.d t0.s _).mono ?_; rintro e w4b ⟨rfl,hb4b⟩) | (go_at_call 9; refine (specApp_ans _ _ rs1 _ _ ts k0 t0 _ (by rw [lenP he1]; exact hlen) ((hs1.below F4.below).below hb4b) (lightP he1 HL.out) (fitsP he1 HF.out) hlt (Nat.le_refl _) (F4.later hb4b).lt (F4.later hb4b).row HFT.out HT0.out).mono ?_; rintro e w5 ⟨ad5,cap5,he5,hs5,hb5⟩; rw [(ap_tys he1 ts k0 t0).1,(ap_tys he1 ts k0 t0).2,HLL.out,HQQ.out] at he5; rw [(ap_tys he1 ts k0 t0).1,HLL.out] at hs5; subst he5))
 rename_i hH
 obtain ⟨-,-,-,-,-,-,-,-,gB⟩:=hH
 have HB5:=HID gB
 have HL5:=HID hs5
 clear H0 gB hb3 F4 hb4b hb5 hs5 he1 hs1 hc1 hnw1 HB2
 have s5:w.heap.size≤w5.heap.size:=HB5.out.size
 have Cw_w5:Hid (Below w.heap.size w w5):=HB5
 have Cw5_w5:Hid (Below w5.heap.size w5 w5):=Below.refl _ _
 go_wp2_with fail
 refine (toTypeS_o ad cap rs _ hlen (HS.out.below Cw_w5.out) HL.out).mono ?_
 rintro e w6 ⟨rs2,rfl,he2,hs2,hc2,hnw2,ho2,hf2,hlx2,hb6⟩
 have HE2:=HID he2
 have HS2:=HID hs2
 have HC2:=HID hc2
 have HO2:=HID ho2
 have HF2:=HID hf2
 have HL2:=HID hlx2
 have HSZ:Hid (∀ g,insT w5.heap.size rs2 g→w5.heap.size≤g∧g < w6.heap.size):=by
  rintro g (rfl | ⟨q,hq,h2⟩)
  ·exact ⟨Nat.le_refl _,HL2.out⟩
  ·have:=HO2.out.2 q hq g h2; omega
 have Cw_w6:Hid (Below w.heap.size w w6):=keepB Cw_w5.out Cw_w5.out.size hb6
 have Cw5_w6:Hid (Below w5.heap.size w5 w6):=keepB Cw5_w5.out Cw5_w5.out.size hb6
 clear Cw_w5
 clear hb6 he2 hs2 hc2 ho2 hf2 hlx2 hnw2
 have Cw6_w6:Hid (Below w6.heap.size w6 w6):=Below.refl _ _
 go_wp2_with fail
 refine (toTupleS_any ad' cap' ts _ hlt (HST.out.below Cw_w6.out)).mono ?_
 rintro e w7 ⟨rfl,F7⟩
 have HF7:=HID F7
 have Cw_w7:Hid (Below w.heap.size w w7):=keepB Cw_w6.out Cw_w6.out.size F7.below
 have Cw5_w7:Hid (Below w5.heap.size w5 w7):=keepB Cw5_w6.out Cw5_w6.out.size F7.below
 have Cw6_w7:Hid (Below w6.heap.size w6 w7):=keepB Cw6_w6.out Cw6_w6.out.size F7.below
 clear Cw_w6
 clear F7
 have Cw7_w7:Hid (Below w7.heap.size w7 w7):=Below.refl _ _
 obtain ⟨x0,x1,x2,x3,x4,x5,x6,xl,-⟩:=HX.out _ Cw_w7.out
 go_wp2_with fail
 refine (toChange_any k0 t0.a t0.b t0.r t0.c t0.d t0.s _).mono ?_
 rintro e w7b ⟨rfl,hb7b⟩
 clear x0 x1 x2 x3 x4 x5 x6 xl
 go_wp2_with fail
 refine (implApp_ans a _ _ rs2 _ _ ts k0 t0 _ (HER.out.below (keepB Cw_w7.out Cw_w7.out.size hb7b)) (by rw [lenP HE2.out]; exact hlen) ((HS2.out.below Cw6_w7.out).below hb7b) (lightP HE2.out HL.out) (fitsP HE2.out HF.out) HC2.out hlt (Nat.le_refl _) (HF7.out.later hb7b).lt (HF7.out.later hb7b).row HFT.out HT0.out).mono ?_
 rintro e w8 ⟨ad8,cap8,he8,hO8',hb8'⟩
 have hb8:Below w7.heap.size w7 w8:=keepB hb7b hb7b.size hb8'
 have hO8:=hO8'.mono hb7b.size
 clear hO8' hb8' hb7b
 rw [(ap_tys HE2.out ts k0 t0).1,(ap_tys HE2.out ts k0 t0).2,HLL.out,HQQ.out] at he8
 rw [(ap_tys HE2.out ts k0 t0).1,HLL.out] at hO8
 subst he8
 have HO8:=HID hO8
 have Cw_w8:Hid (Below w.heap.size w w8):=keepB Cw_w7.out Cw_w7.out.size hb8
 have Cw5_w8:Hid (Below w5.heap.size w5 w8):=keepB Cw5_w7.out Cw5_w7.out.size hb8
 have Cw6_w8:Hid (Below w6.heap.size w6 w8):=keepB Cw6_w7.out Cw6_w7.out.size hb8
 have Cw7_w8:Hid (Below w7.heap.size w7 w8):=keepB Cw7_w7.out Cw7_w7.out.size hb8
 clear Cw_w7
 clear hb8 hO8
 have Cw8_w8:Hid (Below w8.heap.size w8 w8):=Below.refl _ _
 go_wp2_with fail
 refine (eqTupleS_any ad8 ad5 cap8 cap5 L _ hll HO8.out.1 (HL5.out.below Cw5_w8.out)).mono ?_
 rintro e w9 ⟨rfl,hb9⟩
 have Cw_w9:Hid (Below w.heap.size w w9):=keepB Cw_w8.out Cw_w8.out.size hb9
 have Cw5_w9:Hid (Below w5.heap.size w5 w9):=keepB Cw5_w8.out Cw5_w8.out.size hb9
 have Cw6_w9:Hid (Below w6.heap.size w6 w9):=keepB Cw6_w8.out Cw6_w8.out.size hb9
 have Cw7_w9:Hid (Below w7.heap.size w7 w9):=keepB Cw7_w8.out Cw7_w8.out.size hb9
 have Cw8_w9:Hid (Below w8.heap.size w8 w9):=keepB Cw8_w8.out Cw8_w8.out.size hb9
 clear Cw_w8
 clear hb9
 go_wp2_with fail
 refine (toTypeS_any ad cap rs _ hlen (HS.out.below Cw_w9.out) HL.out).mono ?_
 rintro e w10 ⟨rs3,rfl,he3,hs3,-,-,hb10⟩
 have Cw_w10:Hid (Below w.heap.size w w10):=keepB Cw_w9.out Cw_w9.out.size hb10
 have Cw5_w10:Hid (Below w5.heap.size w5 w10):=keepB Cw5_w9.out Cw5_w9.out.size hb10
 have Cw6_w10:Hid (Below w6.heap.size w6 w10):=keepB Cw6_w9.out Cw6_w9.out.size hb10
 have Cw7_w10:Hid (Below w7.heap.size w7 w10):=keepB Cw7_w9.out Cw7_w9.out.size hb10
 have Cw8_w10:Hid (Below w8.heap.size w8 w10):=keepB Cw8_w9.out Cw8_w9.out.size hb10
 clear Cw_w9 Cw5_w9 Cw6_w9 Cw7_w9 Cw8_w9
 have HE3:=HID he3
 have HS3:=HID hs3
 clear hb10 he3 hs3
 go_wp2_with fail
 refine (eqTypeS_same _ _ _ _ rs2 rs3 _ (by rw [lenP HE2.out]; exact hlen) (by rw [HE3.out,HE2.out]) (HS2.out.below Cw6_w10.out) HS3.out (lightP HE2.out HL.out)).mono ?_
 rintro e w11 ⟨rfl,hb11⟩
 have Cw_w11:Hid (Below w.heap.size w w11):=keepB Cw_w10.out Cw_w10.out.size hb11
 have Cw5_w11:Hid (Below w5.heap.size w5 w11):=keepB Cw5_w10.out Cw5_w10.out.size hb11
 have Cw6_w11:Hid (Below w6.heap.size w6 w11):=keepB Cw6_w10.out Cw6_w10.out.size hb11
 have Cw7_w11:Hid (Below w7.heap.size w7 w11):=keepB Cw7_w10.out Cw7_w10.out.size hb11
 have Cw8_w11:Hid (Below w8.heap.size w8 w11):=keepB Cw8_w10.out Cw8_w10.out.size hb11
 clear Cw_w10 Cw5_w10 Cw6_w10 Cw7_w10 Cw8_w10
 clear hb11 HS3
 go_wp2_with fail
 refine (toTupleS_any ad' cap' ts _ hlt (HST.out.below Cw_w11.out)).mono ?_
 rintro e w12 ⟨rfl,F12⟩
 have HG12:=HID F12.sl
 have Cw_w12:Hid (Below w.heap.size w w12):=keepB Cw_w11.out Cw_w11.out.size F12.below
 have Cw5_w12:Hid (Below w5.heap.size w5 w12):=keepB Cw5_w11.out Cw5_w11.out.size F12.below
 have Cw6_w12:Hid (Below w6.heap.size w6 w12):=keepB Cw6_w11.out Cw6_w11.out.size F12.below
 have Cw7_w12:Hid (Below w7.heap.size w7 w12):=keepB Cw7_w11.out Cw7_w11.out.size F12.below
 have Cw8_w12:Hid (Below w8.heap.size w8 w12):=keepB Cw8_w11.out Cw8_w11.out.size F12.below
 clear Cw_w11 Cw5_w11 Cw6_w11 Cw7_w11 Cw8_w11
 clear F12
 go_wp2_with fail
 refine (eqTupleS_any _ _ _ _ ts _ hm (HF7.out.later Cw7_w12.out).sl HG12.out).mono ?_
 rintro e w13 ⟨rfl,hb13⟩
 have Cw_w13:Hid (Below w.heap.size w w13):=keepB Cw_w12.out Cw_w12.out.size hb13
 have Cw5_w13:Hid (Below w5.heap.size w5 w13):=keepB Cw5_w12.out Cw5_w12.out.size hb13
 have Cw6_w13:Hid (Below w6.heap.size w6 w13):=keepB Cw6_w12.out Cw6_w12.out.size hb13
 have Cw7_w13:Hid (Below w7.heap.size w7 w13):=keepB Cw7_w12.out Cw7_w12.out.size hb13
 have Cw8_w13:Hid (Below w8.heap.size w8 w13):=keepB Cw8_w12.out Cw8_w12.out.size hb13
 clear Cw_w12 Cw5_w12 Cw6_w12 Cw7_w12 Cw8_w12
 clear hb13 HG12
 have HW2T:Hid (1 + wT rs2≤1000000000):=by show _≤_; rw [wT_tys HE2.out]; have:=HWT.out; omega
 obtain ⟨M0,hM0⟩:∃ M0:Nat,M0=1 + wT rs2:=⟨_,rfl⟩
 have HM0:=HID hM0
 have HM1:Hid (0 < M0∧M0 + 6 * ts.length≤1000000000):=by show _∧_; rw [hM0,wT_tys HE2.out]; have:=HWT.out; omega
 have h56:w5.heap.size < w6.heap.size:=HL2.out
 have h67:w6.heap.size < w7.heap.size:=HF7.out.lt
 have h613:w6.heap.size≤w13.heap.size:=Cw6_w13.out.size
 have h713:w7.heap.size≤w13.heap.size:=Cw7_w13.out.size
 have hc6:Chg (fun _=>False) w6 w13:=Chg.of Cw6_w13.out
 have HX13:=HID (HF7.out.later Cw7_w13.out)
 have HO13:=HID (HO8.out.later Cw8_w13.out)
 have HL13:=HID (HL5.out.below Cw5_w13.out)
 have HSC:=HID (HS2.out.below Cw6_w13.out)
 have HOC:=HID (HO2.out.chg hc6)
 have HFC:=HID (hc6.free _ HL2.out HF2.out)
 clear hM0 hc6
 go_wp2_with fail
 refine (markArg w5.heap.size _ rs2 _ HSC.out (by omega) HOC.out HFC.out (lightP HE2.out HL.out) (by rw [lenP HE2.out]; exact hlen) HW2T.out).mono ?_
 rintro e w14 ⟨he,hc14⟩
 rw [← HM0.out] at he
 subst he
 have HB14:Hid (Below w.heap.size w w14):=Cw_w13.out.trans (hc14.below (fun g hg=>Nat.le_trans s5 (HSZ.out g hg).1) Cw_w13.out.size)
 have HL14:Hid (Sl w14 ad5 L):=HL13.out.chg hc14 (fun g o hne e hg=>by
  have:=(HSZ.out g hg).1
  have:=sl_lt HL5.out hne e
  omega)
 have HO14:Hid (OwnL w7.heap.size w14 ad8 L):=HO13.out.chg hc14 (fun g hge hg=>by
  have:=(HSZ.out g hg).2
  omega)
 have HX14:Hid (Sl w14 (some ⟨w6.heap.size,0,none⟩) ts):=HX13.out.sl.chg hc14 (fun g o hne e hg=>by
  have:=(HSZ.out g hg).2
  injection e with e; injection e with e1 e2
  omega)
 have HFX14:Hid (Free w14 w6.heap.size):=hc14.free _ HX13.out.lt HX13.out.free
 have h14:w13.heap.size≤w14.heap.size:=hc14.size
 clear hc14 HSC HOC HFC HX13 HO13 HL13
 go_wp2_with fail
 refine (markTupleS_any _ _ ts M0 _ HX14.out (fun _=>⟨_,rfl,HFX14.out⟩) HM1.out.1 HM1.out.2).mono ?_
 rintro e w15 ⟨rfl,-,hc15⟩
 have HB15:Hid (Below w.heap.size w w15):=HB14.out.trans (hc15.below (fun g hg=>by obtain ⟨-,e⟩:=hg; injection e with e; injection e with e; omega) HB14.out.size)
 have HL15:Hid (Sl w15 ad5 L):=HL14.out.chg hc15 (fun g o hne e hg=>by
  obtain ⟨-,e2⟩:=hg
  injection e2 with e2; injection e2 with e2 e3
  have:=sl_lt HL5.out hne e
  omega)
 have HO15:Hid (OwnL w7.heap.size w15 ad8 L):=HO14.out.chg hc15 (fun g hge hg=>by
  obtain ⟨-,e2⟩:=hg
  injection e2 with e2; injection e2 with e2 e3
  omega)
 obtain ⟨M2,hM2⟩:∃ M2:Nat,M2=M0 + 6 * ts.length:=⟨_,rfl⟩
 rw [← hM2]
 have hk1:¬ ((M2:Nat):Int) < 0:=by omega
 clear hc15 hM2 HB14 HL14 HO14 HX14 HFX14
 go_wp2_with fail
 refine (eqTupleS_any ad8 ad5 cap8 cap5 L _ hll HO15.out.1 HL15.out).mono ?_
 rintro e w16 ⟨rfl,hb16⟩
 have HB16:Hid (Below w.heap.size w w16):=HB15.out.trans (hb16.mono HB15.out.size)
 have HL16:Hid (Sl w16 ad5 L):=HL15.out.below hb16
 have HO16:Hid (OwnL w7.heap.size w16 ad8 L):=HO15.out.later hb16
 clear hb16 HB15 HL15 HO15
 go_wp2_with fail
 refine (markTupleS_any ad8 cap8 L 1 _ HO16.out.1 (fun h=>by obtain ⟨g,e,-,hfr⟩:=HO16.out.2 h; exact ⟨g,e,hfr⟩) (by omega) (by omega)).mono ?_
 rintro e w17 ⟨rfl,hs17,hc17⟩
 have HM17:=HID hs17
 have hfar:∀ g,(L ≠ []∧ad8=some ⟨g,0,none⟩)→w7.heap.size≤g:=fun g hg=>by
  obtain ⟨g',e,h1,-⟩:=HO16.out.2 hg.1
  have e2:=hg.2
  rw [e] at e2; injection e2 with e2; injection e2 with e2 e3; omega
 have HB17:Hid (Below w.heap.size w w17):=HB16.out.trans (hc17.below (fun g hg=>by have:=hfar g hg; omega) HB16.out.size)
 have HL17:Hid (Sl w17 ad5 L):=HL16.out.chg hc17 (fun g o hne e hg=>by
  have:=hfar g hg
  have:=sl_lt HL5.out hne e
  omega)
 clear hs17 hc17 hfar HB16 HL16 HO16
 go_wp2_with fail
 refine (heldTupleS_any ad8 cap8 L 1 _ HM17.out (by omega) (by omega)).mono ?_
 rintro e w18 ⟨rfl,hb18⟩
 have HB18:Hid (Below w.heap.size w w18):=HB17.out.trans (hb18.mono HB17.out.size)
 have HL18:Hid (Sl w18 ad5 L):=HL17.out.below hb18
 have HM18:Hid (Sl w18 ad8 (mkT 1 L)):=HM17.out.below hb18
 have hk2:¬ ((1 + 6 * L.length:Nat):Int) < 0:=by omega
 clear hb18 HB17 HL17 HM17
 have H0:w18.drew.cell? ⟨v.heap.size,0,none⟩=some (.int .i64 k0)∧w18.drew.cell? ⟨v.heap.size,1,none⟩=some (.string t0.a)∧w18.drew.cell? ⟨v.heap.size,2,none⟩=some (.string t0.b)∧w18.drew.cell? ⟨v.heap.size,3,none⟩=some (.string t0.r)∧w18.drew.cell? ⟨v.heap.size,4,none⟩=some (.string t0.c)∧w18.drew.cell? ⟨v.heap.size,5,none⟩=some (.string t0.d)∧w18.drew.cell? ⟨v.heap.size,6,none⟩=some (.string t0.s)∧v.heap.size < w18.drew.heap.size∧Below w.heap.size w w18.drew:=HX.out _ HB18.out.drew
 go_wp2_with fail
 go_region_held3 (fun w'=>w'.cell? ⟨v.heap.size,0,none⟩=some (.int .i64 k0)∧w'.cell? ⟨v.heap.size,1,none⟩=some (.string t0.a)∧w'.cell? ⟨v.heap.size,2,none⟩=some (.string t0.b)∧w'.cell? ⟨v.heap.size,3,none⟩=some (.string t0.r)∧w'.cell? ⟨v.heap.size,4,none⟩=some (.string t0.c)∧w'.cell? ⟨v.heap.size,5,none⟩=some (.string t0.d)∧w'.cell? ⟨v.heap.size,6,none⟩=some (.string t0.s)∧v.heap.size < w'.heap.size∧Below w.heap.size w w')
  (first | assumption | exact keep7 (by assumption) hb19 | exact keep7 (by assumption) F20.below | exact keep7 (by assumption) hb20b | exact keep7 (by assumption) hb21 | exact H0)
  (first | (go_at_call 15; refine (toTypeS_any ad cap rs _ hlen (HS.out.below HB18.out.drew) HL.out).mono ?_; rintro e w19 ⟨rs4,rfl,he4,hs4,hc4,hnw4,hb19⟩) | (go_at_call 16; refine (toTupleS_any ad' cap' ts _ hlt (HST.out.below (keepB HB18.out.drew HB18.out.drew.size hb19))).mono ?_; rintro e w20 ⟨rfl,F20⟩) | (go_at_call 17; refine (toChange_any k0 t0.a t0.b t0.r t0.c t0.d t0.s _).mono ?_; rintro e w20b ⟨rfl,hb20b⟩) | (go_at_call 8; refine (implApp_ans a _ _ rs4 _ _ ts k0 t0 _ (HER.out.below (keepB (keepB (keepB HB18.out.drew HB18.out.drew.size hb19) (Nat.le_trans HB18.out.drew.size hb19.size) F20.below) (Nat.le_trans (Nat.le_trans HB18.out.drew.size hb19.size) F20.below.size) hb20b)) (by rw [lenP he4]; exact hlen) ((hs4.below F20.below).below hb20b) (lightP he4 HL.out) (fitsP he4 HF.out) hc4 hlt (Nat.le_refl _) (F20.later hb20b).lt (F20.later hb20b).row HFT.out HT0.out).mono ?_; rintro e w21 ⟨ad21,cap21,he21,hO21,hb21⟩; rw [(ap_tys he4 ts k0 t0).1,(ap_tys he4 ts k0 t0).2,HLL.out,HQQ.out] at he21; rw [(ap_tys he4 ts k0 t0).1,HLL.out] at hO21; subst he21))
 rename_i hH
 obtain ⟨-,-,-,-,-,-,-,-,gB⟩:=hH
 have HB21:=HID gB
 have hd18:Below w18.heap.size w18 w18.drew:=(Below.refl _ _).drew
 have HL21:Hid (Sl w21 ad5 L):=((((HL18.out.below hd18).below hb19).below F20.below).below hb20b).below hb21
 have HM21:Hid (Sl w21 ad8 (mkT 1 L)):=((((HM18.out.below hd18).below hb19).below F20.below).below hb20b).below hb21
 have HO21:=HID hO21.1
 clear H0 gB hd18 hb19 F20 hb20b hb21 hO21 he4 hs4 hc4 hnw4 HB18 HL18 HM18
 go_wp2_with fail
 refine (eqTupleS_any ad21 ad5 cap21 cap5 L _ hll HO21.out HL21.out).mono ?_
 rintro e w22 ⟨rfl,hb22⟩
 have HB22:Hid (Below w.heap.size w w22):=HB21.out.trans (hb22.mono HB21.out.size)
 have HM22:Hid (Sl w22 ad8 (mkT 1 L)):=HM21.out.below hb22
 clear hb22 HB21 HL21 HM21 HO21
 go_wp2_with fail
 refine (heldTupleS_any ad8 cap8 L 1 _ HM22.out (by omega) (by omega)).mono ?_
 rintro e w23 ⟨rfl,hb23⟩
 have HB23:Hid (Below w.heap.size w w23):=HB22.out.trans (hb23.mono HB22.out.size)
 clear hb23 HB22 HM22
 go_wp2
 go_ret
 exact ⟨rfl,FIN.out _ HB23.out⟩
end Go.Proofs.YtpnjoniolfmbnaaGreatDoor.fnExactApplied
namespace Go.Proofs.YtpnjoniolfmbnaaGreatDoor.fnExactApplied
open Go.ChangeShapes Go.WideShapes Go.ChangeAt Go.RowKit Go.Joins
open Pl
set_option linter.unusedVariables false
theorem own:ownKnob Tryz.prog.godebug=none:=by kernel_rfl
theorem laidOut:laidOutB Tryz.prog=true:=by kernel_rfl
abbrev nm (i:Nat):String:=(Rows.fnExactAppliedSpec.vars[i]?).getD default
theorem n0:Tryz.prog.globalNamed (nm 0)=some 0:=by kernel_rfl
theorem n2:Tryz.prog.globalNamed (nm 1)=some 2:=by kernel_rfl
theorem n3:Tryz.prog.globalNamed (nm 3)=some 3:=by kernel_rfl
theorem n4:Tryz.prog.globalNamed (nm 4)=some 4:=by kernel_rfl
theorem n5:Tryz.prog.globalNamed (nm 2)=some 5:=by kernel_rfl
theorem n6:Tryz.prog.globalNamed (nm 5)=some 6:=by kernel_rfl
theorem n1 : Tryz.prog.globalNamed "errors.errorType" = some 1 := by kernel_rfl
theorem t0:(Tryz.prog.globals[0]?).map (·.type)=some 70:=by kernel_rfl
theorem t2:(Tryz.prog.globals[2]?).map (·.type)=some 70:=by kernel_rfl
theorem t3:(Tryz.prog.globals[3]?).map (·.type)=some 70:=by kernel_rfl
theorem t4:(Tryz.prog.globals[4]?).map (·.type)=some 70:=by kernel_rfl
theorem t5:(Tryz.prog.globals[5]?).map (·.type)=some 70:=by kernel_rfl
theorem t6:(Tryz.prog.globals[6]?).map (·.type)=some 70:=by kernel_rfl
theorem star : "*" ++ "errors.errorString" = "*errors.errorString" := by decide
theorem rowE (u : TypeId) (h : Tryz.prog.typeName? 3 u = some "*errors.errorString") : u = 292 :=
 typeName_ptr_named (nm := "errors.errorString") (by rw [star]; kernel_rfl) (by kernel_rfl) (by decide) u (by rw [star]; exact h)
theorem cellsE:Tryz.prog.cellsOf 313=1:=by kernel_rfl
theorem cellsS:Tryz.prog.cellsOf 9=1:=by kernel_rfl
theorem rt : (Tryz.prog.cutTypes.find? (·.1 == "internal/reflectlite.rtype")).map (·.2) = some 178 := by kernel_rfl
theorem oneRow:((List.range Tryz.prog.types.size).filter fun t=>Tryz.prog.rowNamed t [101,114,114,111,114])=[70]:=by kernel_rfl
theorem hnd:typeHandle Tryz.prog 70=.pointer (some ⟨8,70,none⟩):=by kernel_rfl
theorem parts {W : World} (h : laidMetH Tryz.prog Rows.fnExactAppliedRow.laid W) : laidMet Tryz.prog (Rows.fnExactAppliedRow.laid.drop 1) W ∧ handlesMet Tryz.prog [("errors.errorType", Rows.laid_errors_errorType)] W := h
theorem typ_of {W:World} (h:laidMetH Tryz.prog Rows.fnExactAppliedRow.laid W):1 < W.heap.size∧W.cell? ⟨1,0,none⟩=some (.iface 178 (.agg #[.pointer (some ⟨8,70,none⟩)])):=by
 obtain ⟨name,u,ty,e1,e2,e3,e4,e5⟩:=(parts h).2 _ (List.mem_singleton.2 rfl)
 have en:name=[101,114,114,111,114]:=(Option.some.inj e1).symm
 subst en
 obtain rfl:=Option.some.inj (rt.symm.trans e2)
 have hm:ty ∈ (List.range Tryz.prog.types.size).filter fun t=>Tryz.prog.rowNamed t [101,114,114,111,114]:=List.mem_filter.2 ⟨List.mem_range.2 e3,e4⟩
 rw [oneRow] at hm
 obtain rfl:=List.mem_singleton.1 hm
 rw [hnd] at e5
 have hc:W.cell? ⟨1,0,none⟩=some (.iface 178 (.agg #[.pointer (some ⟨8,70,none⟩)])):=by simpa using World.var?_cell n1 e5 0
 exact ⟨World.block_lt_of_cell? W ⟨1,0,none⟩ hc,hc⟩
set_option maxRecDepth 100000 in
theorem sent_of {W:World} (h:laidMetH Tryz.prog Rows.fnExactAppliedRow.laid W) :
  ∃ a0 a2 a3 a4 a5 a6:Addr,[a0,a2,a3,a4,a5,a6].Nodup∧W.var? Tryz.prog (nm 0)=some #[.iface 292 (.pointer (some a0))]∧W.var? Tryz.prog (nm 1)=some #[.iface 292 (.pointer (some a2))]∧W.var? Tryz.prog (nm 3)=some #[.iface 292 (.pointer (some a3))]∧W.var? Tryz.prog (nm 4)=some #[.iface 292 (.pointer (some a4))]∧W.var? Tryz.prog (nm 2)=some #[.iface 292 (.pointer (some a5))]∧W.var? Tryz.prog (nm 5)=some #[.iface 292 (.pointer (some a6))]∧(∃ c T,W.heap[a0.block]?=some (.cells c T (0,0)))∧(∃ c T,W.heap[a2.block]?=some (.cells c T (0,0)))∧(∃ c T,W.heap[a3.block]?=some (.cells c T (0,0)))∧(∃ c T,W.heap[a4.block]?=some (.cells c T (0,0)))∧(∃ c T,W.heap[a5.block]?=some (.cells c T (0,0)))∧(∃ c T,W.heap[a6.block]?=some (.cells c T (0,0))):=by
 obtain ⟨ps,⟨g0,k0,cs0,f0,p0,q0,hg0,ht0,hv0,hd0,⟨g2,k2,cs2,f2,p2,q2,hg2,ht2,hv2,hd2,⟨g3,k3,cs3,f3,p3,q3,hg3,ht3,hv3,hd3,⟨g4,k4,cs4,f4,p4,q4,hg4,ht4,hv4,hd4,⟨g5,k5,cs5,f5,p5,q5,hg5,ht5,hv5,hd5,⟨g6,k6,cs6,f6,p6,q6,hg6,ht6,hv6,hd6,hq6,e6⟩,e5⟩,e4⟩,e3⟩,e2⟩,e0⟩,hnd,hrows⟩:=(parts h).1
 obtain rfl:=Option.some.inj (n0.symm.trans hg0)
 obtain rfl:=Option.some.inj (n2.symm.trans hg2)
 obtain rfl:=Option.some.inj (n3.symm.trans hg3)
 obtain rfl:=Option.some.inj (n4.symm.trans hg4)
 obtain rfl:=Option.some.inj (n5.symm.trans hg5)
 obtain rfl:=Option.some.inj (n6.symm.trans hg6)
 obtain rfl:=Option.some.inj (t0.symm.trans ht0)
 obtain rfl:=Option.some.inj (t2.symm.trans ht2)
 obtain rfl:=Option.some.inj (t3.symm.trans ht3)
 obtain rfl:=Option.some.inj (t4.symm.trans ht4)
 obtain rfl:=Option.some.inj (t5.symm.trans ht5)
 obtain rfl:=Option.some.inj (t6.symm.trans ht6)
 have hq6':q6=[]:=hq6
 subst hq6'
 subst e6
 subst e5
 subst e4
 subst e3
 subst e2
 subst e0
 obtain ⟨l0⟩:=cs0
 obtain ⟨l2⟩:=cs2
 obtain ⟨l3⟩:=cs3
 obtain ⟨l4⟩:=cs4
 obtain ⟨l5⟩:=cs5
 obtain ⟨l6⟩:=cs6
 have ok0:∀ u v,l0=[.iface u v]→Value.okWide Tryz.prog W .any 0 u v:=fun u v e=>by
  subst e
  exact (hrows 0 0 (by simp [MemPlace.row])).2 u v (by simpa using World.var?_cell hg0 hv0 0)
 have ok2:∀ u v,l2=[.iface u v]→Value.okWide Tryz.prog W .any 0 u v:=fun u v e=>by
  subst e
  exact (hrows 2 0 (by simp [MemPlace.row])).2 u v (by simpa using World.var?_cell hg2 hv2 0)
 have ok3:∀ u v,l3=[.iface u v]→Value.okWide Tryz.prog W .any 0 u v:=fun u v e=>by
  subst e
  exact (hrows 3 0 (by simp [MemPlace.row])).2 u v (by simpa using World.var?_cell hg3 hv3 0)
 have ok4:∀ u v,l4=[.iface u v]→Value.okWide Tryz.prog W .any 0 u v:=fun u v e=>by
  subst e
  exact (hrows 4 0 (by simp [MemPlace.row])).2 u v (by simpa using World.var?_cell hg4 hv4 0)
 have ok5:∀ u v,l5=[.iface u v]→Value.okWide Tryz.prog W .any 0 u v:=fun u v e=>by
  subst e
  exact (hrows 5 0 (by simp [MemPlace.row])).2 u v (by simpa using World.var?_cell hg5 hv5 0)
 have ok6:∀ u v,l6=[.iface u v]→Value.okWide Tryz.prog W .any 0 u v:=fun u v e=>by
  subst e
  exact (hrows 6 0 (by simp [MemPlace.row])).2 u v (by simpa using World.var?_cell hg6 hv6 0)
 obtain ⟨a0,s0,rfl,-,-,-,rfl⟩:=errorString_of_trod Tryz.underlying70 rowE Tryz.underlying292 Tryz.underlying313 rfl rfl Tryz.underlying9 cellsE cellsS hd0 ok0
 obtain ⟨a2,s2,rfl,-,-,-,rfl⟩:=errorString_of_trod Tryz.underlying70 rowE Tryz.underlying292 Tryz.underlying313 rfl rfl Tryz.underlying9 cellsE cellsS hd2 ok2
 obtain ⟨a3,s3,rfl,-,-,-,rfl⟩:=errorString_of_trod Tryz.underlying70 rowE Tryz.underlying292 Tryz.underlying313 rfl rfl Tryz.underlying9 cellsE cellsS hd3 ok3
 obtain ⟨a4,s4,rfl,-,-,-,rfl⟩:=errorString_of_trod Tryz.underlying70 rowE Tryz.underlying292 Tryz.underlying313 rfl rfl Tryz.underlying9 cellsE cellsS hd4 ok4
 obtain ⟨a5,s5,rfl,-,-,-,rfl⟩:=errorString_of_trod Tryz.underlying70 rowE Tryz.underlying292 Tryz.underlying313 rfl rfl Tryz.underlying9 cellsE cellsS hd5 ok5
 obtain ⟨a6,s6,rfl,-,-,-,rfl⟩:=errorString_of_trod Tryz.underlying70 rowE Tryz.underlying292 Tryz.underlying313 rfl rfl Tryz.underlying9 cellsE cellsS hd6 ok6
 have b0:=(hrows a0.block a0.off (by simp [MemPlace.row])).1
 have b2:=(hrows a2.block a2.off (by simp [MemPlace.row])).1
 have b3:=(hrows a3.block a3.off (by simp [MemPlace.row])).1
 have b4:=(hrows a4.block a4.off (by simp [MemPlace.row])).1
 have b5:=(hrows a5.block a5.off (by simp [MemPlace.row])).1
 have b6:=(hrows a6.block a6.off (by simp [MemPlace.row])).1
 refine ⟨a0,a2,a3,a4,a5,a6,?_,hv0,hv2,hv3,hv4,hv5,hv6,b0,b2,b3,b4,b5,b6⟩
 have x02:a0 ≠ a2:=by rintro rfl; simp [MemPlace.row] at hnd
 have x03:a0 ≠ a3:=by rintro rfl; simp [MemPlace.row] at hnd
 have x04:a0 ≠ a4:=by rintro rfl; simp [MemPlace.row] at hnd
 have x05:a0 ≠ a5:=by rintro rfl; simp [MemPlace.row] at hnd
 have x06:a0 ≠ a6:=by rintro rfl; simp [MemPlace.row] at hnd
 have x23:a2 ≠ a3:=by rintro rfl; simp [MemPlace.row] at hnd
 have x24:a2 ≠ a4:=by rintro rfl; simp [MemPlace.row] at hnd
 have x25:a2 ≠ a5:=by rintro rfl; simp [MemPlace.row] at hnd
 have x26:a2 ≠ a6:=by rintro rfl; simp [MemPlace.row] at hnd
 have x34:a3 ≠ a4:=by rintro rfl; simp [MemPlace.row] at hnd
 have x35:a3 ≠ a5:=by rintro rfl; simp [MemPlace.row] at hnd
 have x36:a3 ≠ a6:=by rintro rfl; simp [MemPlace.row] at hnd
 have x45:a4 ≠ a5:=by rintro rfl; simp [MemPlace.row] at hnd
 have x46:a4 ≠ a6:=by rintro rfl; simp [MemPlace.row] at hnd
 have x56:a5 ≠ a6:=by rintro rfl; simp [MemPlace.row] at hnd
 simp [x02,x03,x04,x05,x06,x23,x24,x25,x26,x34,x35,x36,x45,x46,x56]
def pick (a0 a2 a3 a4 a5 a6:Addr) (g:Nat):Addr:=if g=0 then a0 else if g=2 then a2 else if g=3 then a3 else if g=4 then a4 else if g=5 then a5 else a6
end Go.Proofs.YtpnjoniolfmbnaaGreatDoor.fnExactApplied
