/- Proved here: FnExactFacts answers true for every slice of types and every slice of tuples and leaves them as they were, with no condition on them. -/
import Derived.Test.YtogjfppkbkgaeaaGreatJ32
import Derived.Test.YtogjfppkbkgaeaaGreatJ34
import Derived.Test.YtogjfppkbkgaeaaGreatJ35
import Derived.Test.YtogjfppkbkgaeaaGreatJ11
import Derived.Test.YtogjfppkbkgaeaaGreatJ7
import Derived.Test.YtogjfppkbkgaeaaGreatToOwn
namespace Go.Proofs.YtogjfppkbkgaeaaGreat.fnExactFacts
open Go.ChangeShapes Go.WideShapes Go.ChangeAt Go.RowKit Go.Joins
open Go.ChangeMaps (open_string shut_string)
open Pl
set_option linter.unusedVariables false
set_option linter.unusedSectionVars false
theorem Na {rs rs':List ER} {p:Ex→Prop} (h:ag rs'=ag rs) (hp:∀ r ∈ rs,p r.e):∀ r ∈ rs',p r.e:=by
 intro r hr;have h1:r.e ∈ ag rs':=List.mem_map.2 ⟨r,hr,rfl⟩;rw [h] at h1;obtain ⟨q,hq,e⟩:=List.mem_map.1 h1;rw [← e];exact hp q hq
theorem Nb {rs rs':List RR} (h:bP rs'=bP rs):∀ r ∈ rs',∃ q ∈ rs,q.name=r.name∧ag r.rows=ag q.rows:=by
 intro r hr;have h1:r.p ∈ bP rs':=List.mem_map.2 ⟨r,hr,rfl⟩;rw [h] at h1;obtain ⟨q,hq,e⟩:=List.mem_map.1 h1;injection e with e1 e2;exact ⟨q,hq,e1,e2.symm⟩
theorem Nc {rs rs':List TR} (h:af rs'=af rs):∀ r ∈ rs',∃ q ∈ rs,q.name=r.name∧bP r.rows=bP q.rows:=by
 intro r hr;have h1:r.p ∈ af rs':=List.mem_map.2 ⟨r,hr,rfl⟩;rw [h] at h1;obtain ⟨q,hq,e⟩:=List.mem_map.1 h1;injection e with e1 e2;exact ⟨q,hq,e1,e2.symm⟩
theorem xy {rs rs':List TR} (h:af rs'=af rs) (hl:∀ r ∈ rs,r.light):∀ r ∈ rs',r.light:=by
 intro r hr;obtain ⟨q,hq,-,e⟩:=Nc h r hr;have h1:=hl q hq;refine ⟨by rw [← fD,e,fD]; exact h1.1,fun x hx=>?_⟩;obtain ⟨y,hy,-,e2⟩:=Nb e x hx;have h2:=h1.2 y hy;exact ⟨by rw [← aO,e2,aO]; exact h2.1,Na e2 h2.2⟩
theorem Kj {rs rs':List TR} (h:af rs'=af rs) (hl:∀ r ∈ rs,r.fits):∀ r ∈ rs',r.fits:=by
 intro r hr;obtain ⟨q,hq,en,e⟩:=Nc h r hr;have h1:=hl q hq;refine ⟨by rw [← en]; exact h1.1,by rw [← fD,e,fD]; exact h1.2.1,fun x hx=>?_⟩;obtain ⟨y,hy,en2,e2⟩:=Nb e x hx;have h2:=h1.2.2 y hy;exact ⟨by rw [← en2]; exact h2.1,by rw [← aO,e2,aO]; exact h2.2.1,Na e2 h2.2.2⟩
theorem Kk {rs rs':List TR} (h:af rs'=af rs):rs'.length=rs.length:=by rw [← eZ,h,eZ]
theorem aW {w W w':World} {B:Nat} (h:Below B w W) (hB:B≤W.heap.size) (hb:Below W.heap.size W w'):Below B w w':=h.trans (hb.mono hB)
theorem MH {P:Nat→Prop} (h:∃ n,P n):∃ n,P n∧∀ m,P m→n≤m:=by
 obtain ⟨n,hn⟩:=h
 induction n using Nat.strongRecOn with
 | ind n ih =>
  by_cases hx:∃ m,m < n∧P m
  ·obtain ⟨m,hm,hp⟩:=hx;exact ih m hm hp
  ·exact ⟨n,hn,fun m hm=>Nat.le_of_not_lt fun hlt=>hx ⟨m,hlt,hm⟩⟩
theorem Kl {ts:List Ty} (h:∃ f,Sol ts f):∃ f,Least ts f:=by
 have key:∀ k,∃ n:Nat,(∃ g,Sol ts g∧g k=(n:Int))∧∀ m:Nat,(∃ g,Sol ts g∧g k=(m:Int))→n≤m:=fun k=>MH (by
  obtain ⟨f,hf⟩:=h;exact ⟨(f k).toNat,f,hf,by have:=hf.pos k; omega⟩)
 have low:∀ k g,Sol ts g→(((key k).choose:Nat):Int)≤g k:=fun k g hg=>by
  have h1:=(key k).choose_spec.2 (g k).toNat ⟨g,hg,by have:=hg.pos k; omega⟩;have:=hg.pos k;omega
 refine ⟨fun k=>(((key k).choose:Nat):Int),⟨fun k=>Int.natCast_nonneg _,fun k hk d hd=>?_⟩,fun k hk g hg=>low k g hg⟩;obtain ⟨g,hg,e⟩:=(key k).choose_spec.1;have h1:=low (d.typ,d.rel) g hg;have h2:=hg.up k hk d hd;show (((key (d.typ,d.rel)).choose:Nat):Int) + stepOf d≤(((key k).choose:Nat):Int);rw [← e];exact Int.le_trans (Int.add_le_add_right h1 _) h2
theorem Nf (ts:List Ty):∃ st,dh ts=true→Least ts st:=by
 by_cases h:dh ts=true
 ·obtain ⟨st,hst⟩:=Kl (bR.1 h).2.2;exact ⟨st,fun _=>hst⟩
 ·exact ⟨fun _=>0,fun h2=>absurd h2 h⟩
theorem xz (ad:Option Addr) (cap:Nat) (rs:List TR) (w:World) (hlen:rs.length≤1048576) (hs:fo w ad rs) (hl:∀ r ∈ rs,r.light) :
  Calls Tryz.prog 10 #[.slice ad rs.length cap] w fun e w'=>∃ rs':List TR,e=.returned (.slice (some ⟨w.heap.size,0,none⟩) rs'.length rs'.length)∧af rs'=af rs∧fo w' (some ⟨w.heap.size,0,none⟩) rs'∧(∀ r ∈ rs',r.caps)∧(∀ r ∈ rs',r.new w.heap.size)∧Below w.heap.size w w' :=
 (zx ad cap rs w hlen hs hl).mono fun e w' ⟨rs',h1,h2,h3,h4,h5,_,_,_,hb⟩=>⟨rs',h1,h2,h3,h4,h5,hb⟩
set_option maxRecDepth 100000 in
set_option maxHeartbeats 8000000 in
theorem walk [DecidableEq Fc] (ad:Option Addr) (cap:Nat) (rs:List TR) (ad':Option Addr) (cap':Nat) (ts:List Tp) (w:World) (hmr:rs.length≤maxLen) (hs:fo w ad rs) (hf:∀ r ∈ rs,r.fits) (hm:ts.length≤maxLen) (hst:Sl w ad' ts) (hft:∀ x ∈ ts,x.fits) :
  Calls Tryz.prog 3 #[.slice ad rs.length cap,.slice ad' ts.length cap'] w fun e w'=>e=.returned (.bool true)∧Below w.heap.size w w':=by
 obtain ⟨st,hst0⟩:=Nf (af rs);have HLE:=lX hst0;clear hst0;have HS:=lX hs;have HF:=lX hf;have HST:=lX hst;have HFT:=lX hft;clear hs hf hst hft;go_enter Tryz.func3,Tryz.ntmps3;go_wp2_with fail;refine (Ib ad cap rs 1048576 _ hmr HS.out HF.out (by omega) (by omega)).mono ?_;rintro e w1 ⟨⟨n,rfl,hn⟩,hb1⟩;have HB1:=lX hb1;clear hb1;rcases hn with rfl | ⟨hn0,hn1,hn2,hn3⟩
 ·go_wp2;go_ret;exact ⟨rfl,HB1.out⟩
 have HL:=lX hn3;have hlen:rs.length≤1048576:=by omega
 have HWT:Hid (1 + wT rs≤20000000):=by have:=LU rs; show _≤_; omega
 clear hn3 hn2;go_wp2_with fail;refine (zP ad' cap' ts n _ hm (HST.out.below HB1.out) HFT.out (by omega) (by omega)).mono ?_;rintro e w2 ⟨⟨m,rfl,hq⟩,hb2⟩;have HB2:Hid (Below w.heap.size w w2):=aW HB1.out HB1.out.size hb2;clear hb2 HB1;rcases hq with rfl | ⟨hq0,hq1,hq2⟩
 ·go_wp2;go_ret;exact ⟨rfl,HB2.out⟩
 have hlt:ts.length≤1048576:=by omega
 clear hq2 hq1 hn1;obtain ⟨L,hL⟩:∃ L,gu st rs ts=L:=⟨_,rfl⟩;have HLL:=lX hL;have hl2:L.length≤1048576:=by rw [← hL,E5]; exact Nat.le_trans (xm st) (by decide)
 have hll:L.length≤maxLen:=by unfold maxLen; omega
 clear hL;go_wp2_with fail;refine (xz ad cap rs _ hlen (HS.out.below HB2.out) HL.out).mono ?_;rintro e w3 ⟨rs1,rfl,he1,hs1,hc1,hnw1,hb3⟩;have HE1:=lX he1;have HS1:=lX hs1;have HB3:Hid (Below w.heap.size w w3):=aW HB2.out HB2.out.size hb3;clear he1 hs1 hc1 hnw1 hb3 HB2;go_wp2_with fail;refine (jf ad' cap' ts _ hlt (HST.out.below HB3.out)).mono ?_;rintro e w4 ⟨rfl,F4⟩;have HF4:=lX F4;have HB4:Hid (Below w.heap.size w w4):=aW HB3.out HB3.out.size F4.below;clear F4 HB3;go_wp2_with fail;refine (xR st _ _ rs1 _ _ ts _ (by rw [Kk HE1.out]; exact hlen) (HS1.out.below HF4.out.below) (xy HE1.out HL.out) (Kj HE1.out HF.out) hlt HF4.out.sl HFT.out (fun h=>by rw [HE1.out] at h ⊢; exact HLE.out h)).mono ?_;rintro e w5 ⟨⟨v5,he5,ho5⟩,hb5⟩;rw [pg HE1.out,HLL.out] at ho5;obtain ⟨ad5,cap5,hv5,hs5⟩:=mq ho5;rw [hv5] at he5;subst he5;clear ho5 hv5;have HB5:Hid (Below w.heap.size w w5):=aW HB4.out HB4.out.size hb5;have HL5:=lX hs5;clear hb5 hs5 HB4 HF4 HS1 HE1;have s5:w.heap.size≤w5.heap.size:=HB5.out.size;have Cw_w5:Hid (Below w.heap.size w w5):=HB5;have Cw5_w5:Hid (Below w5.heap.size w5 w5):=Below.refl _ _;go_wp2_with fail;refine (zx ad cap rs _ hlen (HS.out.below Cw_w5.out) HL.out).mono ?_;rintro e w6 ⟨rs2,rfl,he2,hs2,hc2,hnw2,ho2,hf2,hlx2,hb6⟩;have HE2:=lX he2;have HS2:=lX hs2;have HC2:=lX hc2;have HO2:=lX ho2;have HF2:=lX hf2;have HL2:=lX hlx2;have HSZ:Hid (∀ g,Dc w5.heap.size rs2 g→w5.heap.size≤g∧g < w6.heap.size):=by
  rintro g (rfl | ⟨q,hq,h2⟩)
  ·exact ⟨Nat.le_refl _,HL2.out⟩
  ·have:=HO2.out.2 q hq g h2; omega
 have Cw_w6:Hid (Below w.heap.size w w6):=aW Cw_w5.out Cw_w5.out.size hb6;have Cw5_w6:Hid (Below w5.heap.size w5 w6):=aW Cw5_w5.out Cw5_w5.out.size hb6;clear Cw_w5;clear hb6 he2 hs2 hc2 ho2 hf2 hlx2 hnw2;have Cw6_w6:Hid (Below w6.heap.size w6 w6):=Below.refl _ _;go_wp2_with fail;refine (jf ad' cap' ts _ hlt (HST.out.below Cw_w6.out)).mono ?_;rintro e w7 ⟨rfl,F7⟩;have HF7:=lX F7;have Cw_w7:Hid (Below w.heap.size w w7):=aW Cw_w6.out Cw_w6.out.size F7.below;have Cw5_w7:Hid (Below w5.heap.size w5 w7):=aW Cw5_w6.out Cw5_w6.out.size F7.below;have Cw6_w7:Hid (Below w6.heap.size w6 w7):=aW Cw6_w6.out Cw6_w6.out.size F7.below;clear Cw_w6;clear F7;have Cw7_w7:Hid (Below w7.heap.size w7 w7):=Below.refl _ _;go_wp2_with fail;refine (oo st _ _ rs2 _ _ ts _ (by rw [Kk HE2.out]; exact hlen) (HS2.out.below Cw6_w7.out) (xy HE2.out HL.out) (Kj HE2.out HF.out) HC2.out hlt HF7.out.sl HFT.out (fun h=>by rw [HE2.out] at h ⊢; exact HLE.out h)).mono ?_;intro e w8 hp8;obtain ⟨⟨v8,he8,ho8⟩,hb8⟩:=oq hp8;rw [pg HE2.out,HLL.out] at ho8;obtain ⟨ad8,cap8,hv8,hO8⟩:=CZ ho8;rw [hv8] at he8;subst he8;clear ho8 hv8 hp8;have HO8:=lX hO8;have Cw_w8:Hid (Below w.heap.size w w8):=aW Cw_w7.out Cw_w7.out.size hb8;have Cw5_w8:Hid (Below w5.heap.size w5 w8):=aW Cw5_w7.out Cw5_w7.out.size hb8;have Cw6_w8:Hid (Below w6.heap.size w6 w8):=aW Cw6_w7.out Cw6_w7.out.size hb8;have Cw7_w8:Hid (Below w7.heap.size w7 w8):=aW Cw7_w7.out Cw7_w7.out.size hb8;clear Cw_w7;clear hb8 hO8;have Cw8_w8:Hid (Below w8.heap.size w8 w8):=Below.refl _ _;go_wp2_with fail;refine (mX ad8 ad5 cap8 cap5 L _ hll HO8.out.1 (HL5.out.below Cw5_w8.out)).mono ?_;rintro e w9 ⟨rfl,hb9⟩;have Cw_w9:Hid (Below w.heap.size w w9):=aW Cw_w8.out Cw_w8.out.size hb9;have Cw5_w9:Hid (Below w5.heap.size w5 w9):=aW Cw5_w8.out Cw5_w8.out.size hb9;have Cw6_w9:Hid (Below w6.heap.size w6 w9):=aW Cw6_w8.out Cw6_w8.out.size hb9;have Cw7_w9:Hid (Below w7.heap.size w7 w9):=aW Cw7_w8.out Cw7_w8.out.size hb9;have Cw8_w9:Hid (Below w8.heap.size w8 w9):=aW Cw8_w8.out Cw8_w8.out.size hb9;clear Cw_w8;clear hb9;go_wp2_with fail;refine (xz ad cap rs _ hlen (HS.out.below Cw_w9.out) HL.out).mono ?_;rintro e w10 ⟨rs3,rfl,he3,hs3,-,-,hb10⟩;have Cw_w10:Hid (Below w.heap.size w w10):=aW Cw_w9.out Cw_w9.out.size hb10;have Cw5_w10:Hid (Below w5.heap.size w5 w10):=aW Cw5_w9.out Cw5_w9.out.size hb10;have Cw6_w10:Hid (Below w6.heap.size w6 w10):=aW Cw6_w9.out Cw6_w9.out.size hb10;have Cw7_w10:Hid (Below w7.heap.size w7 w10):=aW Cw7_w9.out Cw7_w9.out.size hb10;have Cw8_w10:Hid (Below w8.heap.size w8 w10):=aW Cw8_w9.out Cw8_w9.out.size hb10;clear Cw_w9 Cw5_w9 Cw6_w9 Cw7_w9 Cw8_w9;have HE3:=lX he3;have HS3:=lX hs3;clear hb10 he3 hs3;go_wp2_with fail;refine (Bb _ _ _ _ rs2 rs3 _ (by rw [Kk HE2.out]; exact hlen) (by rw [HE3.out,HE2.out]) (HS2.out.below Cw6_w10.out) HS3.out (xy HE2.out HL.out)).mono ?_;rintro e w11 ⟨rfl,hb11⟩;have Cw_w11:Hid (Below w.heap.size w w11):=aW Cw_w10.out Cw_w10.out.size hb11;have Cw5_w11:Hid (Below w5.heap.size w5 w11):=aW Cw5_w10.out Cw5_w10.out.size hb11;have Cw6_w11:Hid (Below w6.heap.size w6 w11):=aW Cw6_w10.out Cw6_w10.out.size hb11;have Cw7_w11:Hid (Below w7.heap.size w7 w11):=aW Cw7_w10.out Cw7_w10.out.size hb11;have Cw8_w11:Hid (Below w8.heap.size w8 w11):=aW Cw8_w10.out Cw8_w10.out.size hb11;clear Cw_w10 Cw5_w10 Cw6_w10 Cw7_w10 Cw8_w10;clear hb11 HS3;go_wp2_with fail;refine (jf ad' cap' ts _ hlt (HST.out.below Cw_w11.out)).mono ?_;rintro e w12 ⟨rfl,F12⟩;have HG12:=lX F12.sl;have Cw_w12:Hid (Below w.heap.size w w12):=aW Cw_w11.out Cw_w11.out.size F12.below;have Cw5_w12:Hid (Below w5.heap.size w5 w12):=aW Cw5_w11.out Cw5_w11.out.size F12.below;have Cw6_w12:Hid (Below w6.heap.size w6 w12):=aW Cw6_w11.out Cw6_w11.out.size F12.below;have Cw7_w12:Hid (Below w7.heap.size w7 w12):=aW Cw7_w11.out Cw7_w11.out.size F12.below;have Cw8_w12:Hid (Below w8.heap.size w8 w12):=aW Cw8_w11.out Cw8_w11.out.size F12.below;clear Cw_w11 Cw5_w11 Cw6_w11 Cw7_w11 Cw8_w11;clear F12;go_wp2_with fail;refine (Bc _ _ _ _ ts _ hm (HF7.out.later Cw7_w12.out).sl HG12.out).mono ?_;rintro e w13 ⟨rfl,hb13⟩;have Cw_w13:Hid (Below w.heap.size w w13):=aW Cw_w12.out Cw_w12.out.size hb13;have Cw5_w13:Hid (Below w5.heap.size w5 w13):=aW Cw5_w12.out Cw5_w12.out.size hb13;have Cw6_w13:Hid (Below w6.heap.size w6 w13):=aW Cw6_w12.out Cw6_w12.out.size hb13;have Cw7_w13:Hid (Below w7.heap.size w7 w13):=aW Cw7_w12.out Cw7_w12.out.size hb13;have Cw8_w13:Hid (Below w8.heap.size w8 w13):=aW Cw8_w12.out Cw8_w12.out.size hb13;clear Cw_w12 Cw5_w12 Cw6_w12 Cw7_w12 Cw8_w12;clear hb13 HG12;have HW2T:Hid (1 + wT rs2≤1000000000):=by show _≤_; rw [Fe HE2.out]; have:=HWT.out; omega
 obtain ⟨M0,hM0⟩:∃ M0:Nat,M0=1 + wT rs2:=⟨_,rfl⟩;have HM0:=lX hM0;have HM1:Hid (0 < M0∧M0 + 6 * ts.length≤1000000000):=by show _∧_; rw [hM0,Fe HE2.out]; have:=HWT.out; omega
 have h56:w5.heap.size < w6.heap.size:=HL2.out;have h67:w6.heap.size < w7.heap.size:=HF7.out.lt;have h613:w6.heap.size≤w13.heap.size:=Cw6_w13.out.size;have h713:w7.heap.size≤w13.heap.size:=Cw7_w13.out.size;have hc6:Chg (fun _=>False) w6 w13:=Chg.of Cw6_w13.out;have HX13:=lX (HF7.out.later Cw7_w13.out);have HO13:=lX (HO8.out.later Cw8_w13.out);have HL13:=lX (HL5.out.below Cw5_w13.out);have HSC:=lX (HS2.out.below Cw6_w13.out);have HOC:=lX (HO2.out.chg hc6);have HFC:=lX (hc6.free _ HL2.out HF2.out);clear hM0 hc6;go_wp2_with fail;refine (Lv w5.heap.size _ rs2 _ HSC.out (by omega) HOC.out HFC.out (xy HE2.out HL.out) (by rw [Kk HE2.out]; exact hlen) HW2T.out).mono ?_;rintro e w14 ⟨he,hc14⟩;rw [← HM0.out] at he;subst he;have HB14:Hid (Below w.heap.size w w14):=Cw_w13.out.trans (hc14.below (fun g hg=>Nat.le_trans s5 (HSZ.out g hg).1) Cw_w13.out.size);have HL14:Hid (jF w14 ad5 L):=HL13.out.chg hc14 (fun g o hne e hg=>by
  have:=(HSZ.out g hg).1;have:=xw HL5.out hne e;omega)
 have HO14:Hid (oz w7.heap.size w14 ad8 L):=HO13.out.chg hc14 (fun g hge hg=>by
  have:=(HSZ.out g hg).2;omega)
 have HX14:Hid (Sl w14 (some ⟨w6.heap.size,0,none⟩) ts):=HX13.out.sl.chg hc14 (fun g o hne e hg=>by
  have:=(HSZ.out g hg).2;injection e with e; injection e with e1 e2;omega)
 have HFX14:Hid (cz w14 w6.heap.size):=hc14.free _ HX13.out.lt HX13.out.free;have h14:w13.heap.size≤w14.heap.size:=hc14.size;clear hc14 HSC HOC HFC HX13 HO13 HL13;go_wp2_with fail;refine (xq _ _ ts M0 _ HX14.out (fun _=>⟨_,rfl,HFX14.out⟩) HM1.out.1 HM1.out.2).mono ?_;rintro e w15 ⟨rfl,-,hc15⟩;have HB15:Hid (Below w.heap.size w w15):=HB14.out.trans (hc15.below (fun g hg=>by obtain ⟨-,e⟩:=hg; injection e with e; injection e with e; omega) HB14.out.size);have HL15:Hid (jF w15 ad5 L):=HL14.out.chg hc15 (fun g o hne e hg=>by
  obtain ⟨-,e2⟩:=hg;injection e2 with e2; injection e2 with e2 e3;have:=xw HL5.out hne e;omega)
 have HO15:Hid (oz w7.heap.size w15 ad8 L):=HO14.out.chg hc15 (fun g hge hg=>by
  obtain ⟨-,e2⟩:=hg;injection e2 with e2; injection e2 with e2 e3;omega)
 obtain ⟨M2,hM2⟩:∃ M2:Nat,M2=M0 + 6 * ts.length:=⟨_,rfl⟩;rw [← hM2];have hk1:¬ ((M2:Nat):Int) < 0:=by omega
 clear hc15 hM2 HB14 HL14 HO14 HX14 HFX14;go_wp2_with fail;refine (mX ad8 ad5 cap8 cap5 L _ hll HO15.out.1 HL15.out).mono ?_;rintro e w16 ⟨rfl,hb16⟩;have HB16:Hid (Below w.heap.size w w16):=HB15.out.trans (hb16.mono HB15.out.size);have HL16:Hid (jF w16 ad5 L):=HL15.out.below hb16;have HO16:Hid (oz w7.heap.size w16 ad8 L):=HO15.out.later hb16;clear hb16 HB15 HL15 HO15;go_wp2_with fail;refine (xS ad8 cap8 L 1 _ HO16.out.1 (fun h=>by obtain ⟨g,e,-,hfr⟩:=HO16.out.2 h; exact ⟨g,e,hfr⟩) (by omega) (by omega)).mono ?_;rintro e w17 ⟨rfl,hs17,hc17⟩;have HM17:=lX hs17;have hfar:∀ g,(L ≠ []∧ad8=some ⟨g,0,none⟩)→w7.heap.size≤g:=fun g hg=>by
  obtain ⟨g',e,h1,-⟩:=HO16.out.2 hg.1;have e2:=hg.2;rw [e] at e2; injection e2 with e2; injection e2 with e2 e3; omega
 have HB17:Hid (Below w.heap.size w w17):=HB16.out.trans (hc17.below (fun g hg=>by have:=hfar g hg; omega) HB16.out.size);have HL17:Hid (jF w17 ad5 L):=HL16.out.chg hc17 (fun g o hne e hg=>by
  have:=hfar g hg;have:=xw HL5.out hne e;omega)
 clear hs17 hc17 hfar HB16 HL16 HO16;go_wp2_with fail;refine (ow ad8 cap8 L 1 _ HM17.out (by omega) (by omega)).mono ?_;rintro e w18 ⟨rfl,hb18⟩;have HB18:Hid (Below w.heap.size w w18):=HB17.out.trans (hb18.mono HB17.out.size);have HL18:Hid (jF w18 ad5 L):=HL17.out.below hb18;have HM18:Hid (jF w18 ad8 (E8 1 L)):=HM17.out.below hb18;have hk2:¬ ((1 + 5 * L.length:Nat):Int) < 0:=by omega
 clear hb18 HB17 HL17 HM17;go_wp2_with fail;refine (xz ad cap rs _ hlen (HS.out.below HB18.out) HL.out).mono ?_;rintro e w19 ⟨rs4,rfl,he4,hs4,hc4,hnw4,hb19⟩;have HE4:=lX he4;have HS4:=lX hs4;have HC4:=lX hc4;have HB19:Hid (Below w.heap.size w w19):=aW HB18.out HB18.out.size hb19;have HL19:Hid (jF w19 ad5 L):=HL18.out.below hb19;have HM19:Hid (jF w19 ad8 (E8 1 L)):=HM18.out.below hb19;clear he4 hs4 hc4 hnw4 hb19 HB18 HL18 HM18;go_wp2_with fail;refine (jf ad' cap' ts _ hlt (HST.out.below HB19.out)).mono ?_;rintro e w20 ⟨rfl,F20⟩;have HF20:=lX F20;have HB20:Hid (Below w.heap.size w w20):=aW HB19.out HB19.out.size F20.below;have HL20:Hid (jF w20 ad5 L):=HL19.out.below F20.below;have HM20:Hid (jF w20 ad8 (E8 1 L)):=HM19.out.below F20.below;clear F20 HB19 HL19 HM19;go_wp2_with fail;refine (oo st _ _ rs4 _ _ ts _ (by rw [Kk HE4.out]; exact hlen) (HS4.out.below HF20.out.below) (xy HE4.out HL.out) (Kj HE4.out HF.out) HC4.out hlt HF20.out.sl HFT.out (fun h=>by rw [HE4.out] at h ⊢; exact HLE.out h)).mono ?_;intro e w21 hp21;obtain ⟨⟨v21,he21,ho21⟩,hb21⟩:=oq hp21;rw [pg HE4.out,HLL.out] at ho21;obtain ⟨ad21,cap21,hv21,hO21⟩:=CZ ho21;rw [hv21] at he21;subst he21;clear ho21 hv21 hp21;have HB21:Hid (Below w.heap.size w w21):=aW HB20.out HB20.out.size hb21;have HL21:Hid (jF w21 ad5 L):=HL20.out.below hb21;have HM21:Hid (jF w21 ad8 (E8 1 L)):=HM20.out.below hb21;have HO21:=lX hO21.1;clear hb21 hO21 HB20 HL20 HM20 HF20 HS4 HE4 HC4;go_wp2_with fail;refine (mX ad21 ad5 cap21 cap5 L _ hll HO21.out HL21.out).mono ?_;rintro e w22 ⟨rfl,hb22⟩;have HB22:Hid (Below w.heap.size w w22):=HB21.out.trans (hb22.mono HB21.out.size);have HM22:Hid (jF w22 ad8 (E8 1 L)):=HM21.out.below hb22;clear hb22 HB21 HL21 HM21 HO21;go_wp2_with fail;refine (ow ad8 cap8 L 1 _ HM22.out (by omega) (by omega)).mono ?_;rintro e w23 ⟨rfl,hb23⟩;have HB23:Hid (Below w.heap.size w w23):=HB22.out.trans (hb23.mono HB22.out.size);clear hb23 HB22 HM22;go_wp2;go_ret;exact ⟨rfl,HB23.out⟩
theorem own:ownKnob Tryz.prog.godebug=none:=by kernel_rfl
theorem laidOut:laidOutB Tryz.prog=true:=by kernel_rfl
set_option maxRecDepth 100000 in
theorem lifted (os:Os) (started:os.Started) (H:Type) (enc:TypeId × Value→H) :
  ReturnsInHanded {} Tryz.checked os 3 .any (Rows.fnExactFactsSpec.pre6 enc Tryz.prog Tryz.f3 Rows.fnExactFactsRow.domain false) (Rows.fnExactFactsSpec.post enc Tryz.prog Tryz.f3 false true false false):=by
 refine returnsInHanded_of_change (C:=Tryz.checked) own started (by kernel_rfl) Tryz.func3
  (ChangeSpec.witness6 (enc:=enc) (C:=Tryz.checked) false ⟨#[],#[.slice none 0 0,.slice none 0 0],[]⟩ 8 (by kernel_rfl) (by kernel_rfl) (by kernel_rfl) (by kernel_rfl)) ?_
 intro W base args ds gs before hval0 hW hcnd _;have hval:∀ (j:Nat) t v,Tryz.f3.params[j]?=some t→args[j]?=some v→Value.okWide Tryz.prog W .any base t v:=hval0;have hW':=hW;obtain ⟨p,q,hA0,hV,rfl,hfz,hnd⟩:=hW;have hA:DataW.TrodAll enc Tryz.prog W 0 (fun _=>true) true Tryz.f3.params.toList args.toList ds p:=hA0;rw [Tryz.params3] at hA hval;obtain ⟨v0,vs0,d0,ds0,p0,q0,hargs,rfl,rfl,h0,r0⟩:=trodAll_cons hA;obtain ⟨v1,vs1,d1,ds1,p1,q1,rfl,rfl,rfl,h1,r1⟩:=trodAll_cons r0;obtain ⟨rfl,rfl,rfl⟩:=trodAll_nil r1;obtain rfl:args=#[v0,v1]:=by cases args; simp_all
 obtain ⟨rfl,rfl⟩:=trodVars_none hV;have k0:=h0;have lt0:∀ x ∈ p0,x.block < W.heap.size:=by obtain ⟨m,hm⟩:=k0; exact DataW.trod_lt m _ _ _ hm
 obtain ⟨ad0,len0,cap0,hv0⟩:=okWide_slice Tryz.underlying22 (hval 0 22 v0 rfl rfl);subst hv0;obtain ⟨fuel0,hf0⟩:=h0;obtain ⟨rs0,hl0,hsl0,hft0,hm0⟩:=Fg (by simpa [Value.cells] using hf0);subst hl0;have k1:=h1;have lt1:∀ x ∈ p1,x.block < W.heap.size:=by obtain ⟨m,hm⟩:=k1; exact DataW.trod_lt m _ _ _ hm
 obtain ⟨ad1,len1,cap1,hv1⟩:=okWide_slice Tryz.underlying23 (hval 1 23 v1 rfl rfl);subst hv1;obtain ⟨fuel1,hf1⟩:=h1;obtain ⟨ts1,hl1,hsl1,hft1,hm1⟩:=Ij (by simpa [Value.cells] using hf1);subst hl1;clear hA0 hval0
 haveI:DecidableEq Fc:=fun x y=>Classical.propDecidable (x=y)
 refine (walk ad0 cap0 rs0 ad1 cap1 ts1 W hm0 hsl0 hft0 hm1 hsl1 hft1).mono fun e W' ⟨he,bel⟩=>?_;subst he;exact ⟨_,rfl,_,_,_,[],_,[],hW',trodAll_mk1 (shut_bool Tryz.underlying4 _),(trodAll_cons_mk (Below.trod laidOut (by kernel_rfl) (of_decide_eq_true (by kernel_rfl)) k0 bel lt0) (trodAll_cons_mk (Below.trod laidOut (by kernel_rfl) (of_decide_eq_true (by kernel_rfl)) k1 bel lt1) trodAll_mk0)),rfl,bel.frame _,fun h=>by cases h⟩
theorem over:Rows.fnExactFactsRow.holds Tryz.pinned (OpenSpec.ofChange Rows.fnExactFactsSpec) :=
 OpenClaim.holds_of_wide 3 Tryz.f3 rfl rfl rfl rfl rfl rfl rfl ⟨rfl,rfl,rfl,rfl,rfl⟩ rfl rfl rfl rfl rfl (by kernel_rfl) Tryz.func3 (by kernel_rfl)
  (of_decide_eq_true (by kernel_rfl)) (by unfold Func.isWrapper; first | (rw [if_pos (by decide +kernel)]; kernel_rfl) | (rw [if_neg (by decide +kernel)]; exact ⟨rfl,rfl⟩))
  (fun os started H enc _=>lifted os started H enc)
end Go.Proofs.YtogjfppkbkgaeaaGreat.fnExactFacts
namespace Go.Proofs.YtogjfppkbkgaeaaGreat
theorem FnExactFacts_holds:Rows.FnExactFactsSaid:=fnExactFacts.over
end Go.Proofs.YtogjfppkbkgaeaaGreat
