/- Proved here: FnExactProofOf answers true for every slice of types, every slice of tuples and every fact and leaves them as they were, with no condition on them. -/
import Derived.Test.YtdaoiceeidoehaaGreatJ40
open Go.Proofs.Tryz
set_option maxHeartbeats 80000000
namespace Go.Proofs.YtdaoiceeidoehaaGreat.fnExactProofOf
open Go.ChangeShapes Go.WideShapes Go.ChangeAt Go.RowKit Go.Joins
open Go.ChangeMaps (open_string shut_string)
open Pl
set_option linter.unusedVariables false
set_option linter.unusedSectionVars false
theorem RI {rs rs':List ER} {p:Ex→Prop} (h:ah rs'=ah rs) (hp:∀ r ∈ rs,p r.e):∀ r ∈ rs',p r.e:=by
 intro r hr;have h1:r.e ∈ ah rs':=Sa.2 ⟨r,hr,rfl⟩;rw [h] at h1;obtain ⟨q,hq,e⟩:=Sa.1 h1;rw [← e];exact hp q hq
theorem RJ {rs rs':List RR} (h:dz rs'=dz rs):∀ r ∈ rs',∃ q ∈ rs,q.name=r.name∧ah r.rows=ah q.rows:=by
 intro r hr;have h1:r.p ∈ dz rs':=Sa.2 ⟨r,hr,rfl⟩;rw [h] at h1;obtain ⟨q,hq,e⟩:=Sa.1 h1;injection e with e1 e2;exact ⟨q,hq,e1,e2.symm⟩
theorem RL {rs rs':List TR} (h:ae rs'=ae rs):∀ r ∈ rs',∃ q ∈ rs,q.name=r.name∧dz r.rows=dz q.rows:=by
 intro r hr;have h1:r.p ∈ ae rs':=Sa.2 ⟨r,hr,rfl⟩;rw [h] at h1;obtain ⟨q,hq,e⟩:=Sa.1 h1;injection e with e1 e2;exact ⟨q,hq,e1,e2.symm⟩
theorem zx {rs rs':List TR} (h:ae rs'=ae rs) (hl:∀ r ∈ rs,r.light):∀ r ∈ rs',r.light:=by
 intro r hr;obtain ⟨q,hq,-,e⟩:=RL h r hr;have h1:=hl q hq;refine ⟨by rw [← gF,e,gF]; exact h1.1,fun x hx=>?_⟩;obtain ⟨y,hy,-,e2⟩:=RJ e x hx;have h2:=h1.2 y hy;exact ⟨by rw [← aJ,e2,aJ]; exact h2.1,RI e2 h2.2⟩
theorem Oy {rs rs':List TR} (h:ae rs'=ae rs) (hl:∀ r ∈ rs,r.fits):∀ r ∈ rs',r.fits:=by
 intro r hr;obtain ⟨q,hq,en,e⟩:=RL h r hr;have h1:=hl q hq;refine ⟨by rw [← en]; exact h1.1,by rw [← gF,e,gF]; exact h1.2.1,fun x hx=>?_⟩;obtain ⟨y,hy,en2,e2⟩:=RJ e x hx;have h2:=h1.2.2 y hy;exact ⟨by rw [← en2]; exact h2.1,by rw [← aJ,e2,aJ]; exact h2.2.1,RI e2 h2.2.2⟩
theorem Oz {rs rs':List TR} (h:ae rs'=ae rs):rs'.length=rs.length:=by rw [← fO,h,fO]
theorem bQ {w W w':World} {B:Nat} (h:Below B w W) (hB:B≤W.heap.size) (hb:Below W.heap.size W w'):Below B w w':=h.trans (hb.mono hB)
theorem nC {w W w':World} {n:Nat} {x0 x1 x2 x3 x4:Value} (h:W.cell? ⟨n,0,none⟩=some x0∧W.cell? ⟨n,1,none⟩=some x1∧W.cell? ⟨n,2,none⟩=some x2∧W.cell? ⟨n,3,none⟩=some x3∧W.cell? ⟨n,4,none⟩=some x4∧n < W.heap.size∧Below w.heap.size w W) (hb:Below W.heap.size W w') :
  w'.cell? ⟨n,0,none⟩=some x0∧w'.cell? ⟨n,1,none⟩=some x1∧w'.cell? ⟨n,2,none⟩=some x2∧w'.cell? ⟨n,3,none⟩=some x3∧w'.cell? ⟨n,4,none⟩=some x4∧n < w'.heap.size∧Below w.heap.size w w':=by
 obtain ⟨h0,h1,h2,h3,h4,hl,hB⟩:=h;have hc:=fun o=>hb.cell (p:=⟨n,o,none⟩) hl;exact ⟨by rw [hc]; exact h0,by rw [hc]; exact h1,by rw [hc]; exact h2,by rw [hc]; exact h3,by rw [hc]; exact h4,RZ hl hb.size,hB.trans (hb.mono hB.size)⟩
theorem Q3 {P:Nat→Prop} (h:∃ n,P n):∃ n,P n∧∀ m,P m→n≤m:=by
 obtain ⟨n,hn⟩:=h
 induction n using Nat.strongRecOn with
 | ind n ih =>
  by_cases hx:∃ m,m < n∧P m
  ·obtain ⟨m,hm,hp⟩:=hx;exact ih m hm hp
  ·exact ⟨n,hn,fun m hm=>Nat.le_of_not_lt fun hlt=>hx ⟨m,hlt,hm⟩⟩
theorem OA {ts:List Ty} (h:∃ f,Sol ts f):∃ f,Least ts f:=by
 have key:∀ k,∃ n:Nat,(∃ g,Sol ts g∧g k=(n:Int))∧∀ m:Nat,(∃ g,Sol ts g∧g k=(m:Int))→n≤m:=fun k=>Q3 (by
  obtain ⟨f,hf⟩:=h;exact ⟨(f k).toNat,f,hf,by have:=hf.pos k; omega⟩)
 have low:∀ k g,Sol ts g→(((key k).choose:Nat):Int)≤g k:=fun k g hg=>by
  have h1:=(key k).choose_spec.2 (g k).toNat ⟨g,hg,by have:=hg.pos k; omega⟩;have:=hg.pos k;omega
 refine ⟨fun k=>(((key k).choose:Nat):Int),⟨fun k=>Int.natCast_nonneg _,fun k hk d hd=>?_⟩,fun k hk g hg=>low k g hg⟩;obtain ⟨g,hg,e⟩:=(key k).choose_spec.1;have h1:=low (d.typ,d.rel) g hg;have h2:=hg.up k hk d hd;show (((key (d.typ,d.rel)).choose:Nat):Int) + stepOf d≤(((key k).choose:Nat):Int);rw [← e];exact Int.le_trans (Int.add_le_add_right h1 _) h2
theorem RN (ts:List Ty):∃ st,bI ts=true→Least ts st:=by
 by_cases h:bI ts=true
 ·obtain ⟨st,hst⟩:=OA (bq.1 h).2.2;exact ⟨st,fun _=>hst⟩
 ·exact ⟨fun _=>0,fun h2=>absurd h2 h⟩
theorem zy (ad:Option Addr) (cap:Nat) (rs:List TR) (w:World) (hlen:rs.length≤1048576) (hs:jd w ad rs) (hl:∀ r ∈ rs,r.light) :
  Calls prog 11 #[.slice ad rs.length cap] w fun e w'=>∃ rs':List TR,e=.returned (.slice (some ⟨w.heap.size,0,none⟩) rs'.length rs'.length)∧ae rs'=ae rs∧jd w' (some ⟨w.heap.size,0,none⟩) rs'∧(∀ r ∈ rs',r.caps)∧(∀ r ∈ rs',r.new w.heap.size)∧Below w.heap.size w w' :=
 (BN ad cap rs w hlen hs hl).mono fun e w' ⟨rs',h1,h2,h3,h4,h5,_,_,_,hb⟩=>⟨rs',h1,h2,h3,h4,h5,hb⟩
theorem IW {B B':Nat} {w:World} {ad:Option Addr} {L:List Fc} (h:l7 B w ad L) (hB:B'≤B):l7 B' w ad L:=⟨h.1,fun hne=>by obtain ⟨g,e,h1,h2⟩:=h.2 hne; exact ⟨g,e,Sb hB h1,h2⟩⟩
theorem vQ [DecidableEq Fc] (st:ByteArray × ByteArray→Int) (ad:Option Addr) (cap:Nat) (rs:List TR) (SQ:Option Addr) (cap':Nat) (ts:List Tp) (f:Fc) (w:World) (hlen:rs.length≤1048576) (hs:jd w ad rs) (hl:∀ r ∈ rs,r.light) (hfr:∀ r ∈ rs,r.fits) (hcp:∀ r ∈ rs,r.caps) (hlt:ts.length≤1048576) (hst:Sl w SQ ts) (hft:∀ x ∈ ts,x.fits) (hle:bI (ae rs)=true→Least (ae rs) st) :
  Calls prog 22 #[.slice ad rs.length cap,.slice SQ ts.length cap',.agg #[.string f.a,.string f.b,.string f.r,.string f.c,.string f.d]] w fun e w'=>∃ WG cap5,e=.returned (.tuple #[.slice WG (nQ st rs ts f).length cap5,.bool (sF st rs ts f)])∧l7 w.heap.size w' WG (nQ st rs ts f)∧Below w.heap.size w w' :=
 (wH st ad cap rs SQ cap' ts f w hlen hs hl hfr hcp hlt hst hft hle).mono fun e w' ⟨⟨v,he,ho⟩,hb⟩=>by
  obtain ⟨WG,cap5,e2,h2⟩:=Oc ho;subst e2;exact ⟨WG,cap5,he,h2,hb⟩
set_option maxRecDepth 100000 in
theorem walk [DecidableEq Fc] (ad:Option Addr) (cap:Nat) (rs:List TR) (SQ:Option Addr) (cap':Nat) (ts:List Tp) (f0:Fc) (v:World) (hmr:rs.length≤maxLen) (hs:jd v ad rs) (hf:∀ r ∈ rs,r.fits) (hm:ts.length≤maxLen) (hst:Sl v SQ ts) (hft:∀ x ∈ ts,x.fits) (ht0:f0.fits) :
  Calls prog 5 #[.slice ad rs.length cap,.slice SQ ts.length cap',.agg #[.string f0.a,.string f0.b,.string f0.r,.string f0.c,.string f0.d]] v fun e w'=>e=.returned (.bool true)∧Below v.heap.size v w':=by
 obtain ⟨w,hW0⟩:∃ w,w=v.alloc (.cells #[.string f0.a,.string f0.b,.string f0.r,.string f0.c,.string f0.d] 28):=⟨_,rfl⟩;have hvw:Below v.heap.size v w:=by rw [hW0]; exact (R3 _ _).alloc (R4 _) _
 have h7:w.cell? ⟨v.heap.size,0,none⟩=some (.string f0.a)∧w.cell? ⟨v.heap.size,1,none⟩=some (.string f0.b)∧w.cell? ⟨v.heap.size,2,none⟩=some (.string f0.r)∧w.cell? ⟨v.heap.size,3,none⟩=some (.string f0.c)∧w.cell? ⟨v.heap.size,4,none⟩=some (.string f0.d)∧v.heap.size < w.heap.size∧Below w.heap.size w w:=by
  refine ⟨?_,?_,?_,?_,?_,?_,R3 _ _⟩ <;> (rw [hW0]; simp)
 have HX:Hid (∀ W,Below w.heap.size w W→W.cell? ⟨v.heap.size,0,none⟩=some (.string f0.a)∧W.cell? ⟨v.heap.size,1,none⟩=some (.string f0.b)∧W.cell? ⟨v.heap.size,2,none⟩=some (.string f0.r)∧W.cell? ⟨v.heap.size,3,none⟩=some (.string f0.c)∧W.cell? ⟨v.heap.size,4,none⟩=some (.string f0.d)∧v.heap.size < W.heap.size∧Below w.heap.size w W):=fun W h=>nC h7 h;have FIN:Hid (∀ x,Below w.heap.size w x→Below v.heap.size v x):=fun x h=>bQ hvw hvw.size h;replace hs:=hs.below hvw;replace hst:=hst.below hvw;obtain ⟨st,hst0⟩:=RN (ae rs);have TG:=pX hst0;clear hst0;clear h7 hvw;have HS:=pX hs;have HF:=pX hf;have HST:=pX hst;have Tj:=pX hft;have HT0:=pX ht0;clear hs hf hst hft ht0;go_enter func5,ntmps5;go_wp2_with fail;rw [← hW0];clear hW0;refine (Lg ad cap rs 1048576 _ hmr HS.out HF.out (by omega) (by omega)).mono ?_;rintro e w1 ⟨⟨n,rfl,hn⟩,hb1⟩;have HB1:=pX hb1;clear hb1;rcases hn with rfl | ⟨hn0,hn1,hn2,Vi⟩
 ·go_wp2;go_ret;exact ⟨rfl,FIN.out _ HB1.out⟩
 have HL:=pX Vi;have hlen:rs.length≤1048576:=by omega
 have HWT:Hid (1 + wT rs≤20000000):=by have:=Qg rs; show _≤_; omega
 clear Vi hn2;go_wp2_with fail;refine (Ci SQ cap' ts n _ hm (HST.out.below HB1.out) Tj.out (by omega) (by omega)).mono ?_;rintro e w2 ⟨⟨m,rfl,hq⟩,hb2⟩;have HB2:Hid (Below w.heap.size w w2):=bQ HB1.out HB1.out.size hb2;clear hb2 HB1;rcases hq with rfl | ⟨hq0,hq1,hq2⟩
 ·go_wp2;go_ret;exact ⟨rfl,FIN.out _ HB2.out⟩
 have hlt:ts.length≤1048576:=by omega
 obtain ⟨x0,x1,x2,x3,x4,xl,-⟩:=HX.out _ HB2.out;go_wp2_with fail;refine (IV f0.a f0.b f0.r f0.c f0.d m _ HT0.out.1 HT0.out.2.1 HT0.out.2.2.1 HT0.out.2.2.2.1 HT0.out.2.2.2.2 hq0 (by omega)).mono ?_;rintro e w2b ⟨rfl,hb2b⟩;have HB2b:Hid (Below w.heap.size w w2b):=bQ HB2.out HB2.out.size hb2b;clear hb2b HB2 x0 x1 x2 x3 x4 xl;obtain ⟨z,hz⟩:∃ z,z=pq f0.a f0.b f0.r f0.c f0.d m:=⟨_,rfl⟩;rw [← hz];have hz1:z≤1048576∧-1≤z:=by
  have h1:=Ou f0.a f0.b f0.r f0.c f0.d m;have h2:-1≤pq f0.a f0.b f0.r f0.c f0.d m:=by
   unfold pq;split
   ·omega
   split
   ·omega
   split <;> omega
  rw [← hz] at h1 h2;omega
 clear hz;by_cases hsn:z < 0
 ·go_wp2;go_ret;exact ⟨rfl,FIN.out _ HB2b.out⟩
 have HB2:=HB2b;clear HB2b;clear hq2 hq1 hn1;obtain ⟨L,hL⟩:∃ L,nQ st rs ts f0=L:=⟨_,rfl⟩;obtain ⟨q0,hQ⟩:∃ q0,sF st rs ts f0=q0:=⟨_,rfl⟩;have Vj:=pX hL;have HQQ:=pX hQ;have hl2:L.length≤1048576:=by rw [← hL]; exact Sb Oa (by decide)
 have hll:L.length≤maxLen:=by unfold maxLen; omega
 clear hL hQ;have H0:w2b.drew.cell? ⟨v.heap.size,0,none⟩=some (.string f0.a)∧w2b.drew.cell? ⟨v.heap.size,1,none⟩=some (.string f0.b)∧w2b.drew.cell? ⟨v.heap.size,2,none⟩=some (.string f0.r)∧w2b.drew.cell? ⟨v.heap.size,3,none⟩=some (.string f0.c)∧w2b.drew.cell? ⟨v.heap.size,4,none⟩=some (.string f0.d)∧v.heap.size < w2b.drew.heap.size∧Below w.heap.size w w2b.drew:=HX.out _ HB2.out.drew;go_wp2_with fail
 go_region_held3 (fun w'=>w'.cell? ⟨v.heap.size,0,none⟩=some (.string f0.a)∧w'.cell? ⟨v.heap.size,1,none⟩=some (.string f0.b)∧w'.cell? ⟨v.heap.size,2,none⟩=some (.string f0.r)∧w'.cell? ⟨v.heap.size,3,none⟩=some (.string f0.c)∧w'.cell? ⟨v.heap.size,4,none⟩=some (.string f0.d)∧v.heap.size < w'.heap.size∧Below w.heap.size w w')
  (first | assumption | exact nC (by assumption) hb3 | exact nC (by assumption) F4.below | exact nC (by assumption) hb4b | exact nC (by assumption) hb5 | exact H0)
  (first | (go_at_call 11; refine (zy ad cap rs _ hlen (HS.out.below HB2.out.drew) HL.out).mono ?_; rintro e w3 ⟨rs1,rfl,he1,hs1,hc1,hnw1,hb3⟩) | (go_at_call 12; refine (j3 SQ cap' ts _ hlt (HST.out.below (bQ HB2.out.drew HB2.out.drew.size hb3))).mono ?_; rintro e w4 ⟨rfl,F4⟩) | (go_at_call 14; refine (qO f0.a f0.b f0.r f0.c f0.d _).mono ?_; rintro e w4b ⟨rfl,hb4b⟩) | (go_at_call 21; refine (FN st _ _ rs1 _ _ ts f0 _ (by rw [Oz he1]; exact hlen) ((hs1.below F4.below).below hb4b) (zx he1 HL.out) (Oy he1 HF.out) hlt (F4.later hb4b).sl Tj.out (fun h=>by rw [he1] at h ⊢; exact TG.out h)).mono ?_; rintro e w5 ⟨WG,cap5,he5,hs5,hb5⟩; rw [(j4 he1 ts f0).1,(j4 he1 ts f0).2,Vj.out,HQQ.out] at he5; rw [(j4 he1 ts f0).2,Vj.out] at hs5; subst he5))
 rename_i hH;obtain ⟨-,-,-,-,-,-,gB⟩:=hH;have TK:=pX gB;have HL5:=pX hs5;clear H0 gB hb3 F4 hb4b hb5 hs5 he1 hs1 hc1 hnw1 HB2;have s5:w.heap.size≤w5.heap.size:=TK.out.size;have Xu:=aC TK;have ZC:Hid (Below w5.heap.size w5 w5):=R3 _ _;go_wp2_with fail;refine (BN ad cap rs _ hlen (HS.out.below Xu.out) HL.out).mono ?_;rintro e w6 ⟨rs2,rfl,he2,hs2,hc2,hnw2,ho2,hf2,hlx2,hb6⟩;have HE2:=pX he2;have HS2:=pX hs2;have Tn:=pX hc2;have Ta:=pX ho2;have UC:=pX hf2;have HL2:=pX hlx2;have Xl:Hid (∀ g,IK w5.heap.size rs2 g→w5.heap.size≤g∧g < w6.heap.size):=by
  rintro g (rfl | ⟨q,hq,h2⟩)
  ·exact ⟨R4 _,HL2.out⟩
  ·have:=Ta.out.2 q hq g h2; omega
 have Xv:Hid (Below w.heap.size w w6):=bQ Xu.out Xu.out.size hb6;have ZE:Hid (Below w5.heap.size w5 w6):=bQ ZC.out ZC.out.size hb6;clear Xu;clear hb6 he2 hs2 hc2 ho2 hf2 hlx2 hnw2;have ZF:Hid (Below w6.heap.size w6 w6):=R3 _ _;go_wp2_with fail;refine (j3 SQ cap' ts _ hlt (HST.out.below Xv.out)).mono ?_;rintro e w7 ⟨rfl,F7⟩;have HF7:=pX F7;have Xw:Hid (Below w.heap.size w w7):=bQ Xv.out Xv.out.size F7.below;have ZG:Hid (Below w5.heap.size w5 w7):=bQ ZE.out ZE.out.size F7.below;have WX:Hid (Below w6.heap.size w6 w7):=bQ ZF.out ZF.out.size F7.below;clear Xv;clear F7;have ZH:Hid (Below w7.heap.size w7 w7):=R3 _ _;obtain ⟨x0,x1,x2,x3,x4,xl,-⟩:=HX.out _ Xw.out;go_wp2_with fail;refine (qO f0.a f0.b f0.r f0.c f0.d _).mono ?_;rintro e w7b ⟨rfl,X0⟩;clear x0 x1 x2 x3 x4 xl;go_wp2_with fail;refine (vQ st _ _ rs2 _ _ ts f0 _ (by rw [Oz HE2.out]; exact hlen) ((HS2.out.below WX.out).below X0) (zx HE2.out HL.out) (Oy HE2.out HF.out) Tn.out hlt (HF7.out.later X0).sl Tj.out (fun h=>by rw [HE2.out] at h ⊢; exact TG.out h)).mono ?_;rintro e w8 ⟨Z9,ZI,he8,hO8',hb8'⟩;have hb8:Below w7.heap.size w7 w8:=bQ X0 X0.size hb8';have hO8:=IW hO8' X0.size;clear hO8' hb8' X0;rw [(j4 HE2.out ts f0).1,(j4 HE2.out ts f0).2,Vj.out,HQQ.out] at he8;rw [(j4 HE2.out ts f0).2,Vj.out] at hO8;subst he8;have Z6:=pX hO8;have ZJ:Hid (Below w.heap.size w w8):=bQ Xw.out Xw.out.size hb8;have WY:Hid (Below w5.heap.size w5 w8):=bQ ZG.out ZG.out.size hb8;have ZK:Hid (Below w6.heap.size w6 w8):=bQ WX.out WX.out.size hb8;have ZL:Hid (Below w7.heap.size w7 w8):=bQ ZH.out ZH.out.size hb8;clear Xw;clear hb8 hO8;have ZM:Hid (Below w8.heap.size w8 w8):=R3 _ _;go_wp2_with fail;refine (pg Z9 WG ZI cap5 L _ hll Z6.out.1 (HL5.out.below WY.out)).mono ?_;rintro e w9 ⟨rfl,WW⟩;have Xx:Hid (Below w.heap.size w w9):=bQ ZJ.out ZJ.out.size WW;have WZ:Hid (Below w5.heap.size w5 w9):=bQ WY.out WY.out.size WW;have W9:Hid (Below w6.heap.size w6 w9):=bQ ZK.out ZK.out.size WW;have Xa:Hid (Below w7.heap.size w7 w9):=bQ ZL.out ZL.out.size WW;have Xb:Hid (Below w8.heap.size w8 w9):=bQ ZM.out ZM.out.size WW;clear ZJ;clear WW;go_wp2_with fail;refine (zy ad cap rs _ hlen (HS.out.below Xx.out) HL.out).mono ?_;rintro e w10 ⟨rs3,rfl,he3,hs3,-,-,Ve⟩;have Xc:Hid (Below w.heap.size w w10):=bQ Xx.out Xx.out.size Ve;have VM:Hid (Below w5.heap.size w5 w10):=bQ WZ.out WZ.out.size Ve;have U1:Hid (Below w6.heap.size w6 w10):=bQ W9.out W9.out.size Ve;have VN:Hid (Below w7.heap.size w7 w10):=bQ Xa.out Xa.out.size Ve;have VO:Hid (Below w8.heap.size w8 w10):=bQ Xb.out Xb.out.size Ve;clear Xx WZ W9 Xa Xb;have HE3:=pX he3;have V7:=pX hs3;clear Ve he3 hs3;go_wp2_with fail;refine (Dz _ _ _ _ rs2 rs3 _ (by rw [Oz HE2.out]; exact hlen) (by rw [HE3.out,HE2.out]) (HS2.out.below U1.out) V7.out (zx HE2.out HL.out)).mono ?_;rintro e w11 ⟨rfl,X7⟩;have VP:Hid (Below w.heap.size w w11):=bQ Xc.out Xc.out.size X7;have VQ:Hid (Below w5.heap.size w5 w11):=bQ VM.out VM.out.size X7;have VR:Hid (Below w6.heap.size w6 w11):=bQ U1.out U1.out.size X7;have VS:Hid (Below w7.heap.size w7 w11):=bQ VN.out VN.out.size X7;have VT:Hid (Below w8.heap.size w8 w11):=bQ VO.out VO.out.size X7;clear Xc VM U1 VN VO;clear X7 V7;go_wp2_with fail;refine (j3 SQ cap' ts _ hlt (HST.out.below VP.out)).mono ?_;rintro e w12 ⟨rfl,F12⟩;have HG12:=pX F12.sl;have Xd:Hid (Below w.heap.size w w12):=bQ VP.out VP.out.size F12.below;have VU:Hid (Below w5.heap.size w5 w12):=bQ VQ.out VQ.out.size F12.below;have VV:Hid (Below w6.heap.size w6 w12):=bQ VR.out VR.out.size F12.below;have U2:Hid (Below w7.heap.size w7 w12):=bQ VS.out VS.out.size F12.below;have VW:Hid (Below w8.heap.size w8 w12):=bQ VT.out VT.out.size F12.below;clear VP VQ VR VS VT;clear F12;go_wp2_with fail;refine (DC _ _ _ _ ts _ hm (HF7.out.later U2.out).sl HG12.out).mono ?_;rintro e w13 ⟨rfl,X8⟩;have ZN:Hid (Below w.heap.size w w13):=bQ Xd.out Xd.out.size X8;have Cw5_w13:Hid (Below w5.heap.size w5 w13):=bQ VU.out VU.out.size X8;have VX:Hid (Below w6.heap.size w6 w13):=bQ VV.out VV.out.size X8;have Xy:Hid (Below w7.heap.size w7 w13):=bQ U2.out U2.out.size X8;have Cw8_w13:Hid (Below w8.heap.size w8 w13):=bQ VW.out VW.out.size X8;clear Xd VU VV U2 VW;clear X8 HG12;have HW2T:Hid (1 + wT rs2≤1000000000):=by show _≤_; rw [IQ HE2.out]; have:=HWT.out; omega
 obtain ⟨M0,hM0⟩:∃ M0:Nat,M0=1 + wT rs2:=⟨_,rfl⟩;have HM0:=pX hM0;have Vv:Hid (0 < M0∧M0 + 6 * ts.length≤1000000000):=by show _∧_; rw [hM0,IQ HE2.out]; have:=HWT.out; omega
 have h56:w5.heap.size < w6.heap.size:=HL2.out;have h67:w6.heap.size < w7.heap.size:=HF7.out.lt;have h613:w6.heap.size≤w13.heap.size:=VX.out.size;have h713:w7.heap.size≤w13.heap.size:=Xy.out.size;have hc6:Chg (fun _=>False) w6 w13:=Chg.of VX.out;have HX13:=pX (HF7.out.later Xy.out);have HO13:=pX (Z6.out.later Cw8_w13.out);have HL13:=pX (HL5.out.below Cw5_w13.out);have HSC:=pX (HS2.out.below VX.out);have HOC:=pX (Ta.out.chg hc6);have HFC:=pX (hc6.free _ HL2.out UC.out);clear hM0 hc6;go_wp2_with fail;refine (PW w5.heap.size _ rs2 _ HSC.out (by omega) HOC.out HFC.out (zx HE2.out HL.out) (by rw [Oz HE2.out]; exact hlen) HW2T.out).mono ?_;rintro e w14 ⟨he,Xe⟩;rw [← HM0.out] at he;subst he;have HB14:Hid (Below w.heap.size w w14):=ZN.out.trans (Xe.below (fun g hg=>Sb s5 (Xl.out g hg).1) ZN.out.size);have HL14:Hid (gX w14 WG L):=HL13.out.chg Xe (fun g o hne e hg=>by
  have:=(Xl.out g hg).1;have:=zu HL5.out hne e;omega)
 have HO14:Hid (l7 w7.heap.size w14 Z9 L):=HO13.out.chg Xe (fun g hge hg=>by
  have:=(Xl.out g hg).2;omega)
 have HX14:Hid (Sl w14 (some ⟨w6.heap.size,0,none⟩) ts):=HX13.out.sl.chg Xe (fun g o hne e hg=>by
  have:=(Xl.out g hg).2;injection e with e; injection e with e1 e2;omega)
 have HFX14:Hid (dL w14 w6.heap.size):=Xe.free _ HX13.out.lt HX13.out.free;have h14:w13.heap.size≤w14.heap.size:=Xe.size;clear Xe HSC HOC HFC HX13 HO13 HL13;go_wp2_with fail;refine (zt _ _ ts M0 _ HX14.out (fun _=>⟨_,rfl,HFX14.out⟩) Vv.out.1 Vv.out.2).mono ?_;rintro e w15 ⟨rfl,-,hc15⟩;have HB15:Hid (Below w.heap.size w w15):=HB14.out.trans (hc15.below (fun g hg=>by obtain ⟨-,e⟩:=hg; injection e with e; injection e with e; omega) HB14.out.size);have HL15:Hid (gX w15 WG L):=HL14.out.chg hc15 (fun g o hne e hg=>by
  obtain ⟨-,e2⟩:=hg;injection e2 with e2; injection e2 with e2 e3;have:=zu HL5.out hne e;omega)
 have HO15:Hid (l7 w7.heap.size w15 Z9 L):=HO14.out.chg hc15 (fun g hge hg=>by
  obtain ⟨-,e2⟩:=hg;injection e2 with e2; injection e2 with e2 e3;omega)
 obtain ⟨M2,hM2⟩:∃ M2:Nat,M2=M0 + 6 * ts.length:=⟨_,rfl⟩;rw [← hM2];have hk1:¬ ((M2:Nat):Int) < 0:=by omega
 clear hc15 hM2 HB14 HL14 HO14 HX14 HFX14;go_wp2_with fail;refine (pg Z9 WG ZI cap5 L _ hll HO15.out.1 HL15.out).mono ?_;rintro e w16 ⟨rfl,hb16⟩;have HB16:=gY HB15 hb16;have HL16:=aC (HL15.out.below hb16);have HO16:Hid (l7 w7.heap.size w16 Z9 L):=HO15.out.later hb16;clear hb16 HB15 HL15 HO15;go_wp2_with fail;refine (Aa Z9 ZI L 1 _ HO16.out.1 (fun h=>by obtain ⟨g,e,-,hfr⟩:=HO16.out.2 h; exact ⟨g,e,hfr⟩) (by omega) (by omega)).mono ?_;rintro e w17 ⟨rfl,hs17,hc17⟩;have HM17:=pX hs17;have Yo:∀ g,(L ≠ []∧Z9=some ⟨g,0,none⟩)→w7.heap.size≤g:=fun g hg=>by
  obtain ⟨g',e,h1,-⟩:=HO16.out.2 hg.1;have e2:=hg.2;rw [e] at e2; injection e2 with e2; injection e2 with e2 e3; omega
 have HB17:Hid (Below w.heap.size w w17):=HB16.out.trans (hc17.below (fun g hg=>by have:=Yo g hg; omega) HB16.out.size);have HL17:Hid (gX w17 WG L):=HL16.out.chg hc17 (fun g o hne e hg=>by
  have:=Yo g hg;have:=zu HL5.out hne e;omega)
 clear hs17 hc17 Yo HB16 HL16 HO16;go_wp2_with fail;refine (qx Z9 ZI L 1 _ HM17.out (by omega) (by omega)).mono ?_;rintro e w18 ⟨rfl,hb18⟩;have ZO:=gY HB17 hb18;have HL18:=aC (HL17.out.below hb18);have HM18:=aC (HM17.out.below hb18);have hk2:¬ ((1 + 5 * L.length:Nat):Int) < 0:=by omega
 clear hb18 HB17 HL17 HM17;have H0:w18.drew.cell? ⟨v.heap.size,0,none⟩=some (.string f0.a)∧w18.drew.cell? ⟨v.heap.size,1,none⟩=some (.string f0.b)∧w18.drew.cell? ⟨v.heap.size,2,none⟩=some (.string f0.r)∧w18.drew.cell? ⟨v.heap.size,3,none⟩=some (.string f0.c)∧w18.drew.cell? ⟨v.heap.size,4,none⟩=some (.string f0.d)∧v.heap.size < w18.drew.heap.size∧Below w.heap.size w w18.drew:=HX.out _ ZO.out.drew;go_wp2_with fail
 go_region_held3 (fun w'=>w'.cell? ⟨v.heap.size,0,none⟩=some (.string f0.a)∧w'.cell? ⟨v.heap.size,1,none⟩=some (.string f0.b)∧w'.cell? ⟨v.heap.size,2,none⟩=some (.string f0.r)∧w'.cell? ⟨v.heap.size,3,none⟩=some (.string f0.c)∧w'.cell? ⟨v.heap.size,4,none⟩=some (.string f0.d)∧v.heap.size < w'.heap.size∧Below w.heap.size w w')
  (first | assumption | exact nC (by assumption) ZP | exact nC (by assumption) F20.below | exact nC (by assumption) VA | exact nC (by assumption) hb21 | exact H0)
  (first | (go_at_call 11; refine (zy ad cap rs _ hlen (HS.out.below ZO.out.drew) HL.out).mono ?_; rintro e w19 ⟨rs4,rfl,he4,hs4,hc4,hnw4,ZP⟩) | (go_at_call 12; refine (j3 SQ cap' ts _ hlt (HST.out.below (bQ ZO.out.drew ZO.out.drew.size ZP))).mono ?_; rintro e w20 ⟨rfl,F20⟩) | (go_at_call 14; refine (qO f0.a f0.b f0.r f0.c f0.d _).mono ?_; rintro e w20b ⟨rfl,VA⟩) | (go_at_call 22; refine (vQ st _ _ rs4 _ _ ts f0 _ (by rw [Oz he4]; exact hlen) ((hs4.below F20.below).below VA) (zx he4 HL.out) (Oy he4 HF.out) hc4 hlt (F20.later VA).sl Tj.out (fun h=>by rw [he4] at h ⊢; exact TG.out h)).mono ?_; rintro e w21 ⟨ad21,cap21,he21,hO21,hb21⟩; rw [(j4 he4 ts f0).1,(j4 he4 ts f0).2,Vj.out,HQQ.out] at he21; rw [(j4 he4 ts f0).2,Vj.out] at hO21; subst he21))
 rename_i hH;obtain ⟨-,-,-,-,-,-,gB⟩:=hH;have HB21:=pX gB;have hd18:Below w18.heap.size w18 w18.drew:=(R3 _ _).drew;have HL21:Hid (gX w21 WG L):=((((HL18.out.below hd18).below ZP).below F20.below).below VA).below hb21;have HM21:Hid (gX w21 Z9 (OC 1 L)):=((((HM18.out.below hd18).below ZP).below F20.below).below VA).below hb21;have HO21:=pX hO21.1;clear H0 gB hd18 ZP F20 VA hb21 hO21 he4 hs4 hc4 hnw4 ZO HL18 HM18;go_wp2_with fail;refine (pg ad21 WG cap21 cap5 L _ hll HO21.out HL21.out).mono ?_;rintro e w22 ⟨rfl,hb22⟩;have HB22:=gY HB21 hb22;have HM22:=aC (HM21.out.below hb22);clear hb22 HB21 HL21 HM21 HO21;go_wp2_with fail;refine (qx Z9 ZI L 1 _ HM22.out (by omega) (by omega)).mono ?_;rintro e w23 ⟨rfl,Vb⟩;have HB23:=gY HB22 Vb;clear Vb HB22 HM22;go_wp2;go_ret;exact ⟨rfl,FIN.out _ HB23.out⟩
theorem own:ownKnob prog.godebug=none:=by kernel_rfl
theorem laidOut:laidOutB prog=true:=by kernel_rfl
set_option maxRecDepth 100000 in
theorem lifted (os:Os) (started:os.Started) (H:Type) (enc:TypeId × Value→H) :
  ReturnsInHanded {} Tryz.checked os 5 .any (Rows.fnExactProofOfSpec.pre6 enc prog Tryz.f5 Rows.fnExactProofOfRow.domain false) (Rows.fnExactProofOfSpec.post enc prog Tryz.f5 false true false false):=by
 refine returnsInHanded_of_change (C:=Tryz.checked) own started (by kernel_rfl) func5
  (ChangeSpec.witness6 (enc:=enc) (C:=Tryz.checked) false ⟨#[],#[.slice none 0 0,.slice none 0 0,.agg #[.string ByteArray.empty,.string ByteArray.empty,.string ByteArray.empty,.string ByteArray.empty,.string ByteArray.empty]],[]⟩ 8 (by kernel_rfl) (by kernel_rfl) (by kernel_rfl) (by kernel_rfl)) ?_
 intro W base args ds gs before hval0 hW hcnd _;have hval:∀ (j:Nat) t v,Tryz.f5.params[j]?=some t→args[j]?=some v→Value.okWide prog W .any base t v:=hval0;have hW':=hW;obtain ⟨p,q,hA0,hV,rfl,hfz,hnd⟩:=hW;have hA:DataW.TrodAll enc prog W 0 (fun _=>true) true Tryz.f5.params.toList args.toList ds p:=hA0;rw [Tryz.params5] at hA hval;obtain ⟨v0,vs0,d0,ds0,p0,q0,hargs,rfl,rfl,h0,r0⟩:=trodAll_cons hA;obtain ⟨v1,vs1,d1,ds1,p1,q1,rfl,rfl,rfl,h1,r1⟩:=trodAll_cons r0;obtain ⟨v2,vs2,d2,ds2,p2,q2,rfl,rfl,rfl,h2,r2⟩:=trodAll_cons r1;obtain ⟨rfl,rfl,rfl⟩:=trodAll_nil r2;obtain rfl:args=#[v0,v1,v2]:=by cases args; simp_all
 obtain ⟨rfl,rfl⟩:=trodVars_none hV;have k0:=h0;have lt0:∀ x ∈ p0,x.block < W.heap.size:=by obtain ⟨m,hm⟩:=k0; exact DataW.trod_lt m _ _ _ hm
 obtain ⟨ad0,len0,cap0,hv0⟩:=okWide_slice underlying22 (hval 0 22 v0 rfl rfl);subst hv0;obtain ⟨fuel0,hf0⟩:=h0;obtain ⟨rs0,hl0,hsl0,hft0,hm0⟩:=IU (by simpa [Value.cells] using hf0);subst hl0;have k1:=h1;have lt1:∀ x ∈ p1,x.block < W.heap.size:=by obtain ⟨m,hm⟩:=k1; exact DataW.trod_lt m _ _ _ hm
 obtain ⟨ad1,len1,VB,hv1⟩:=okWide_slice underlying23 (hval 1 23 v1 rfl rfl);subst hv1;obtain ⟨fuel1,hf1⟩:=h1;obtain ⟨ts1,hl1,hsl1,hft1,hm1⟩:=Lp (by simpa [Value.cells] using hf1);subst hl1;have k2:=h2;have lt2:∀ x ∈ p2,x.block < W.heap.size:=by obtain ⟨m,hm⟩:=k2; exact DataW.trod_lt m _ _ _ hm
 obtain ⟨xa2,xb2,xr2,xc2,xd2,hv2,wa2,wb2,wr2,wc2,wd2⟩:=Ox (hval 2 28 v2 rfl rfl) h2;subst hv2;clear hA0 hval0
 haveI:DecidableEq Fc:=fun x y=>Classical.propDecidable (x=y)
 refine (walk ad0 cap0 rs0 ad1 VB ts1 ⟨xa2,xb2,xr2,xc2,xd2⟩ W hm0 hsl0 hft0 hm1 hsl1 hft1 ⟨wa2,wb2,wr2,wc2,wd2⟩).mono fun e W' ⟨he,bel⟩=>?_;subst he;exact ⟨_,rfl,_,_,_,[],_,[],hW',trodAll_mk1 (shut_bool underlying4 _),(trodAll_cons_mk (Below.trod laidOut (by kernel_rfl) (of_decide_eq_true (by kernel_rfl)) k0 bel lt0) (trodAll_cons_mk (Below.trod laidOut (by kernel_rfl) (of_decide_eq_true (by kernel_rfl)) k1 bel lt1) (trodAll_cons_mk (Below.trod laidOut (by kernel_rfl) (of_decide_eq_true (by kernel_rfl)) k2 bel lt2) trodAll_mk0))),rfl,bel.frame _,fun h=>by cases h⟩
theorem over:Rows.fnExactProofOfRow.holds Tryz.pinned (OpenSpec.ofChange Rows.fnExactProofOfSpec) :=
 OpenClaim.holds_of_wide 5 Tryz.f5 rfl rfl rfl rfl rfl rfl rfl ⟨rfl,rfl,rfl,rfl,rfl⟩ rfl rfl rfl rfl rfl (by kernel_rfl) func5 (by kernel_rfl)
  (of_decide_eq_true (by kernel_rfl)) (by unfold Func.isWrapper; first | (rw [if_pos (by decide +kernel)]; kernel_rfl) | (rw [if_neg (by decide +kernel)]; exact ⟨rfl,rfl⟩))
  (fun os started H enc _=>lifted os started H enc)
end Go.Proofs.YtdaoiceeidoehaaGreat.fnExactProofOf
namespace Go.Proofs.YtdaoiceeidoehaaGreat
theorem FnExactProofOf_holds:Rows.FnExactProofOfSaid:=fnExactProofOf.over
end Go.Proofs.YtdaoiceeidoehaaGreat
