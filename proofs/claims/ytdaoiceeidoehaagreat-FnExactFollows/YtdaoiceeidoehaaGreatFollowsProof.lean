/- Proved here: FnExactFollows answers true for every slice of types, every slice of tuples, every slice of facts and every fact and leaves them as they were, with no condition on them. -/
import Derived.Test.YtdaoiceeidoehaaGreatJ31
import Derived.Test.YtdaoiceeidoehaaGreatJ35
open Go.Proofs.Tryz
set_option maxHeartbeats 80000000
namespace Go.Proofs.YtdaoiceeidoehaaGreat.fnExactFollows
open Go.ChangeShapes Go.WideShapes Go.ChangeAt Go.RowKit Go.Joins
open Go.ChangeMaps (open_string shut_string)
open Pl
set_option linter.unusedVariables false
set_option linter.unusedSectionVars false
theorem Mk {rs rs':List ER} {p:Ex→Prop} (h:ag rs'=ag rs) (hp:∀ r ∈ rs,p r.e):∀ r ∈ rs',p r.e:=by
 intro r hr;have h1:r.e ∈ ag rs':=List.mem_map.2 ⟨r,hr,rfl⟩;rw [h] at h1;obtain ⟨q,hq,e⟩:=List.mem_map.1 h1;rw [← e];exact hp q hq
theorem Ml {rs rs':List RR} (h:cO rs'=cO rs):∀ r ∈ rs',∃ q ∈ rs,q.name=r.name∧ag r.rows=ag q.rows:=by
 intro r hr;have h1:r.p ∈ cO rs':=List.mem_map.2 ⟨r,hr,rfl⟩;rw [h] at h1;obtain ⟨q,hq,e⟩:=List.mem_map.1 h1;injection e with e1 e2;exact ⟨q,hq,e1,e2.symm⟩
theorem Mm {rs rs':List TR} (h:ae rs'=ae rs):∀ r ∈ rs',∃ q ∈ rs,q.name=r.name∧cO r.rows=cO q.rows:=by
 intro r hr;have h1:r.p ∈ ae rs':=List.mem_map.2 ⟨r,hr,rfl⟩;rw [h] at h1;obtain ⟨q,hq,e⟩:=List.mem_map.1 h1;injection e with e1 e2;exact ⟨q,hq,e1,e2.symm⟩
theorem Et {rs rs':List TR} (h:ae rs'=ae rs) (hl:∀ r ∈ rs,r.light):∀ r ∈ rs',r.light:=by
 intro r hr;obtain ⟨q,hq,-,e⟩:=Mm h r hr;have h1:=hl q hq;refine ⟨by rw [← fG,e,fG]; exact h1.1,fun x hx=>?_⟩;obtain ⟨y,hy,-,e2⟩:=Ml e x hx;have h2:=h1.2 y hy;exact ⟨by rw [← aI,e2,aI]; exact h2.1,Mk e2 h2.2⟩
theorem KT {rs rs':List TR} (h:ae rs'=ae rs) (hl:∀ r ∈ rs,r.fits):∀ r ∈ rs',r.fits:=by
 intro r hr;obtain ⟨q,hq,en,e⟩:=Mm h r hr;have h1:=hl q hq;refine ⟨by rw [← en]; exact h1.1,by rw [← fG,e,fG]; exact h1.2.1,fun x hx=>?_⟩;obtain ⟨y,hy,en2,e2⟩:=Ml e x hx;have h2:=h1.2.2 y hy;exact ⟨by rw [← en2]; exact h2.1,by rw [← aI,e2,aI]; exact h2.2.1,Mk e2 h2.2.2⟩
theorem LD {rs rs':List TR} (h:ae rs'=ae rs):rs'.length=rs.length:=by rw [← eY,h,eY]
theorem cz {w W w':World} {B:Nat} (h:Below B w W) (hB:B≤W.heap.size) (hb:Below W.heap.size W w'):Below B w w':=h.trans (hb.mono hB)
theorem LF {P:Nat→Prop} (h:∃ n,P n):∃ n,P n∧∀ m,P m→n≤m:=by
 obtain ⟨n,hn⟩:=h
 induction n using Nat.strongRecOn with
 | ind n ih =>
  by_cases hx:∃ m,m < n∧P m
  ·obtain ⟨m,hm,hp⟩:=hx;exact ih m hm hp
  ·exact ⟨n,hn,fun m hm=>Nat.le_of_not_lt fun hlt=>hx ⟨m,hlt,hm⟩⟩
theorem JG {ts:List Ty} (h:∃ f,Sol ts f):∃ f,Least ts f:=by
 have key:∀ k,∃ n:Nat,(∃ g,Sol ts g∧g k=(n:Int))∧∀ m:Nat,(∃ g,Sol ts g∧g k=(m:Int))→n≤m:=fun k=>LF (by
  obtain ⟨f,hf⟩:=h;exact ⟨(f k).toNat,f,hf,by have:=hf.pos k; omega⟩)
 have low:∀ k g,Sol ts g→(((key k).choose:Nat):Int)≤g k:=fun k g hg=>by
  have h1:=(key k).choose_spec.2 (g k).toNat ⟨g,hg,by have:=hg.pos k; omega⟩;have:=hg.pos k;omega
 refine ⟨fun k=>(((key k).choose:Nat):Int),⟨fun k=>Int.natCast_nonneg _,fun k hk d hd=>?_⟩,fun k hk g hg=>low k g hg⟩;obtain ⟨g,hg,e⟩:=(key k).choose_spec.1;have h1:=low (d.typ,d.rel) g hg;have h2:=hg.up k hk d hd;show (((key (d.typ,d.rel)).choose:Nat):Int) + stepOf d≤(((key k).choose:Nat):Int);rw [← e];exact Int.le_trans (Int.add_le_add_right h1 _) h2
theorem Mo (ts:List Ty):∃ st,bW ts=true→Least ts st:=by
 by_cases h:bW ts=true
 ·obtain ⟨st,hst⟩:=JG (bv.1 h).2.2;exact ⟨st,fun _=>hst⟩
 ·exact ⟨fun _=>0,fun h2=>absurd h2 h⟩
theorem Cv [DecidableEq Fc] {st:ByteArray × ByteArray→Int} {rs rs':List TR} {ts:List Tp} {known:List Fc} {f:Fc} (h:ae rs'=ae rs):jy st rs' ts known f=jy st rs ts known f:=by
 have e:gy rs'=gy rs:=by funext t; unfold gy; rw [h]
 unfold jy sN dY aV kN;rw [e,h]
set_option maxRecDepth 100000 in
theorem walk [DecidableEq Fc] (ad:Option Addr) (cap:Nat) (rs:List TR) (ad':Option Addr) (cap':Nat) (ts:List Tp) (ad2:Option Addr) (cap2:Nat) (ks:List Fc) (a b r c d:ByteArray) (w:World) (hmr:rs.length≤maxLen) (hs:fe w ad rs) (hf:∀ r ∈ rs,r.fits) (hm:ts.length≤maxLen) (hst:Sl w ad' ts) (hft:∀ x ∈ ts,x.fits) (hm2:ks.length≤maxLen) (hsk:kC w ad2 ks) (hfk:∀ x ∈ ks,x.fits) (ha:a.size≤maxLen) (hb:b.size≤maxLen) (hr:r.size≤maxLen) (hc:c.size≤maxLen) (hd:d.size≤maxLen) :
    Calls prog 3 #[.slice ad rs.length cap,.slice ad' ts.length cap',.slice ad2 ks.length cap2,.agg #[.string a,.string b,.string r,.string c,.string d]] w fun e w'=>e=.returned (.bool true)∧Below w.heap.size w w':=by
  obtain ⟨st,hst0⟩:=Mo (ae rs);have HLE:=kZ hst0;have HS:=kZ hs;have HF:=kZ hf;have HST:=kZ hst;have HFT:=kZ hft;have HSK:=kZ hsk;have HFK:=kZ hfk;have hff:Fc.fits ⟨a,b,r,c,d⟩:=⟨ha,hb,hr,hc,hd⟩;have HFF:=kZ hff;clear hsk hfk hff;clear hs hf hst hft hst0;obtain ⟨W0,hW0⟩:∃ W0,W0=w.alloc (.cells #[.string a,.string b,.string r,.string c,.string d] 28):=⟨_,rfl⟩;have HB0:=nA hW0;have hx0:W0.heap[w.heap.size]?=some (.cells #[.string a,.string b,.string r,.string c,.string d] 28 (0,0)):=by rw [hW0]; exact World.alloc_heap_new w _
  have HK0:=kZ (show W0.cell? ⟨w.heap.size,0,none⟩=some (.string a)∧W0.cell? ⟨w.heap.size,1,none⟩=some (.string b)∧W0.cell? ⟨w.heap.size,2,none⟩=some (.string r)∧W0.cell? ⟨w.heap.size,3,none⟩=some (.string c)∧W0.cell? ⟨w.heap.size,4,none⟩=some (.string d)∧Below w.heap.size w W0 from ⟨by simp [World.cell?,hx0],by simp [World.cell?,hx0],by simp [World.cell?,hx0],by simp [World.cell?,hx0],by simp [World.cell?,hx0],HB0.out⟩);clear hx0;go_enter func3,ntmps3;go_wp2_with fail;rw [← hW0];clear hW0;refine (GL ad cap rs 1048576 _ hmr (HS.out.below HB0.out) HF.out (by omega) (by omega)).mono ?_;rintro e w1 ⟨⟨n,rfl,hn⟩,hb1⟩;have HB1:Hid (Below w.heap.size w w1):=cz HB0.out HB0.out.size hb1;have HK1:=kZ (ig HK0.out hb1);clear hb1 HB0 HK0;rcases hn with rfl | ⟨hn0,hn1,hn2,hn3⟩
  · go_wp2;go_ret;exact ⟨rfl,HB1.out⟩
  have HL:=kZ hn3;have hlen:rs.length≤1048576:=by omega
  clear hn3 hn2;go_wp2_with fail;refine (yR ad' cap' ts n _ hm (HST.out.below HB1.out) HFT.out (by omega) (by omega)).mono ?_;rintro e w2 ⟨⟨m,rfl,hq⟩,hb2⟩;have HB2:Hid (Below w.heap.size w w2):=cz HB1.out HB1.out.size hb2;have HK2:=kZ (ig HK1.out hb2);clear HK1;clear hb2 HB1;rcases hq with rfl | ⟨hq0,hq1,hq2⟩
  · go_wp2;go_ret;exact ⟨rfl,HB2.out⟩
  have hlt:ts.length≤1048576:=by omega
  have hm1:m≤1048576:=by omega
  clear hq2 hq1 hn1;go_wp2_with fail;refine (Ce ad2 cap2 ks m _ hm2 (HSK.out.below HB2.out) HFK.out hq0 hm1).mono ?_;rintro e w2k ⟨⟨m2,rfl,hqk⟩,hb2k⟩;have HB2k:Hid (Below w.heap.size w w2k):=cz HB2.out HB2.out.size hb2k;have HK2k:=kZ (ig HK2.out hb2k);clear hb2k HB2 HK2;rcases hqk with rfl | ⟨hqk0,hqk1,hqk2⟩
  · go_wp2;go_ret;exact ⟨rfl,HB2k.out⟩
  have hlk:ks.length≤1048576:=by omega
  have hm3:m2≤1048576:=by omega
  obtain ⟨k0,k1,k2,k3,k4,-⟩:=HK2k.out;have hkn:w.heap.size < w2k.heap.size:=ay k0;clear hqk1 hqk2 hm1;go_wp2_with fail;refine (wu a b r c d m2 _ ha hb hr hc hd hqk0 hm3).mono ?_;rintro e w2f ⟨rfl,hb2f⟩;have HB2f:Hid (Below w.heap.size w w2f):=cz HB2k.out HB2k.out.size hb2f;have HK2f:=kZ (ig HK2k.out hb2f);clear HK2k k0 k1 k2 k3 k4 hkn;clear hb2f HB2k;obtain ⟨z,hz⟩:∃ z,z=lh a b r c d m2:=⟨_,rfl⟩;rw [← hz];have hz1:z≤1048576∧-1≤z:=by
    have h1:=BX a b r c d m2;have h2:-1≤lh a b r c d m2:=by
      unfold lh;split
      · omega
      split
      · omega
      split <;> omega
    rw [← hz] at h1 h2;omega
  clear hz;by_cases hz0:z < 0
  · go_wp2;go_ret;exact ⟨rfl,HB2f.out⟩
  clear ha hb hr hc hd;obtain ⟨v,hv⟩:∃ v,jy st rs ts ks ⟨a,b,r,c,d⟩=v:=⟨_,rfl⟩;have HV:=kZ hv;clear hv;obtain ⟨k0,k1,k2,k3,k4,kB⟩:=HK2f.out;clear HK2f HB2f;go_wp2_with fail
  go_region_held3 (fun w'=>w'.cell? ⟨w.heap.size,0,none⟩=some (.string a)∧w'.cell? ⟨w.heap.size,1,none⟩=some (.string b)∧w'.cell? ⟨w.heap.size,2,none⟩=some (.string r)∧w'.cell? ⟨w.heap.size,3,none⟩=some (.string c)∧w'.cell? ⟨w.heap.size,4,none⟩=some (.string d)∧Below w.heap.size w w')
    (first | assumption | exact ig (by assumption) hbx | exact ⟨k0,k1,k2,k3,k4,kB.drew⟩)
    (first
     | (go_at_call 11; refine (mM ad cap rs _ hlen (HS.out.below (And.right (And.right (And.right (And.right (And.right (by assumption))))))) HL.out).mono ?_; rintro e w3 ⟨rs1,rfl,he1,hs1,-,-,hbx⟩; have HE1:=kZ he1; have HS1:=kZ hs1; clear he1 hs1)
     | (go_at_call 12; refine (kE ad' cap' ts _ hlt (HST.out.below (And.right (And.right (And.right (And.right (And.right (by assumption)))))))).mono ?_; rintro e w4 ⟨rfl,F4⟩; have hbx:=F4.below; have HS1b:=kZ (HS1.out.below hbx); have HF4:=kZ F4.sl; clear F4)
     | (go_at_call 13; refine (mJ ad2 cap2 ks _ hlk (HSK.out.below (And.right (And.right (And.right (And.right (And.right (by assumption)))))))).mono ?_; rintro e w4k ⟨rfl,F4k⟩; have hbx:=F4k.below; have HS1k:=kZ (HS1b.out.below hbx); have HF4k:=kZ (HF4.out.below hbx); have HK4:=kZ F4k.sl; clear F4k)
     | (go_at_call 14; refine (oM a b r c d _).mono ?_; rintro e w5 ⟨rfl,hbx⟩; have HS1c:=kZ (HS1k.out.below hbx); have HF4c:=kZ (HF4k.out.below hbx); have HK4c:=kZ (HK4.out.below hbx))
     | (go_at_call 10; refine (sO st _ _ rs1 _ _ ts _ _ ks ⟨a,b,r,c,d⟩ _ (by rw [LD HE1.out]; exact hlen) HS1c.out (Et HE1.out HL.out) (KT HE1.out HF.out) hlt HF4c.out HFT.out hlk HK4c.out HFF.out (fun h=>by rw [HE1.out] at h ⊢; exact HLE.out h)).mono ?_; rintro e w6 ⟨he5,hbx⟩; rw [Cv HE1.out,HV.out] at he5; subst he5))
  rename_i hJ;have HK5:=kZ hJ;have Cw_w5:=kZ hJ.2.2.2.2.2;clear hJ;go_wp2_with fail;refine (mM ad cap rs _ hlen (HS.out.below Cw_w5.out) HL.out).mono ?_;rintro e w6 ⟨rs2,rfl,he2,hs2,hc2,hnw2,hb6⟩;have HE2:=kZ he2;have HS2:=kZ hs2;have HC2:=kZ hc2;have Cw_w6:Hid (Below w.heap.size w w6):=cz Cw_w5.out Cw_w5.out.size hb6;have HK6:=kZ (ig HK5.out hb6);clear HK5;have Cw6_w6:Hid (Below w6.heap.size w6 w6):=Below.refl _ _;clear hb6 he2 hs2 hc2 hnw2 Cw_w5;go_wp2_with fail;refine (kE ad' cap' ts _ hlt (HST.out.below Cw_w6.out)).mono ?_;rintro e w7 ⟨rfl,F7⟩;have HF7:=kZ F7;have Cw_w7:Hid (Below w.heap.size w w7):=cz Cw_w6.out Cw_w6.out.size F7.below;have HK7:=kZ (ig HK6.out F7.below);clear HK6;have Cw6_w7:Hid (Below w6.heap.size w6 w7):=F7.below;have Cw7_w7:Hid (Below w7.heap.size w7 w7):=Below.refl _ _;clear F7 Cw_w6;go_wp2_with fail;refine (mJ ad2 cap2 ks _ hlk (HSK.out.below Cw_w7.out)).mono ?_;rintro e w7k ⟨rfl,F7k⟩;have HF7k:=kZ F7k;have Cw_w7k:Hid (Below w.heap.size w w7k):=cz Cw_w7.out Cw_w7.out.size F7k.below;have Cw6_w7k:Hid (Below w6.heap.size w6 w7k):=cz Cw6_w7.out Cw6_w7.out.size F7k.below;have Cw7_w7k:Hid (Below w7.heap.size w7 w7k):=F7k.below;obtain ⟨k0,k1,k2,k3,k4,-⟩:=ig HK7.out F7k.below;have hkn:w.heap.size < w7k.heap.size:=ay k0;clear F7k HK7 Cw_w7 Cw6_w7 Cw7_w7;go_wp2_with fail;refine (oM a b r c d _).mono ?_;rintro e w7f ⟨rfl,hb7f⟩;have Cw_w7f:Hid (Below w.heap.size w w7f):=cz Cw_w7k.out Cw_w7k.out.size hb7f;have Cw6_w7f:Hid (Below w6.heap.size w6 w7f):=cz Cw6_w7k.out Cw6_w7k.out.size hb7f;have Cw7_w7f:Hid (Below w7.heap.size w7 w7f):=cz Cw7_w7k.out Cw7_w7k.out.size hb7f;have Cwk_w7f:Hid (Below w7k.heap.size w7k w7f):=hb7f;clear k0 k1 k2 k3 k4 hkn;clear hb7f Cw_w7k Cw6_w7k Cw7_w7k;go_wp2_with fail;refine (sP st _ _ rs2 _ _ ts _ _ ks ⟨a,b,r,c,d⟩ _ (by rw [LD HE2.out]; exact hlen) (HS2.out.below Cw6_w7f.out) (Et HE2.out HL.out) (KT HE2.out HF.out) HC2.out hlt (HF7.out.later Cw7_w7f.out).sl HFT.out hlk (HF7k.out.later Cwk_w7f.out).sl HFK.out HFF.out (fun h=>by rw [HE2.out] at h ⊢; exact HLE.out h)).mono ?_;rintro e w8 ⟨he8,hb8⟩;rw [Cv HE2.out,HV.out] at he8;subst he8;have Cw_w8:Hid (Below w.heap.size w w8):=cz Cw_w7f.out Cw_w7f.out.size hb8;have Cw6_w8:Hid (Below w6.heap.size w6 w8):=cz Cw6_w7f.out Cw6_w7f.out.size hb8;have Cw7_w8:Hid (Below w7.heap.size w7 w8):=cz Cw7_w7f.out Cw7_w7f.out.size hb8;have Cwk_w8:Hid (Below w7k.heap.size w7k w8):=cz Cwk_w7f.out Cwk_w7f.out.size hb8;clear hb8 Cw_w7f Cw6_w7f Cw7_w7f Cwk_w7f;clear HV;go_wp2_with fail;refine (mM ad cap rs _ hlen (HS.out.below Cw_w8.out) HL.out).mono ?_;rintro e w10 ⟨rs3,rfl,he3,hs3,-,-,hb10⟩;have Cw_w10:Hid (Below w.heap.size w w10):=cz Cw_w8.out Cw_w8.out.size hb10;have Cwk_w10:Hid (Below w7k.heap.size w7k w10):=cz Cwk_w8.out Cwk_w8.out.size hb10;have Cw6_w10:Hid (Below w6.heap.size w6 w10):=cz Cw6_w8.out Cw6_w8.out.size hb10;have Cw7_w10:Hid (Below w7.heap.size w7 w10):=cz Cw7_w8.out Cw7_w8.out.size hb10;have HE3:=kZ he3;have HS3:=kZ hs3;clear hb10 he3 hs3 Cw_w8 Cw6_w8 Cw7_w8;go_wp2_with fail;refine (zY _ _ _ _ rs2 rs3 _ (by rw [LD HE2.out]; exact hlen) (by rw [HE3.out,HE2.out]) (HS2.out.below Cw6_w10.out) HS3.out (Et HE2.out HL.out)).mono ?_;rintro e w11 ⟨rfl,hb11⟩;have Cw_w11:Hid (Below w.heap.size w w11):=cz Cw_w10.out Cw_w10.out.size hb11;have Cwk_w11:Hid (Below w7k.heap.size w7k w11):=cz Cwk_w10.out Cwk_w10.out.size hb11;have Cw7_w11:Hid (Below w7.heap.size w7 w11):=cz Cw7_w10.out Cw7_w10.out.size hb11;clear hb11 HS3 Cw_w10 Cw6_w10 Cw7_w10;go_wp2_with fail;refine (kE ad' cap' ts _ hlt (HST.out.below Cw_w11.out)).mono ?_;rintro e w12 ⟨rfl,F12⟩;have HG12:=kZ F12.sl;have Cw_w12:Hid (Below w.heap.size w w12):=cz Cw_w11.out Cw_w11.out.size F12.below;have Cwk_w12:Hid (Below w7k.heap.size w7k w12):=cz Cwk_w11.out Cwk_w11.out.size F12.below;have Cw7_w12:Hid (Below w7.heap.size w7 w12):=cz Cw7_w11.out Cw7_w11.out.size F12.below;clear F12 Cw_w11 Cw7_w11;go_wp2_with fail;refine (zZ _ _ _ _ ts _ hm (HF7.out.later Cw7_w12.out).sl HG12.out).mono ?_;rintro e w13 ⟨rfl,hb13⟩;have Cw_w13:Hid (Below w.heap.size w w13):=cz Cw_w12.out Cw_w12.out.size hb13;have Cwk_w13:Hid (Below w7k.heap.size w7k w13):=cz Cwk_w12.out Cwk_w12.out.size hb13;clear hb13 HG12 Cw_w12 Cw7_w12;go_wp2_with fail;refine (mJ ad2 cap2 ks _ hlk (HSK.out.below Cw_w13.out)).mono ?_;rintro e w14 ⟨rfl,F14⟩;have HG14:=kZ F14.sl;have Cw_w14:Hid (Below w.heap.size w w14):=cz Cw_w13.out Cw_w13.out.size F14.below;have Cwk_w14:Hid (Below w7k.heap.size w7k w14):=cz Cwk_w13.out Cwk_w13.out.size F14.below;clear F14 Cw_w13;go_wp2_with fail;refine (Ck _ _ _ _ ks _ hm2 (HF7k.out.later Cwk_w14.out).sl HG14.out).mono ?_;rintro e w15 ⟨rfl,hb15⟩;have Cw_w15:Hid (Below w.heap.size w w15):=cz Cw_w14.out Cw_w14.out.size hb15;clear hb15 HG14 Cw_w14;go_wp2;go_ret;exact ⟨rfl,Cw_w15.out⟩
theorem own:ownKnob prog.godebug=none:=by kernel_rfl
theorem laidOut:laidOutB prog=true:=by kernel_rfl
set_option maxRecDepth 100000 in
theorem lifted (os:Os) (started:os.Started) (H:Type) (enc:TypeId × Value→H) :
  ReturnsInHanded {} Tryz.checked os 3 .any (Rows.fnExactFollowsSpec.pre6 enc prog Tryz.f3 Rows.fnExactFollowsRow.domain false) (Rows.fnExactFollowsSpec.post enc prog Tryz.f3 false true false false):=by
 refine returnsInHanded_of_change (C:=Tryz.checked) own started (by kernel_rfl) func3
  (ChangeSpec.witness6 (enc:=enc) (C:=Tryz.checked) false ⟨#[],#[.slice none 0 0,.slice none 0 0,.slice none 0 0,.agg #[.string ByteArray.empty,.string ByteArray.empty,.string ByteArray.empty,.string ByteArray.empty,.string ByteArray.empty]],[]⟩ 8 (by kernel_rfl) (by kernel_rfl) (by kernel_rfl) (by kernel_rfl)) ?_
 intro W base args ds gs before hval0 hW hcnd _;have hval:∀ (j:Nat) t v,Tryz.f3.params[j]?=some t→args[j]?=some v→Value.okWide prog W .any base t v:=hval0;have hW':=hW;obtain ⟨p,q,hA0,hV,rfl,hfz,hnd⟩:=hW;have hA:DataW.TrodAll enc prog W 0 (fun _=>true) true Tryz.f3.params.toList args.toList ds p:=hA0;rw [Tryz.params3] at hA hval;obtain ⟨v0,vs0,d0,ds0,p0,q0,hargs,rfl,rfl,h0,r0⟩:=trodAll_cons hA;obtain ⟨v1,vs1,d1,ds1,p1,q1,rfl,rfl,rfl,h1,r1⟩:=trodAll_cons r0;obtain ⟨v2,vs2,d2,ds2,p2,q2,rfl,rfl,rfl,h2,r2⟩:=trodAll_cons r1;obtain ⟨v3,vs3,d3,ds3,p3,q3,rfl,rfl,rfl,h3,r3⟩:=trodAll_cons r2;obtain ⟨rfl,rfl,rfl⟩:=trodAll_nil r3;obtain rfl:args=#[v0,v1,v2,v3]:=by cases args; simp_all
 obtain ⟨rfl,rfl⟩:=trodVars_none hV;have k0:=h0;have lt0:∀ x ∈ p0,x.block < W.heap.size:=by obtain ⟨m,hm⟩:=k0; exact DataW.trod_lt m _ _ _ hm
 obtain ⟨ad0,len0,cap0,hv0⟩:=okWide_slice underlying22 (hval 0 22 v0 rfl rfl);subst hv0;obtain ⟨fuel0,hf0⟩:=h0;obtain ⟨rs0,hl0,hsl0,hft0,hm0⟩:=Es (by simpa [Value.cells] using hf0);subst hl0;have k1:=h1;have lt1:∀ x ∈ p1,x.block < W.heap.size:=by obtain ⟨m,hm⟩:=k1; exact DataW.trod_lt m _ _ _ hm
 obtain ⟨ad1,len1,cap1,hv1⟩:=okWide_slice underlying23 (hval 1 23 v1 rfl rfl);subst hv1;obtain ⟨fuel1,hf1⟩:=h1;obtain ⟨ts1,hl1,hsl1,hft1,hm1⟩:=GV (by simpa [Value.cells] using hf1);subst hl1;have k2:=h2;have lt2:∀ x ∈ p2,x.block < W.heap.size:=by obtain ⟨m,hm⟩:=k2; exact DataW.trod_lt m _ _ _ hm
 obtain ⟨ad2,len2,cap2,hv2⟩:=okWide_slice underlying24 (hval 2 24 v2 rfl rfl);subst hv2;obtain ⟨fuel2,hf2⟩:=h2;obtain ⟨ts2,hl2,hsl2,hft2,hm2⟩:=GJ (by simpa [Value.cells] using hf2);subst hl2;have k3:=h3;have lt3:∀ x ∈ p3,x.block < W.heap.size:=by obtain ⟨m,hm⟩:=k3; exact DataW.trod_lt m _ _ _ hm
 obtain ⟨xa3,xb3,xr3,xc3,xd3,hv3,wa3,wb3,wr3,wc3,wd3⟩:=Jw (hval 3 28 v3 rfl rfl) h3;subst hv3;clear hA0 hval0
 haveI:DecidableEq Fc:=fun x y=>Classical.propDecidable (x=y)
 refine (walk ad0 cap0 rs0 ad1 cap1 ts1 ad2 cap2 ts2 xa3 xb3 xr3 xc3 xd3 W hm0 hsl0 hft0 hm1 hsl1 hft1 hm2 hsl2 hft2 wa3 wb3 wr3 wc3 wd3).mono fun e W' ⟨he,bel⟩=>?_;subst he;exact ⟨_,rfl,_,_,_,[],_,[],hW',trodAll_mk1 (shut_bool underlying4 _),(trodAll_cons_mk (Below.trod laidOut (by kernel_rfl) (of_decide_eq_true (by kernel_rfl)) k0 bel lt0) (trodAll_cons_mk (Below.trod laidOut (by kernel_rfl) (of_decide_eq_true (by kernel_rfl)) k1 bel lt1) (trodAll_cons_mk (Below.trod laidOut (by kernel_rfl) (of_decide_eq_true (by kernel_rfl)) k2 bel lt2) (trodAll_cons_mk (Below.trod laidOut (by kernel_rfl) (of_decide_eq_true (by kernel_rfl)) k3 bel lt3) trodAll_mk0)))),rfl,bel.frame _,fun h=>by cases h⟩
theorem over:Rows.fnExactFollowsRow.holds Tryz.pinned (OpenSpec.ofChange Rows.fnExactFollowsSpec) :=
 OpenClaim.holds_of_wide 3 Tryz.f3 rfl rfl rfl rfl rfl rfl rfl ⟨rfl,rfl,rfl,rfl,rfl⟩ rfl rfl rfl rfl rfl (by kernel_rfl) func3 (by kernel_rfl)
  (of_decide_eq_true (by kernel_rfl)) (by unfold Func.isWrapper; first | (rw [if_pos (by decide +kernel)]; kernel_rfl) | (rw [if_neg (by decide +kernel)]; exact ⟨rfl,rfl⟩))
  (fun os started H enc _=>lifted os started H enc)
end Go.Proofs.YtdaoiceeidoehaaGreat.fnExactFollows
namespace Go.Proofs.YtdaoiceeidoehaaGreat
theorem FnExactFollows_holds:Rows.FnExactFollowsSaid:=fnExactFollows.over
end Go.Proofs.YtdaoiceeidoehaaGreat
