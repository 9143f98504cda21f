/- Proved here: FnExactProofOk answers true for every slice of types, every slice of tuples and every slice of facts and leaves them as they were, with no condition on them. -/
import Derived.Test.YtdaoiceeidoehaaGreatJ32
import Derived.Test.YtdaoiceeidoehaaGreatJ36
open Go.Proofs.Tryz
set_option maxHeartbeats 80000000
namespace Go.Proofs.YtdaoiceeidoehaaGreat.fnExactProofOk
open Go.ChangeShapes Go.WideShapes Go.ChangeAt Go.RowKit Go.Joins
open Go.ChangeMaps (open_string shut_string)
open Pl
set_option linter.unusedVariables false
set_option linter.unusedSectionVars false
theorem Mq {rs rs':List ER} {p:Ex→Prop} (h:ah rs'=ah rs) (hp:∀ r ∈ rs,p r.e):∀ r ∈ rs',p r.e:=by
 intro r hr;have h1:r.e ∈ ah rs':=List.mem_map.2 ⟨r,hr,rfl⟩;rw [h] at h1;obtain ⟨q,hq,e⟩:=List.mem_map.1 h1;rw [← e];exact hp q hq
theorem Ms {rs rs':List RR} (h:cB rs'=cB rs):∀ r ∈ rs',∃ q ∈ rs,q.name=r.name∧ah r.rows=ah q.rows:=by
 intro r hr;have h1:r.p ∈ cB rs':=List.mem_map.2 ⟨r,hr,rfl⟩;rw [h] at h1;obtain ⟨q,hq,e⟩:=List.mem_map.1 h1;injection e with e1 e2;exact ⟨q,hq,e1,e2.symm⟩
theorem Mt {rs rs':List TR} (h:ae rs'=ae rs):∀ r ∈ rs',∃ q ∈ rs,q.name=r.name∧cB r.rows=cB q.rows:=by
 intro r hr;have h1:r.p ∈ ae rs':=List.mem_map.2 ⟨r,hr,rfl⟩;rw [h] at h1;obtain ⟨q,hq,e⟩:=List.mem_map.1 h1;injection e with e1 e2;exact ⟨q,hq,e1,e2.symm⟩
theorem Ev {rs rs':List TR} (h:ae rs'=ae rs) (hl:∀ r ∈ rs,r.light):∀ r ∈ rs',r.light:=by
 intro r hr;obtain ⟨q,hq,-,e⟩:=Mt h r hr;have h1:=hl q hq;refine ⟨by rw [← fF,e,fF]; exact h1.1,fun x hx=>?_⟩;obtain ⟨y,hy,-,e2⟩:=Ms e x hx;have h2:=h1.2 y hy;exact ⟨by rw [← aI,e2,aI]; exact h2.1,Mq e2 h2.2⟩
theorem KV {rs rs':List TR} (h:ae rs'=ae rs) (hl:∀ r ∈ rs,r.fits):∀ r ∈ rs',r.fits:=by
 intro r hr;obtain ⟨q,hq,en,e⟩:=Mt h r hr;have h1:=hl q hq;refine ⟨by rw [← en]; exact h1.1,by rw [← fF,e,fF]; exact h1.2.1,fun x hx=>?_⟩;obtain ⟨y,hy,en2,e2⟩:=Ms e x hx;have h2:=h1.2.2 y hy;exact ⟨by rw [← en2]; exact h2.1,by rw [← aI,e2,aI]; exact h2.2.1,Mq e2 h2.2.2⟩
theorem LH {rs rs':List TR} (h:ae rs'=ae rs):rs'.length=rs.length:=by rw [← eZ,h,eZ]
theorem dz {w W w':World} {B:Nat} (h:Below B w W) (hB:B≤W.heap.size) (hb:Below W.heap.size W w'):Below B w w':=h.trans (hb.mono hB)
theorem LJ {P:Nat→Prop} (h:∃ n,P n):∃ n,P n∧∀ m,P m→n≤m:=by
 obtain ⟨n,hn⟩:=h
 induction n using Nat.strongRecOn with
 | ind n ih =>
  by_cases hx:∃ m,m < n∧P m
  ·obtain ⟨m,hm,hp⟩:=hx;exact ih m hm hp
  ·exact ⟨n,hn,fun m hm=>Nat.le_of_not_lt fun hlt=>hx ⟨m,hlt,hm⟩⟩
theorem JI {ts:List Ty} (h:∃ f,Sol ts f):∃ f,Least ts f:=by
 have key:∀ k,∃ n:Nat,(∃ g,Sol ts g∧g k=(n:Int))∧∀ m:Nat,(∃ g,Sol ts g∧g k=(m:Int))→n≤m:=fun k=>LJ (by
  obtain ⟨f,hf⟩:=h;exact ⟨(f k).toNat,f,hf,by have:=hf.pos k; omega⟩)
 have low:∀ k g,Sol ts g→(((key k).choose:Nat):Int)≤g k:=fun k g hg=>by
  have h1:=(key k).choose_spec.2 (g k).toNat ⟨g,hg,by have:=hg.pos k; omega⟩;have:=hg.pos k;omega
 refine ⟨fun k=>(((key k).choose:Nat):Int),⟨fun k=>Int.natCast_nonneg _,fun k hk d hd=>?_⟩,fun k hk g hg=>low k g hg⟩;obtain ⟨g,hg,e⟩:=(key k).choose_spec.1;have h1:=low (d.typ,d.rel) g hg;have h2:=hg.up k hk d hd;show (((key (d.typ,d.rel)).choose:Nat):Int) + stepOf d≤(((key k).choose:Nat):Int);rw [← e];exact Int.le_trans (Int.add_le_add_right h1 _) h2
theorem Mv (ts:List Ty):∃ st,bR ts=true→Least ts st:=by
 by_cases h:bR ts=true
 ·obtain ⟨st,hst⟩:=JI (bu.1 h).2.2;exact ⟨st,fun _=>hst⟩
 ·exact ⟨fun _=>0,fun h2=>absurd h2 h⟩
theorem Cw [DecidableEq Fc] {st:ByteArray × ByteArray→Int} {rs rs':List TR} {ts:List Tp} {L:List Fc} (h:ae rs'=ae rs):jo st rs' ts L=jo st rs ts L:=by
 have e:gH rs'=gH rs:=by funext t; unfold gH; rw [h]
 unfold jo lh mH dS aU kL;rw [e,h]
set_option maxRecDepth 100000 in
theorem walk [DecidableEq Fc] (ad:Option Addr) (cap:Nat) (rs:List TR) (ad':Option Addr) (cap':Nat) (ts:List Tp) (ad2:Option Addr) (cap2:Nat) (ks:List Fc) (w:World) (hmr:rs.length≤maxLen) (hs:eY w ad rs) (hf:∀ r ∈ rs,r.fits) (hm:ts.length≤maxLen) (hst:Sl w ad' ts) (hft:∀ x ∈ ts,x.fits) (hm2:ks.length≤maxLen) (hsk:jq w ad2 ks) (hfk:∀ x ∈ ks,x.fits) :
  Calls prog 4 #[.slice ad rs.length cap,.slice ad' ts.length cap',.slice ad2 ks.length cap2] w fun e w'=>e=.returned (.bool true)∧Below w.heap.size w w':=by
 obtain ⟨st,hst0⟩:=Mv (ae rs);have HLE:=sH hst0;have HS:=sH hs;have HF:=sH hf;have HST:=sH hst;have HFT:=sH hft;have HSK:=sH hsk;have HFK:=sH hfk;clear hsk hfk hs hf hst hft hst0;go_enter func4,ntmps4;go_wp2_with fail;refine (GM ad cap rs 1048576 _ hmr HS.out HF.out (by omega) (by omega)).mono ?_;rintro e w1 ⟨⟨n,rfl,hn⟩,hb1⟩;have HB1:Hid (Below w.heap.size w w1):=hb1;clear hb1;rcases hn with rfl | ⟨hn0,hn1,hn2,hn3⟩
 ·go_wp2;go_ret;exact ⟨rfl,HB1.out⟩
 have HL:=sH hn3;have hlen:rs.length≤1048576:=by omega
 clear hn3 hn2;go_wp2_with fail;refine (yS ad' cap' ts n _ hm (HST.out.below HB1.out) HFT.out (by omega) (by omega)).mono ?_;rintro e w2 ⟨⟨m,rfl,hq⟩,hb2⟩;have HB2:Hid (Below w.heap.size w w2):=dz HB1.out HB1.out.size hb2;clear hb2 HB1;rcases hq with rfl | ⟨hq0,hq1,hq2⟩
 ·go_wp2;go_ret;exact ⟨rfl,HB2.out⟩
 have hlt:ts.length≤1048576:=by omega
 have hm1:m≤1048576:=by omega
 clear hq2 hq1 hn1;go_wp2_with fail;refine (Cf ad2 cap2 ks m _ hm2 (HSK.out.below HB2.out) HFK.out hq0 hm1).mono ?_;rintro e w2k ⟨⟨m2,rfl,hqk⟩,hb2k⟩;have HB2k:Hid (Below w.heap.size w w2k):=dz HB2.out HB2.out.size hb2k;clear hb2k HB2;rcases hqk with rfl | ⟨hqk0,hqk1,hqk2⟩
 ·go_wp2;go_ret;exact ⟨rfl,HB2k.out⟩
 have hlk:ks.length≤1048576:=by omega
 clear hqk1 hqk2 hm1;obtain ⟨v,hv⟩:∃ v,jo st rs ts ks=v:=⟨_,rfl⟩;have HV:=sH hv;clear hv;go_wp2_with fail;refine (mJ ad cap rs _ hlen (HS.out.below HB2k.out) HL.out).mono ?_;rintro e w3 ⟨rs1,rfl,he1,hs1,-,-,hb3⟩;have HE1:=sH he1;have HS1:=sH hs1;have HB3:Hid (Below w.heap.size w w3):=dz HB2k.out HB2k.out.size hb3;clear he1 hs1 hb3 HB2k;go_wp2_with fail;refine (kC ad' cap' ts _ hlt (HST.out.below HB3.out)).mono ?_;rintro e w4 ⟨rfl,F4⟩;have HS1b:=sH (HS1.out.below F4.below);have HF4:=sH F4.sl;have HB4:Hid (Below w.heap.size w w4):=dz HB3.out HB3.out.size F4.below;clear F4 HB3 HS1;go_wp2_with fail;refine (mI ad2 cap2 ks _ hlk (HSK.out.below HB4.out)).mono ?_;rintro e w4k ⟨rfl,F4k⟩;have HS1c:=sH (HS1b.out.below F4k.below);have HF4c:=sH (HF4.out.below F4k.below);have HK4:=sH F4k.sl;have HB4k:Hid (Below w.heap.size w w4k):=dz HB4.out HB4.out.size F4k.below;clear F4k HB4 HS1b HF4;go_wp2_with fail;refine (sN st _ _ rs1 _ _ ts _ _ ks _ (by rw [LH HE1.out]; exact hlen) HS1c.out (Ev HE1.out HL.out) (KV HE1.out HF.out) hlt HF4c.out HFT.out hlk (Nat.le_refl _) HK4.out HFK.out (fun h=>by rw [HE1.out] at h ⊢; exact HLE.out h)).mono ?_;rintro e w5 ⟨he5,hb5⟩;rw [Cw HE1.out,HV.out] at he5;subst he5;have Cw_w5:Hid (Below w.heap.size w w5):=dz HB4k.out HB4k.out.size hb5;clear hb5 HB4k HS1c HF4c HK4 HE1;go_wp2_with fail;refine (mJ ad cap rs _ hlen (HS.out.below Cw_w5.out) HL.out).mono ?_;rintro e w6 ⟨rs2,rfl,he2,hs2,hc2,hnw2,hb6⟩;have HE2:=sH he2;have HS2:=sH hs2;have HC2:=sH hc2;have Cw_w6:Hid (Below w.heap.size w w6):=dz Cw_w5.out Cw_w5.out.size hb6;clear hb6 he2 hs2 hc2 hnw2 Cw_w5;go_wp2_with fail;refine (kC ad' cap' ts _ hlt (HST.out.below Cw_w6.out)).mono ?_;rintro e w7 ⟨rfl,F7⟩;have HF7:=sH F7;have Cw_w7:Hid (Below w.heap.size w w7):=dz Cw_w6.out Cw_w6.out.size F7.below;have Cw6_w7:Hid (Below w6.heap.size w6 w7):=F7.below;clear F7 Cw_w6;go_wp2_with fail;refine (mI ad2 cap2 ks _ hlk (HSK.out.below Cw_w7.out)).mono ?_;rintro e w7k ⟨rfl,F7k⟩;have HF7k:=sH F7k;have Cw_w7k:Hid (Below w.heap.size w w7k):=dz Cw_w7.out Cw_w7.out.size F7k.below;have Cw6_w7k:Hid (Below w6.heap.size w6 w7k):=dz Cw6_w7.out Cw6_w7.out.size F7k.below;have Cw7_w7k:Hid (Below w7.heap.size w7 w7k):=F7k.below;clear F7k Cw_w7 Cw6_w7;go_wp2_with fail;refine (sO st _ _ rs2 _ _ ts _ _ ks _ (by rw [LH HE2.out]; exact hlen) (HS2.out.below Cw6_w7k.out) (Ev HE2.out HL.out) (KV HE2.out HF.out) HC2.out hlt (HF7.out.later Cw7_w7k.out).sl HFT.out hlk HF7k.out.sl HFK.out (fun h=>by rw [HE2.out] at h ⊢; exact HLE.out h)).mono ?_;rintro e w8 ⟨he8,hb8⟩;rw [Cw HE2.out,HV.out] at he8;subst he8;have Cw_w8:Hid (Below w.heap.size w w8):=dz Cw_w7k.out Cw_w7k.out.size hb8;have Cw6_w8:Hid (Below w6.heap.size w6 w8):=dz Cw6_w7k.out Cw6_w7k.out.size hb8;have Cw7_w8:Hid (Below w7.heap.size w7 w8):=dz Cw7_w7k.out Cw7_w7k.out.size hb8;have Cwk_w8:Hid (Below w7k.heap.size w7k w8):=hb8;clear hb8 Cw_w7k Cw6_w7k Cw7_w7k;clear HV;go_wp2_with fail;refine (mJ ad cap rs _ hlen (HS.out.below Cw_w8.out) HL.out).mono ?_;rintro e w10 ⟨rs3,rfl,he3,hs3,-,-,hb10⟩;have Cw_w10:Hid (Below w.heap.size w w10):=dz Cw_w8.out Cw_w8.out.size hb10;have Cwk_w10:Hid (Below w7k.heap.size w7k w10):=dz Cwk_w8.out Cwk_w8.out.size hb10;have Cw6_w10:Hid (Below w6.heap.size w6 w10):=dz Cw6_w8.out Cw6_w8.out.size hb10;have Cw7_w10:Hid (Below w7.heap.size w7 w10):=dz Cw7_w8.out Cw7_w8.out.size hb10;have HE3:=sH he3;have HS3:=sH hs3;clear hb10 he3 hs3 Cw_w8 Cw6_w8 Cw7_w8;go_wp2_with fail;refine (Aa _ _ _ _ rs2 rs3 _ (by rw [LH HE2.out]; exact hlen) (by rw [HE3.out,HE2.out]) (HS2.out.below Cw6_w10.out) HS3.out (Ev HE2.out HL.out)).mono ?_;rintro e w11 ⟨rfl,hb11⟩;have Cw_w11:Hid (Below w.heap.size w w11):=dz Cw_w10.out Cw_w10.out.size hb11;have Cwk_w11:Hid (Below w7k.heap.size w7k w11):=dz Cwk_w10.out Cwk_w10.out.size hb11;have Cw7_w11:Hid (Below w7.heap.size w7 w11):=dz Cw7_w10.out Cw7_w10.out.size hb11;clear hb11 HS3 Cw_w10 Cw6_w10 Cw7_w10;go_wp2_with fail;refine (kC ad' cap' ts _ hlt (HST.out.below Cw_w11.out)).mono ?_;rintro e w12 ⟨rfl,F12⟩;have HG12:=sH F12.sl;have Cw_w12:Hid (Below w.heap.size w w12):=dz Cw_w11.out Cw_w11.out.size F12.below;have Cwk_w12:Hid (Below w7k.heap.size w7k w12):=dz Cwk_w11.out Cwk_w11.out.size F12.below;have Cw7_w12:Hid (Below w7.heap.size w7 w12):=dz Cw7_w11.out Cw7_w11.out.size F12.below;clear F12 Cw_w11 Cw7_w11;go_wp2_with fail;refine (Ab _ _ _ _ ts _ hm (HF7.out.later Cw7_w12.out).sl HG12.out).mono ?_;rintro e w13 ⟨rfl,hb13⟩;have Cw_w13:Hid (Below w.heap.size w w13):=dz Cw_w12.out Cw_w12.out.size hb13;have Cwk_w13:Hid (Below w7k.heap.size w7k w13):=dz Cwk_w12.out Cwk_w12.out.size hb13;clear hb13 HG12 Cw_w12 Cw7_w12;go_wp2_with fail;refine (mI ad2 cap2 ks _ hlk (HSK.out.below Cw_w13.out)).mono ?_;rintro e w14 ⟨rfl,F14⟩;have HG14:=sH F14.sl;have Cw_w14:Hid (Below w.heap.size w w14):=dz Cw_w13.out Cw_w13.out.size F14.below;have Cwk_w14:Hid (Below w7k.heap.size w7k w14):=dz Cwk_w13.out Cwk_w13.out.size F14.below;clear F14 Cw_w13;go_wp2_with fail;refine (Cm _ _ _ _ ks _ hm2 (HF7k.out.later Cwk_w14.out).sl HG14.out).mono ?_;rintro e w15 ⟨rfl,hb15⟩;have Cw_w15:Hid (Below w.heap.size w w15):=dz Cw_w14.out Cw_w14.out.size hb15;clear hb15 HG14 Cw_w14;go_wp2;go_ret;exact ⟨rfl,Cw_w15.out⟩
theorem own:ownKnob prog.godebug=none:=by kernel_rfl
theorem laidOut:laidOutB prog=true:=by kernel_rfl
set_option maxRecDepth 100000 in
theorem lifted (os:Os) (started:os.Started) (H:Type) (enc:TypeId × Value→H) :
  ReturnsInHanded {} Tryz.checked os 4 .any (Rows.fnExactProofOkSpec.pre6 enc prog Tryz.f4 Rows.fnExactProofOkRow.domain false) (Rows.fnExactProofOkSpec.post enc prog Tryz.f4 false true false false):=by
 refine returnsInHanded_of_change (C:=Tryz.checked) own started (by kernel_rfl) func4
  (ChangeSpec.witness6 (enc:=enc) (C:=Tryz.checked) false ⟨#[],#[.slice none 0 0,.slice none 0 0,.slice none 0 0],[]⟩ 8 (by kernel_rfl) (by kernel_rfl) (by kernel_rfl) (by kernel_rfl)) ?_
 intro W base args ds gs before hval0 hW hcnd _;have hval:∀ (j:Nat) t v,Tryz.f4.params[j]?=some t→args[j]?=some v→Value.okWide prog W .any base t v:=hval0;have hW':=hW;obtain ⟨p,q,hA0,hV,rfl,hfz,hnd⟩:=hW;have hA:DataW.TrodAll enc prog W 0 (fun _=>true) true Tryz.f4.params.toList args.toList ds p:=hA0;rw [Tryz.params4] at hA hval;obtain ⟨v0,vs0,d0,ds0,p0,q0,hargs,rfl,rfl,h0,r0⟩:=trodAll_cons hA;obtain ⟨v1,vs1,d1,ds1,p1,q1,rfl,rfl,rfl,h1,r1⟩:=trodAll_cons r0;obtain ⟨v2,vs2,d2,ds2,p2,q2,rfl,rfl,rfl,h2,r2⟩:=trodAll_cons r1;obtain ⟨rfl,rfl,rfl⟩:=trodAll_nil r2;obtain rfl:args=#[v0,v1,v2]:=by cases args; simp_all
 obtain ⟨rfl,rfl⟩:=trodVars_none hV;have k0:=h0;have lt0:∀ x ∈ p0,x.block < W.heap.size:=by obtain ⟨m,hm⟩:=k0; exact DataW.trod_lt m _ _ _ hm
 obtain ⟨ad0,len0,cap0,hv0⟩:=okWide_slice underlying22 (hval 0 22 v0 rfl rfl);subst hv0;obtain ⟨fuel0,hf0⟩:=h0;obtain ⟨rs0,hl0,hsl0,hft0,hm0⟩:=Eu (by simpa [Value.cells] using hf0);subst hl0;have k1:=h1;have lt1:∀ x ∈ p1,x.block < W.heap.size:=by obtain ⟨m,hm⟩:=k1; exact DataW.trod_lt m _ _ _ hm
 obtain ⟨ad1,len1,cap1,hv1⟩:=okWide_slice underlying23 (hval 1 23 v1 rfl rfl);subst hv1;obtain ⟨fuel1,hf1⟩:=h1;obtain ⟨ts1,hl1,hsl1,hft1,hm1⟩:=GX (by simpa [Value.cells] using hf1);subst hl1;have k2:=h2;have lt2:∀ x ∈ p2,x.block < W.heap.size:=by obtain ⟨m,hm⟩:=k2; exact DataW.trod_lt m _ _ _ hm
 obtain ⟨ad2,len2,cap2,hv2⟩:=okWide_slice underlying24 (hval 2 24 v2 rfl rfl);subst hv2;obtain ⟨fuel2,hf2⟩:=h2;obtain ⟨ts2,hl2,hsl2,hft2,hm2⟩:=GK (by simpa [Value.cells] using hf2);subst hl2;clear hA0 hval0
 haveI:DecidableEq Fc:=fun x y=>Classical.propDecidable (x=y)
 refine (walk ad0 cap0 rs0 ad1 cap1 ts1 ad2 cap2 ts2 W hm0 hsl0 hft0 hm1 hsl1 hft1 hm2 hsl2 hft2).mono fun e W' ⟨he,bel⟩=>?_;subst he;exact ⟨_,rfl,_,_,_,[],_,[],hW',trodAll_mk1 (shut_bool underlying4 _),(trodAll_cons_mk (Below.trod laidOut (by kernel_rfl) (of_decide_eq_true (by kernel_rfl)) k0 bel lt0) (trodAll_cons_mk (Below.trod laidOut (by kernel_rfl) (of_decide_eq_true (by kernel_rfl)) k1 bel lt1) (trodAll_cons_mk (Below.trod laidOut (by kernel_rfl) (of_decide_eq_true (by kernel_rfl)) k2 bel lt2) trodAll_mk0))),rfl,bel.frame _,fun h=>by cases h⟩
theorem over:Rows.fnExactProofOkRow.holds Tryz.pinned (OpenSpec.ofChange Rows.fnExactProofOkSpec) :=
 OpenClaim.holds_of_wide 4 Tryz.f4 rfl rfl rfl rfl rfl rfl rfl ⟨rfl,rfl,rfl,rfl,rfl⟩ rfl rfl rfl rfl rfl (by kernel_rfl) func4 (by kernel_rfl)
  (of_decide_eq_true (by kernel_rfl)) (by unfold Func.isWrapper; first | (rw [if_pos (by decide +kernel)]; kernel_rfl) | (rw [if_neg (by decide +kernel)]; exact ⟨rfl,rfl⟩))
  (fun os started H enc _=>lifted os started H enc)
end Go.Proofs.YtdaoiceeidoehaaGreat.fnExactProofOk
namespace Go.Proofs.YtdaoiceeidoehaaGreat
theorem FnExactProofOk_holds:Rows.FnExactProofOkSaid:=fnExactProofOk.over
end Go.Proofs.YtdaoiceeidoehaaGreat
