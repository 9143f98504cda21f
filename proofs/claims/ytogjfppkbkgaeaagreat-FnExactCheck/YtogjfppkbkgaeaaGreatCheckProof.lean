/- Proved here: FnExactCheck answers true for every slice of types, every slice of tuples and every fact and leaves them as they were, with no condition on them. -/
import Derived.Test.YtogjfppkbkgaeaaGreatJ29
import Derived.Test.YtogjfppkbkgaeaaGreatJ31
import Derived.Test.YtogjfppkbkgaeaaGreatJ12
import Derived.Test.YtogjfppkbkgaeaaGreatJ32
import Derived.Test.YtogjfppkbkgaeaaGreatJ7
import Derived.Test.YtogjfppkbkgaeaaGreatSzW
import Derived.Test.YtogjfppkbkgaeaaGreatJ4
namespace Go.Proofs.YtogjfppkbkgaeaaGreat.fnExactCheck
open Go.ChangeShapes Go.WideShapes Go.ChangeAt Go.RowKit Go.Joins
open Go.ChangeMaps (open_string shut_string)
open Pl
set_option linter.unusedVariables false
set_option linter.unusedSectionVars false
theorem exsP {rs rs':List ER} {p:Ex→Prop} (h:exs rs'=exs rs) (hp:∀ r ∈ rs,p r.e):∀ r ∈ rs',p r.e:=by
 intro r hr
 have h1:r.e ∈ exs rs':=List.mem_map.2 ⟨r,hr,rfl⟩
 rw [h] at h1
 obtain ⟨q,hq,e⟩:=List.mem_map.1 h1
 rw [← e]
 exact hp q hq
theorem rlsP {rs rs':List RR} (h:rls rs'=rls rs):∀ r ∈ rs',∃ q ∈ rs,q.name=r.name∧exs r.rows=exs q.rows:=by
 intro r hr
 have h1:r.p ∈ rls rs':=List.mem_map.2 ⟨r,hr,rfl⟩
 rw [h] at h1
 obtain ⟨q,hq,e⟩:=List.mem_map.1 h1
 injection e with e1 e2
 exact ⟨q,hq,e1,e2.symm⟩
theorem tysP {rs rs':List TR} (h:tys rs'=tys rs):∀ r ∈ rs',∃ q ∈ rs,q.name=r.name∧rls r.rows=rls q.rows:=by
 intro r hr
 have h1:r.p ∈ tys rs':=List.mem_map.2 ⟨r,hr,rfl⟩
 rw [h] at h1
 obtain ⟨q,hq,e⟩:=List.mem_map.1 h1
 injection e with e1 e2
 exact ⟨q,hq,e1,e2.symm⟩
theorem lightP {rs rs':List TR} (h:tys rs'=tys rs) (hl:∀ r ∈ rs,r.light):∀ r ∈ rs',r.light:=by
 intro r hr
 obtain ⟨q,hq,-,e⟩:=tysP h r hr
 have h1:=hl q hq
 refine ⟨by rw [← rls_len,e,rls_len]; exact h1.1,fun x hx=>?_⟩
 obtain ⟨y,hy,-,e2⟩:=rlsP e x hx
 have h2:=h1.2 y hy
 exact ⟨by rw [← exs_len,e2,exs_len]; exact h2.1,exsP e2 h2.2⟩
theorem fitsP {rs rs':List TR} (h:tys rs'=tys rs) (hl:∀ r ∈ rs,r.fits):∀ r ∈ rs',r.fits:=by
 intro r hr
 obtain ⟨q,hq,en,e⟩:=tysP h r hr
 have h1:=hl q hq
 refine ⟨by rw [← en]; exact h1.1,by rw [← rls_len,e,rls_len]; exact h1.2.1,fun x hx=>?_⟩
 obtain ⟨y,hy,en2,e2⟩:=rlsP e x hx
 have h2:=h1.2.2 y hy
 exact ⟨by rw [← en2]; exact h2.1,by rw [← exs_len,e2,exs_len]; exact h2.2.1,exsP e2 h2.2.2⟩
theorem lenP {rs rs':List TR} (h:tys rs'=tys rs):rs'.length=rs.length:=by rw [← tys_len,h,tys_len]
theorem keepB {w W w':World} {B:Nat} (h:Below B w W) (hB:B≤W.heap.size) (hb:Below W.heap.size W w'):Below B w w':=h.trans (hb.mono hB)
theorem min_ex {P:Nat→Prop} (h:∃ n,P n):∃ n,P n∧∀ m,P m→n≤m:=by
 obtain ⟨n,hn⟩:=h
 induction n using Nat.strongRecOn with
 | ind n ih =>
  by_cases hx:∃ m,m < n∧P m
  ·obtain ⟨m,hm,hp⟩:=hx
   exact ih m hm hp
  ·exact ⟨n,hn,fun m hm=>Nat.le_of_not_lt fun hlt=>hx ⟨m,hlt,hm⟩⟩
theorem least_ex {ts:List Ty} (h:∃ f,Sol ts f):∃ f,Least ts f:=by
 have key:∀ k,∃ n:Nat,(∃ g,Sol ts g∧g k=(n:Int))∧∀ m:Nat,(∃ g,Sol ts g∧g k=(m:Int))→n≤m:=fun k=>min_ex (by
  obtain ⟨f,hf⟩:=h
  exact ⟨(f k).toNat,f,hf,by have:=hf.pos k; omega⟩)
 have low:∀ k g,Sol ts g→(((key k).choose:Nat):Int)≤g k:=fun k g hg=>by
  have h1:=(key k).choose_spec.2 (g k).toNat ⟨g,hg,by have:=hg.pos k; omega⟩
  have:=hg.pos k
  omega
 refine ⟨fun k=>(((key k).choose:Nat):Int),⟨fun k=>Int.natCast_nonneg _,fun k hk d hd=>?_⟩,fun k hk g hg=>low k g hg⟩
 obtain ⟨g,hg,e⟩:=(key k).choose_spec.1
 have h1:=low (d.typ,d.rel) g hg
 have h2:=hg.up k hk d hd
 show (((key (d.typ,d.rel)).choose:Nat):Int) + stepOf d≤(((key k).choose:Nat):Int)
 rw [← e]
 exact Int.le_trans (Int.add_le_add_right h1 _) h2
theorem st_ex (ts:List Ty):∃ st,schemaD ts=true→Least ts st:=by
 by_cases h:schemaD ts=true
 ·obtain ⟨st,hst⟩:=least_ex (schemaD_iff.1 h).2.2
  exact ⟨st,fun _=>hst⟩
 ·exact ⟨fun _=>0,fun h2=>absurd h2 h⟩
theorem factsQ_tys [DecidableEq Fc] {st:ByteArray × ByteArray→Int} {rs rs':List TR} {ts:List Tp} (h:tys rs'=tys rs):factsQ st rs' ts=factsQ st rs ts:=by
 have e:fitQ rs'=fitQ rs:=by funext t; unfold fitQ; rw [h]
 unfold factsQ rightB factsL
 rw [e,h]
set_option maxRecDepth 100000 in
set_option maxHeartbeats 8000000 in
theorem walk [DecidableEq Fc] (ad:Option Addr) (cap:Nat) (rs:List TR) (ad':Option Addr) (cap':Nat) (ts:List Tp) (a b r c d:ByteArray) (w:World) (hmr:rs.length≤maxLen) (hs:SlT w ad rs) (hf:∀ r ∈ rs,r.fits) (hm:ts.length≤maxLen) (hst:Sl w ad' ts) (hft:∀ x ∈ ts,x.fits) (ha:a.size≤maxLen) (hb:b.size≤maxLen) (hr:r.size≤maxLen) (hc:c.size≤maxLen) (hd:d.size≤maxLen) :
    Calls Tryz.prog 4 #[.slice ad rs.length cap,.slice ad' ts.length cap',.agg #[.string a,.string b,.string r,.string c,.string d]] w fun e w'=>e=.returned (.bool true)∧Below w.heap.size w w':=by
  obtain ⟨st,hst0⟩:=st_ex (tys rs)
  have HLE:=HID hst0
  have HS:=HID hs
  have HF:=HID hf
  have HST:=HID hst
  have HFT:=HID hft
  clear hs hf hst hft hst0
  obtain ⟨W0,hW0⟩:∃ W0,W0=w.alloc (.cells #[.string a,.string b,.string r,.string c,.string d] 42):=⟨_,rfl⟩
  have HB0:Hid (Below w.heap.size w W0):=by show Below _ _ _; rw [hW0]; exact (Below.refl _ _).alloc (Nat.le_refl _) _
  have hx0:W0.heap[w.heap.size]?=some (.cells #[.string a,.string b,.string r,.string c,.string d] 42 (0,0)):=by rw [hW0]; exact World.alloc_heap_new w _
  have HK0:=HID (show W0.cell? ⟨w.heap.size,0,none⟩=some (.string a)∧W0.cell? ⟨w.heap.size,1,none⟩=some (.string b)∧W0.cell? ⟨w.heap.size,2,none⟩=some (.string r)∧W0.cell? ⟨w.heap.size,3,none⟩=some (.string c)∧W0.cell? ⟨w.heap.size,4,none⟩=some (.string d)∧Below w.heap.size w W0 from ⟨by simp [World.cell?,hx0],by simp [World.cell?,hx0],by simp [World.cell?,hx0],by simp [World.cell?,hx0],by simp [World.cell?,hx0],HB0.out⟩)
  clear hx0
  go_enter Tryz.func4,Tryz.ntmps4
  go_wp2_with fail
  rw [← hW0]
  clear hW0
  refine (szTypeS_w ad cap rs 1048576 _ hmr (HS.out.below HB0.out) HF.out (by omega) (by omega)).mono ?_
  rintro e w1 ⟨⟨n,rfl,hn⟩,hb1⟩
  have HB1:Hid (Below w.heap.size w w1):=keepB HB0.out HB0.out.size hb1
  have HK1:=HID (keep5f HK0.out hb1)
  clear hb1 HB0 HK0
  rcases hn with rfl | ⟨hn0,hn1,hn2,hn3⟩
  · go_wp2
    go_ret
    exact ⟨rfl,HB1.out⟩
  have HL:=HID hn3
  have hlen:rs.length≤1048576:=by omega
  clear hn3 hn2
  go_wp2_with fail
  refine (szTupleS_any ad' cap' ts n _ hm (HST.out.below HB1.out) HFT.out (by omega) (by omega)).mono ?_
  rintro e w2 ⟨⟨m,rfl,hq⟩,hb2⟩
  have HB2:Hid (Below w.heap.size w w2):=keepB HB1.out HB1.out.size hb2
  obtain ⟨k0,k1,k2,k3,k4,-⟩:=keep5f HK1.out hb2
  have HK2:=HID (keep5f HK1.out hb2)
  have hkn:w.heap.size < w2.heap.size:=cell_lt k0
  clear HK1
  clear hb2 HB1
  rcases hq with rfl | ⟨hq0,hq1,hq2⟩
  · go_wp2
    go_ret
    exact ⟨rfl,HB2.out⟩
  have hlt:ts.length≤1048576:=by omega
  have hm1:m≤1048576:=by omega
  clear hq2 hq1 hn1
  go_wp2_with fail
  refine (szFact_any a b r c d m _ ha hb hr hc hd hq0 hm1).mono ?_
  rintro e w2f ⟨rfl,hb2f⟩
  have HB2f:Hid (Below w.heap.size w w2f):=keepB HB2.out HB2.out.size hb2f
  have HK2f:=HID (keep5f HK2.out hb2f)
  clear HK2 k0 k1 k2 k3 k4 hkn
  clear hb2f HB2
  obtain ⟨z,hz⟩:∃ z,z=szFac a b r c d m:=⟨_,rfl⟩
  rw [← hz]
  have hz1:z≤1048576∧-1≤z:=by
    have h1:=szFac_le a b r c d m
    have h2:-1≤szFac a b r c d m:=by
      unfold szFac
      split
      · omega
      split
      · omega
      split <;> omega
    rw [← hz] at h1 h2
    omega
  clear hz
  by_cases hz0:z < 0
  · go_wp2
    go_ret
    exact ⟨rfl,HB2f.out⟩
  clear ha hb hr hc hd
  obtain ⟨v,hv⟩:∃ v,hasF (factsQ st rs ts) ⟨a,b,r,c,d⟩=v:=⟨_,rfl⟩
  have HV:=HID hv
  clear hv
  obtain ⟨k0,k1,k2,k3,k4,kB⟩:=HK2f.out
  clear HK2f HB2f
  go_wp2_with fail
  go_region_held3 (fun w'=>w'.cell? ⟨w.heap.size,0,none⟩=some (.string a)∧w'.cell? ⟨w.heap.size,1,none⟩=some (.string b)∧w'.cell? ⟨w.heap.size,2,none⟩=some (.string r)∧w'.cell? ⟨w.heap.size,3,none⟩=some (.string c)∧w'.cell? ⟨w.heap.size,4,none⟩=some (.string d)∧Below w.heap.size w w')
    (first | assumption | exact keep5f (by assumption) hbx | exact ⟨k0,k1,k2,k3,k4,kB.drew⟩)
    (first
     | (go_at_call 10; refine (toTypeS_any ad cap rs _ hlen (HS.out.below (And.right (And.right (And.right (And.right (And.right (by assumption))))))) HL.out).mono ?_; rintro e w3 ⟨rs1,rfl,he1,hs1,-,-,hbx⟩; have HE1:=HID he1; have HS1:=HID hs1; clear he1 hs1)
     | (go_at_call 11; refine (toTupleS_any ad' cap' ts _ hlt (HST.out.below (And.right (And.right (And.right (And.right (And.right (by assumption)))))))).mono ?_; rintro e w4 ⟨rfl,F4⟩; have hbx:=F4.below; have HS1b:=HID (HS1.out.below hbx); have HF4:=HID F4.sl; clear F4)
     | (go_at_call 22; refine (toFact_any a b r c d _).mono ?_; rintro e w5 ⟨rfl,hbx⟩; have HS1c:=HID (HS1b.out.below hbx); have HF4c:=HID (HF4.out.below hbx))
     | (go_at_call 21; refine (specCheck_any st _ _ rs1 _ _ ts ⟨a,b,r,c,d⟩ _ (by rw [lenP HE1.out]; exact hlen) HS1c.out (lightP HE1.out HL.out) (fitsP HE1.out HF.out) hlt HF4c.out HFT.out (fun h=>by rw [HE1.out] at h ⊢; exact HLE.out h)).mono ?_; rintro e w6 ⟨he5,hbx⟩; rw [factsQ_tys HE1.out,HV.out] at he5; subst he5))
  rename_i hJ
  have HK5:=HID hJ
  have Cw_w5:=HID hJ.2.2.2.2.2
  clear hJ
  go_wp2_with fail
  refine (toTypeS_any ad cap rs _ hlen (HS.out.below Cw_w5.out) HL.out).mono ?_
  rintro e w6 ⟨rs2,rfl,he2,hs2,hc2,hnw2,hb6⟩
  have HE2:=HID he2
  have HS2:=HID hs2
  have HC2:=HID hc2
  have Cw_w6:Hid (Below w.heap.size w w6):=keepB Cw_w5.out Cw_w5.out.size hb6
  have HK6:=HID (keep5f HK5.out hb6)
  clear HK5
  have Cw6_w6:Hid (Below w6.heap.size w6 w6):=Below.refl _ _
  clear hb6 he2 hs2 hc2 hnw2 Cw_w5
  go_wp2_with fail
  refine (toTupleS_any ad' cap' ts _ hlt (HST.out.below Cw_w6.out)).mono ?_
  rintro e w7 ⟨rfl,F7⟩
  have HF7:=HID F7
  have Cw_w7:Hid (Below w.heap.size w w7):=keepB Cw_w6.out Cw_w6.out.size F7.below
  obtain ⟨k0,k1,k2,k3,k4,-⟩:=keep5f HK6.out F7.below
  have hkn:w.heap.size < w7.heap.size:=cell_lt k0
  clear HK6
  have Cw6_w7:Hid (Below w6.heap.size w6 w7):=F7.below
  have Cw7_w7:Hid (Below w7.heap.size w7 w7):=Below.refl _ _
  clear F7 Cw_w6
  go_wp2_with fail
  refine (toFact_any a b r c d _).mono ?_
  rintro e w7f ⟨rfl,hb7f⟩
  have Cw_w7f:Hid (Below w.heap.size w w7f):=keepB Cw_w7.out Cw_w7.out.size hb7f
  have Cw6_w7f:Hid (Below w6.heap.size w6 w7f):=keepB Cw6_w7.out Cw6_w7.out.size hb7f
  have Cw7_w7f:Hid (Below w7.heap.size w7 w7f):=hb7f
  clear k0 k1 k2 k3 k4 hkn
  clear hb7f Cw_w7 Cw6_w7 Cw7_w7
  go_wp2_with fail
  refine (implCheck_any st _ _ rs2 _ _ ts ⟨a,b,r,c,d⟩ _ (by rw [lenP HE2.out]; exact hlen) (HS2.out.below Cw6_w7f.out) (lightP HE2.out HL.out) (fitsP HE2.out HF.out) HC2.out hlt (HF7.out.later Cw7_w7f.out).sl HFT.out (fun h=>by rw [HE2.out] at h ⊢; exact HLE.out h)).mono ?_
  rintro e w8 ⟨he8,hb8⟩
  rw [factsQ_tys HE2.out,HV.out] at he8
  subst he8
  have Cw_w8:Hid (Below w.heap.size w w8):=keepB Cw_w7f.out Cw_w7f.out.size hb8
  have Cw6_w8:Hid (Below w6.heap.size w6 w8):=keepB Cw6_w7f.out Cw6_w7f.out.size hb8
  have Cw7_w8:Hid (Below w7.heap.size w7 w8):=keepB Cw7_w7f.out Cw7_w7f.out.size hb8
  clear hb8 Cw_w7f Cw6_w7f Cw7_w7f
  clear HV
  go_wp2_with fail
  refine (toTypeS_any ad cap rs _ hlen (HS.out.below Cw_w8.out) HL.out).mono ?_
  rintro e w10 ⟨rs3,rfl,he3,hs3,-,-,hb10⟩
  have Cw_w10:Hid (Below w.heap.size w w10):=keepB Cw_w8.out Cw_w8.out.size hb10
  have Cw6_w10:Hid (Below w6.heap.size w6 w10):=keepB Cw6_w8.out Cw6_w8.out.size hb10
  have Cw7_w10:Hid (Below w7.heap.size w7 w10):=keepB Cw7_w8.out Cw7_w8.out.size hb10
  have HE3:=HID he3
  have HS3:=HID hs3
  clear hb10 he3 hs3 Cw_w8 Cw6_w8 Cw7_w8
  go_wp2_with fail
  refine (eqTypeS_same _ _ _ _ rs2 rs3 _ (by rw [lenP HE2.out]; exact hlen) (by rw [HE3.out,HE2.out]) (HS2.out.below Cw6_w10.out) HS3.out (lightP HE2.out HL.out)).mono ?_
  rintro e w11 ⟨rfl,hb11⟩
  have Cw_w11:Hid (Below w.heap.size w w11):=keepB Cw_w10.out Cw_w10.out.size hb11
  have Cw7_w11:Hid (Below w7.heap.size w7 w11):=keepB Cw7_w10.out Cw7_w10.out.size hb11
  clear hb11 HS3 Cw_w10 Cw6_w10 Cw7_w10
  go_wp2_with fail
  refine (toTupleS_any ad' cap' ts _ hlt (HST.out.below Cw_w11.out)).mono ?_
  rintro e w12 ⟨rfl,F12⟩
  have HG12:=HID F12.sl
  have Cw_w12:Hid (Below w.heap.size w w12):=keepB Cw_w11.out Cw_w11.out.size F12.below
  have Cw7_w12:Hid (Below w7.heap.size w7 w12):=keepB Cw7_w11.out Cw7_w11.out.size F12.below
  clear F12 Cw_w11 Cw7_w11
  go_wp2_with fail
  refine (eqTupleS_any _ _ _ _ ts _ hm (HF7.out.later Cw7_w12.out).sl HG12.out).mono ?_
  rintro e w13 ⟨rfl,hb13⟩
  have Cw_w13:Hid (Below w.heap.size w w13):=keepB Cw_w12.out Cw_w12.out.size hb13
  clear hb13 HG12 Cw_w12 Cw7_w12
  go_wp2
  go_ret
  exact ⟨rfl,Cw_w13.out⟩
theorem own:ownKnob Tryz.prog.godebug=none:=by kernel_rfl
theorem laidOut:laidOutB Tryz.prog=true:=by kernel_rfl
set_option maxRecDepth 100000 in
theorem lifted (os:Os) (started:os.Started) (H:Type) (enc:TypeId × Value→H) :
  ReturnsInHanded {} Tryz.checked os 4 .any (Rows.fnExactCheckSpec.pre6 enc Tryz.prog Tryz.f4 Rows.fnExactCheckRow.domain false) (Rows.fnExactCheckSpec.post enc Tryz.prog Tryz.f4 false true false false):=by
 refine returnsInHanded_of_change (C:=Tryz.checked) own started (by kernel_rfl) Tryz.func4
  (ChangeSpec.witness6 (enc:=enc) (C:=Tryz.checked) false ⟨#[],#[.slice none 0 0,.slice none 0 0,.agg #[.string ByteArray.empty,.string ByteArray.empty,.string ByteArray.empty,.string ByteArray.empty,.string ByteArray.empty]],[]⟩ 8 (by kernel_rfl) (by kernel_rfl) (by kernel_rfl) (by kernel_rfl)) ?_
 intro W base args ds gs before hval0 hW hcnd _
 have hval:∀ (j:Nat) t v,Tryz.f4.params[j]?=some t→args[j]?=some v→Value.okWide Tryz.prog W .any base t v:=hval0
 have hW':=hW
 obtain ⟨p,q,hA0,hV,rfl,hfz,hnd⟩:=hW
 have hA:DataW.TrodAll enc Tryz.prog W 0 (fun _=>true) true Tryz.f4.params.toList args.toList ds p:=hA0
 rw [Tryz.params4] at hA hval
 obtain ⟨v0,vs0,d0,ds0,p0,q0,hargs,rfl,rfl,h0,r0⟩:=trodAll_cons hA
 obtain ⟨v1,vs1,d1,ds1,p1,q1,rfl,rfl,rfl,h1,r1⟩:=trodAll_cons r0
 obtain ⟨v2,vs2,d2,ds2,p2,q2,rfl,rfl,rfl,h2,r2⟩:=trodAll_cons r1
 obtain ⟨rfl,rfl,rfl⟩:=trodAll_nil r2
 obtain rfl:args=#[v0,v1,v2]:=by cases args; simp_all
 obtain ⟨rfl,rfl⟩:=trodVars_none hV
 have k0:=h0
 have lt0:∀ x ∈ p0,x.block < W.heap.size:=by obtain ⟨m,hm⟩:=k0; exact DataW.trod_lt m _ _ _ hm
 obtain ⟨ad0,len0,cap0,hv0⟩:=okWide_slice Tryz.underlying22 (hval 0 22 v0 rfl rfl)
 subst hv0
 obtain ⟨fuel0,hf0⟩:=h0
 obtain ⟨rs0,hl0,hsl0,hft0,hm0⟩:=open_types (by simpa [Value.cells] using hf0)
 subst hl0
 have k1:=h1
 have lt1:∀ x ∈ p1,x.block < W.heap.size:=by obtain ⟨m,hm⟩:=k1; exact DataW.trod_lt m _ _ _ hm
 obtain ⟨ad1,len1,cap1,hv1⟩:=okWide_slice Tryz.underlying23 (hval 1 23 v1 rfl rfl)
 subst hv1
 obtain ⟨fuel1,hf1⟩:=h1
 obtain ⟨ts1,hl1,hsl1,hft1,hm1⟩:=open_tups (by simpa [Value.cells] using hf1)
 subst hl1
 have k2:=h2
 have lt2:∀ x ∈ p2,x.block < W.heap.size:=by obtain ⟨m,hm⟩:=k2; exact DataW.trod_lt m _ _ _ hm
 obtain ⟨xa2,xb2,xr2,xc2,xd2,hv2,wa2,wb2,wr2,wc2,wd2⟩:=open_fac (hval 2 42 v2 rfl rfl) h2
 subst hv2
 clear hA0 hval0
 haveI:DecidableEq Fc:=fun x y=>Classical.propDecidable (x=y)
 refine (walk ad0 cap0 rs0 ad1 cap1 ts1 xa2 xb2 xr2 xc2 xd2 W hm0 hsl0 hft0 hm1 hsl1 hft1 wa2 wb2 wr2 wc2 wd2).mono fun e W' ⟨he,bel⟩=>?_
 subst he
 exact ⟨_,rfl,_,_,_,[],_,[],hW',trodAll_mk1 (shut_bool Tryz.underlying4 _),(trodAll_cons_mk (Below.trod laidOut (by kernel_rfl) (of_decide_eq_true (by kernel_rfl)) k0 bel lt0) (trodAll_cons_mk (Below.trod laidOut (by kernel_rfl) (of_decide_eq_true (by kernel_rfl)) k1 bel lt1) (trodAll_cons_mk (Below.trod laidOut (by kernel_rfl) (of_decide_eq_true (by kernel_rfl)) k2 bel lt2) trodAll_mk0))),rfl,bel.frame _,fun h=>by cases h⟩
theorem over:Rows.fnExactCheckRow.holds Tryz.pinned (OpenSpec.ofChange Rows.fnExactCheckSpec) :=
 OpenClaim.holds_of_wide 4 Tryz.f4 rfl rfl rfl rfl rfl rfl rfl ⟨rfl,rfl,rfl,rfl,rfl⟩ rfl rfl rfl rfl rfl (by kernel_rfl) Tryz.func4 (by kernel_rfl)
  (of_decide_eq_true (by kernel_rfl)) (by unfold Func.isWrapper; first | (rw [if_pos (by decide +kernel)]; kernel_rfl) | (rw [if_neg (by decide +kernel)]; exact ⟨rfl,rfl⟩))
  (fun os started H enc _=>lifted os started H enc)
end Go.Proofs.YtogjfppkbkgaeaaGreat.fnExactCheck
namespace Go.Proofs.YtogjfppkbkgaeaaGreat
theorem FnExactCheck_holds:Rows.FnExactCheckSaid:=fnExactCheck.over
end Go.Proofs.YtogjfppkbkgaeaaGreat
