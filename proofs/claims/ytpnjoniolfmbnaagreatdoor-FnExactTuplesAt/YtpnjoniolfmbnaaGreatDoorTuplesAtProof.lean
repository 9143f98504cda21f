/- Proved here: FnExactTuplesAt answers true for every slice of types, every slice of changes and every number and leaves them as they were; the program's five errors start as its own text lays them (the card). -/
import Derived.Test.YtpnjoniolfmbnaaGreatDoorJ26
import Derived.Test.YtpnjoniolfmbnaaGreatDoorJ28
import Derived.Test.YtpnjoniolfmbnaaGreatDoorJ29
import Derived.Test.YtpnjoniolfmbnaaGreatDoorCards
import Derived.Test.YtpnjoniolfmbnaaGreatDoorTie
import Derived.Test.YtpnjoniolfmbnaaGreatDoorJ2
import Derived.ProofKit
import Derived.LaidMore
import Derived.Lay
import Derived.SevenTiedAt
import Derived.Stop.Joined
import Derived.RowKitTokens
import Derived.ChangeVars
namespace Go.Proofs.YtpnjoniolfmbnaaGreatDoor.fnExactTuplesAt
open Go.ChangeShapes Go.WideShapes Go.ChangeAt Go.RowKit Go.Joins
open Go.ChangeMaps (open_string shut_string)
open Pl
set_option linter.unusedVariables false

theorem exsP {rs rs' : List ER} {p : Ex → Prop} (h : exs rs' = exs rs) (hp : ∀ r ∈ rs, p r.e) : ∀ r ∈ rs', p r.e := by
  intro r hr
  have h1 : r.e ∈ exs rs' := List.mem_map.2 ⟨r, hr, rfl⟩
  rw [h] at h1
  obtain ⟨q, hq, e⟩ := List.mem_map.1 h1
  rw [← e]
  exact hp q hq
theorem rlsP {rs rs' : List RR} (h : rls rs' = rls rs) : ∀ r ∈ rs', ∃ q ∈ rs, q.name = r.name ∧ exs r.rows = exs q.rows := by
  intro r hr
  have h1 : r.p ∈ rls rs' := List.mem_map.2 ⟨r, hr, rfl⟩
  rw [h] at h1
  obtain ⟨q, hq, e⟩ := List.mem_map.1 h1
  injection e with e1 e2
  exact ⟨q, hq, e1, e2.symm⟩
theorem tysP {rs rs' : List TR} (h : tys rs' = tys rs) : ∀ r ∈ rs', ∃ q ∈ rs, q.name = r.name ∧ rls r.rows = rls q.rows := by
  intro r hr
  have h1 : r.p ∈ tys rs' := List.mem_map.2 ⟨r, hr, rfl⟩
  rw [h] at h1
  obtain ⟨q, hq, e⟩ := List.mem_map.1 h1
  injection e with e1 e2
  exact ⟨q, hq, e1, e2.symm⟩
theorem lightP {rs rs' : List TR} (h : tys rs' = tys rs) (hl : ∀ r ∈ rs, r.light) : ∀ r ∈ rs', r.light := by
  intro r hr
  obtain ⟨q, hq, -, e⟩ := tysP h r hr
  have h1 := hl q hq
  refine ⟨by rw [← rls_len, e, rls_len]; exact h1.1, fun x hx => ?_⟩
  obtain ⟨y, hy, -, e2⟩ := rlsP e x hx
  have h2 := h1.2 y hy
  exact ⟨by rw [← exs_len, e2, exs_len]; exact h2.1, exsP e2 h2.2⟩
theorem fitsP {rs rs' : List TR} (h : tys rs' = tys rs) (hl : ∀ r ∈ rs, r.fits) : ∀ r ∈ rs', r.fits := by
  intro r hr
  obtain ⟨q, hq, en, e⟩ := tysP h r hr
  have h1 := hl q hq
  refine ⟨by rw [← en]; exact h1.1, by rw [← rls_len, e, rls_len]; exact h1.2.1, fun x hx => ?_⟩
  obtain ⟨y, hy, en2, e2⟩ := rlsP e x hx
  have h2 := h1.2.2 y hy
  exact ⟨by rw [← en2]; exact h2.1, by rw [← exs_len, e2, exs_len]; exact h2.2.1, exsP e2 h2.2.2⟩
theorem lenP {rs rs' : List TR} (h : tys rs' = tys rs) : rs'.length = rs.length := by rw [← tys_len, h, tys_len]
theorem keepB {w W w' : World} {B : Nat} (h : Below B w W) (hB : B ≤ W.heap.size) (hb : Below W.heap.size W w') : Below B w w' := h.trans (hb.mono hB)

set_option maxRecDepth 100000 in
set_option maxHeartbeats 8000000 in
theorem walk (ad : Option Addr) (cap : Nat) (rs : List TR) (ad' : Option Addr) (cap' : Nat) (cs : List (Int × Tp)) (n0 : Int) (w : World) (hE : Errs w) (hmr : rs.length ≤ maxLen) (hs : SlT w ad rs) (hf : ∀ r ∈ rs, r.fits) (hm : cs.length ≤ maxLen) (hst : SlC w ad' cs) (hft : ∀ c ∈ cs, c.2.fits) :
    Calls Tryz.prog 5 #[.slice ad rs.length cap, .slice ad' cs.length cap', .int .i64 n0] w fun e w' => e = .returned (.bool true) ∧ Below w.heap.size w w' := by
  have HS := HID hs
  have HF := HID hf
  have HST := HID hst
  have HFT := HID hft
  have HER := HID hE
  clear hs hf hst hft hE
  go_enter Tryz.func5, Tryz.ntmps5
  go_wp2_with fail
  refine (szTypeS_w ad cap rs 1048576 _ hmr HS.out HF.out (by omega) (by omega)).mono ?_
  rintro e w1 ⟨⟨n, rfl, hn⟩, hb1⟩
  have HB1 := HID hb1
  clear hb1
  rcases hn with rfl | ⟨hn0, hn1, hn2, hn3⟩
  · go_wp2
    go_ret
    exact ⟨rfl, HB1.out⟩
  have HL := HID hn3
  have hlen : rs.length ≤ 1048576 := by omega
  have HWT : Hid (1 + wT rs ≤ 20000000) := by have := wT_sT rs; show _ ≤ _; omega
  clear hn3 hn2
  go_wp2_with fail
  refine (szChangeS_any ad' cap' cs n _ hm (HST.out.below HB1.out) HFT.out (by omega) (by omega)).mono ?_
  rintro e w2 ⟨⟨m, rfl, hq⟩, hb2⟩
  have HB2 : Hid (Below w.heap.size w w2) := keepB HB1.out HB1.out.size hb2
  clear hb2 HB1
  rcases hq with rfl | ⟨hq0, hq1, hq2⟩
  · go_wp2
    go_ret
    exact ⟨rfl, HB2.out⟩
  have hlt : cs.length ≤ 1048576 := by omega
  clear hq2 hq1 hn1
  obtain ⟨L, hL⟩ : ∃ L, tatL rs cs n0 = L := ⟨_, rfl⟩
  obtain ⟨q0, hQ⟩ : ∃ q0, tatQ rs cs n0 = q0 := ⟨_, rfl⟩
  have HLL := HID hL
  have HQQ := HID hQ
  have hl2 : L.length ≤ 1048576 := by rw [← hL]; exact Nat.le_trans (tatL_len _ _ _) (by omega)
  have hll : L.length ≤ maxLen := by unfold maxLen; omega
  clear hL hQ
  go_wp2_with fail
  refine (toTypeS_any ad cap rs _ hlen (HS.out.below HB2.out) HL.out).mono ?_
  rintro e w3 ⟨rs1, rfl, he1, hs1, hc1, hnw1, hb3⟩
  have HE1 := HID he1
  have HS1 := HID hs1
  have HB3 : Hid (Below w.heap.size w w3) := keepB HB2.out HB2.out.size hb3
  clear he1 hs1 hc1 hnw1 hb3 HB2
  go_wp2_with fail
  refine (toChangeS_any ad' cap' cs _ hlt (HST.out.below HB3.out)).mono ?_
  rintro e w4 ⟨rfl, F4⟩
  have HF4 := HID F4
  have HB4 : Hid (Below w.heap.size w w4) := keepB HB3.out HB3.out.size F4.below
  clear F4 HB3
  go_wp2_with fail
  refine (specTat_ans _ _ rs1 _ _ cs n0 _ (by rw [lenP HE1.out]; exact hlen) (HS1.out.below HF4.out.below) (lightP HE1.out HL.out) (fitsP HE1.out HF.out) hlt HF4.out.sl HFT.out).mono ?_
  rintro e w5 ⟨ad5, cap5, he5, hs5, hb5⟩
  rw [(tat_tys HE1.out cs n0).1, (tat_tys HE1.out cs n0).2, HLL.out, HQQ.out] at he5
  rw [(tat_tys HE1.out cs n0).1, HLL.out] at hs5
  subst he5
  have HB5 : Hid (Below w.heap.size w w5) := keepB HB4.out HB4.out.size hb5
  have HL5 := HID hs5
  clear hb5 hs5 HB4 HF4 HS1 HE1
  have s5 : w.heap.size ≤ w5.heap.size := HB5.out.size
  have Cw_w5 : Hid (Below w.heap.size w w5) := HB5
  have Cw5_w5 : Hid (Below w5.heap.size w5 w5) := Below.refl _ _
  go_wp2_with fail
  refine (toTypeS_o ad cap rs _ hlen (HS.out.below Cw_w5.out) HL.out).mono ?_
  rintro e w6 ⟨rs2, rfl, he2, hs2, hc2, hnw2, ho2, hf2, hlx2, hb6⟩
  have HE2 := HID he2
  have HS2 := HID hs2
  have HC2 := HID hc2
  have HO2 := HID ho2
  have HF2 := HID hf2
  have HL2 := HID hlx2
  have HSZ : Hid (∀ g, insT w5.heap.size rs2 g → w5.heap.size ≤ g ∧ g < w6.heap.size) := by
    rintro g (rfl | ⟨q, hq, h2⟩)
    · exact ⟨Nat.le_refl _, HL2.out⟩
    · have := HO2.out.2 q hq g h2; omega
  have Cw_w6 : Hid (Below w.heap.size w w6) := keepB Cw_w5.out Cw_w5.out.size hb6
  have Cw5_w6 : Hid (Below w5.heap.size w5 w6) := keepB Cw5_w5.out Cw5_w5.out.size hb6
  clear Cw_w5
  clear hb6 he2 hs2 hc2 ho2 hf2 hlx2 hnw2
  have Cw6_w6 : Hid (Below w6.heap.size w6 w6) := Below.refl _ _
  go_wp2_with fail
  refine (toChangeS_any ad' cap' cs _ hlt (HST.out.below Cw_w6.out)).mono ?_
  rintro e w7 ⟨rfl, F7⟩
  have HF7 := HID F7
  have Cw_w7 : Hid (Below w.heap.size w w7) := keepB Cw_w6.out Cw_w6.out.size F7.below
  have Cw5_w7 : Hid (Below w5.heap.size w5 w7) := keepB Cw5_w6.out Cw5_w6.out.size F7.below
  have Cw6_w7 : Hid (Below w6.heap.size w6 w7) := keepB Cw6_w6.out Cw6_w6.out.size F7.below
  clear Cw_w6
  clear F7
  have Cw7_w7 : Hid (Below w7.heap.size w7 w7) := Below.refl _ _
  go_wp2_with fail
  refine (implTat_ans _ _ rs2 _ _ _ cs n0 _ (HER.out.below Cw_w7.out) (by rw [lenP HE2.out]; exact hlen) (HS2.out.below Cw6_w7.out) (lightP HE2.out HL.out) (fitsP HE2.out HF.out) HC2.out hlt (Nat.le_refl _) HF7.out.lt HF7.out.row HFT.out).mono ?_
  rintro e w8 ⟨ad8, cap8, he8, hO8, hb8⟩
  rw [(tat_tys HE2.out cs n0).1, (tat_tys HE2.out cs n0).2, HLL.out, HQQ.out] at he8
  rw [(tat_tys HE2.out cs n0).1, HLL.out] at hO8
  subst he8
  have HO8 := HID hO8
  have Cw_w8 : Hid (Below w.heap.size w w8) := keepB Cw_w7.out Cw_w7.out.size hb8
  have Cw5_w8 : Hid (Below w5.heap.size w5 w8) := keepB Cw5_w7.out Cw5_w7.out.size hb8
  have Cw6_w8 : Hid (Below w6.heap.size w6 w8) := keepB Cw6_w7.out Cw6_w7.out.size hb8
  have Cw7_w8 : Hid (Below w7.heap.size w7 w8) := keepB Cw7_w7.out Cw7_w7.out.size hb8
  clear Cw_w7
  clear hb8 hO8
  have Cw8_w8 : Hid (Below w8.heap.size w8 w8) := Below.refl _ _
  go_wp2_with fail
  refine (eqTupleS_any ad8 ad5 cap8 cap5 L _ hll HO8.out.1 (HL5.out.below Cw5_w8.out)).mono ?_
  rintro e w9 ⟨rfl, hb9⟩
  have Cw_w9 : Hid (Below w.heap.size w w9) := keepB Cw_w8.out Cw_w8.out.size hb9
  have Cw5_w9 : Hid (Below w5.heap.size w5 w9) := keepB Cw5_w8.out Cw5_w8.out.size hb9
  have Cw6_w9 : Hid (Below w6.heap.size w6 w9) := keepB Cw6_w8.out Cw6_w8.out.size hb9
  have Cw7_w9 : Hid (Below w7.heap.size w7 w9) := keepB Cw7_w8.out Cw7_w8.out.size hb9
  have Cw8_w9 : Hid (Below w8.heap.size w8 w9) := keepB Cw8_w8.out Cw8_w8.out.size hb9
  clear Cw_w8
  clear hb9
  go_wp2_with fail
  refine (toTypeS_any ad cap rs _ hlen (HS.out.below Cw_w9.out) HL.out).mono ?_
  rintro e w10 ⟨rs3, rfl, he3, hs3, -, -, hb10⟩
  have Cw_w10 : Hid (Below w.heap.size w w10) := keepB Cw_w9.out Cw_w9.out.size hb10
  have Cw5_w10 : Hid (Below w5.heap.size w5 w10) := keepB Cw5_w9.out Cw5_w9.out.size hb10
  have Cw6_w10 : Hid (Below w6.heap.size w6 w10) := keepB Cw6_w9.out Cw6_w9.out.size hb10
  have Cw7_w10 : Hid (Below w7.heap.size w7 w10) := keepB Cw7_w9.out Cw7_w9.out.size hb10
  have Cw8_w10 : Hid (Below w8.heap.size w8 w10) := keepB Cw8_w9.out Cw8_w9.out.size hb10
  clear Cw_w9 Cw5_w9 Cw6_w9 Cw7_w9 Cw8_w9
  have HE3 := HID he3
  have HS3 := HID hs3
  clear hb10 he3 hs3
  go_wp2_with fail
  refine (eqTypeS_same _ _ _ _ rs2 rs3 _ (by rw [lenP HE2.out]; exact hlen) (by rw [HE3.out, HE2.out]) (HS2.out.below Cw6_w10.out) HS3.out (lightP HE2.out HL.out)).mono ?_
  rintro e w11 ⟨rfl, hb11⟩
  have Cw_w11 : Hid (Below w.heap.size w w11) := keepB Cw_w10.out Cw_w10.out.size hb11
  have Cw5_w11 : Hid (Below w5.heap.size w5 w11) := keepB Cw5_w10.out Cw5_w10.out.size hb11
  have Cw6_w11 : Hid (Below w6.heap.size w6 w11) := keepB Cw6_w10.out Cw6_w10.out.size hb11
  have Cw7_w11 : Hid (Below w7.heap.size w7 w11) := keepB Cw7_w10.out Cw7_w10.out.size hb11
  have Cw8_w11 : Hid (Below w8.heap.size w8 w11) := keepB Cw8_w10.out Cw8_w10.out.size hb11
  clear Cw_w10 Cw5_w10 Cw6_w10 Cw7_w10 Cw8_w10
  clear hb11 HS3
  go_wp2_with fail
  refine (toChangeS_any ad' cap' cs _ hlt (HST.out.below Cw_w11.out)).mono ?_
  rintro e w12 ⟨rfl, F12⟩
  have HG12 := HID F12
  have Cw_w12 : Hid (Below w.heap.size w w12) := keepB Cw_w11.out Cw_w11.out.size F12.below
  have Cw5_w12 : Hid (Below w5.heap.size w5 w12) := keepB Cw5_w11.out Cw5_w11.out.size F12.below
  have Cw6_w12 : Hid (Below w6.heap.size w6 w12) := keepB Cw6_w11.out Cw6_w11.out.size F12.below
  have Cw7_w12 : Hid (Below w7.heap.size w7 w12) := keepB Cw7_w11.out Cw7_w11.out.size F12.below
  have Cw8_w12 : Hid (Below w8.heap.size w8 w12) := keepB Cw8_w11.out Cw8_w11.out.size F12.below
  clear Cw_w11 Cw5_w11 Cw6_w11 Cw7_w11 Cw8_w11
  clear F12
  go_wp2_with fail
  refine (eqChangeS_row _ _ _ _ _ _ cs _ hm (HF7.out.later Cw7_w12.out).row (HF7.out.later Cw7_w12.out).lt HG12.out.row HG12.out.lt).mono ?_
  rintro e w13 ⟨rfl, hb13⟩
  have Cw_w13 : Hid (Below w.heap.size w w13) := keepB Cw_w12.out Cw_w12.out.size hb13
  have Cw5_w13 : Hid (Below w5.heap.size w5 w13) := keepB Cw5_w12.out Cw5_w12.out.size hb13
  have Cw6_w13 : Hid (Below w6.heap.size w6 w13) := keepB Cw6_w12.out Cw6_w12.out.size hb13
  have Cw7_w13 : Hid (Below w7.heap.size w7 w13) := keepB Cw7_w12.out Cw7_w12.out.size hb13
  have Cw8_w13 : Hid (Below w8.heap.size w8 w13) := keepB Cw8_w12.out Cw8_w12.out.size hb13
  clear Cw_w12 Cw5_w12 Cw6_w12 Cw7_w12 Cw8_w12
  clear hb13 HG12
  have HW2T : Hid (1 + wT rs2 ≤ 1000000000) := by show _ ≤ _; rw [wT_tys HE2.out]; have := HWT.out; omega
  obtain ⟨M0, hM0⟩ : ∃ M0 : Nat, M0 = 1 + wT rs2 := ⟨_, rfl⟩
  have HM0 := HID hM0
  have HM1 : Hid (0 < M0 ∧ M0 + 7 * cs.length ≤ 1000000000) := by show _ ∧ _; rw [hM0, wT_tys HE2.out]; have := HWT.out; omega
  have h56 : w5.heap.size < w6.heap.size := HL2.out
  have h67 : w6.heap.size < w7.heap.size := HF7.out.lt
  have h613 : w6.heap.size ≤ w13.heap.size := Cw6_w13.out.size
  have h713 : w7.heap.size ≤ w13.heap.size := Cw7_w13.out.size
  have hc6 : Chg (fun _ => False) w6 w13 := Chg.of Cw6_w13.out
  have HX13 := HID (HF7.out.later Cw7_w13.out)
  have HO13 := HID (HO8.out.later Cw8_w13.out)
  have HL13 := HID (HL5.out.below Cw5_w13.out)
  have HSC := HID (HS2.out.below Cw6_w13.out)
  have HOC := HID (HO2.out.chg hc6)
  have HFC := HID (hc6.free _ HL2.out HF2.out)
  clear hM0 hc6
  go_wp2_with fail
  refine (markArg w5.heap.size _ rs2 _ HSC.out (by omega) HOC.out HFC.out (lightP HE2.out HL.out) (by rw [lenP HE2.out]; exact hlen) HW2T.out).mono ?_
  rintro e w14 ⟨he, hc14⟩
  rw [← HM0.out] at he
  subst he
  have HB14 : Hid (Below w.heap.size w w14) := Cw_w13.out.trans (hc14.below (fun g hg => Nat.le_trans s5 (HSZ.out g hg).1) Cw_w13.out.size)
  have HL14 : Hid (Sl w14 ad5 L) := HL13.out.chg hc14 (fun g o hne e hg => by
    have := (HSZ.out g hg).1
    have := sl_lt HL5.out hne e
    omega)
  have HO14 : Hid (OwnL w7.heap.size w14 ad8 L) := HO13.out.chg hc14 (fun g hge hg => by
    have := (HSZ.out g hg).2
    omega)
  have HX14 : Hid (∀ o, o < 7 * cs.length → (w14.cell? ⟨w6.heap.size, o, none⟩).isSome = true) := fun o ho => by
    rw [hc14.cell HX13.out.lt (fun hg => by have := (HSZ.out _ hg).2; omega)]
    exact HX13.out.there o (by omega)
  have HFX14 : Hid (Free w14 w6.heap.size) := hc14.free _ HX13.out.lt HX13.out.free
  have h14 : w13.heap.size ≤ w14.heap.size := hc14.size
  have hlt14 : w6.heap.size < w14.heap.size := by omega
  clear hc14 HSC HOC HFC HX13 HO13 HL13
  go_wp2_with fail
  refine (markChangeS_row w6.heap.size _ cs.length M0 _ hlt14 HFX14.out HX14.out HM1.out.1 HM1.out.2).mono ?_
  rintro e w15 ⟨rfl, hc15⟩
  have HB15 : Hid (Below w.heap.size w w15) := HB14.out.trans (hc15.below (fun g hg => by omega) HB14.out.size)
  have HL15 : Hid (Sl w15 ad5 L) := HL14.out.chg hc15 (fun g o hne e hg => by
    have := sl_lt HL5.out hne e
    omega)
  have HO15 : Hid (OwnL w7.heap.size w15 ad8 L) := HO14.out.chg hc15 (fun g hge hg => by
    omega)
  obtain ⟨M2, hM2⟩ : ∃ M2 : Nat, M2 = M0 + 7 * cs.length := ⟨_, rfl⟩
  rw [← hM2]
  have hk1 : ¬ ((M2 : Nat) : Int) < 0 := by omega
  clear hc15 hM2 HB14 HL14 HO14 HX14 HFX14
  go_wp2_with fail
  refine (eqTupleS_any ad8 ad5 cap8 cap5 L _ hll HO15.out.1 HL15.out).mono ?_
  rintro e w16 ⟨rfl, hb16⟩
  have HB16 : Hid (Below w.heap.size w w16) := HB15.out.trans (hb16.mono HB15.out.size)
  have HL16 : Hid (Sl w16 ad5 L) := HL15.out.below hb16
  have HO16 : Hid (OwnL w7.heap.size w16 ad8 L) := HO15.out.later hb16
  clear hb16 HB15 HL15 HO15
  go_wp2_with fail
  refine (markTupleS_any ad8 cap8 L 1 _ HO16.out.1 (fun h => by obtain ⟨g, e, -, hfr⟩ := HO16.out.2 h; exact ⟨g, e, hfr⟩) (by omega) (by omega)).mono ?_
  rintro e w17 ⟨rfl, hs17, hc17⟩
  have HM17 := HID hs17
  have hfar : ∀ g, (L ≠ [] ∧ ad8 = some ⟨g, 0, none⟩) → w7.heap.size ≤ g := fun g hg => by
    obtain ⟨g', e, h1, -⟩ := HO16.out.2 hg.1
    have e2 := hg.2
    rw [e] at e2; injection e2 with e2; injection e2 with e2 e3; omega
  have HB17 : Hid (Below w.heap.size w w17) := HB16.out.trans (hc17.below (fun g hg => by have := hfar g hg; omega) HB16.out.size)
  have HL17 : Hid (Sl w17 ad5 L) := HL16.out.chg hc17 (fun g o hne e hg => by
    have := hfar g hg
    have := sl_lt HL5.out hne e
    omega)
  clear hs17 hc17 hfar HB16 HL16 HO16
  go_wp2_with fail
  refine (heldTupleS_any ad8 cap8 L 1 _ HM17.out (by omega) (by omega)).mono ?_
  rintro e w18 ⟨rfl, hb18⟩
  have HB18 : Hid (Below w.heap.size w w18) := HB17.out.trans (hb18.mono HB17.out.size)
  have HL18 : Hid (Sl w18 ad5 L) := HL17.out.below hb18
  have HM18 : Hid (Sl w18 ad8 (mkT 1 L)) := HM17.out.below hb18
  have hk2 : ¬ ((1 + 6 * L.length : Nat) : Int) < 0 := by omega
  clear hb18 HB17 HL17 HM17
  go_wp2_with fail
  refine (toTypeS_any ad cap rs _ hlen (HS.out.below HB18.out) HL.out).mono ?_
  rintro e w19 ⟨rs4, rfl, he4, hs4, hc4, hnw4, hb19⟩
  have HE4 := HID he4
  have HS4 := HID hs4
  have HC4 := HID hc4
  have HB19 : Hid (Below w.heap.size w w19) := keepB HB18.out HB18.out.size hb19
  have HL19 : Hid (Sl w19 ad5 L) := HL18.out.below hb19
  have HM19 : Hid (Sl w19 ad8 (mkT 1 L)) := HM18.out.below hb19
  clear he4 hs4 hc4 hnw4 hb19 HB18 HL18 HM18
  go_wp2_with fail
  refine (toChangeS_any ad' cap' cs _ hlt (HST.out.below HB19.out)).mono ?_
  rintro e w20 ⟨rfl, F20⟩
  have HF20 := HID F20
  have HB20 : Hid (Below w.heap.size w w20) := keepB HB19.out HB19.out.size F20.below
  have HL20 : Hid (Sl w20 ad5 L) := HL19.out.below F20.below
  have HM20 : Hid (Sl w20 ad8 (mkT 1 L)) := HM19.out.below F20.below
  clear F20 HB19 HL19 HM19
  go_wp2_with fail
  refine (implTat_ans _ _ rs4 _ _ _ cs n0 _ (HER.out.below HB20.out) (by rw [lenP HE4.out]; exact hlen) (HS4.out.below HF20.out.below) (lightP HE4.out HL.out) (fitsP HE4.out HF.out) HC4.out hlt (Nat.le_refl _) HF20.out.lt HF20.out.row HFT.out).mono ?_
  rintro e w21 ⟨ad21, cap21, he21, hO21, hb21⟩
  rw [(tat_tys HE4.out cs n0).1, (tat_tys HE4.out cs n0).2, HLL.out, HQQ.out] at he21
  rw [(tat_tys HE4.out cs n0).1, HLL.out] at hO21
  subst he21
  have HB21 : Hid (Below w.heap.size w w21) := keepB HB20.out HB20.out.size hb21
  have HL21 : Hid (Sl w21 ad5 L) := HL20.out.below hb21
  have HM21 : Hid (Sl w21 ad8 (mkT 1 L)) := HM20.out.below hb21
  have HO21 := HID hO21.1
  clear hb21 hO21 HB20 HL20 HM20 HF20 HS4 HE4 HC4
  go_wp2_with fail
  refine (eqTupleS_any ad21 ad5 cap21 cap5 L _ hll HO21.out HL21.out).mono ?_
  rintro e w22 ⟨rfl, hb22⟩
  have HB22 : Hid (Below w.heap.size w w22) := HB21.out.trans (hb22.mono HB21.out.size)
  have HM22 : Hid (Sl w22 ad8 (mkT 1 L)) := HM21.out.below hb22
  clear hb22 HB21 HL21 HM21 HO21
  go_wp2_with fail
  refine (heldTupleS_any ad8 cap8 L 1 _ HM22.out (by omega) (by omega)).mono ?_
  rintro e w23 ⟨rfl, hb23⟩
  have HB23 : Hid (Below w.heap.size w w23) := HB22.out.trans (hb23.mono HB22.out.size)
  clear hb23 HB22 HM22
  go_wp2
  go_ret
  exact ⟨rfl, HB23.out⟩

theorem own : ownKnob Tryz.prog.godebug = none := by kernel_rfl
theorem laidOut : laidOutB Tryz.prog = true := by kernel_rfl
/-- the names of the listed variables -/
abbrev nm (i : Nat) : String := (Rows.fnExactTuplesAtSpec.vars[i]?).getD default
theorem n2 : Tryz.prog.globalNamed (nm 0) = some 2 := by kernel_rfl
theorem n3 : Tryz.prog.globalNamed (nm 2) = some 3 := by kernel_rfl
theorem n4 : Tryz.prog.globalNamed (nm 3) = some 4 := by kernel_rfl
theorem n5 : Tryz.prog.globalNamed (nm 1) = some 5 := by kernel_rfl
theorem n6 : Tryz.prog.globalNamed (nm 4) = some 6 := by kernel_rfl
theorem t2 : (Tryz.prog.globals[2]?).map (·.type) = some 70 := by kernel_rfl
theorem t3 : (Tryz.prog.globals[3]?).map (·.type) = some 70 := by kernel_rfl
theorem t4 : (Tryz.prog.globals[4]?).map (·.type) = some 70 := by kernel_rfl
theorem t5 : (Tryz.prog.globals[5]?).map (·.type) = some 70 := by kernel_rfl
theorem t6 : (Tryz.prog.globals[6]?).map (·.type) = some 70 := by kernel_rfl
theorem one_of {l : Array Value} {u : TypeId} {v : Value} (h : l.toList = [.iface u v]) : l = #[.iface u v] := by
  rw [← Array.toArray_toList (xs := l), h]
/-- what the card's condition gives: each of the five variables holds an error -/
theorem errs_of {W : World} (h : laidMetH Tryz.prog Rows.fnExactTuplesAtRow.laid W) :
    ∃ (u2 u3 u4 u5 u6 : TypeId) (v2 v3 v4 v5 v6 : Value), W.var? Tryz.prog (nm 0) = some #[.iface u2 v2] ∧ W.var? Tryz.prog (nm 2) = some #[.iface u3 v3] ∧ W.var? Tryz.prog (nm 3) = some #[.iface u4 v4] ∧ W.var? Tryz.prog (nm 1) = some #[.iface u5 v5] ∧ W.var? Tryz.prog (nm 4) = some #[.iface u6 v6] := by
  rw [MakeChecks.laidMetH_plain _ _ _ (by kernel_rfl)] at h
  obtain ⟨ps, ⟨g0, k0, cs0, f0, p0, q0, hg0, ht0, hv0, hd0, ⟨g1, k1, cs1, f1, p1, q1, hg1, ht1, hv1, hd1, ⟨g2, k2, cs2, f2, p2, q2, hg2, ht2, hv2, hd2, ⟨g3, k3, cs3, f3, p3, q3, hg3, ht3, hv3, hd3, ⟨g4, k4, cs4, f4, p4, q4, hg4, ht4, hv4, hd4, _, _⟩, _⟩, _⟩, _⟩, _⟩, _, _⟩ := h
  obtain rfl := Option.some.inj (n2.symm.trans hg0)
  obtain rfl := Option.some.inj (n3.symm.trans hg1)
  obtain rfl := Option.some.inj (n4.symm.trans hg2)
  obtain rfl := Option.some.inj (n5.symm.trans hg3)
  obtain rfl := Option.some.inj (n6.symm.trans hg4)
  obtain rfl := Option.some.inj (t2.symm.trans ht0)
  obtain rfl := Option.some.inj (t3.symm.trans ht1)
  obtain rfl := Option.some.inj (t4.symm.trans ht2)
  obtain rfl := Option.some.inj (t5.symm.trans ht3)
  obtain rfl := Option.some.inj (t6.symm.trans ht4)
  obtain ⟨_, u2, v2, e0, _, _⟩ := iface_of_trod Tryz.underlying70 hd0
  obtain ⟨_, u3, v3, e1, _, _⟩ := iface_of_trod Tryz.underlying70 hd1
  obtain ⟨_, u4, v4, e2, _, _⟩ := iface_of_trod Tryz.underlying70 hd2
  obtain ⟨_, u5, v5, e3, _, _⟩ := iface_of_trod Tryz.underlying70 hd3
  obtain ⟨_, u6, v6, e4, _, _⟩ := iface_of_trod Tryz.underlying70 hd4
  rw [one_of e0] at hv0
  rw [one_of e1] at hv1
  rw [one_of e2] at hv2
  rw [one_of e3] at hv3
  rw [one_of e4] at hv4
  exact ⟨u2, u3, u4, u5, u6, v2, v3, v4, v5, v6, hv0, hv1, hv2, hv3, hv4⟩
theorem var_below {W W' : World} {n : String} {cs : Array Value} (h : W.var? Tryz.prog n = some cs) (hb : Below W.heap.size W W') : W'.var? Tryz.prog n = some cs := by
  unfold World.var? at h ⊢
  cases hg : Tryz.prog.globalNamed n with
  | none => simp [hg] at h
  | some g =>
    simp only [hg, Option.bind_some] at h ⊢
    have hlt : g < W.heap.size := by
      rcases Nat.lt_or_ge g W.heap.size with h' | h'
      · exact h'
      · simp [Array.getElem?_eq_none h'] at h
    rw [hb.block g hlt]
    exact h
theorem vars_read {H : Type} (enc : TypeId × Value → H) {W : World} {x2 x3 x4 x5 x6 : Value} (h2 : W.var? Tryz.prog (nm 0) = some #[x2]) (h3 : W.var? Tryz.prog (nm 2) = some #[x3]) (h4 : W.var? Tryz.prog (nm 3) = some #[x4]) (h5 : W.var? Tryz.prog (nm 1) = some #[x5]) (h6 : W.var? Tryz.prog (nm 4) = some #[x6]) (i2 : IsIface x2) (i3 : IsIface x3) (i4 : IsIface x4) (i5 : IsIface x5) (i6 : IsIface x6) (sp : Nat → Bool) :
    DataW.TrodVars enc Tryz.prog W sp Rows.fnExactTuplesAtSpec.vars [tok enc x2, tok enc x5, tok enc x3, tok enc x4, tok enc x6] [.cell 2 0, .cell 5 0, .cell 3 0, .cell 4 0, .cell 6 0] :=
  ⟨2, 70, #[x2], 1, [], _, n2, t2, h2, trod_held Tryz.underlying70 i2 0,
    ⟨5, 70, #[x5], 1, [], _, n5, t5, h5, trod_held Tryz.underlying70 i5 0,
      ⟨3, 70, #[x3], 1, [], _, n3, t3, h3, trod_held Tryz.underlying70 i3 0,
        ⟨4, 70, #[x4], 1, [], _, n4, t4, h4, trod_held Tryz.underlying70 i4 0,
          ⟨6, 70, #[x6], 1, [], [], n6, t6, h6, trod_held Tryz.underlying70 i6 0, rfl, rfl⟩, rfl⟩, rfl⟩, rfl⟩, rfl⟩
theorem cell_lt {W : World} {g : Nat} {v : Value} (h : W.cell? ⟨g, 0, none⟩ = some v) : g < W.heap.size := World.block_lt_of_cell? W ⟨g, 0, none⟩ h

set_option maxRecDepth 100000 in
theorem lifted (os : Os) (started : os.Started) (H : Type) (enc : TypeId × Value → H) :
    ReturnsInHanded {} Tryz.checked os 5 .any (fun w args => (Rows.fnExactTuplesAtSpec.pre enc Tryz.prog Tryz.f5 Rows.fnExactTuplesAtRow.domain false w args ∧ laidMetH Tryz.prog Rows.fnExactTuplesAtRow.laid w) ∧ sizedMet enc Tryz.prog Tryz.f5 (OpenSpec.ofChange Rows.fnExactTuplesAtSpec) false w args)
      (Rows.fnExactTuplesAtSpec.post enc Tryz.prog Tryz.f5 false true false false) := by
  refine returnsInHanded_of_change_and (C := Tryz.checked) (X := fun w _ => laidMetH Tryz.prog Rows.fnExactTuplesAtRow.laid w) (fun _ _ _ hh h => h.of_heap hh) own started (by kernel_rfl) Tryz.func5
    (ChangeSpec.witness_shaped (enc := enc) (C := Tryz.checked) (os := os) (X := fun w _ => laidMetH Tryz.prog Rows.fnExactTuplesAtRow.laid w) false (World.laidAll Tryz.prog os Rows.fnExactTuplesAtRow.laid) #[.slice none 0 0, .slice none 0 0, .int .i64 0] 8 (World.laidAll_os _ _ _)
      (World.shaped_of_ZipB (by kernel_rfl) (by kernel_rfl)) (by kernel_rfl) (by kernel_rfl) (by kernel_rfl)
      (by rw [MakeChecks.laidMetH_plain _ _ _ (by kernel_rfl)]; exact laidMet_laidAll _ (by kernel_rfl) (by kernel_rfl))) ?_
  intro W base args ds gs before hval0 hW _ _ hL _
  have hval : ∀ (j : Nat) t v, Tryz.f5.params[j]? = some t → args[j]? = some v → Value.okWide Tryz.prog W .any base t v := hval0
  have hW' := hW
  obtain ⟨p, q, hA0, hV, rfl, hfz, hnd⟩ := hW
  have hA : DataW.TrodAll enc Tryz.prog W 0 (fun _ => true) true Tryz.f5.params.toList args.toList ds p := hA0
  rw [Tryz.params5] at hA hval
  obtain ⟨v0, vs0, d0, ds0, p0, q0, hargs, rfl, rfl, h0, r0⟩ := trodAll_cons hA
  obtain ⟨v1, vs1, d1, ds1, p1, q1, rfl, rfl, rfl, h1, r1⟩ := trodAll_cons r0
  obtain ⟨v2, vs2, d2, ds2, p2, q2, rfl, rfl, rfl, h2, r2⟩ := trodAll_cons r1
  obtain ⟨rfl, rfl, rfl⟩ := trodAll_nil r2
  obtain rfl : args = #[v0, v1, v2] := by cases args; simp_all
  obtain ⟨y2, y3, y4, y5, y6, z2, z3, z4, z5, z6, e2, e3, e4, e5, e6⟩ := errs_of hL
  obtain ⟨rfl, rfl⟩ := hV.unique (vars_read enc e2 e3 e4 e5 e6 trivial trivial trivial trivial trivial _)
  have k0 := h0
  have lt0 : ∀ x ∈ p0, x.block < W.heap.size := by obtain ⟨m, hm⟩ := k0; exact DataW.trod_lt m _ _ _ hm
  obtain ⟨ad0, len0, cap0, hv0⟩ := okWide_slice Tryz.underlying38 (hval 0 38 v0 rfl rfl)
  subst hv0
  obtain ⟨fuel0, hf0⟩ := h0
  obtain ⟨rs0, hl0, hsl0, hft0, hm0⟩ := open_types (by simpa [Value.cells] using hf0)
  subst hl0
  have k1 := h1
  have lt1 : ∀ x ∈ p1, x.block < W.heap.size := by obtain ⟨m, hm⟩ := k1; exact DataW.trod_lt m _ _ _ hm
  obtain ⟨ad1, len1, cap1, hv1⟩ := okWide_slice Tryz.underlying55 (hval 1 55 v1 rfl rfl)
  subst hv1
  obtain ⟨fuel1, hf1⟩ := h1
  obtain ⟨cs1, hl1, hsl1, hft1, hm1⟩ := open_chgs (by simpa [Value.cells] using hf1)
  subst hl1
  obtain ⟨n0, rfl, rfl, rfl, wn⟩ := open_int Tryz.underlying2 (hval 2 2 v2 rfl rfl) h2
  have c2 : W.cell? ⟨2, 0, none⟩ = some (.iface y2 z2) := by simpa using World.var?_cell n2 e2 0
  have c3 : W.cell? ⟨3, 0, none⟩ = some (.iface y3 z3) := by simpa using World.var?_cell n3 e3 0
  have c4 : W.cell? ⟨4, 0, none⟩ = some (.iface y4 z4) := by simpa using World.var?_cell n4 e4 0
  have c5 : W.cell? ⟨5, 0, none⟩ = some (.iface y5 z5) := by simpa using World.var?_cell n5 e5 0
  have c6 : W.cell? ⟨6, 0, none⟩ = some (.iface y6 z6) := by simpa using World.var?_cell n6 e6 0
  have hE : Errs W := fun g hg2 hg6 => by
    have hc : g = 2 ∨ g = 3 ∨ g = 4 ∨ g = 5 ∨ g = 6 := by omega
    rcases hc with rfl | rfl | rfl | rfl | rfl
    · exact ⟨cell_lt c2, _, _, c2⟩
    · exact ⟨cell_lt c3, _, _, c3⟩
    · exact ⟨cell_lt c4, _, _, c4⟩
    · exact ⟨cell_lt c5, _, _, c5⟩
    · exact ⟨cell_lt c6, _, _, c6⟩
  clear hA0 hval0
  refine (walk ad0 cap0 rs0 ad1 cap1 cs1 n0 W hE hm0 hsl0 hft0 hm1 hsl1 hft1).mono fun e W' ⟨he, bel⟩ => ?_
  subst he
  exact ⟨_, rfl, _, _, _, [], _, _, hW', trodAll_mk1 (shut_bool Tryz.underlying4 _), (trodAll_cons_mk (Below.trod laidOut (by kernel_rfl) (of_decide_eq_true (by kernel_rfl)) k0 bel lt0) (trodAll_cons_mk (Below.trod laidOut (by kernel_rfl) (of_decide_eq_true (by kernel_rfl)) k1 bel lt1) (trodAll_cons_mk (shut_int Tryz.underlying2 wn) trodAll_mk0))), vars_read enc (var_below e2 bel) (var_below e3 bel) (var_below e4 bel) (var_below e5 bel) (var_below e6 bel) trivial trivial trivial trivial trivial _, bel.frame _, fun h => by cases h⟩

theorem over : Rows.fnExactTuplesAtRow.holds Tryz.pinned (OpenSpec.ofChange Rows.fnExactTuplesAtSpec) :=
  OpenClaim.holds_of_wide 5 Tryz.f5 rfl rfl rfl rfl rfl rfl rfl ⟨rfl, rfl, rfl, rfl, rfl⟩ rfl rfl rfl rfl rfl (by kernel_rfl) Tryz.func5 (by kernel_rfl)
    (of_decide_eq_true (by kernel_rfl)) (by unfold Func.isWrapper; first | (rw [if_pos (by decide +kernel)]; kernel_rfl) | (rw [if_neg (by decide +kernel)]; exact ⟨rfl, rfl⟩))
    (fun os started H enc _ => lifted os started H enc)
theorem card : Rows.FnExactTuplesAtCardSaid :=
  Claim7.holds_tied_plain_at .later [] [.sentinel, .sentinel, .sentinel, .sentinel, .sentinel] true _ true over (fun _ h => by cases h) (by kernel_rfl) (fun _ h => by cases h) fnExactTuplesAt_row_tie rfl ⟨rfl, rfl⟩ (by kernel_rfl) rfl
    (fun f fn hf hfn => by
      obtain rfl : f = 5 := Option.some.inj ((show Tryz.prog.funcNamed Rows.fnExactTuplesAtRow.func = some 5 by kernel_rfl).symm.trans hf) |>.symm
      obtain rfl : fn = Tryz.f5 := (Option.some.inj (Tryz.func5.symm.trans hfn)).symm
      exact ⟨by kernel_rfl, fun j t ht => by
        rw [Tryz.params5] at ht
        have hm : t ∈ [38, 55, 2] := by simpa using Array.mem_of_getElem? ht
        have hall : ([38, 55, 2].all fun u => !Tryz.prog.wantsStandIn u) = true := by kernel_rfl
        exact (show Tryz.prog.wantsStandIn t = false by simpa using List.all_eq_true.1 hall t hm)⟩)
    (by kernel_rfl)

end Go.Proofs.YtpnjoniolfmbnaaGreatDoor.fnExactTuplesAt
namespace Go.Proofs.YtpnjoniolfmbnaaGreatDoor
theorem FnExactTuplesAt_holds : Rows.FnExactTuplesAtCardSaid := fnExactTuplesAt.card
end Go.Proofs.YtpnjoniolfmbnaaGreatDoor
