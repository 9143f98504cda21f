/- Proved here: FnExactCrash answers true for every disk, every list of numbers and every number and leaves its arguments as they were, with no condition on them. -/
import Derived.Test.YtbfimfmfdllejaaCrashDk2
import Derived.Test.YtbfimfmfdllejaaLawDk
import Derived.Test.YtbfimfmfdllejaaDkInts3
namespace Go.Proofs.Ytbfimfmfdllejaa.fnExactCrash
open Go.ChangeShapes Go.WideShapes Go.ChangeAt Go.RowKit Go.Joins
open Go.ChangeMaps (open_string shut_string)
set_option linter.unusedVariables false

theorem crL_len {ls ss : List Fl} {os : List Dop} {ks : List Int} {t : Int} : (crL ls ss os ks t).length ≤ 1048576 := by
  unfold crL
  split
  · rename_i h
    simp only [crB, Bool.and_eq_true] at h
    have := (filesB_facts h.2).1
    omega
  · exact Nat.zero_le _
set_option maxRecDepth 8000 in
set_option maxHeartbeats 16000000 in
theorem walk (adL adS adO : Option Addr) (capL capS capO : Nat) (ls ss : List Fl) (os : List Dop) (adK : Option Addr) (capK : Nat) (ks : List Int) (t : Int) (w : World) (H : Dk w adL adS adO ls ss os w) (fl : ∀ f ∈ ls, f.fits) (fs : ∀ f ∈ ss, f.fits) (fo : ∀ f ∈ os, f.fits) (ml : ls.length ≤ maxLen) (ms : ss.length ≤ maxLen) (mo : os.length ≤ maxLen) (mk : ks.length ≤ maxLen) (hK : SlK w adK ks) (ht : (Lit.int .i64 t).wf = true) :
    Calls Try.prog 4 #[.agg #[.slice adL ls.length capL, .slice adS ss.length capS, .slice adO os.length capO], .slice adK ks.length capK, .int .i64 t] w fun e w' => e = .returned (.bool true) ∧ Below w.heap.size w w' := by
  obtain ⟨W, hW⟩ : ∃ W, W = w.alloc (.cells #[.slice adL ls.length capL, .slice adS ss.length capS, .slice adO os.length capO] 25) := ⟨_, rfl⟩
  have C0 : Hid (Cl w (.slice adL ls.length capL) (.slice adS ss.length capS) (.slice adO os.length capO) W) := by rw [hW]; exact cl_new _ _ _ _ _
  have K0 : Hid (Dk w adL adS adO ls ss os W) := H.later (by rw [hW]; exact (Below.refl _ _).alloc (Nat.le_refl _) _)
  have HH := HIDk H
  have HFL := HIDk fl
  have HFS := HIDk fs
  have HFO := HIDk fo
  clear H fl fs fo
  have HK := HIDk hK
  unfold maxLen at mk
  clear hK
  by_cases hbig : 1048576 < ks.length
  · have hd : decide ((1048576 : Int) < (ks.length : Int)) = true := by simp; omega
    go_enter Try.func4, Try.ntmps4
    go_wp2
    rw [← hW]
    go_ret
    exact ⟨rfl, K0.out.bel⟩
  have hk2 : ks.length ≤ 1048576 := by omega
  have hdk : decide ((1048576 : Int) < (ks.length : Int)) = false := by simp; omega
  go_enter Try.func4, Try.ntmps4
  go_wp2_with fail
  rw [← hW]
  clear hW
  refine (szDisk_any adL adS adO capL capS capO ls ss os 1048576 W ml ms mo (dk_self K0.out) HFL.out HFS.out HFO.out (by decide) (by decide)).mono ?_
  rintro e w1 ⟨⟨n1, rfl, hn1⟩, hb1⟩
  have K1 := HIDk (K0.out.later hb1)
  have C1 := HIDk (C0.out.later hb1)
  clear hb1 K0 C0
  rcases hn1 with rfl | ⟨h10, h11, ⟨pl1, pl2⟩, ⟨ps1, ps2⟩, po1, po2⟩
  · go_wp2
    go_ret
    exact ⟨rfl, K1.out.bel⟩
  have PL := HIDk (small2 pl2)
  have PS := HIDk (small2 ps2)
  have PO := HIDk po2
  clear pl2 ps2 po2
  have d1 : decide (n1 < 0) = false := by simp; omega
  obtain ⟨z0, z1, z2, z3⟩ := C1.out
  go_wp2_with fail
  refine (toDisk_any adL adS adO capL capS capO ls ss os w1 pl1 ps1 po1 (dk_self K1.out)).mono ?_
  rintro e w2 ⟨gL, gS, gO, rfl, -, -, -, sL, sS, sO, hb2⟩
  have K2 := HIDk (K1.out.later hb2)
  have C2 := HIDk (C1.out.later hb2)
  have D2 : Hid (Dk w2 (some ⟨gL, 0, none⟩) (some ⟨gS, 0, none⟩) (some ⟨gO, 0, none⟩) ls ss os w2) := ⟨Below.refl _ _, sL, sS, sO⟩
  clear hb2 sL sS sO K1 C1 z0 z1 z2 z3
  go_wp2_with fail
  refine (toInt64S_any adK capK ks w2 hk2 (HK.out.below K2.out.bel)).mono ?_
  rintro e w2b ⟨rfl, hsk2, -, hbk2⟩
  replace K2 := HIDk (K2.out.later hbk2)
  replace C2 := HIDk (C2.out.later hbk2)
  have D2b := HIDk (dk_self (D2.out.later hbk2))
  have HSK := HIDk hsk2
  clear hsk2 hbk2
  go_wp2_with fail
  refine (specCrash_any _ _ _ _ _ _ _ _ ls ss os ks t w2b pl1 ps1 po1 hk2 D2b.out (fun h => by cases h) PL.out PS.out PO.out HSK.out).mono ?_
  rintro e w3 ⟨v0, rfl, ⟨a1, a2, a3, p1, p2, p3, rfl, hS0, -⟩, hb3⟩
  have K3 := HIDk (K2.out.later hb3)
  have C3 := HIDk (C2.out.later hb3)
  obtain ⟨ys, hys⟩ : ∃ ys, ys = crL ls ss os ks t := ⟨_, rfl⟩
  rw [← hys] at hS0
  have lys : ys.length ≤ 1048576 := by rw [hys]; exact crL_len
  have HYS := HIDk hys
  obtain ⟨cc, hcc⟩ : ∃ cc, cc = crB ls ss os ks t := ⟨_, rfl⟩
  have HCC := HIDk hcc
  rw [← hcc]
  clear hcc
  have R0 : Hid (∀ g, InD a1 a2 a3 ys ys [] g → w.heap.size < g ∧ g < w3.heap.size) := fun g hg => by have := hS0.inD hg; have := C2.out.lt; omega
  have O3 := HIDk (hS0.mono (Nat.zero_le _))
  have n3 : w.heap.size < w3.heap.size := C3.out.lt
  rw [← hys]
  clear hb3 hS0 K2 C2 D2 hys
  obtain ⟨X4, hX4⟩ : ∃ X4, X4 = w3.alloc (.cells #[.slice a1 ys.length p1, .slice a2 ys.length p2, .slice a3 0 p3] 33) := ⟨_, rfl⟩
  have hbX : Below w3.heap.size w3 X4 := by rw [hX4]; exact (Below.refl _ _).alloc (Nat.le_refl _) _
  have C4 : Hid (Cl w3 (.slice a1 ys.length p1) (.slice a2 ys.length p2) (.slice a3 0 p3) X4) := by rw [hX4]; exact cl_new _ _ _ _ _
  have K4 := HIDk (K3.out.later hbX)
  have A4 := HIDk (C3.out.later hbX)
  have O4 := HIDk (O3.out.below hbX)
  have n4 : X4.heap.size = w3.heap.size + 1 := by rw [hX4]; simp
  clear hbX K3 C3 O3
  obtain ⟨z0, z1, z2, z3⟩ := A4.out
  rw [hX4] at z1 z2 z3
  go_wp2_with fail
  rw [← hX4]
  clear hX4 z0 z1 z2 z3
  refine (toDisk_any adL adS adO capL capS capO ls ss os X4 pl1 ps1 po1 (dk_self K4.out)).mono ?_
  rintro e w5 ⟨qL, qS, qO, rfl, g1, g2, g3, sL, sS, sO, hb5⟩
  have OX := toPost_own g1 g2 g3 sL sS sO
  have RX : Hid (∀ g, InD (some ⟨qL, 0, none⟩) (some ⟨qS, 0, none⟩) (some ⟨qO, 0, none⟩) ls ss os g → w3.heap.size < g ∧ g < w5.heap.size) := fun g hg => by have := OX.inD hg; omega
  have n5 : w3.heap.size < w5.heap.size := by have := hb5.size; omega
  have K5 := HIDk (K4.out.later hb5)
  have A5 := HIDk (A4.out.later hb5)
  have C5 := HIDk (C4.out.later hb5)
  have O5 := HIDk (O4.out.below hb5)
  have OX5 := HIDk (OX.mono (Nat.zero_le _))
  clear hb5 OX g1 g2 g3 sL sS sO K4 A4 C4 O4 n4
  obtain ⟨X5, hX5⟩ : ∃ X5, X5 = w5.alloc (.cells #[.slice (some ⟨qL, 0, none⟩) ls.length ls.length, .slice (some ⟨qS, 0, none⟩) ss.length ss.length, .slice (some ⟨qO, 0, none⟩) os.length os.length] 33) := ⟨_, rfl⟩
  have hbX : Below w5.heap.size w5 X5 := by rw [hX5]; exact (Below.refl _ _).alloc (Nat.le_refl _) _
  have B5 : Hid (Cl w5 (.slice (some ⟨qL, 0, none⟩) ls.length ls.length) (.slice (some ⟨qS, 0, none⟩) ss.length ss.length) (.slice (some ⟨qO, 0, none⟩) os.length os.length) X5) := by rw [hX5]; exact cl_new _ _ _ _ _
  have K6 := HIDk (K5.out.later hbX)
  have A6 := HIDk (A5.out.later hbX)
  have C6 := HIDk (C5.out.later hbX)
  have O6 := HIDk (O5.out.below hbX)
  have OX6 := HIDk (OX5.out.below hbX)
  have n5' : X5.heap.size = w5.heap.size + 1 := by rw [hX5]; simp
  clear hbX K5 A5 C5 O5 OX5
  go_wp2_with fail
  rw [← hX5]
  clear hX5
  refine (toInt64S_any adK capK ks X5 hk2 (HK.out.below K6.out.bel)).mono ?_
  rintro e X5b ⟨rfl, hsk5, hfk5, hbk5⟩
  have KL5 := HIDk (KL.mk' hsk5 hfk5)
  have nK : X5.heap.size ≤ X5b.heap.size := hbk5.size
  have nX : w5.heap.size < X5.heap.size := by omega
  have nX2 := HIDk n5'
  clear n5'
  replace K6 := HIDk (K6.out.later hbk5)
  replace A6 := HIDk (A6.out.later hbk5)
  replace C6 := HIDk (C6.out.later hbk5)
  replace B5 := HIDk (B5.out.later hbk5)
  replace O6 := HIDk (O6.out.below hbk5)
  replace OX6 := HIDk (OX6.out.below hbk5)
  clear hsk5 hfk5 hbk5
  obtain ⟨-, b50, b51, b52⟩ := B5.out
  go_wp2_with fail
  clear b50 b51 b52
  refine (implCrash_any _ _ _ _ _ _ _ _ ls ss os ks t X5b pl1 ps1 po1 hk2 (own_dk OX6.out) PL.out PS.out PO.out KL5.out.sl).mono ?_
  rintro e w6 ⟨v6, rfl, ⟨b1, b2, b3, r1, r2, r3, rfl, hS6, -⟩, hb6⟩
  rw [← HYS.out] at hS6
  rw [← HYS.out, ← HCC.out]
  have RG : Hid (∀ g, InD b1 b2 b3 ys ys [] g → w5.heap.size < g ∧ g < w6.heap.size) := fun g hg => by have := hS6.inD hg; omega
  have n6 : w5.heap.size < w6.heap.size := by have := hb6.size; omega
  have RGK : Hid (∀ g, InD b1 b2 b3 ys ys [] g → X5b.heap.size ≤ g) := fun g hg => (hS6.inD hg).1
  have nK6 : X5b.heap.size ≤ w6.heap.size := hb6.size
  have nKK : Hid (ks ≠ [] → X5.heap.size < X5b.heap.size) := fun hn => (KL5.out.fr hn).1
  have KL6 := HIDk (KL5.out.below hb6)
  clear KL5
  have K7 := HIDk (K6.out.later hb6)
  have A7 := HIDk (A6.out.later hb6)
  have C7 := HIDk (C6.out.later hb6)
  have B7 := HIDk (B5.out.later hb6)
  have O7 := HIDk (O6.out.below hb6)
  have OX7 := HIDk (OX6.out.below hb6)
  have OG7 := HIDk (hS6.mono (Nat.zero_le _))
  clear hb6 hS6 K6 A6 C6 B5 O6 OX6
  obtain ⟨X6, hX6⟩ : ∃ X6, X6 = w6.alloc (.cells #[.slice b1 ys.length r1, .slice b2 ys.length r2, .slice b3 0 r3] 33) := ⟨_, rfl⟩
  have hbX : Below w6.heap.size w6 X6 := by rw [hX6]; exact (Below.refl _ _).alloc (Nat.le_refl _) _
  have L8 : Hid (LS w w3 w5 w6 (.slice adL ls.length capL) (.slice adS ss.length capS) (.slice adO os.length capO) (.slice a1 ys.length p1) (.slice a2 ys.length p2) (.slice a3 0 p3) (.slice (some ⟨qL, 0, none⟩) ls.length ls.length) (.slice (some ⟨qS, 0, none⟩) ss.length ss.length) (.slice (some ⟨qO, 0, none⟩) os.length os.length) (.slice b1 ys.length r1) (.slice b2 ys.length r2) (.slice b3 0 r3) a1 a2 a3 ys ys [] X6) := ⟨A7.out.later hbX, C7.out.later hbX, B7.out.later hbX, by rw [hX6]; exact cl_new _ _ _ _ _, (K7.out.later hbX).bel, O7.out.below hbX⟩
  have OX8 := HIDk (OX7.out.below hbX)
  have KL8 := HIDk (KL6.out.below hbX)
  clear KL6
  have OG8 := HIDk (OG7.out.below hbX)
  clear hbX K7 A7 C7 B7 O7 OX7 OG7
  obtain ⟨-, c40, c41, c42⟩ := L8.out.c4
  rw [hX6] at c40 c41 c42
  go_wp2_with fail
  rw [← hX6]
  clear hX6 c40 c41 c42
  refine (eqDisk_same _ _ _ _ _ _ _ _ _ _ _ _ ys ys [] X6 lys lys (Nat.zero_le _) (own_dk OG8.out) (own_dk L8.out.own)).mono ?_
  rintro e w9 ⟨rfl, hb9⟩
  have L9 := HIDk (L8.out.later hb9)
  have OX9 := HIDk (OX8.out.below hb9)
  have KL9 := HIDk (KL8.out.below hb9)
  clear KL8
  have OG9 := HIDk (OG8.out.below hb9)
  clear hb9 L8 OX8 OG8
  have hdr : Below w9.heap.size w9 w9.drew := (Below.refl _ _).drew
  have L9d := HIDk (L9.out.later hdr)
  have OXd := HIDk (OX9.out.below hdr)
  have KLd := HIDk (KL9.out.below hdr)
  clear KL9
  have OGd := HIDk (OG9.out.below hdr)
  have H0 : w9.drew.cell? ⟨w.heap.size, 0, none⟩ = some (.slice adL ls.length capL) ∧ w9.drew.cell? ⟨w.heap.size, 1, none⟩ = some (.slice adS ss.length capS) ∧ w9.drew.cell? ⟨w.heap.size, 2, none⟩ = some (.slice adO os.length capO) ∧ w9.drew.cell? ⟨w5.heap.size, 0, none⟩ = some (.slice (some ⟨qL, 0, none⟩) ls.length ls.length) ∧ w9.drew.cell? ⟨w5.heap.size, 1, none⟩ = some (.slice (some ⟨qS, 0, none⟩) ss.length ss.length) ∧ w9.drew.cell? ⟨w5.heap.size, 2, none⟩ = some (.slice (some ⟨qO, 0, none⟩) os.length os.length) ∧ w.heap.size < w9.drew.heap.size ∧ w5.heap.size < w9.drew.heap.size := ⟨L9d.out.c1.c0, L9d.out.c1.c1, L9d.out.c1.c2, L9d.out.c5.c0, L9d.out.c5.c1, L9d.out.c5.c2, L9d.out.c1.lt, L9d.out.c5.lt⟩
  clear hdr L9 OX9 OG9
  go_wp2_with fail
  go_region_held3 (fun w' => w'.cell? ⟨w.heap.size, 0, none⟩ = some (.slice adL ls.length capL) ∧ w'.cell? ⟨w.heap.size, 1, none⟩ = some (.slice adS ss.length capS) ∧ w'.cell? ⟨w.heap.size, 2, none⟩ = some (.slice adO os.length capO) ∧ w'.cell? ⟨w5.heap.size, 0, none⟩ = some (.slice (some ⟨qL, 0, none⟩) ls.length ls.length) ∧ w'.cell? ⟨w5.heap.size, 1, none⟩ = some (.slice (some ⟨qS, 0, none⟩) ss.length ss.length) ∧ w'.cell? ⟨w5.heap.size, 2, none⟩ = some (.slice (some ⟨qO, 0, none⟩) os.length os.length) ∧ w.heap.size < w'.heap.size ∧ w5.heap.size < w'.heap.size)
    (first | assumption | exact keepD (by assumption) hb10 | exact keepD (by assumption) hb11 | exact H0)
    (first | (go_at_call 12; refine (toDisk_any adL adS adO capL capS capO ls ss os _ pl1 ps1 po1 (dk_self (HH.out.later L9d.out.bel))).mono ?_; rintro e w10 ⟨tL, tS, tO, rfl, -, -, -, sL, sS, sO, hb10⟩) | (go_at_call 15; refine (eqDisk_same _ _ _ _ _ _ _ _ _ _ _ _ ls ss os _ pl1 ps1 po1 (own_dk (OXd.out.below hb10)) ⟨Below.refl _ _, sL, sS, sO⟩).mono ?_; rintro e w11 ⟨rfl, hb11⟩))
  rename_i hH
  have L11 := HIDk ((L9d.out.later hb10).later hb11)
  have OX11 := HIDk ((OXd.out.below hb10).below hb11)
  have KL11 := HIDk ((KLd.out.below hb10).below hb11)
  have OG11 := HIDk ((OGd.out.below hb10).below hb11)
  clear hH H0 hb10 hb11 sL sS sO L9d OXd OGd
  clear KLd
  go_wp2_with fail
  refine (toInt64S_any adK capK ks w11 hk2 (HK.out.below L11.out.bel)).mono ?_
  rintro e w11a ⟨rfl, hska, -, hba⟩
  go_wp2_with fail
  refine (eqInt64S_same _ _ _ _ ks w11a hk2 (KL11.out.below hba).sl hska).mono ?_
  rintro e w11b ⟨rfl, hbb⟩
  replace L11 := HIDk ((L11.out.later hba).later hbb)
  replace OX11 := HIDk ((OX11.out.below hba).below hbb)
  replace OG11 := HIDk ((OG11.out.below hba).below hbb)
  replace KL11 := HIDk ((KL11.out.below hba).below hbb)
  clear hska hba hbb
  obtain ⟨-, y0, y1, y2⟩ := L11.out.c5
  go_wp2_with fail
  refine (markDisk_any _ _ _ _ _ _ ls ss os 1 0 w11b OX11.out (by decide) (by decide) pl1 ps1 po1).mono ?_
  rintro e w12 ⟨rfl, -, hc12⟩
  have L12 := HIDk (L11.out.chg hc12 (fun g hg => by have h1 := RX.out g hg; exact ⟨by omega, by omega, by omega, by omega, fun h2 => by have := R0.out g h2; omega⟩))
  have OG12 := HIDk (OG11.out.chg hc12 (fun g hg h2 => by have h1 := RX.out g h2; have := RG.out g hg; omega))
  have KL12 := HIDk (KL11.out.chg hc12 (fun _ h2 => by have h1 := RX.out _ h2; have := nX2.out; omega))
  clear hc12 L11 OX11 OG11 KL11 y0 y1 y2
  go_wp2_with fail
  refine (markInt64S_any _ _ ks (1 + 2 * ls.length + 2 * ss.length + 4 * os.length) w12 KL12.out.sl (fun hn => ⟨_, rfl, (KL12.out.fr hn).2⟩) (by omega) (by omega)).mono ?_
  rintro e w12b ⟨rfl, hc12b⟩
  have one : ∀ g, (ks ≠ [] ∧ (some ⟨X5.heap.size, 0, none⟩ : Option Addr) = some ⟨g, 0, none⟩) → g = X5.heap.size ∧ X5.heap.size < X5b.heap.size := fun g hg => ⟨by have h := hg.2; injection h with h; injection h with h; exact h.symm, nKK.out hg.1⟩
  replace L12 := HIDk (L12.out.chg hc12b (fun g hg => by obtain ⟨rfl, h1⟩ := one g hg; exact ⟨by omega, by omega, by omega, by omega, fun h2 => by have := R0.out _ h2; omega⟩))
  replace OG12 := HIDk (OG12.out.chg hc12b (fun g hg h2 => by obtain ⟨rfl, h1⟩ := one g h2; have := RGK.out _ hg; omega))
  clear hc12b one KL12
  obtain ⟨-, e0, e1, e2⟩ := L12.out.c4
  obtain ⟨-, f0, f1, f2⟩ := L12.out.c6
  have dk1 : decide (((1 + 2 * ls.length + 2 * ss.length + 4 * os.length + ks.length : Nat) : Int) < 0) = false := by simp; omega
  go_wp2_with fail
  refine (eqDisk_same _ _ _ _ _ _ _ _ _ _ _ _ ys ys [] w12b lys lys (Nat.zero_le _) (own_dk OG12.out) (own_dk L12.out.own)).mono ?_
  rintro e w13 ⟨rfl, hb13⟩
  have L13 := HIDk (L12.out.later hb13)
  have OG13 := HIDk (OG12.out.below hb13)
  clear hb13 L12 OG12 e0 e1 e2 f0 f1 f2 dk1
  obtain ⟨-, f0, f1, f2⟩ := L13.out.c6
  go_wp2_with fail
  refine (markDisk_any _ _ _ _ _ _ ys ys [] 1 0 w13 OG13.out (by decide) (by decide) lys lys (Nat.zero_le _)).mono ?_
  rintro e w14 ⟨rfl, hm14, hc14⟩
  have L14 := HIDk (L13.out.chg hc14 (fun g hg => by have h1 := RG.out g hg; exact ⟨by omega, by omega, by omega, by omega, fun h2 => by have := R0.out g h2; omega⟩))
  have M14 := HIDk hm14
  clear hm14 hc14 L13 OG13 f0 f1 f2
  obtain ⟨-, f0, f1, f2⟩ := L14.out.c6
  go_wp2_with fail
  refine (heldDisk_any _ _ _ _ _ _ ys ys [] 1 w14 M14.out (by decide) (by decide) lys lys (Nat.zero_le _)).mono ?_
  rintro e w15 ⟨rfl, hb15⟩
  have L15 := HIDk (L14.out.later hb15)
  have M15 := HIDk (M14.out.below hb15)
  clear hb15 L14 M14 f0 f1 f2
  have dm : decide (((1 + 2 * ys.length + 2 * ys.length + 4 * 0 : Nat) : Int) < 0) = false := by simp; omega
  obtain ⟨z0, z1, z2, z3⟩ := L15.out.c1
  go_wp2_with fail
  refine (toDisk_any adL adS adO capL capS capO ls ss os w15 pl1 ps1 po1 (dk_self (HH.out.later L15.out.bel))).mono ?_
  rintro e w16 ⟨tL, tS, tO, rfl, -, -, -, sL, sS, sO, hb16⟩
  have L16 := HIDk (L15.out.later hb16)
  have M16 := HIDk (M15.out.below hb16)
  have D16 : Hid (Dk w16 (some ⟨tL, 0, none⟩) (some ⟨tS, 0, none⟩) (some ⟨tO, 0, none⟩) ls ss os w16) := ⟨Below.refl _ _, sL, sS, sO⟩
  clear hb16 sL sS sO L15 M15 z0 z1 z2 z3
  go_wp2_with fail
  refine (toInt64S_any adK capK ks w16 hk2 (HK.out.below L16.out.bel)).mono ?_
  rintro e w16b ⟨rfl, hsk16, -, hbk16⟩
  replace L16 := HIDk (L16.out.later hbk16)
  replace M16 := HIDk (M16.out.below hbk16)
  have D16b := HIDk (dk_self (D16.out.later hbk16))
  have HSK2 := HIDk hsk16
  clear hsk16 hbk16
  go_wp2_with fail
  refine (implCrash_any _ _ _ _ _ _ _ _ ls ss os ks t w16b pl1 ps1 po1 hk2 D16b.out PL.out PS.out PO.out HSK2.out).mono ?_
  rintro e w17 ⟨v17, rfl, ⟨h1, h2, h3, k1, k2, k3, rfl, hS17, -⟩, hb17⟩
  rw [← HYS.out] at hS17
  rw [← HYS.out, ← HCC.out]
  have L17 := HIDk (L16.out.later hb17)
  have M17 := HIDk (M16.out.below hb17)
  have OH17 := HIDk hS17
  clear hb17 hS17 L16 M16 D16
  obtain ⟨X7, hX7⟩ : ∃ X7, X7 = w17.alloc (.cells #[.slice h1 ys.length k1, .slice h2 ys.length k2, .slice h3 0 k3] 33) := ⟨_, rfl⟩
  have hbX : Below w17.heap.size w17 X7 := by rw [hX7]; exact (Below.refl _ _).alloc (Nat.le_refl _) _
  have L18 := HIDk (L17.out.later hbX)
  have M18 := HIDk (M17.out.below hbX)
  have OH18 := HIDk (OH17.out.below hbX)
  clear hbX L17 M17 OH17
  obtain ⟨-, c40, c41, c42⟩ := L18.out.c4
  rw [hX7] at c40 c41 c42
  go_wp2_with fail
  rw [← hX7]
  clear hX7 c40 c41 c42
  refine (eqDisk_same _ _ _ _ _ _ _ _ _ _ _ _ ys ys [] X7 lys lys (Nat.zero_le _) (own_dk OH18.out) (own_dk L18.out.own)).mono ?_
  rintro e w19 ⟨rfl, hb19⟩
  have L19 := HIDk (L18.out.later hb19)
  have M19 := HIDk (M18.out.below hb19)
  clear hb19 L18 M18 OH18
  obtain ⟨-, f0, f1, f2⟩ := L19.out.c6
  go_wp2_with fail
  refine (heldDisk_any _ _ _ _ _ _ ys ys [] 1 w19 M19.out (by decide) (by decide) lys lys (Nat.zero_le _)).mono ?_
  rintro e w20 ⟨rfl, hb20⟩
  have HBe := HIDk (L19.out.bel.trans (hb20.mono L19.out.bel.size))
  clear hb20 L19 M19 f0 f1 f2
  go_wp2
  go_ret
  exact ⟨rfl, HBe.out⟩

theorem own : ownKnob Try.prog.godebug = none := by kernel_rfl
theorem laidOut : laidOutB Try.prog = true := by kernel_rfl

set_option maxRecDepth 100000 in
theorem lifted (os : Os) (started : os.Started) (H : Type) (enc : TypeId × Value → H) :
    ReturnsInHanded {} Try.checked os 4 .any (Rows.fnExactCrashSpec.pre6 enc Try.prog Try.f4 Rows.fnExactCrashRow.domain false) (Rows.fnExactCrashSpec.post enc Try.prog Try.f4 false true false false) := by
  refine returnsInHanded_of_change (C := Try.checked) own started (by kernel_rfl) Try.func4
    (ChangeSpec.witness6 (enc := enc) (C := Try.checked) false ⟨#[], #[.agg #[.slice none 0 0, .slice none 0 0, .slice none 0 0], .slice none 0 0, .int .i64 0], []⟩ 8 (by kernel_rfl) (by kernel_rfl) (by kernel_rfl) (by kernel_rfl)) ?_
  intro W base args ds gs before hval0 hW hcnd _
  have hval : ∀ (j : Nat) t v, Try.f4.params[j]? = some t → args[j]? = some v → Value.okWide Try.prog W .any base t v := hval0
  have hW' := hW
  obtain ⟨p, q, hA0, hV, rfl, hfz, hnd⟩ := hW
  have hA : DataW.TrodAll enc Try.prog W 0 (fun _ => true) true Try.f4.params.toList args.toList ds p := hA0
  rw [Try.params4] at hA hval
  obtain ⟨v0, vs0, d0, ds0, p0, q0, hargs, rfl, rfl, h0, r0⟩ := trodAll_cons hA
  obtain ⟨v1, vs1, d1, ds1, p1, q1, rfl, rfl, rfl, h1, r1⟩ := trodAll_cons r0
  obtain ⟨v2, vs2, d2, ds2, p2, q2, rfl, rfl, rfl, h2, r2⟩ := trodAll_cons r1
  obtain ⟨rfl, rfl, rfl⟩ := trodAll_nil r2
  obtain rfl : args = #[v0, v1, v2] := by cases args; simp_all
  obtain ⟨rfl, rfl⟩ := trodVars_none hV
  have k0 := h0
  have lt0 : ∀ x ∈ p0, x.block < W.heap.size := by obtain ⟨m, hm⟩ := k0; exact DataW.trod_lt m _ _ _ hm
  obtain ⟨adL0, adS0, adO0, capL0, capS0, capO0, ls0, ss0, os0, hv0, hdk0, fl0, fs0, fo0, ml0, ms0, mo0⟩ := open_disk (hval 0 25 v0 rfl rfl) h0
  subst hv0
  have k1 := h1
  have lt1 : ∀ x ∈ p1, x.block < W.heap.size := by obtain ⟨m, hm⟩ := k1; exact DataW.trod_lt m _ _ _ hm
  obtain ⟨ad1, len1, cap1, hv1⟩ := okWide_slice Try.underlying42 (hval 1 42 v1 rfl rfl)
  subst hv1
  obtain ⟨fuel1, hf1⟩ := h1
  obtain ⟨ks1, hl1, hsl1, hm1⟩ := open_int64s (by simpa [Value.cells] using hf1)
  subst hl1
  have k2 := h2
  have lt2 : ∀ x ∈ p2, x.block < W.heap.size := by obtain ⟨m, hm⟩ := k2; exact DataW.trod_lt m _ _ _ hm
  obtain ⟨n2, hv2, -, -, hn2⟩ := open_int Try.underlying2 (hval 2 2 v2 rfl rfl) h2
  subst hv2
  clear hA0 hval0
  refine (walk adL0 adS0 adO0 capL0 capS0 capO0 ls0 ss0 os0 ad1 cap1 ks1 n2 W hdk0 fl0 fs0 fo0 ml0 ms0 mo0 hm1 hsl1 hn2).mono fun e W' ⟨he, bel⟩ => ?_
  subst he
  exact ⟨_, rfl, _, _, _, [], _, [], hW', trodAll_mk1 (shut_bool Try.underlying4 _), (trodAll_cons_mk (Below.trod laidOut (by kernel_rfl) (of_decide_eq_true (by kernel_rfl)) k0 bel lt0) (trodAll_cons_mk (Below.trod laidOut (by kernel_rfl) (of_decide_eq_true (by kernel_rfl)) k1 bel lt1) (trodAll_cons_mk (Below.trod laidOut (by kernel_rfl) (of_decide_eq_true (by kernel_rfl)) k2 bel lt2) trodAll_mk0))), rfl, bel.frame _, fun h => by cases h⟩

theorem over : Rows.fnExactCrashRow.holds Try.pinned (OpenSpec.ofChange Rows.fnExactCrashSpec) :=
  OpenClaim.holds_of_wide 4 Try.f4 rfl rfl rfl rfl rfl rfl rfl ⟨rfl, rfl, rfl, rfl, rfl⟩ rfl rfl rfl rfl rfl (by kernel_rfl) Try.func4 (by kernel_rfl)
    (of_decide_eq_true (by kernel_rfl)) (by unfold Func.isWrapper; first | (rw [if_pos (by decide +kernel)]; kernel_rfl) | (rw [if_neg (by decide +kernel)]; exact ⟨rfl, rfl⟩))
    (fun os started H enc _ => lifted os started H enc)

end Go.Proofs.Ytbfimfmfdllejaa.fnExactCrash
namespace Go.Proofs.Ytbfimfmfdllejaa
theorem FnExactCrash_holds : Rows.FnExactCrashSaid := fnExactCrash.over
end Go.Proofs.Ytbfimfmfdllejaa
