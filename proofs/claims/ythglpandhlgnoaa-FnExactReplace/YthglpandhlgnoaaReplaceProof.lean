/- Proved here: FnExactReplace answers true for every disk, name and data and leaves its arguments as they were, with no condition on them. -/
import Derived.Test.YthglpandhlgnoaaRepDk3
import Derived.Test.YthglpandhlgnoaaLawDk
namespace Go.Proofs.Ythglpandhlgnoaa.fnExactReplace
open Go.ChangeShapes Go.WideShapes Go.ChangeAt Go.RowKit Go.Joins
open Go.ChangeMaps (open_string shut_string)
set_option linter.unusedVariables false

set_option maxRecDepth 8000 in
set_option maxHeartbeats 16000000 in
theorem walk (adL adS adO : Option Addr) (capL capS capO : Nat) (ls ss : List Fl) (os : List Dop) (x d : ByteArray) (w : World) (H : Dk w adL adS adO ls ss os w) (fl : ∀ f ∈ ls, f.fits) (fs : ∀ f ∈ ss, f.fits) (fo : ∀ f ∈ os, f.fits) (ml : ls.length ≤ maxLen) (ms : ss.length ≤ maxLen) (mo : os.length ≤ maxLen) (hx : x.size ≤ maxLen) (hd : d.size ≤ maxLen) :
    Calls Try.prog 8 #[.agg #[.slice adL ls.length capL, .slice adS ss.length capS, .slice adO os.length capO], .string x, .string d] w fun e w' => e = .returned (.bool true) ∧ Below w.heap.size w w' := by
  obtain ⟨W, hW⟩ : ∃ W, W = w.alloc (.cells #[.slice adL ls.length capL, .slice adS ss.length capS, .slice adO os.length capO] 25) := ⟨_, rfl⟩
  have C0 : Hid (Cl w (.slice adL ls.length capL) (.slice adS ss.length capS) (.slice adO os.length capO) W) := by rw [hW]; exact cl_new _ _ _ _ _
  have K0 : Hid (Dk w adL adS adO ls ss os W) := H.later (by rw [hW]; exact (Below.refl _ _).alloc (Nat.le_refl _) _)
  have HH := HIDk H
  have HFL := HIDk fl
  have HFS := HIDk fs
  have HFO := HIDk fo
  clear H fl fs fo
  unfold maxLen at hx hd
  by_cases hbig : 1048576 < x.size
  · go_enter Try.func8, Try.ntmps8
    go_wp2
    rw [← hW]
    go_ret
    exact ⟨rfl, K0.out.bel⟩
  by_cases hbig2 : 1048576 < d.size
  · go_enter Try.func8, Try.ntmps8
    go_wp2
    rw [← hW]
    go_ret
    exact ⟨rfl, K0.out.bel⟩
  have hx2 : x.size ≤ 1048576 := by omega
  have hd2 : d.size ≤ 1048576 := by omega
  go_enter Try.func8, Try.ntmps8
  go_wp2_with fail
  rw [← hW]
  clear hW
  refine (szDisk_any adL adS adO capL capS capO ls ss os 1048576 W ml ms mo (dk_self K0.out) HFL.out HFS.out HFO.out (by decide) (by decide)).mono ?_
  rintro e w1 ⟨⟨n1, rfl, hn1⟩, hb1⟩
  have K1 := HIDk (K0.out.later hb1)
  have C1 := HIDk (C0.out.later hb1)
  clear hb1 K0 C0
  rcases hn1 with rfl | ⟨h10, h11, ⟨pl1, pl2⟩, ⟨ps1, ps2⟩, po1, po2⟩
  · go_wp2
    go_ret
    exact ⟨rfl, K1.out.bel⟩
  have PL := HIDk (small2 pl2)
  have PS := HIDk (small2 ps2)
  have PO := HIDk po2
  clear pl2 ps2 po2
  have d1 : decide (n1 < 0) = false := by simp; omega
  obtain ⟨z0, z1, z2, z3⟩ := C1.out
  go_wp2_with fail
  refine (toDisk_any adL adS adO capL capS capO ls ss os w1 pl1 ps1 po1 (dk_self K1.out)).mono ?_
  rintro e w2 ⟨gL, gS, gO, rfl, -, -, -, sL, sS, sO, hb2⟩
  have K2 := HIDk (K1.out.later hb2)
  have C2 := HIDk (C1.out.later hb2)
  have D2 : Hid (Dk w2 (some ⟨gL, 0, none⟩) (some ⟨gS, 0, none⟩) (some ⟨gO, 0, none⟩) ls ss os w2) := ⟨Below.refl _ _, sL, sS, sO⟩
  clear hb2 sL sS sO K1 C1 z0 z1 z2 z3
  go_wp2_with fail
  refine (specReplace_any _ _ _ _ _ _ ls ss os x d w2 pl1 ps1 po1 D2.out (fun h => by cases h) (fun h => by cases h) PL.out PS.out PO.out hx2 hd2).mono ?_
  rintro e w3 ⟨v0, rfl, ⟨a1, a2, a3, p1, p2, p3, rfl, hS0, -⟩, hb3⟩
  have K3 := HIDk (K2.out.later hb3)
  have C3 := HIDk (C2.out.later hb3)
  obtain ⟨ys, hys⟩ : ∃ ys, ys = rL ls ss os x d := ⟨_, rfl⟩
  obtain ⟨zs, hzs⟩ : ∃ zs, zs = dS ls ss os := ⟨_, rfl⟩
  obtain ⟨us, hus⟩ : ∃ us, us = rO ls ss os x d := ⟨_, rfl⟩
  rw [← hys, ← hzs, ← hus] at hS0
  have lys : ys.length ≤ 1048576 := by rw [hys]; exact rL_len pl1
  have lzs : zs.length ≤ 1048576 := by rw [hzs]; exact dS_len ps1
  have lus : us.length ≤ 1048576 := by rw [hus]; exact rO_len po1
  have HYS := HIDk hys
  have HZS := HIDk hzs
  have HUS := HIDk hus
  obtain ⟨cc, hcc⟩ : ∃ cc, cc = rC ls ss os x d := ⟨_, rfl⟩
  have HCC := HIDk hcc
  rw [← hcc]
  clear hcc
  have R0 : Hid (∀ g, InD a1 a2 a3 ys zs us g → w.heap.size < g ∧ g < w3.heap.size) := fun g hg => by have := hS0.inD hg; have := C2.out.lt; omega
  have O3 := HIDk (hS0.mono (Nat.zero_le _))
  have n3 : w.heap.size < w3.heap.size := C3.out.lt
  rw [← hys, ← hzs, ← hus]
  clear hb3 hS0 K2 C2 D2 hys hzs hus
  obtain ⟨X4, hX4⟩ : ∃ X4, X4 = w3.alloc (.cells #[.slice a1 ys.length p1, .slice a2 zs.length p2, .slice a3 us.length p3] 31) := ⟨_, rfl⟩
  have hbX : Below w3.heap.size w3 X4 := by rw [hX4]; exact (Below.refl _ _).alloc (Nat.le_refl _) _
  have C4 : Hid (Cl w3 (.slice a1 ys.length p1) (.slice a2 zs.length p2) (.slice a3 us.length p3) X4) := by rw [hX4]; exact cl_new _ _ _ _ _
  have K4 := HIDk (K3.out.later hbX)
  have A4 := HIDk (C3.out.later hbX)
  have O4 := HIDk (O3.out.below hbX)
  have n4 : X4.heap.size = w3.heap.size + 1 := by rw [hX4]; simp
  clear hbX K3 C3 O3
  obtain ⟨z0, z1, z2, z3⟩ := A4.out
  rw [hX4] at z1 z2 z3
  go_wp2_with fail
  rw [← hX4]
  clear hX4 z0 z1 z2 z3
  refine (toDisk_any adL adS adO capL capS capO ls ss os X4 pl1 ps1 po1 (dk_self K4.out)).mono ?_
  rintro e w5 ⟨qL, qS, qO, rfl, g1, g2, g3, sL, sS, sO, hb5⟩
  have OX := toPost_own g1 g2 g3 sL sS sO
  have RX : Hid (∀ g, InD (some ⟨qL, 0, none⟩) (some ⟨qS, 0, none⟩) (some ⟨qO, 0, none⟩) ls ss os g → w3.heap.size < g ∧ g < w5.heap.size) := fun g hg => by have := OX.inD hg; omega
  have n5 : w3.heap.size < w5.heap.size := by have := hb5.size; omega
  have K5 := HIDk (K4.out.later hb5)
  have A5 := HIDk (A4.out.later hb5)
  have C5 := HIDk (C4.out.later hb5)
  have O5 := HIDk (O4.out.below hb5)
  have OX5 := HIDk (OX.mono (Nat.zero_le _))
  clear hb5 OX g1 g2 g3 sL sS sO K4 A4 C4 O4 n4
  obtain ⟨X5, hX5⟩ : ∃ X5, X5 = w5.alloc (.cells #[.slice (some ⟨qL, 0, none⟩) ls.length ls.length, .slice (some ⟨qS, 0, none⟩) ss.length ss.length, .slice (some ⟨qO, 0, none⟩) os.length os.length] 31) := ⟨_, rfl⟩
  have hbX : Below w5.heap.size w5 X5 := by rw [hX5]; exact (Below.refl _ _).alloc (Nat.le_refl _) _
  have B5 : Hid (Cl w5 (.slice (some ⟨qL, 0, none⟩) ls.length ls.length) (.slice (some ⟨qS, 0, none⟩) ss.length ss.length) (.slice (some ⟨qO, 0, none⟩) os.length os.length) X5) := by rw [hX5]; exact cl_new _ _ _ _ _
  have K6 := HIDk (K5.out.later hbX)
  have A6 := HIDk (A5.out.later hbX)
  have C6 := HIDk (C5.out.later hbX)
  have O6 := HIDk (O5.out.below hbX)
  have OX6 := HIDk (OX5.out.below hbX)
  have n5' : X5.heap.size = w5.heap.size + 1 := by rw [hX5]; simp
  clear hbX K5 A5 C5 O5 OX5
  obtain ⟨-, b50, b51, b52⟩ := B5.out
  rw [hX5] at b50 b51 b52
  go_wp2_with fail
  rw [← hX5]
  clear hX5 b50 b51 b52
  refine (implReplace_any _ _ _ _ _ _ ls ss os x d X5 pl1 ps1 po1 (own_dk OX6.out) PL.out PS.out PO.out hx2 hd2).mono ?_
  rintro e w6 ⟨v6, rfl, ⟨b1, b2, b3, r1, r2, r3, rfl, hS6, -⟩, hb6⟩
  rw [← HYS.out, ← HZS.out, ← HUS.out] at hS6
  rw [← HYS.out, ← HZS.out, ← HUS.out, ← HCC.out]
  have RG : Hid (∀ g, InD b1 b2 b3 ys zs us g → w5.heap.size < g ∧ g < w6.heap.size) := fun g hg => by have := hS6.inD hg; omega
  have n6 : w5.heap.size < w6.heap.size := by have := hb6.size; omega
  have K7 := HIDk (K6.out.later hb6)
  have A7 := HIDk (A6.out.later hb6)
  have C7 := HIDk (C6.out.later hb6)
  have B7 := HIDk (B5.out.later hb6)
  have O7 := HIDk (O6.out.below hb6)
  have OX7 := HIDk (OX6.out.below hb6)
  have OG7 := HIDk (hS6.mono (Nat.zero_le _))
  clear hb6 hS6 K6 A6 C6 B5 O6 OX6 n5'
  obtain ⟨X6, hX6⟩ : ∃ X6, X6 = w6.alloc (.cells #[.slice b1 ys.length r1, .slice b2 zs.length r2, .slice b3 us.length r3] 31) := ⟨_, rfl⟩
  have hbX : Below w6.heap.size w6 X6 := by rw [hX6]; exact (Below.refl _ _).alloc (Nat.le_refl _) _
  have L8 : Hid (LS w w3 w5 w6 (.slice adL ls.length capL) (.slice adS ss.length capS) (.slice adO os.length capO) (.slice a1 ys.length p1) (.slice a2 zs.length p2) (.slice a3 us.length p3) (.slice (some ⟨qL, 0, none⟩) ls.length ls.length) (.slice (some ⟨qS, 0, none⟩) ss.length ss.length) (.slice (some ⟨qO, 0, none⟩) os.length os.length) (.slice b1 ys.length r1) (.slice b2 zs.length r2) (.slice b3 us.length r3) a1 a2 a3 ys zs us X6) := ⟨A7.out.later hbX, C7.out.later hbX, B7.out.later hbX, by rw [hX6]; exact cl_new _ _ _ _ _, (K7.out.later hbX).bel, O7.out.below hbX⟩
  have OX8 := HIDk (OX7.out.below hbX)
  have OG8 := HIDk (OG7.out.below hbX)
  clear hbX K7 A7 C7 B7 O7 OX7 OG7
  obtain ⟨-, c40, c41, c42⟩ := L8.out.c4
  rw [hX6] at c40 c41 c42
  go_wp2_with fail
  rw [← hX6]
  clear hX6 c40 c41 c42
  refine (eqDisk_same _ _ _ _ _ _ _ _ _ _ _ _ ys zs us X6 lys lzs lus (own_dk OG8.out) (own_dk L8.out.own)).mono ?_
  rintro e w9 ⟨rfl, hb9⟩
  have L9 := HIDk (L8.out.later hb9)
  have OX9 := HIDk (OX8.out.below hb9)
  have OG9 := HIDk (OG8.out.below hb9)
  clear hb9 L8 OX8 OG8
  have hdr : Below w9.heap.size w9 w9.drew := (Below.refl _ _).drew
  have L9d := HIDk (L9.out.later hdr)
  have OXd := HIDk (OX9.out.below hdr)
  have OGd := HIDk (OG9.out.below hdr)
  have H0 : w9.drew.cell? ⟨w.heap.size, 0, none⟩ = some (.slice adL ls.length capL) ∧ w9.drew.cell? ⟨w.heap.size, 1, none⟩ = some (.slice adS ss.length capS) ∧ w9.drew.cell? ⟨w.heap.size, 2, none⟩ = some (.slice adO os.length capO) ∧ w9.drew.cell? ⟨w5.heap.size, 0, none⟩ = some (.slice (some ⟨qL, 0, none⟩) ls.length ls.length) ∧ w9.drew.cell? ⟨w5.heap.size, 1, none⟩ = some (.slice (some ⟨qS, 0, none⟩) ss.length ss.length) ∧ w9.drew.cell? ⟨w5.heap.size, 2, none⟩ = some (.slice (some ⟨qO, 0, none⟩) os.length os.length) ∧ w.heap.size < w9.drew.heap.size ∧ w5.heap.size < w9.drew.heap.size := ⟨L9d.out.c1.c0, L9d.out.c1.c1, L9d.out.c1.c2, L9d.out.c5.c0, L9d.out.c5.c1, L9d.out.c5.c2, L9d.out.c1.lt, L9d.out.c5.lt⟩
  clear hdr L9 OX9 OG9
  go_wp2_with fail
  go_region_held3 (fun w' => w'.cell? ⟨w.heap.size, 0, none⟩ = some (.slice adL ls.length capL) ∧ w'.cell? ⟨w.heap.size, 1, none⟩ = some (.slice adS ss.length capS) ∧ w'.cell? ⟨w.heap.size, 2, none⟩ = some (.slice adO os.length capO) ∧ w'.cell? ⟨w5.heap.size, 0, none⟩ = some (.slice (some ⟨qL, 0, none⟩) ls.length ls.length) ∧ w'.cell? ⟨w5.heap.size, 1, none⟩ = some (.slice (some ⟨qS, 0, none⟩) ss.length ss.length) ∧ w'.cell? ⟨w5.heap.size, 2, none⟩ = some (.slice (some ⟨qO, 0, none⟩) os.length os.length) ∧ w.heap.size < w'.heap.size ∧ w5.heap.size < w'.heap.size)
    (first | assumption | exact keepD (by assumption) hb10 | exact keepD (by assumption) hb11 | exact H0)
    (first | (go_at_call 11; refine (toDisk_any adL adS adO capL capS capO ls ss os _ pl1 ps1 po1 (dk_self (HH.out.later L9d.out.bel))).mono ?_; rintro e w10 ⟨tL, tS, tO, rfl, -, -, -, sL, sS, sO, hb10⟩) | (go_at_call 13; refine (eqDisk_same _ _ _ _ _ _ _ _ _ _ _ _ ls ss os _ pl1 ps1 po1 (own_dk (OXd.out.below hb10)) ⟨Below.refl _ _, sL, sS, sO⟩).mono ?_; rintro e w11 ⟨rfl, hb11⟩))
  rename_i hH
  have L11 := HIDk ((L9d.out.later hb10).later hb11)
  have OX11 := HIDk ((OXd.out.below hb10).below hb11)
  have OG11 := HIDk ((OGd.out.below hb10).below hb11)
  clear hH H0 hb10 hb11 sL sS sO L9d OXd OGd
  obtain ⟨-, y0, y1, y2⟩ := L11.out.c5
  go_wp2_with fail
  refine (markDisk_any _ _ _ _ _ _ ls ss os 1 0 w11 OX11.out (by decide) (by decide) pl1 ps1 po1).mono ?_
  rintro e w12 ⟨rfl, -, hc12⟩
  have L12 := HIDk (L11.out.chg hc12 (fun g hg => by have h1 := RX.out g hg; exact ⟨by omega, by omega, by omega, by omega, fun h2 => by have := R0.out g h2; omega⟩))
  have OG12 := HIDk (OG11.out.chg hc12 (fun g hg h2 => by have h1 := RX.out g h2; have := RG.out g hg; omega))
  clear hc12 L11 OX11 OG11 y0 y1 y2
  obtain ⟨-, e0, e1, e2⟩ := L12.out.c4
  obtain ⟨-, f0, f1, f2⟩ := L12.out.c6
  have dk1 : decide (((1 + 2 * ls.length + 2 * ss.length + 4 * os.length : Nat) : Int) < 0) = false := by simp; omega
  go_wp2_with fail
  refine (eqDisk_same _ _ _ _ _ _ _ _ _ _ _ _ ys zs us w12 lys lzs lus (own_dk OG12.out) (own_dk L12.out.own)).mono ?_
  rintro e w13 ⟨rfl, hb13⟩
  have L13 := HIDk (L12.out.later hb13)
  have OG13 := HIDk (OG12.out.below hb13)
  clear hb13 L12 OG12 e0 e1 e2 f0 f1 f2 dk1
  obtain ⟨-, f0, f1, f2⟩ := L13.out.c6
  go_wp2_with fail
  refine (markDisk_any _ _ _ _ _ _ ys zs us 1 0 w13 OG13.out (by decide) (by decide) lys lzs lus).mono ?_
  rintro e w14 ⟨rfl, hm14, hc14⟩
  have L14 := HIDk (L13.out.chg hc14 (fun g hg => by have h1 := RG.out g hg; exact ⟨by omega, by omega, by omega, by omega, fun h2 => by have := R0.out g h2; omega⟩))
  have M14 := HIDk hm14
  clear hm14 hc14 L13 OG13 f0 f1 f2
  obtain ⟨-, f0, f1, f2⟩ := L14.out.c6
  go_wp2_with fail
  refine (heldDisk_any _ _ _ _ _ _ ys zs us 1 w14 M14.out (by decide) (by decide) lys lzs lus).mono ?_
  rintro e w15 ⟨rfl, hb15⟩
  have L15 := HIDk (L14.out.later hb15)
  have M15 := HIDk (M14.out.below hb15)
  clear hb15 L14 M14 f0 f1 f2
  have dm : decide (((1 + 2 * ys.length + 2 * zs.length + 4 * us.length : Nat) : Int) < 0) = false := by simp; omega
  obtain ⟨z0, z1, z2, z3⟩ := L15.out.c1
  go_wp2_with fail
  refine (toDisk_any adL adS adO capL capS capO ls ss os w15 pl1 ps1 po1 (dk_self (HH.out.later L15.out.bel))).mono ?_
  rintro e w16 ⟨tL, tS, tO, rfl, -, -, -, sL, sS, sO, hb16⟩
  have L16 := HIDk (L15.out.later hb16)
  have M16 := HIDk (M15.out.below hb16)
  have D16 : Hid (Dk w16 (some ⟨tL, 0, none⟩) (some ⟨tS, 0, none⟩) (some ⟨tO, 0, none⟩) ls ss os w16) := ⟨Below.refl _ _, sL, sS, sO⟩
  clear hb16 sL sS sO L15 M15 z0 z1 z2 z3
  go_wp2_with fail
  refine (implReplace_any _ _ _ _ _ _ ls ss os x d w16 pl1 ps1 po1 D16.out PL.out PS.out PO.out hx2 hd2).mono ?_
  rintro e w17 ⟨v17, rfl, ⟨h1, h2, h3, k1, k2, k3, rfl, hS17, -⟩, hb17⟩
  rw [← HYS.out, ← HZS.out, ← HUS.out] at hS17
  rw [← HYS.out, ← HZS.out, ← HUS.out, ← HCC.out]
  have L17 := HIDk (L16.out.later hb17)
  have M17 := HIDk (M16.out.below hb17)
  have OH17 := HIDk hS17
  clear hb17 hS17 L16 M16 D16
  obtain ⟨X7, hX7⟩ : ∃ X7, X7 = w17.alloc (.cells #[.slice h1 ys.length k1, .slice h2 zs.length k2, .slice h3 us.length k3] 31) := ⟨_, rfl⟩
  have hbX : Below w17.heap.size w17 X7 := by rw [hX7]; exact (Below.refl _ _).alloc (Nat.le_refl _) _
  have L18 := HIDk (L17.out.later hbX)
  have M18 := HIDk (M17.out.below hbX)
  have OH18 := HIDk (OH17.out.below hbX)
  clear hbX L17 M17 OH17
  obtain ⟨-, c40, c41, c42⟩ := L18.out.c4
  rw [hX7] at c40 c41 c42
  go_wp2_with fail
  rw [← hX7]
  clear hX7 c40 c41 c42
  refine (eqDisk_same _ _ _ _ _ _ _ _ _ _ _ _ ys zs us X7 lys lzs lus (own_dk OH18.out) (own_dk L18.out.own)).mono ?_
  rintro e w19 ⟨rfl, hb19⟩
  have L19 := HIDk (L18.out.later hb19)
  have M19 := HIDk (M18.out.below hb19)
  clear hb19 L18 M18 OH18
  obtain ⟨-, f0, f1, f2⟩ := L19.out.c6
  go_wp2_with fail
  refine (heldDisk_any _ _ _ _ _ _ ys zs us 1 w19 M19.out (by decide) (by decide) lys lzs lus).mono ?_
  rintro e w20 ⟨rfl, hb20⟩
  have HBe := HIDk (L19.out.bel.trans (hb20.mono L19.out.bel.size))
  clear hb20 L19 M19 f0 f1 f2
  go_wp2
  go_ret
  exact ⟨rfl, HBe.out⟩

theorem own : ownKnob Try.prog.godebug = none := by kernel_rfl
theorem laidOut : laidOutB Try.prog = true := by kernel_rfl

set_option maxRecDepth 100000 in
theorem lifted (os : Os) (started : os.Started) (H : Type) (enc : TypeId × Value → H) :
    ReturnsInHanded {} Try.checked os 8 .any (Rows.fnExactReplaceSpec.pre6 enc Try.prog Try.f8 Rows.fnExactReplaceRow.domain false) (Rows.fnExactReplaceSpec.post enc Try.prog Try.f8 false true false false) := by
  refine returnsInHanded_of_change (C := Try.checked) own started (by kernel_rfl) Try.func8
    (ChangeSpec.witness6 (enc := enc) (C := Try.checked) false ⟨#[], #[.agg #[.slice none 0 0, .slice none 0 0, .slice none 0 0], .string ByteArray.empty, .string ByteArray.empty], []⟩ 8 (by kernel_rfl) (by kernel_rfl) (by kernel_rfl) (by kernel_rfl)) ?_
  intro W base args ds gs before hval0 hW hcnd _
  have hval : ∀ (j : Nat) t v, Try.f8.params[j]? = some t → args[j]? = some v → Value.okWide Try.prog W .any base t v := hval0
  have hW' := hW
  obtain ⟨p, q, hA0, hV, rfl, hfz, hnd⟩ := hW
  have hA : DataW.TrodAll enc Try.prog W 0 (fun _ => true) true Try.f8.params.toList args.toList ds p := hA0
  rw [Try.params8] at hA hval
  obtain ⟨v0, vs0, d0, ds0, p0, q0, hargs, rfl, rfl, h0, r0⟩ := trodAll_cons hA
  obtain ⟨v1, vs1, d1, ds1, p1, q1, rfl, rfl, rfl, h1, r1⟩ := trodAll_cons r0
  obtain ⟨v2, vs2, d2, ds2, p2, q2, rfl, rfl, rfl, h2, r2⟩ := trodAll_cons r1
  obtain ⟨rfl, rfl, rfl⟩ := trodAll_nil r2
  obtain rfl : args = #[v0, v1, v2] := by cases args; simp_all
  obtain ⟨rfl, rfl⟩ := trodVars_none hV
  have k0 := h0
  have lt0 : ∀ x ∈ p0, x.block < W.heap.size := by obtain ⟨m, hm⟩ := k0; exact DataW.trod_lt m _ _ _ hm
  obtain ⟨adL0, adS0, adO0, capL0, capS0, capO0, ls0, ss0, os0, hv0, hdk0, fl0, fs0, fo0, ml0, ms0, mo0⟩ := open_disk (hval 0 25 v0 rfl rfl) h0
  subst hv0
  have k1 := h1
  have lt1 : ∀ x ∈ p1, x.block < W.heap.size := by obtain ⟨m, hm⟩ := k1; exact DataW.trod_lt m _ _ _ hm
  obtain ⟨s1, hv1, -, -, hs1⟩ := open_string Try.underlying9 (hval 1 9 v1 rfl rfl) h1
  subst hv1
  have k2 := h2
  have lt2 : ∀ x ∈ p2, x.block < W.heap.size := by obtain ⟨m, hm⟩ := k2; exact DataW.trod_lt m _ _ _ hm
  obtain ⟨s2, hv2, -, -, hs2⟩ := open_string Try.underlying9 (hval 2 9 v2 rfl rfl) h2
  subst hv2
  clear hA0 hval0
  refine (walk adL0 adS0 adO0 capL0 capS0 capO0 ls0 ss0 os0 s1 s2 W hdk0 fl0 fs0 fo0 ml0 ms0 mo0 hs1 hs2).mono fun e W' ⟨he, bel⟩ => ?_
  subst he
  exact ⟨_, rfl, _, _, _, [], _, [], hW', trodAll_mk1 (shut_bool Try.underlying4 _), (trodAll_cons_mk (Below.trod laidOut (by kernel_rfl) (of_decide_eq_true (by kernel_rfl)) k0 bel lt0) (trodAll_cons_mk (Below.trod laidOut (by kernel_rfl) (of_decide_eq_true (by kernel_rfl)) k1 bel lt1) (trodAll_cons_mk (Below.trod laidOut (by kernel_rfl) (of_decide_eq_true (by kernel_rfl)) k2 bel lt2) trodAll_mk0))), rfl, bel.frame _, fun h => by cases h⟩

theorem over : Rows.fnExactReplaceRow.holds Try.pinned (OpenSpec.ofChange Rows.fnExactReplaceSpec) :=
  OpenClaim.holds_of_wide 8 Try.f8 rfl rfl rfl rfl rfl rfl rfl ⟨rfl, rfl, rfl, rfl, rfl⟩ rfl rfl rfl rfl rfl (by kernel_rfl) Try.func8 (by kernel_rfl)
    (of_decide_eq_true (by kernel_rfl)) (by unfold Func.isWrapper; first | (rw [if_pos (by decide +kernel)]; kernel_rfl) | (rw [if_neg (by decide +kernel)]; exact ⟨rfl, rfl⟩))
    (fun os started H enc _ => lifted os started H enc)

end Go.Proofs.Ythglpandhlgnoaa.fnExactReplace
namespace Go.Proofs.Ythglpandhlgnoaa
theorem FnExactReplace_holds : Rows.FnExactReplaceSaid := fnExactReplace.over
end Go.Proofs.Ythglpandhlgnoaa
