/- Proved here: FnExactDo answers true for every disk and every op and leaves its arguments as they were, with no condition on them. -/
import Derived.Test.YtbfimfmfdllejaaLawDo
import Derived.Test.YtbfimfmfdllejaaOpenDk
import Derived.Test.YtbfimfmfdllejaaDkEnd
namespace Go.Proofs.Ytbfimfmfdllejaa.fnExactDo
open Go.ChangeShapes Go.WideShapes Go.ChangeAt Go.RowKit Go.Joins
open Go.ChangeMaps (open_string shut_string)
set_option linter.unusedVariables false

set_option maxRecDepth 8000 in
set_option maxHeartbeats 16000000 in
theorem walk (adL adS adO : Option Addr) (capL capS capO : Nat) (ls ss : List Fl) (os : List Dop) (o : Dop) (w : World) (H : Dk w adL adS adO ls ss os w) (fl : ∀ f ∈ ls, f.fits) (fs : ∀ f ∈ ss, f.fits) (fo : ∀ f ∈ os, f.fits) (ml : ls.length ≤ maxLen) (ms : ss.length ≤ maxLen) (mo : os.length ≤ maxLen) (fop : o.fits) :
    Calls Try.prog 3 #[.agg #[.slice adL ls.length capL, .slice adS ss.length capS, .slice adO os.length capO], .agg #[.int .i64 o.k, .string o.n, .string o.t, .string o.d]] w fun e w' => e = .returned (.bool true) ∧ Below w.heap.size w w' := by
  obtain ⟨W, hW⟩ : ∃ W, W = (w.alloc (.cells #[.slice adL ls.length capL, .slice adS ss.length capS, .slice adO os.length capO] 25)).alloc (.cells #[.int .i64 o.k, .string o.n, .string o.t, .string o.d] 27) := ⟨_, rfl⟩
  have C0 : Hid (BxO w (.slice adL ls.length capL) (.slice adS ss.length capS) (.slice adO os.length capO) o W) := by rw [hW]; exact bxO_new _ _ _ _ _ _ _
  have K0 : Hid (Dk w adL adS adO ls ss os W) := H.later (by rw [hW]; exact ((Below.refl _ _).alloc (Nat.le_refl _) _).alloc (by simp) _)
  have HH := HIDk H
  have HFL := HIDk fl
  have HFS := HIDk fs
  have HFO := HIDk fo
  clear H fl fs fo
  go_enter Try.func3, Try.ntmps3
  go_wp2_with fail
  rw [← hW]
  clear hW
  refine (szDisk_any adL adS adO capL capS capO ls ss os 1048576 W ml ms mo (dk_self K0.out) HFL.out HFS.out HFO.out (by decide) (by decide)).mono ?_
  rintro e w1 ⟨⟨n1, rfl, hn1⟩, hb1⟩
  have K1 := HIDk (K0.out.later hb1)
  have C1 := HIDk (C0.out.later hb1)
  clear hb1 K0 C0
  rcases hn1 with rfl | ⟨h10, h11, ⟨pl1, pl2⟩, ⟨ps1, ps2⟩, po1, po2⟩
  · go_wp2
    go_ret
    exact ⟨rfl, K1.out.bel⟩
  have PL := HIDk (small2 pl2)
  have PS := HIDk (small2 ps2)
  have PO := HIDk po2
  clear pl2 ps2 po2
  have d1 : decide (n1 < 0) = false := by simp; omega
  obtain ⟨z0, z1, z2, y0, y1, y2, y3, hsz⟩ := C1.out
  go_wp2_with fail
  refine (szDOp_any o.k o.n o.t o.d n1 w1 fop.1 fop.2.1 fop.2.2 h10 h11).mono ?_
  rintro e w2 ⟨⟨n2, rfl, hn2⟩, hb2⟩
  have K2 := HIDk (K1.out.later hb2)
  have C2 := HIDk (C1.out.later hb2)
  clear hb2 K1 C1 z0 z1 z2 y0 y1 y2 y3 hsz
  rcases hn2 with rfl | ⟨h20, h21, q1, q2, q3⟩
  · go_wp2
    go_ret
    exact ⟨rfl, K2.out.bel⟩
  have d2 : decide (n2 < 0) = false := by simp; omega
  have OS : Hid o.small := ⟨by omega, by omega, by omega⟩
  obtain ⟨ys, hys⟩ : ∃ ys, ys = dL ls ss os o := ⟨_, rfl⟩
  obtain ⟨zs, hzs⟩ : ∃ zs, zs = dS ls ss os := ⟨_, rfl⟩
  obtain ⟨us, hus⟩ : ∃ us, us = dO ls ss os o := ⟨_, rfl⟩
  obtain ⟨cc, hcc⟩ : ∃ cc, cc = dC ls ss os o := ⟨_, rfl⟩
  have HSD : Hid (DoC 11 o ls ss os ys zs us cc) := by rw [hys, hzs, hus, hcc]; exact fun _ _ _ _ _ _ w h h1 h2 => specDo_any _ _ _ _ _ _ ls ss os o w pl1 ps1 po1 h h1 h2 PL.out PS.out PO.out OS.out
  have HID : Hid (DoC 14 o ls ss os ys zs us cc) := by rw [hys, hzs, hus, hcc]; exact fun _ _ _ _ _ _ w h _ _ => implDo_any _ _ _ _ _ _ ls ss os o w pl1 ps1 po1 h PL.out PS.out PO.out OS.out
  have lys : ys.length ≤ 1048576 := by rw [hys]; exact dL_len pl1
  have lzs : zs.length ≤ 1048576 := by rw [hzs]; exact dS_len' ps1
  have lus : us.length ≤ 1048576 := by rw [hus]; exact dO_len
  obtain ⟨z0, z1, z2, y0, y1, y2, y3, hsz⟩ := C2.out
  have hx0 : w.heap.size < w2.heap.size := by omega
  have hx1 : w.heap.size + 1 < w2.heap.size := by omega
  clear h10 h11 h20 h21 q1 q2 q3 hys hzs hus hcc OS
  go_wp2_with fail
  refine wp_region_frame 10 (fun _ => undef) (fun fa => { tmps := List.toArray (Value.agg #[Value.slice adL ls.length capL, Value.slice adS ss.length capS, Value.slice adO os.length capO] :: Value.agg #[Value.int IntKind.i64 o.k, Value.string o.n, Value.string o.t, Value.string o.d] :: Value.pointer (some { block := w.heap.size, off := 0 }) :: Value.pointer (some { block := w.heap.size + 1, off := 0 }) :: Value.bool false :: Value.int IntKind.i64 n2 :: fa 8 :: undef :: undef :: undef :: undef :: undef :: undef :: undef :: undef :: undef :: Value.agg #[Value.slice adL ls.length capL, Value.slice adS ss.length capS, Value.slice adO os.length capO] :: Value.int IntKind.i64 1048576 :: Value.int IntKind.i64 n1 :: Value.int IntKind.i64 n1 :: Value.bool false :: Value.agg #[Value.int IntKind.i64 o.k, Value.string o.n, Value.string o.t, Value.string o.d] :: Value.int IntKind.i64 n1 :: Value.int IntKind.i64 n2 :: Value.int IntKind.i64 n2 :: Value.bool false :: fa 5 :: fa 0 :: fa 1 :: fa 2 :: fa 3 :: fa 4 :: fa 6 :: fa 7 :: undef :: undef :: undef :: undef :: undef :: undef :: undef :: undef :: undef :: undef :: undef :: undef :: undef :: undef :: undef :: undef :: undef :: undef :: undef :: undef :: undef :: undef :: undef :: undef :: undef :: undef :: undef :: undef :: undef :: undef :: undef :: undef :: undef :: undef :: undef :: undef :: undef :: undef :: undef :: undef :: undef :: undef :: undef :: undef :: undef :: undef :: undef :: undef :: undef :: undef :: undef :: undef :: undef :: undef :: undef :: undef :: undef :: undef :: undef :: undef :: undef :: undef :: undef :: undef :: undef :: undef :: undef :: undef :: undef :: undef :: undef :: undef :: undef :: undef :: undef :: []), defers := [] }) (fun l fa W' => II (fun u W' => ∃ gL gS gO, u = .agg #[.slice (some ⟨gL, 0, none⟩) ls.length ls.length, .slice (some ⟨gS, 0, none⟩) ss.length ss.length, .slice (some ⟨gO, 0, none⟩) os.length os.length] ∧ Dk W' (some ⟨gL, 0, none⟩) (some ⟨gS, 0, none⟩) (some ⟨gO, 0, none⟩) ls ss os W') (Value.agg #[.slice adL ls.length capL, .slice adS ss.length capS, .slice adO os.length capO]) (Value.agg #[.int .i64 o.k, .string o.n, .string o.t, .string o.d]) (fun W' => Below w2.heap.size w2 W') w2.heap.size cc ys zs us (l 0) (l 1) (l 2) (l 3) (l 4) (l 5) (l 6) (l 7) (l 8) (l 9) (fa 0) (fa 1) (fa 2) (fa 3) (fa 4) (fa 5) (fa 6) (fa 7) (fa 8) W') (by kernel_rfl) rfl (by kernel_rfl) (by kernel_rfl) rfl (II.start (fun h => by cases h) (Below.refl _ _).drew (Nat.le_refl _)) ?_ ?_
  · rintro i hi op ho l fa w' hli hI hpre
    have HP : Hid (∀ e ∈ op.after, Region.binds .any e = true → l e.on = true) := hpre
    have HI : Hid (II (fun u W' => ∃ gL gS gO, u = .agg #[.slice (some ⟨gL, 0, none⟩) ls.length ls.length, .slice (some ⟨gS, 0, none⟩) ss.length ss.length, .slice (some ⟨gO, 0, none⟩) os.length os.length] ∧ Dk W' (some ⟨gL, 0, none⟩) (some ⟨gS, 0, none⟩) (some ⟨gO, 0, none⟩) ls ss os W') (Value.agg #[.slice adL ls.length capL, .slice adS ss.length capS, .slice adO os.length capO]) (Value.agg #[.int .i64 o.k, .string o.n, .string o.t, .string o.d]) (fun W' => Below w2.heap.size w2 W') w2.heap.size cc ys zs us (l 0) (l 1) (l 2) (l 3) (l 4) (l 5) (l 6) (l 7) (l 8) (l 9) (fa 0) (fa 1) (fa 2) (fa 3) (fa 4) (fa 5) (fa 6) (fa 7) (fa 8) w') := hI
    have HG := HIDk HI.out.bel.1
    clear hI hpre
    have hc : i = 0 ∨ i = 1 ∨ i = 2 ∨ i = 3 ∨ i = 4 ∨ i = 5 ∨ i = 6 ∨ i = 7 ∨ i = 8 ∨ i = 9 := by omega
    clear hi
    rcases hc with rfl | rfl | rfl | rfl | rfl | rfl | rfl | rfl | rfl | rfl
    · obtain rfl := Option.some.inj ho
      have x0 : w'.cell? ⟨w.heap.size, 0, none⟩ = some (.slice adL ls.length capL) := kept HG.out hx0 z0
      have x1 : w'.cell? ⟨w.heap.size, 1, none⟩ = some (.slice adS ss.length capS) := kept HG.out hx0 z1
      have x2 : w'.cell? ⟨w.heap.size, 2, none⟩ = some (.slice adO os.length capO) := kept HG.out hx0 z2
      clear ho HP
      refine wpOp_step rfl (fun K hK => ?_)
      have HQ : Hid (∀ a w, _ → K a w) := hK
      clear hK
      dsimp only
      go_simp
      exact HQ.out _ _ ⟨(Value.agg #[.slice adL ls.length capL, .slice adS ss.length capS, .slice adO os.length capO]), by simp [upd], HI.out.sL⟩
    · obtain rfl := Option.some.inj ho
      have pL : l 0 = true := HP.out { on := 0, ground := .data } (by simp) rfl
      have e0 : fa 0 = (Value.agg #[.slice adL ls.length capL, .slice adS ss.length capS, .slice adO os.length capO]) := HI.out.fL pL
      clear ho HP
      refine wpOp_step rfl (fun K hK => ?_)
      have HQ : Hid (∀ a w, _ → K a w) := hK
      clear hK
      simp only [e0]
      go_simp
      refine (toDisk_any adL adS adO capL capS capO ls ss os w' pl1 ps1 po1 (dk_self (HH.out.later (K2.out.bel.trans (HG.out.mono K2.out.bel.size))))).mono ?_
      rintro e w3 ⟨tL, tS, tO, rfl, -, -, -, sL, sS, sO, hb3⟩
      go_wp2_with fail
      exact HQ.out _ _ ⟨_, by simp [upd, e0], (HI.out.later (fun u h => by obtain ⟨a, b, c, e, h⟩ := h; exact ⟨a, b, c, e, dk_self (h.later hb3)⟩) hb3 (HG.out.trans (hb3.mono HG.out.size))).sD ⟨tL, tS, tO, rfl, ⟨Below.refl _ _, sL, sS, sO⟩⟩⟩
    · obtain rfl := Option.some.inj ho
      have x0 : w'.cell? ⟨w.heap.size + 1, 0, none⟩ = some (.int .i64 o.k) := kept HG.out hx1 y0
      have x1 : w'.cell? ⟨w.heap.size + 1, 1, none⟩ = some (.string o.n) := kept HG.out hx1 y1
      have x2 : w'.cell? ⟨w.heap.size + 1, 2, none⟩ = some (.string o.t) := kept HG.out hx1 y2
      have x3 : w'.cell? ⟨w.heap.size + 1, 3, none⟩ = some (.string o.d) := kept HG.out hx1 y3
      clear ho HP
      refine wpOp_step rfl (fun K hK => ?_)
      have HQ : Hid (∀ a w, _ → K a w) := hK
      clear hK
      dsimp only
      go_simp
      exact HQ.out _ _ ⟨(Value.agg #[.int .i64 o.k, .string o.n, .string o.t, .string o.d]), by simp [upd], HI.out.sO⟩
    · obtain rfl := Option.some.inj ho
      have pO : l 2 = true := HP.out { on := 2, ground := .data } (by simp) rfl
      have e2 : fa 2 = (Value.agg #[.int .i64 o.k, .string o.n, .string o.t, .string o.d]) := HI.out.fO pO
      clear ho HP
      refine wpOp_step rfl (fun K hK => ?_)
      have HQ : Hid (∀ a w, _ → K a w) := hK
      clear hK
      simp only [e2]
      go_simp
      refine (toDOp_any o.k o.n o.t o.d w').mono ?_
      rintro e w3 ⟨rfl, hb3⟩
      go_wp2_with fail
      exact HQ.out _ _ ⟨(Value.agg #[.int .i64 o.k, .string o.n, .string o.t, .string o.d]), by simp [upd, e2], (HI.out.later (fun u h => by obtain ⟨a, b, c, e, h⟩ := h; exact ⟨a, b, c, e, dk_self (h.later hb3)⟩) hb3 (HG.out.trans (hb3.mono HG.out.size))).sP⟩
    · obtain rfl := Option.some.inj ho
      have pD : l 1 = true := HP.out { on := 1, ground := .data } (by simp) rfl
      have pP : l 3 = true := HP.out { on := 3, ground := .data } (by simp) rfl
      obtain ⟨tL, tS, tO, e1, hD⟩ := HI.out.fD pD hli
      have HD := HIDk hD
      clear hD
      have e3 : fa 3 = (Value.agg #[.int .i64 o.k, .string o.n, .string o.t, .string o.d]) := HI.out.fP pP
      clear ho HP
      refine wpOp_step rfl (fun K hK => ?_)
      have HQ : Hid (∀ a w, _ → K a w) := hK
      clear hK
      simp only [e1, e3]
      go_simp
      refine (HSD.out _ _ _ _ _ _ w' HD.out (fun h => by cases h) (fun h => by cases h)).mono ?_
      rintro e w3 ⟨v3, rfl, ⟨c1, c2, c3, s1, s2, s3, rfl, hS, hN⟩, hb3⟩
      have HA := HIDk (hS.mono HI.out.bel.2)
      clear hS
      go_wp2_with fail
      exact HQ.out _ _ ⟨_, by simp [upd, e1, e3], II.sR hli HI.out hb3 (HG.out.trans (hb3.mono HG.out.size)) ⟨c1, c2, c3, s1, s2, s3, rfl, HA.out, hN⟩⟩
    · obtain rfl := Option.some.inj ho
      have pR : l 4 = true := HP.out { on := 4, ground := .data } (by simp) rfl
      clear ho HP
      refine wpOp_step rfl (fun K hK => ?_)
      have HQ : Hid (∀ a w, _ → K a w) := hK
      clear hK
      dsimp only
      go_simp
      exact HQ.out _ _ ⟨fa 4, by simp [upd], II.sM pR HI.out⟩
    · obtain rfl := Option.some.inj ho
      have pM : l 5 = true := HP.out { on := 5, ground := .data } (by simp) rfl
      obtain ⟨hR, e5'⟩ := HI.out.fM pM
      obtain ⟨c1, c2, c3, s1, s2, s3, e4, hO, hN⟩ := HI.out.ans hR
      have e5 : fa 5 = .tuple #[.agg #[.slice c1 ys.length s1, .slice c2 zs.length s2, .slice c3 us.length s3], .int .i64 cc] := e5'.trans e4
      have E4 := HIDk e4
      clear e5' hO hN e4
      clear ho HP
      refine wpOp_step rfl (fun K hK => ?_)
      have HQ : Hid (∀ a w, _ → K a w) := hK
      clear hK
      simp only [e5]
      go_simp
      exact HQ.out _ _ ⟨.agg #[.slice c1 ys.length s1, .slice c2 zs.length s2, .slice c3 us.length s3], by simp [upd, e5], II.sE hR HI.out E4.out⟩
    · obtain rfl := Option.some.inj ho
      have pM : l 5 = true := HP.out { on := 5, ground := .data } (by simp) rfl
      obtain ⟨hR, e5'⟩ := HI.out.fM pM
      obtain ⟨c1, c2, c3, s1, s2, s3, e4, hO, hN⟩ := HI.out.ans hR
      have e5 : fa 5 = .tuple #[.agg #[.slice c1 ys.length s1, .slice c2 zs.length s2, .slice c3 us.length s3], .int .i64 cc] := e5'.trans e4
      have E4 := HIDk e4
      clear e5' hO hN e4
      clear ho HP
      refine wpOp_step rfl (fun K hK => ?_)
      have HQ : Hid (∀ a w, _ → K a w) := hK
      clear hK
      simp only [e5]
      go_simp
      exact HQ.out _ _ ⟨.int .i64 cc, by simp [upd, e5], HI.out.sC⟩
    · obtain rfl := Option.some.inj ho
      clear ho HP
      refine wpOp_step rfl (fun K hK => ?_)
      have HQ : Hid (∀ a w, _ → K a w) := hK
      clear hK
      dsimp only
      go_simp
      exact HQ.out _ _ ⟨_, by simp [upd], II.sA hli HI.out (fun u h => by obtain ⟨a, b, c, e, h⟩ := h; exact ⟨a, b, c, e, dk_self (h.later ((Below.refl _ _).alloc (Nat.le_refl _) _))⟩) (HG.out.alloc HG.out.size _)⟩
    · obtain rfl := Option.some.inj ho
      have pA : l 8 = true := HP.out { on := 8, ground := .data } (by simp) rfl
      have pE : l 6 = true := HP.out { on := 6, ground := .data } (by simp) rfl
      obtain ⟨g, e8, hx⟩ := HI.out.box pA
      obtain ⟨hR, y, eE⟩ := HI.out.fE pE
      obtain ⟨c1, c2, c3, s1, s2, s3, e4, hO, hN⟩ := HI.out.ans hR
      have e6 : fa 6 = .agg #[.slice c1 ys.length s1, .slice c2 zs.length s2, .slice c3 us.length s3] := by have h := eE.symm.trans e4; simpa using (by simpa using h : _ ∧ _).1
      have HX := HIDk hx
      have HO := HIDk hO
      have E4 := HIDk e4
      have HNl := HIDk hN
      have fr : ∀ j, w'.frozen? ⟨g, j, none⟩ = false := hx.fr
      have hlt := hx.lt
      have hge := hx.ge
      obtain ⟨_, _, _, h0⟩ := hx.c0
      obtain ⟨_, _, _, h1⟩ := hx.c1
      obtain ⟨_, _, _, h2⟩ := hx.c2
      have E8 := HIDk e8
      clear hx hO e4 eE hN
      clear ho HP
      refine wpOp_step rfl (fun K hK => ?_)
      have HQ : Hid (∀ a w, _ → K a w) := hK
      clear hK
      simp only [e8, e6]
      go_simp
      exact HQ.out _ _ ⟨undef, by simp [upd, e8, e6], II.sS hR pA E4.out E8.out HI.out HO.out HNl.out HX.out (((HG.out.setCell (p := ⟨g, 0, none⟩) HX.out.ge _).setCell (p := ⟨g, 1, none⟩) HX.out.ge _).setCell (p := ⟨g, 2, none⟩) HX.out.ge _)⟩
  rintro op ho l fa w3 hall hI
  obtain rfl := Option.some.inj ho
  have e7 : fa 7 = .int .i64 cc := hI.fC (hall 7 (by omega))
  obtain ⟨-, -, a1, a2, a3, p1, p2, p3, g4, eR, hO, hN, eA, hx, k0, k1, k2⟩ := hI.don (hall 9 (by omega))
  have hG : Below w2.heap.size w2 w3 := hI.bel.1
  clear ho hall hI eR
  refine wpOp_step rfl (fun K hK => ?_)
  have HQ : Hid (∀ a w, _ → K a w) := hK
  clear hK
  simp only [e7, eA]
  go_simp
  refine HQ.out _ _ ?_
  clear HQ e7 eA
  have n23 : w2.heap.size ≤ w3.heap.size := hG.size
  have K3 := HIDk (K2.out.later hG)
  have A3 := HIDk (C2.out.later hG)
  have C4 : Hid (Cn g4 (.slice a1 ys.length p1) (.slice a2 zs.length p2) (.slice a3 us.length p3) w3) := ⟨hx.lt, k0, k1, k2⟩
  have r4 : w.heap.size + 1 < g4 ∧ g4 < w3.heap.size := ⟨by have := hx.ge; omega, hx.lt⟩
  have R0 : Hid (∀ g, InD a1 a2 a3 ys zs us g → w.heap.size + 1 < g ∧ g < w3.heap.size) := fun g hg => by have := hO.inD hg; omega
  have O3 := HIDk (hO.mono (Nat.zero_le _))
  clear hG hx hO hN k0 k1 k2 K2 C2 z0 z1 z2 y0 y1 y2 y3 hsz hx0 hx1
  obtain ⟨z0, z1, z2, -, -, -, -, -⟩ := A3.out
  go_wp2_with fail
  refine (toDisk_any adL adS adO capL capS capO ls ss os w3 pl1 ps1 po1 (dk_self K3.out)).mono ?_
  rintro e w5 ⟨qL, qS, qO, rfl, g1, g2, g3, sL, sS, sO, hb5⟩
  have OX := toPost_own g1 g2 g3 sL sS sO
  have RX : Hid (∀ g, InD (some ⟨qL, 0, none⟩) (some ⟨qS, 0, none⟩) (some ⟨qO, 0, none⟩) ls ss os g → w3.heap.size ≤ g ∧ g < w5.heap.size) := fun g hg => by have := OX.inD hg; omega
  have n5 : w3.heap.size ≤ w5.heap.size := hb5.size
  have K5 := HIDk (K3.out.later hb5)
  have A5 := HIDk (A3.out.later hb5)
  have C5 := HIDk (C4.out.later hb5)
  have O5 := HIDk (O3.out.below hb5)
  have OX5 := HIDk (OX.mono (Nat.zero_le _))
  clear hb5 OX g1 g2 g3 sL sS sO K3 A3 C4 O3 z0 z1 z2
  obtain ⟨X5, hX5⟩ : ∃ X5, X5 = w5.alloc (.cells #[.slice (some ⟨qL, 0, none⟩) ls.length ls.length, .slice (some ⟨qS, 0, none⟩) ss.length ss.length, .slice (some ⟨qO, 0, none⟩) os.length os.length] 33) := ⟨_, rfl⟩
  have hbX : Below w5.heap.size w5 X5 := by rw [hX5]; exact (Below.refl _ _).alloc (Nat.le_refl _) _
  have B5 : Hid (Cn w5.heap.size (.slice (some ⟨qL, 0, none⟩) ls.length ls.length) (.slice (some ⟨qS, 0, none⟩) ss.length ss.length) (.slice (some ⟨qO, 0, none⟩) os.length os.length) X5) := by rw [hX5]; exact cn_new _ _ _ _ _
  have K6 := HIDk (K5.out.later hbX)
  have A6 := HIDk (A5.out.later hbX)
  have C6 := HIDk (C5.out.later hbX)
  have O6 := HIDk (O5.out.below hbX)
  have OX6 := HIDk (OX5.out.below hbX)
  have hx5 : w5.heap.size < X5.heap.size := B5.out.lt
  have hx1 : w.heap.size + 1 < X5.heap.size := by omega
  clear hbX K5 A5 C5 O5 OX5
  go_wp2_with fail
  rw [← hX5]
  clear hX5
  obtain ⟨-, b50, b51, b52⟩ := B5.out
  obtain ⟨-, -, -, y0, y1, y2, y3, -⟩ := A6.out
  refine wp_region_frame 9 (fun _ => undef) (fun fb => { tmps := List.toArray (Value.agg #[Value.slice adL ls.length capL, Value.slice adS ss.length capS, Value.slice adO os.length capO] :: Value.agg #[Value.int IntKind.i64 o.k, Value.string o.n, Value.string o.t, Value.string o.d] :: Value.pointer (some { block := w.heap.size, off := 0 }) :: Value.pointer (some { block := w.heap.size + 1, off := 0 }) :: Value.bool false :: Value.int IntKind.i64 n2 :: Value.pointer (some { block := g4, off := 0 }) :: Value.int IntKind.i64 cc :: Value.pointer (some { block := w5.heap.size, off := 0 }) :: fb 7 :: undef :: undef :: undef :: undef :: undef :: undef :: Value.agg #[Value.slice adL ls.length capL, Value.slice adS ss.length capS, Value.slice adO os.length capO] :: Value.int IntKind.i64 1048576 :: Value.int IntKind.i64 n1 :: Value.int IntKind.i64 n1 :: Value.bool false :: Value.agg #[Value.int IntKind.i64 o.k, Value.string o.n, Value.string o.t, Value.string o.d] :: Value.int IntKind.i64 n1 :: Value.int IntKind.i64 n2 :: Value.int IntKind.i64 n2 :: Value.bool false :: fa 5 :: fa 0 :: fa 1 :: fa 2 :: fa 3 :: fa 4 :: fa 6 :: Value.int IntKind.i64 cc :: Value.agg #[Value.slice adL ls.length capL, Value.slice adS ss.length capS, Value.slice adO os.length capO] :: Value.agg #[Value.slice (some { block := qL, off := 0 }) ls.length ls.length, Value.slice (some { block := qS, off := 0 }) ss.length ss.length, Value.slice (some { block := qO, off := 0 }) os.length os.length] :: fb 4 :: fb 0 :: fb 1 :: fb 2 :: fb 3 :: fb 5 :: fb 6 :: undef :: undef :: undef :: undef :: undef :: undef :: undef :: undef :: undef :: undef :: undef :: undef :: undef :: undef :: undef :: undef :: undef :: undef :: undef :: undef :: undef :: undef :: undef :: undef :: undef :: undef :: undef :: undef :: undef :: undef :: undef :: undef :: undef :: undef :: undef :: undef :: undef :: undef :: undef :: undef :: undef :: undef :: undef :: undef :: undef :: undef :: undef :: undef :: undef :: undef :: undef :: undef :: undef :: undef :: undef :: undef :: undef :: undef :: undef :: undef :: undef :: undef :: undef :: undef :: undef :: undef :: []), defers := [] }) (fun l fb W' => II (fun u W' => u = (Value.agg #[.slice (some ⟨qL, 0, none⟩) ls.length ls.length, .slice (some ⟨qS, 0, none⟩) ss.length ss.length, .slice (some ⟨qO, 0, none⟩) os.length os.length])) (Value.agg #[.slice (some ⟨qL, 0, none⟩) ls.length ls.length, .slice (some ⟨qS, 0, none⟩) ss.length ss.length, .slice (some ⟨qO, 0, none⟩) os.length os.length]) (Value.agg #[.int .i64 o.k, .string o.n, .string o.t, .string o.d]) (fun W' => Below X5.heap.size X5 W') X5.heap.size cc ys zs us true (l 0) (l 1) (l 2) (l 3) (l 4) (l 5) (l 6) (l 7) (l 8) (Value.agg #[.slice (some ⟨qL, 0, none⟩) ls.length ls.length, .slice (some ⟨qS, 0, none⟩) ss.length ss.length, .slice (some ⟨qO, 0, none⟩) os.length os.length]) (fb 0) (fb 1) (fb 2) (fb 3) (fb 4) (fb 5) (fb 6) (fb 7) W') (by kernel_rfl) rfl (by kernel_rfl) (by kernel_rfl) rfl (II.start (fun _ => rfl) (Below.refl _ _).drew (Nat.le_refl _)) ?_ ?_
  · rintro i hi op ho l fb w' hli hI hpre
    have HP : Hid (∀ e ∈ op.after, Region.binds .any e = true → l e.on = true) := hpre
    have HI : Hid (II (fun u W' => u = (Value.agg #[.slice (some ⟨qL, 0, none⟩) ls.length ls.length, .slice (some ⟨qS, 0, none⟩) ss.length ss.length, .slice (some ⟨qO, 0, none⟩) os.length os.length])) (Value.agg #[.slice (some ⟨qL, 0, none⟩) ls.length ls.length, .slice (some ⟨qS, 0, none⟩) ss.length ss.length, .slice (some ⟨qO, 0, none⟩) os.length os.length]) (Value.agg #[.int .i64 o.k, .string o.n, .string o.t, .string o.d]) (fun W' => Below X5.heap.size X5 W') X5.heap.size cc ys zs us true (l 0) (l 1) (l 2) (l 3) (l 4) (l 5) (l 6) (l 7) (l 8) (Value.agg #[.slice (some ⟨qL, 0, none⟩) ls.length ls.length, .slice (some ⟨qS, 0, none⟩) ss.length ss.length, .slice (some ⟨qO, 0, none⟩) os.length os.length]) (fb 0) (fb 1) (fb 2) (fb 3) (fb 4) (fb 5) (fb 6) (fb 7) w') := hI
    have HG := HIDk HI.out.bel.1
    clear hI hpre
    have hc : i = 0 ∨ i = 1 ∨ i = 2 ∨ i = 3 ∨ i = 4 ∨ i = 5 ∨ i = 6 ∨ i = 7 ∨ i = 8 := by omega
    clear hi
    rcases hc with rfl | rfl | rfl | rfl | rfl | rfl | rfl | rfl | rfl
    · obtain rfl := Option.some.inj ho
      have x0 : w'.cell? ⟨w5.heap.size, 0, none⟩ = some (.slice (some ⟨qL, 0, none⟩) ls.length ls.length) := kept HG.out hx5 b50
      have x1 : w'.cell? ⟨w5.heap.size, 1, none⟩ = some (.slice (some ⟨qS, 0, none⟩) ss.length ss.length) := kept HG.out hx5 b51
      have x2 : w'.cell? ⟨w5.heap.size, 2, none⟩ = some (.slice (some ⟨qO, 0, none⟩) os.length os.length) := kept HG.out hx5 b52
      clear ho HP
      refine wpOp_step rfl (fun K hK => ?_)
      have HQ : Hid (∀ a w, _ → K a w) := hK
      clear hK
      dsimp only
      go_simp
      exact HQ.out _ _ ⟨(Value.agg #[.slice (some ⟨qL, 0, none⟩) ls.length ls.length, .slice (some ⟨qS, 0, none⟩) ss.length ss.length, .slice (some ⟨qO, 0, none⟩) os.length os.length]), by simp [upd], HI.out.sD rfl⟩
    · obtain rfl := Option.some.inj ho
      have x0 : w'.cell? ⟨w.heap.size + 1, 0, none⟩ = some (.int .i64 o.k) := kept HG.out hx1 y0
      have x1 : w'.cell? ⟨w.heap.size + 1, 1, none⟩ = some (.string o.n) := kept HG.out hx1 y1
      have x2 : w'.cell? ⟨w.heap.size + 1, 2, none⟩ = some (.string o.t) := kept HG.out hx1 y2
      have x3 : w'.cell? ⟨w.heap.size + 1, 3, none⟩ = some (.string o.d) := kept HG.out hx1 y3
      clear ho HP
      refine wpOp_step rfl (fun K hK => ?_)
      have HQ : Hid (∀ a w, _ → K a w) := hK
      clear hK
      dsimp only
      go_simp
      exact HQ.out _ _ ⟨(Value.agg #[.int .i64 o.k, .string o.n, .string o.t, .string o.d]), by simp [upd], HI.out.sO⟩
    · obtain rfl := Option.some.inj ho
      have pO : l 1 = true := HP.out { on := 1, ground := .data } (by simp) rfl
      have e2 : fb 1 = (Value.agg #[.int .i64 o.k, .string o.n, .string o.t, .string o.d]) := HI.out.fO pO
      clear ho HP
      refine wpOp_step rfl (fun K hK => ?_)
      have HQ : Hid (∀ a w, _ → K a w) := hK
      clear hK
      simp only [e2]
      go_simp
      refine (toDOp_any o.k o.n o.t o.d w').mono ?_
      rintro e w3 ⟨rfl, hb3⟩
      go_wp2_with fail
      exact HQ.out _ _ ⟨(Value.agg #[.int .i64 o.k, .string o.n, .string o.t, .string o.d]), by simp [upd, e2], (HI.out.later (fun u h => h) hb3 (HG.out.trans (hb3.mono HG.out.size))).sP⟩
    · obtain rfl := Option.some.inj ho
      have pD : l 0 = true := HP.out { on := 0, ground := .data } (by simp) rfl
      have pP : l 2 = true := HP.out { on := 2, ground := .data } (by simp) rfl
      have e1 : fb 0 = (Value.agg #[.slice (some ⟨qL, 0, none⟩) ls.length ls.length, .slice (some ⟨qS, 0, none⟩) ss.length ss.length, .slice (some ⟨qO, 0, none⟩) os.length os.length]) := HI.out.fD pD hli
      have e3 : fb 2 = (Value.agg #[.int .i64 o.k, .string o.n, .string o.t, .string o.d]) := HI.out.fP pP
      clear ho HP
      refine wpOp_step rfl (fun K hK => ?_)
      have HQ : Hid (∀ a w, _ → K a w) := hK
      clear hK
      simp only [e1, e3]
      go_simp
      refine (HID.out _ _ _ _ _ _ w' (own_dk (OX6.out.below HG.out)) (fun h => by cases h) (fun h => by cases h)).mono ?_
      rintro e w3 ⟨v3, rfl, ⟨c1, c2, c3, s1, s2, s3, rfl, hS, hN⟩, hb3⟩
      have HA := HIDk (hS.mono HI.out.bel.2)
      clear hS
      go_wp2_with fail
      exact HQ.out _ _ ⟨_, by simp [upd, e1, e3], II.sR hli HI.out hb3 (HG.out.trans (hb3.mono HG.out.size)) ⟨c1, c2, c3, s1, s2, s3, rfl, HA.out, hN⟩⟩
    · obtain rfl := Option.some.inj ho
      have pR : l 3 = true := HP.out { on := 3, ground := .data } (by simp) rfl
      clear ho HP
      refine wpOp_step rfl (fun K hK => ?_)
      have HQ : Hid (∀ a w, _ → K a w) := hK
      clear hK
      dsimp only
      go_simp
      exact HQ.out _ _ ⟨fb 3, by simp [upd], II.sM pR HI.out⟩
    · obtain rfl := Option.some.inj ho
      have pM : l 4 = true := HP.out { on := 4, ground := .data } (by simp) rfl
      obtain ⟨hR, e5'⟩ := HI.out.fM pM
      obtain ⟨c1, c2, c3, s1, s2, s3, e4, hO, hN⟩ := HI.out.ans hR
      have e5 : fb 4 = .tuple #[.agg #[.slice c1 ys.length s1, .slice c2 zs.length s2, .slice c3 us.length s3], .int .i64 cc] := e5'.trans e4
      have E4 := HIDk e4
      clear e5' hO hN e4
      clear ho HP
      refine wpOp_step rfl (fun K hK => ?_)
      have HQ : Hid (∀ a w, _ → K a w) := hK
      clear hK
      simp only [e5]
      go_simp
      exact HQ.out _ _ ⟨.agg #[.slice c1 ys.length s1, .slice c2 zs.length s2, .slice c3 us.length s3], by simp [upd, e5], II.sE hR HI.out E4.out⟩
    · obtain rfl := Option.some.inj ho
      have pM : l 4 = true := HP.out { on := 4, ground := .data } (by simp) rfl
      obtain ⟨hR, e5'⟩ := HI.out.fM pM
      obtain ⟨c1, c2, c3, s1, s2, s3, e4, hO, hN⟩ := HI.out.ans hR
      have e5 : fb 4 = .tuple #[.agg #[.slice c1 ys.length s1, .slice c2 zs.length s2, .slice c3 us.length s3], .int .i64 cc] := e5'.trans e4
      have E4 := HIDk e4
      clear e5' hO hN e4
      clear ho HP
      refine wpOp_step rfl (fun K hK => ?_)
      have HQ : Hid (∀ a w, _ → K a w) := hK
      clear hK
      simp only [e5]
      go_simp
      exact HQ.out _ _ ⟨.int .i64 cc, by simp [upd, e5], HI.out.sC⟩
    · obtain rfl := Option.some.inj ho
      clear ho HP
      refine wpOp_step rfl (fun K hK => ?_)
      have HQ : Hid (∀ a w, _ → K a w) := hK
      clear hK
      dsimp only
      go_simp
      exact HQ.out _ _ ⟨_, by simp [upd], II.sA hli HI.out (fun u h => h) (HG.out.alloc HG.out.size _)⟩
    · obtain rfl := Option.some.inj ho
      have pA : l 7 = true := HP.out { on := 7, ground := .data } (by simp) rfl
      have pE : l 5 = true := HP.out { on := 5, ground := .data } (by simp) rfl
      obtain ⟨g, e8, hx⟩ := HI.out.box pA
      obtain ⟨hR, y, eE⟩ := HI.out.fE pE
      obtain ⟨c1, c2, c3, s1, s2, s3, e4, hO, hN⟩ := HI.out.ans hR
      have e6 : fb 5 = .agg #[.slice c1 ys.length s1, .slice c2 zs.length s2, .slice c3 us.length s3] := by have h := eE.symm.trans e4; simpa using (by simpa using h : _ ∧ _).1
      have HX := HIDk hx
      have HO := HIDk hO
      have E4 := HIDk e4
      have HNl := HIDk hN
      have fr : ∀ j, w'.frozen? ⟨g, j, none⟩ = false := hx.fr
      have hlt := hx.lt
      have hge := hx.ge
      obtain ⟨_, _, _, h0⟩ := hx.c0
      obtain ⟨_, _, _, h1⟩ := hx.c1
      obtain ⟨_, _, _, h2⟩ := hx.c2
      have E8 := HIDk e8
      clear hx hO e4 eE hN
      clear ho HP
      refine wpOp_step rfl (fun K hK => ?_)
      have HQ : Hid (∀ a w, _ → K a w) := hK
      clear hK
      simp only [e8, e6]
      go_simp
      exact HQ.out _ _ ⟨undef, by simp [upd, e8, e6], II.sS hR pA E4.out E8.out HI.out HO.out HNl.out HX.out (((HG.out.setCell (p := ⟨g, 0, none⟩) HX.out.ge _).setCell (p := ⟨g, 1, none⟩) HX.out.ge _).setCell (p := ⟨g, 2, none⟩) HX.out.ge _)⟩
  rintro op ho l fb w6 hall hI
  obtain rfl := Option.some.inj ho
  have e7 : fb 6 = .int .i64 cc := hI.fC (hall 6 (by omega))
  obtain ⟨-, -, b1, b2, b3, r1, r2, r3, g6, eR, hO, hN, eA, hx, k0, k1, k2⟩ := hI.don (hall 8 (by omega))
  have hG : Below X5.heap.size X5 w6 := hI.bel.1
  clear ho hall hI eR
  refine wpOp_step rfl (fun K hK => ?_)
  have HQ : Hid (∀ a w, _ → K a w) := hK
  clear hK
  simp only [e7, eA]
  go_simp
  refine HQ.out _ _ ?_
  clear HQ e7 eA
  have n6 : X5.heap.size ≤ w6.heap.size := hG.size
  have RG : Hid (∀ g, InD b1 b2 b3 ys zs us g → X5.heap.size ≤ g ∧ g < w6.heap.size ∧ g ≠ g6) := fun g hg => ⟨(hO.inD hg).1, (hO.inD hg).2, fun e => hx.not hO (by rw [← e]; exact hg)⟩
  have r6 : X5.heap.size ≤ g6 ∧ g6 < w6.heap.size := ⟨hx.ge, hx.lt⟩
  have L8 : Hid (LN w g4 w5.heap.size g6 (.slice adL ls.length capL) (.slice adS ss.length capS) (.slice adO os.length capO) o (.slice a1 ys.length p1) (.slice a2 zs.length p2) (.slice a3 us.length p3) (.slice (some ⟨qL, 0, none⟩) ls.length ls.length) (.slice (some ⟨qS, 0, none⟩) ss.length ss.length) (.slice (some ⟨qO, 0, none⟩) os.length os.length) (.slice b1 ys.length r1) (.slice b2 zs.length r2) (.slice b3 us.length r3) a1 a2 a3 ys zs us w6) := ⟨A6.out.later hG, C6.out.later hG, B5.out.later hG, ⟨hx.lt, k0, k1, k2⟩, (K6.out.later hG).bel, O6.out.below hG⟩
  have OX8 := HIDk (OX6.out.below hG)
  have OG8 := HIDk (hO.mono (Nat.zero_le _))
  clear hG hx hO hN k0 k1 k2 K6 A6 C6 B5 O6 OX6 b50 b51 b52 y0 y1 y2 y3 hx1
  obtain ⟨-, e0, e1, e2⟩ := L8.out.c4
  obtain ⟨-, f0, f1, f2⟩ := L8.out.c6
  go_wp2_with fail
  refine (eqDisk_same _ _ _ _ _ _ _ _ _ _ _ _ ys zs us w6 lys lzs lus (own_dk OG8.out) (own_dk L8.out.own)).mono ?_
  rintro e w9 ⟨rfl, hb9⟩
  have L9 := HIDk (L8.out.later hb9)
  have OX9 := HIDk (OX8.out.below hb9)
  have OG9 := HIDk (OG8.out.below hb9)
  clear hb9 L8 OX8 OG8 e0 e1 e2 f0 f1 f2
  have hdr : Below w9.heap.size w9 w9.drew := (Below.refl _ _).drew
  have L9d := HIDk (L9.out.later hdr)
  have OXd := HIDk (OX9.out.below hdr)
  have OGd := HIDk (OG9.out.below hdr)
  have H0 : w9.drew.cell? ⟨w.heap.size, 0, none⟩ = some (.slice adL ls.length capL) ∧ w9.drew.cell? ⟨w.heap.size, 1, none⟩ = some (.slice adS ss.length capS) ∧ w9.drew.cell? ⟨w.heap.size, 2, none⟩ = some (.slice adO os.length capO) ∧ w9.drew.cell? ⟨w5.heap.size, 0, none⟩ = some (.slice (some ⟨qL, 0, none⟩) ls.length ls.length) ∧ w9.drew.cell? ⟨w5.heap.size, 1, none⟩ = some (.slice (some ⟨qS, 0, none⟩) ss.length ss.length) ∧ w9.drew.cell? ⟨w5.heap.size, 2, none⟩ = some (.slice (some ⟨qO, 0, none⟩) os.length os.length) ∧ w.heap.size < w9.drew.heap.size ∧ w5.heap.size < w9.drew.heap.size := ⟨L9d.out.c1.z0, L9d.out.c1.z1, L9d.out.c1.z2, L9d.out.c5.c0, L9d.out.c5.c1, L9d.out.c5.c2, by have := L9d.out.c1.sz; omega, L9d.out.c5.lt⟩
  clear hdr L9 OX9 OG9
  go_wp2_with fail
  go_region_held3 (fun w' => w'.cell? ⟨w.heap.size, 0, none⟩ = some (.slice adL ls.length capL) ∧ w'.cell? ⟨w.heap.size, 1, none⟩ = some (.slice adS ss.length capS) ∧ w'.cell? ⟨w.heap.size, 2, none⟩ = some (.slice adO os.length capO) ∧ w'.cell? ⟨w5.heap.size, 0, none⟩ = some (.slice (some ⟨qL, 0, none⟩) ls.length ls.length) ∧ w'.cell? ⟨w5.heap.size, 1, none⟩ = some (.slice (some ⟨qS, 0, none⟩) ss.length ss.length) ∧ w'.cell? ⟨w5.heap.size, 2, none⟩ = some (.slice (some ⟨qO, 0, none⟩) os.length os.length) ∧ w.heap.size < w'.heap.size ∧ w5.heap.size < w'.heap.size)
    (first | assumption | exact keepD (by assumption) hb10 | exact keepD (by assumption) hb11 | exact H0)
    (first | (go_at_call 12; refine (toDisk_any adL adS adO capL capS capO ls ss os _ pl1 ps1 po1 (dk_self (HH.out.later L9d.out.bel))).mono ?_; rintro e w10 ⟨tL, tS, tO, rfl, -, -, -, sL, sS, sO, hb10⟩) | (go_at_call 15; refine (eqDisk_same _ _ _ _ _ _ _ _ _ _ _ _ ls ss os _ pl1 ps1 po1 (own_dk (OXd.out.below hb10)) ⟨Below.refl _ _, sL, sS, sO⟩).mono ?_; rintro e w11 ⟨rfl, hb11⟩))
  rename_i hH
  have L11 := HIDk ((L9d.out.later hb10).later hb11)
  have OX11 := HIDk ((OXd.out.below hb10).below hb11)
  have OG11 := HIDk ((OGd.out.below hb10).below hb11)
  clear hH H0 hb10 hb11 sL sS sO L9d OXd OGd
  obtain ⟨-, y0, y1, y2⟩ := L11.out.c5
  go_wp2_with fail
  refine (markDisk_any _ _ _ _ _ _ ls ss os 1 0 w11 OX11.out (by decide) (by decide) pl1 ps1 po1).mono ?_
  rintro e w12 ⟨rfl, -, hc12⟩
  have L12 := HIDk (L11.out.chg hc12 (fun g hg => by have h1 := RX.out g hg; exact ⟨by omega, by omega, by omega, by omega, fun h2 => by have := R0.out g h2; omega⟩))
  have OG12 := HIDk (OG11.out.chg hc12 (fun g hg h2 => by have h1 := RX.out g h2; have := RG.out g hg; have := L11.out.c5.lt; omega))
  clear hc12 L11 OX11 OG11 y0 y1 y2
  obtain ⟨-, e0, e1, e2⟩ := L12.out.c4
  obtain ⟨-, f0, f1, f2⟩ := L12.out.c6
  have dk1 : decide (((1 + 2 * ls.length + 2 * ss.length + 4 * os.length : Nat) : Int) < 0) = false := by simp; omega
  go_wp2_with fail
  refine (eqDisk_same _ _ _ _ _ _ _ _ _ _ _ _ ys zs us w12 lys lzs lus (own_dk OG12.out) (own_dk L12.out.own)).mono ?_
  rintro e w13 ⟨rfl, hb13⟩
  have L13 := HIDk (L12.out.later hb13)
  have OG13 := HIDk (OG12.out.below hb13)
  clear hb13 L12 OG12 e0 e1 e2 f0 f1 f2 dk1
  obtain ⟨-, f0, f1, f2⟩ := L13.out.c6
  go_wp2_with fail
  refine (markDisk_any _ _ _ _ _ _ ys zs us 1 0 w13 OG13.out (by decide) (by decide) lys lzs lus).mono ?_
  rintro e w14 ⟨rfl, hm14, hc14⟩
  have L14 := HIDk (L13.out.chg hc14 (fun g hg => by have h1 := RG.out g hg; exact ⟨by omega, by omega, by omega, by omega, fun h2 => by have := R0.out g h2; omega⟩))
  have M14 := HIDk hm14
  clear hm14 hc14 L13 OG13 f0 f1 f2
  obtain ⟨-, f0, f1, f2⟩ := L14.out.c6
  go_wp2_with fail
  refine (heldDisk_any _ _ _ _ _ _ ys zs us 1 w14 M14.out (by decide) (by decide) lys lzs lus).mono ?_
  rintro e w15 ⟨rfl, hb15⟩
  have L15 := HIDk (L14.out.later hb15)
  have M15 := HIDk (M14.out.below hb15)
  clear hb15 L14 M14 f0 f1 f2
  have dm : decide (((1 + 2 * ys.length + 2 * zs.length + 4 * us.length : Nat) : Int) < 0) = false := by simp; omega
  obtain ⟨z0, z1, z2, y0, y1, y2, y3, hsz⟩ := L15.out.c1
  have hx0 : w.heap.size < w15.heap.size := by omega
  have hx1 : w.heap.size + 1 < w15.heap.size := by omega
  go_wp2_with fail
  refine wp_region_frame 10 (fun _ => undef) (fun fc => { tmps := List.toArray (Value.agg #[Value.slice adL ls.length capL, Value.slice adS ss.length capS, Value.slice adO os.length capO] :: Value.agg #[Value.int IntKind.i64 o.k, Value.string o.n, Value.string o.t, Value.string o.d] :: Value.pointer (some { block := w.heap.size, off := 0 }) :: Value.pointer (some { block := w.heap.size + 1, off := 0 }) :: Value.bool false :: Value.int IntKind.i64 n2 :: Value.pointer (some { block := g4, off := 0 }) :: Value.int IntKind.i64 cc :: Value.pointer (some { block := w5.heap.size, off := 0 }) :: Value.pointer (some { block := g6, off := 0 }) :: Value.int IntKind.i64 cc :: Value.int IntKind.i64 (1 + 2 * (ls.length : Int) + 2 * (ss.length : Int) + 4 * (os.length : Int)) :: Value.int IntKind.i64 (1 + 2 * (ys.length : Int) + 2 * (zs.length : Int) + 4 * (us.length : Int)) :: Value.int IntKind.i64 (1 + 2 * (ys.length : Int) + 2 * (zs.length : Int) + 4 * (us.length : Int)) :: fc 8 :: undef :: Value.agg #[Value.slice adL ls.length capL, Value.slice adS ss.length capS, Value.slice adO os.length capO] :: Value.int IntKind.i64 1048576 :: Value.int IntKind.i64 n1 :: Value.int IntKind.i64 n1 :: Value.bool false :: Value.agg #[Value.int IntKind.i64 o.k, Value.string o.n, Value.string o.t, Value.string o.d] :: Value.int IntKind.i64 n1 :: Value.int IntKind.i64 n2 :: Value.int IntKind.i64 n2 :: Value.bool false :: fa 5 :: fa 0 :: fa 1 :: fa 2 :: fa 3 :: fa 4 :: fa 6 :: Value.int IntKind.i64 cc :: Value.agg #[Value.slice adL ls.length capL, Value.slice adS ss.length capS, Value.slice adO os.length capO] :: Value.agg #[Value.slice (some { block := qL, off := 0 }) ls.length ls.length, Value.slice (some { block := qS, off := 0 }) ss.length ss.length, Value.slice (some { block := qO, off := 0 }) os.length os.length] :: fb 4 :: fb 0 :: fb 1 :: fb 2 :: fb 3 :: fb 5 :: Value.int IntKind.i64 cc :: Value.agg #[Value.slice b1 ys.length r1, Value.slice b2 zs.length r2, Value.slice b3 us.length r3] :: Value.agg #[Value.slice a1 ys.length p1, Value.slice a2 zs.length p2, Value.slice a3 us.length p3] :: Value.bool true :: Value.bool false :: Value.bool false :: Value.int IntKind.i64 cc :: Value.int IntKind.i64 cc :: Value.bool false :: Value.bool false :: Value.agg #[Value.slice (some { block := qL, off := 0 }) ls.length ls.length, Value.slice (some { block := qS, off := 0 }) ss.length ss.length, Value.slice (some { block := qO, off := 0 }) os.length os.length] :: Value.agg #[Value.slice adL ls.length capL, Value.slice adS ss.length capS, Value.slice adO os.length capO] :: Value.agg #[Value.slice (some { block := tL, off := 0 }) ls.length ls.length, Value.slice (some { block := tS, off := 0 }) ss.length ss.length, Value.slice (some { block := tO, off := 0 }) os.length os.length] :: Value.bool true :: Value.bool false :: Value.agg #[Value.slice (some { block := qL, off := 0 }) ls.length ls.length, Value.slice (some { block := qS, off := 0 }) ss.length ss.length, Value.slice (some { block := qO, off := 0 }) os.length os.length] :: Value.int IntKind.i64 1 :: Value.int IntKind.i64 (1 + 2 * (ls.length : Int) + 2 * (ss.length : Int) + 4 * (os.length : Int)) :: Value.int IntKind.i64 (1 + 2 * (ls.length : Int) + 2 * (ss.length : Int) + 4 * (os.length : Int)) :: Value.bool (decide (1 + 2 * (ls.length : Int) + 2 * (ss.length : Int) + 4 * (os.length : Int) < 0)) :: Value.bool (decide (1 + 2 * (ls.length : Int) + 2 * (ss.length : Int) + 4 * (os.length : Int) < 0)) :: Value.agg #[Value.slice b1 ys.length r1, Value.slice b2 zs.length r2, Value.slice b3 us.length r3] :: Value.agg #[Value.slice a1 ys.length p1, Value.slice a2 zs.length p2, Value.slice a3 us.length p3] :: Value.bool true :: Value.bool false :: Value.bool (decide (1 + 2 * (ls.length : Int) + 2 * (ss.length : Int) + 4 * (os.length : Int) < 0)) :: Value.bool (decide (1 + 2 * (ls.length : Int) + 2 * (ss.length : Int) + 4 * (os.length : Int) < 0)) :: Value.int IntKind.i64 cc :: Value.int IntKind.i64 cc :: Value.bool false :: Value.bool (decide (1 + 2 * (ls.length : Int) + 2 * (ss.length : Int) + 4 * (os.length : Int) < 0)) :: Value.agg #[Value.slice b1 ys.length r1, Value.slice b2 zs.length r2, Value.slice b3 us.length r3] :: Value.int IntKind.i64 1 :: Value.int IntKind.i64 (1 + 2 * (ys.length : Int) + 2 * (zs.length : Int) + 4 * (us.length : Int)) :: Value.agg #[Value.slice b1 ys.length r1, Value.slice b2 zs.length r2, Value.slice b3 us.length r3] :: Value.int IntKind.i64 1 :: Value.int IntKind.i64 (1 + 2 * (ys.length : Int) + 2 * (zs.length : Int) + 4 * (us.length : Int)) :: Value.int IntKind.i64 (1 + 2 * (ys.length : Int) + 2 * (zs.length : Int) + 4 * (us.length : Int)) :: Value.bool (decide (1 + 2 * (ys.length : Int) + 2 * (zs.length : Int) + 4 * (us.length : Int) < 0)) :: Value.int IntKind.i64 (1 + 2 * (ys.length : Int) + 2 * (zs.length : Int) + 4 * (us.length : Int)) :: Value.int IntKind.i64 (1 + 2 * (ys.length : Int) + 2 * (zs.length : Int) + 4 * (us.length : Int)) :: Value.bool false :: fc 5 :: fc 0 :: fc 1 :: fc 2 :: fc 3 :: fc 4 :: fc 6 :: fc 7 :: undef :: undef :: undef :: undef :: undef :: undef :: undef :: undef :: undef :: undef :: undef :: undef :: undef :: undef :: undef :: undef :: undef :: []), defers := [] }) (fun l fc W' => II (fun u W' => ∃ gL gS gO, u = .agg #[.slice (some ⟨gL, 0, none⟩) ls.length ls.length, .slice (some ⟨gS, 0, none⟩) ss.length ss.length, .slice (some ⟨gO, 0, none⟩) os.length os.length] ∧ Dk W' (some ⟨gL, 0, none⟩) (some ⟨gS, 0, none⟩) (some ⟨gO, 0, none⟩) ls ss os W') (Value.agg #[.slice adL ls.length capL, .slice adS ss.length capS, .slice adO os.length capO]) (Value.agg #[.int .i64 o.k, .string o.n, .string o.t, .string o.d]) (fun W' => Below w15.heap.size w15 W') w15.heap.size cc ys zs us (l 0) (l 1) (l 2) (l 3) (l 4) (l 5) (l 6) (l 7) (l 8) (l 9) (fc 0) (fc 1) (fc 2) (fc 3) (fc 4) (fc 5) (fc 6) (fc 7) (fc 8) W') (by kernel_rfl) rfl (by kernel_rfl) (by kernel_rfl) rfl (II.start (fun h => by cases h) (Below.refl _ _).drew (Nat.le_refl _)) ?_ ?_
  · rintro i hi op ho l fc w' hli hI hpre
    have HP : Hid (∀ e ∈ op.after, Region.binds .any e = true → l e.on = true) := hpre
    have HI : Hid (II (fun u W' => ∃ gL gS gO, u = .agg #[.slice (some ⟨gL, 0, none⟩) ls.length ls.length, .slice (some ⟨gS, 0, none⟩) ss.length ss.length, .slice (some ⟨gO, 0, none⟩) os.length os.length] ∧ Dk W' (some ⟨gL, 0, none⟩) (some ⟨gS, 0, none⟩) (some ⟨gO, 0, none⟩) ls ss os W') (Value.agg #[.slice adL ls.length capL, .slice adS ss.length capS, .slice adO os.length capO]) (Value.agg #[.int .i64 o.k, .string o.n, .string o.t, .string o.d]) (fun W' => Below w15.heap.size w15 W') w15.heap.size cc ys zs us (l 0) (l 1) (l 2) (l 3) (l 4) (l 5) (l 6) (l 7) (l 8) (l 9) (fc 0) (fc 1) (fc 2) (fc 3) (fc 4) (fc 5) (fc 6) (fc 7) (fc 8) w') := hI
    have HG := HIDk HI.out.bel.1
    clear hI hpre
    have hc : i = 0 ∨ i = 1 ∨ i = 2 ∨ i = 3 ∨ i = 4 ∨ i = 5 ∨ i = 6 ∨ i = 7 ∨ i = 8 ∨ i = 9 := by omega
    clear hi
    rcases hc with rfl | rfl | rfl | rfl | rfl | rfl | rfl | rfl | rfl | rfl
    · obtain rfl := Option.some.inj ho
      have x0 : w'.cell? ⟨w.heap.size, 0, none⟩ = some (.slice adL ls.length capL) := kept HG.out hx0 z0
      have x1 : w'.cell? ⟨w.heap.size, 1, none⟩ = some (.slice adS ss.length capS) := kept HG.out hx0 z1
      have x2 : w'.cell? ⟨w.heap.size, 2, none⟩ = some (.slice adO os.length capO) := kept HG.out hx0 z2
      clear ho HP
      refine wpOp_step rfl (fun K hK => ?_)
      have HQ : Hid (∀ a w, _ → K a w) := hK
      clear hK
      dsimp only
      go_simp
      exact HQ.out _ _ ⟨(Value.agg #[.slice adL ls.length capL, .slice adS ss.length capS, .slice adO os.length capO]), by simp [upd], HI.out.sL⟩
    · obtain rfl := Option.some.inj ho
      have pL : l 0 = true := HP.out { on := 0, ground := .data } (by simp) rfl
      have e0 : fc 0 = (Value.agg #[.slice adL ls.length capL, .slice adS ss.length capS, .slice adO os.length capO]) := HI.out.fL pL
      clear ho HP
      refine wpOp_step rfl (fun K hK => ?_)
      have HQ : Hid (∀ a w, _ → K a w) := hK
      clear hK
      simp only [e0]
      go_simp
      refine (toDisk_any adL adS adO capL capS capO ls ss os w' pl1 ps1 po1 (dk_self (HH.out.later (L15.out.bel.trans (HG.out.mono L15.out.bel.size))))).mono ?_
      rintro e w3 ⟨tL, tS, tO, rfl, -, -, -, sL, sS, sO, hb3⟩
      go_wp2_with fail
      exact HQ.out _ _ ⟨_, by simp [upd, e0], (HI.out.later (fun u h => by obtain ⟨a, b, c, e, h⟩ := h; exact ⟨a, b, c, e, dk_self (h.later hb3)⟩) hb3 (HG.out.trans (hb3.mono HG.out.size))).sD ⟨tL, tS, tO, rfl, ⟨Below.refl _ _, sL, sS, sO⟩⟩⟩
    · obtain rfl := Option.some.inj ho
      have x0 : w'.cell? ⟨w.heap.size + 1, 0, none⟩ = some (.int .i64 o.k) := kept HG.out hx1 y0
      have x1 : w'.cell? ⟨w.heap.size + 1, 1, none⟩ = some (.string o.n) := kept HG.out hx1 y1
      have x2 : w'.cell? ⟨w.heap.size + 1, 2, none⟩ = some (.string o.t) := kept HG.out hx1 y2
      have x3 : w'.cell? ⟨w.heap.size + 1, 3, none⟩ = some (.string o.d) := kept HG.out hx1 y3
      clear ho HP
      refine wpOp_step rfl (fun K hK => ?_)
      have HQ : Hid (∀ a w, _ → K a w) := hK
      clear hK
      dsimp only
      go_simp
      exact HQ.out _ _ ⟨(Value.agg #[.int .i64 o.k, .string o.n, .string o.t, .string o.d]), by simp [upd], HI.out.sO⟩
    · obtain rfl := Option.some.inj ho
      have pO : l 2 = true := HP.out { on := 2, ground := .data } (by simp) rfl
      have e2 : fc 2 = (Value.agg #[.int .i64 o.k, .string o.n, .string o.t, .string o.d]) := HI.out.fO pO
      clear ho HP
      refine wpOp_step rfl (fun K hK => ?_)
      have HQ : Hid (∀ a w, _ → K a w) := hK
      clear hK
      simp only [e2]
      go_simp
      refine (toDOp_any o.k o.n o.t o.d w').mono ?_
      rintro e w3 ⟨rfl, hb3⟩
      go_wp2_with fail
      exact HQ.out _ _ ⟨(Value.agg #[.int .i64 o.k, .string o.n, .string o.t, .string o.d]), by simp [upd, e2], (HI.out.later (fun u h => by obtain ⟨a, b, c, e, h⟩ := h; exact ⟨a, b, c, e, dk_self (h.later hb3)⟩) hb3 (HG.out.trans (hb3.mono HG.out.size))).sP⟩
    · obtain rfl := Option.some.inj ho
      have pD : l 1 = true := HP.out { on := 1, ground := .data } (by simp) rfl
      have pP : l 3 = true := HP.out { on := 3, ground := .data } (by simp) rfl
      obtain ⟨tL, tS, tO, e1, hD⟩ := HI.out.fD pD hli
      have HD := HIDk hD
      clear hD
      have e3 : fc 3 = (Value.agg #[.int .i64 o.k, .string o.n, .string o.t, .string o.d]) := HI.out.fP pP
      clear ho HP
      refine wpOp_step rfl (fun K hK => ?_)
      have HQ : Hid (∀ a w, _ → K a w) := hK
      clear hK
      simp only [e1, e3]
      go_simp
      refine (HID.out _ _ _ _ _ _ w' HD.out (fun h => by cases h) (fun h => by cases h)).mono ?_
      rintro e w3 ⟨v3, rfl, ⟨c1, c2, c3, s1, s2, s3, rfl, hS, hN⟩, hb3⟩
      have HA := HIDk (hS.mono HI.out.bel.2)
      clear hS
      go_wp2_with fail
      exact HQ.out _ _ ⟨_, by simp [upd, e1, e3], II.sR hli HI.out hb3 (HG.out.trans (hb3.mono HG.out.size)) ⟨c1, c2, c3, s1, s2, s3, rfl, HA.out, hN⟩⟩
    · obtain rfl := Option.some.inj ho
      have pR : l 4 = true := HP.out { on := 4, ground := .data } (by simp) rfl
      clear ho HP
      refine wpOp_step rfl (fun K hK => ?_)
      have HQ : Hid (∀ a w, _ → K a w) := hK
      clear hK
      dsimp only
      go_simp
      exact HQ.out _ _ ⟨fc 4, by simp [upd], II.sM pR HI.out⟩
    · obtain rfl := Option.some.inj ho
      have pM : l 5 = true := HP.out { on := 5, ground := .data } (by simp) rfl
      obtain ⟨hR, e5'⟩ := HI.out.fM pM
      obtain ⟨c1, c2, c3, s1, s2, s3, e4, hO, hN⟩ := HI.out.ans hR
      have e5 : fc 5 = .tuple #[.agg #[.slice c1 ys.length s1, .slice c2 zs.length s2, .slice c3 us.length s3], .int .i64 cc] := e5'.trans e4
      have E4 := HIDk e4
      clear e5' hO hN e4
      clear ho HP
      refine wpOp_step rfl (fun K hK => ?_)
      have HQ : Hid (∀ a w, _ → K a w) := hK
      clear hK
      simp only [e5]
      go_simp
      exact HQ.out _ _ ⟨.agg #[.slice c1 ys.length s1, .slice c2 zs.length s2, .slice c3 us.length s3], by simp [upd, e5], II.sE hR HI.out E4.out⟩
    · obtain rfl := Option.some.inj ho
      have pM : l 5 = true := HP.out { on := 5, ground := .data } (by simp) rfl
      obtain ⟨hR, e5'⟩ := HI.out.fM pM
      obtain ⟨c1, c2, c3, s1, s2, s3, e4, hO, hN⟩ := HI.out.ans hR
      have e5 : fc 5 = .tuple #[.agg #[.slice c1 ys.length s1, .slice c2 zs.length s2, .slice c3 us.length s3], .int .i64 cc] := e5'.trans e4
      have E4 := HIDk e4
      clear e5' hO hN e4
      clear ho HP
      refine wpOp_step rfl (fun K hK => ?_)
      have HQ : Hid (∀ a w, _ → K a w) := hK
      clear hK
      simp only [e5]
      go_simp
      exact HQ.out _ _ ⟨.int .i64 cc, by simp [upd, e5], HI.out.sC⟩
    · obtain rfl := Option.some.inj ho
      clear ho HP
      refine wpOp_step rfl (fun K hK => ?_)
      have HQ : Hid (∀ a w, _ → K a w) := hK
      clear hK
      dsimp only
      go_simp
      exact HQ.out _ _ ⟨_, by simp [upd], II.sA hli HI.out (fun u h => by obtain ⟨a, b, c, e, h⟩ := h; exact ⟨a, b, c, e, dk_self (h.later ((Below.refl _ _).alloc (Nat.le_refl _) _))⟩) (HG.out.alloc HG.out.size _)⟩
    · obtain rfl := Option.some.inj ho
      have pA : l 8 = true := HP.out { on := 8, ground := .data } (by simp) rfl
      have pE : l 6 = true := HP.out { on := 6, ground := .data } (by simp) rfl
      obtain ⟨g, e8, hx⟩ := HI.out.box pA
      obtain ⟨hR, y, eE⟩ := HI.out.fE pE
      obtain ⟨c1, c2, c3, s1, s2, s3, e4, hO, hN⟩ := HI.out.ans hR
      have e6 : fc 6 = .agg #[.slice c1 ys.length s1, .slice c2 zs.length s2, .slice c3 us.length s3] := by have h := eE.symm.trans e4; simpa using (by simpa using h : _ ∧ _).1
      have HX := HIDk hx
      have HO := HIDk hO
      have E4 := HIDk e4
      have HNl := HIDk hN
      have fr : ∀ j, w'.frozen? ⟨g, j, none⟩ = false := hx.fr
      have hlt := hx.lt
      have hge := hx.ge
      obtain ⟨_, _, _, h0⟩ := hx.c0
      obtain ⟨_, _, _, h1⟩ := hx.c1
      obtain ⟨_, _, _, h2⟩ := hx.c2
      have E8 := HIDk e8
      clear hx hO e4 eE hN
      clear ho HP
      refine wpOp_step rfl (fun K hK => ?_)
      have HQ : Hid (∀ a w, _ → K a w) := hK
      clear hK
      simp only [e8, e6]
      go_simp
      exact HQ.out _ _ ⟨undef, by simp [upd, e8, e6], II.sS hR pA E4.out E8.out HI.out HO.out HNl.out HX.out (((HG.out.setCell (p := ⟨g, 0, none⟩) HX.out.ge _).setCell (p := ⟨g, 1, none⟩) HX.out.ge _).setCell (p := ⟨g, 2, none⟩) HX.out.ge _)⟩
  rintro op ho l fc w17 hall hI
  obtain rfl := Option.some.inj ho
  have e7 : fc 7 = .int .i64 cc := hI.fC (hall 7 (by omega))
  obtain ⟨-, -, h1, h2, h3, k1, k2, k3, g7, eR, hO, hN, eA, hx, k0, k1, k2⟩ := hI.don (hall 9 (by omega))
  have hG : Below w15.heap.size w15 w17 := hI.bel.1
  clear ho hall hI eR
  refine wpOp_step rfl (fun K hK => ?_)
  have HQ : Hid (∀ a w, _ → K a w) := hK
  clear hK
  simp only [e7, eA]
  go_simp
  refine HQ.out _ _ ?_
  clear HQ e7 eA
  have L17 := HIDk (L15.out.later hG)
  have M17 := HIDk (M15.out.below hG)
  have OH17 := HIDk hO
  clear hG hO hN L15 M15 z0 z1 z2 y0 y1 y2 y3 hsz hx0 hx1
  obtain ⟨-, c40, c41, c42⟩ := L17.out.c4
  go_wp2_with fail
  refine (eqDisk_same _ _ _ _ _ _ _ _ _ _ _ _ ys zs us w17 lys lzs lus (own_dk OH17.out) (own_dk L17.out.own)).mono ?_
  rintro e w19 ⟨rfl, hb19⟩
  have L19 := HIDk (L17.out.later hb19)
  have M19 := HIDk (M17.out.below hb19)
  clear hb19 L17 M17 OH17 c40 c41 c42 k0 k1 k2 hx
  obtain ⟨-, f0, f1, f2⟩ := L19.out.c6
  go_wp2_with fail
  refine (heldDisk_any _ _ _ _ _ _ ys zs us 1 w19 M19.out (by decide) (by decide) lys lzs lus).mono ?_
  rintro e w20 ⟨rfl, hb20⟩
  have HBe := HIDk (L19.out.bel.trans (hb20.mono L19.out.bel.size))
  clear hb20 L19 M19 f0 f1 f2
  go_wp2
  go_ret
  exact ⟨rfl, HBe.out⟩

theorem own : ownKnob Try.prog.godebug = none := by kernel_rfl
theorem laidOut : laidOutB Try.prog = true := by kernel_rfl

set_option maxRecDepth 100000 in
theorem lifted (os : Os) (started : os.Started) (H : Type) (enc : TypeId × Value → H) :
    ReturnsInHanded {} Try.checked os 3 .any (Rows.fnExactDoSpec.pre6 enc Try.prog Try.f3 Rows.fnExactDoRow.domain false) (Rows.fnExactDoSpec.post enc Try.prog Try.f3 false true false false) := by
  refine returnsInHanded_of_change (C := Try.checked) own started (by kernel_rfl) Try.func3
    (ChangeSpec.witness6 (enc := enc) (C := Try.checked) false ⟨#[], #[.agg #[.slice none 0 0, .slice none 0 0, .slice none 0 0], .agg #[.int .i64 0, .string ByteArray.empty, .string ByteArray.empty, .string ByteArray.empty]], []⟩ 8 (by kernel_rfl) (by kernel_rfl) (by kernel_rfl) (by kernel_rfl)) ?_
  intro W base args ds gs before hval0 hW hcnd _
  have hval : ∀ (j : Nat) t v, Try.f3.params[j]? = some t → args[j]? = some v → Value.okWide Try.prog W .any base t v := hval0
  have hW' := hW
  obtain ⟨p, q, hA0, hV, rfl, hfz, hnd⟩ := hW
  have hA : DataW.TrodAll enc Try.prog W 0 (fun _ => true) true Try.f3.params.toList args.toList ds p := hA0
  rw [Try.params3] at hA hval
  obtain ⟨v0, vs0, d0, ds0, p0, q0, hargs, rfl, rfl, h0, r0⟩ := trodAll_cons hA
  obtain ⟨v1, vs1, d1, ds1, p1, q1, rfl, rfl, rfl, h1, r1⟩ := trodAll_cons r0
  obtain ⟨rfl, rfl, rfl⟩ := trodAll_nil r1
  obtain rfl : args = #[v0, v1] := by cases args; simp_all
  obtain ⟨rfl, rfl⟩ := trodVars_none hV
  have k0 := h0
  have lt0 : ∀ x ∈ p0, x.block < W.heap.size := by obtain ⟨m, hm⟩ := k0; exact DataW.trod_lt m _ _ _ hm
  obtain ⟨adL0, adS0, adO0, capL0, capS0, capO0, ls0, ss0, os0, hv0, hdk0, fl0, fs0, fo0, ml0, ms0, mo0⟩ := open_disk (hval 0 25 v0 rfl rfl) h0
  subst hv0
  have k1 := h1
  have lt1 : ∀ x ∈ p1, x.block < W.heap.size := by obtain ⟨m, hm⟩ := k1; exact DataW.trod_lt m _ _ _ hm
  obtain ⟨op1, hv1, fop1⟩ := open_dop (hval 1 27 v1 rfl rfl) h1
  subst hv1
  clear hA0 hval0
  refine (walk adL0 adS0 adO0 capL0 capS0 capO0 ls0 ss0 os0 op1 W hdk0 fl0 fs0 fo0 ml0 ms0 mo0 fop1).mono fun e W' ⟨he, bel⟩ => ?_
  subst he
  exact ⟨_, rfl, _, _, _, [], _, [], hW', trodAll_mk1 (shut_bool Try.underlying4 _), (trodAll_cons_mk (Below.trod laidOut (by kernel_rfl) (of_decide_eq_true (by kernel_rfl)) k0 bel lt0) (trodAll_cons_mk (Below.trod laidOut (by kernel_rfl) (of_decide_eq_true (by kernel_rfl)) k1 bel lt1) trodAll_mk0)), rfl, bel.frame _, fun h => by cases h⟩

theorem over : Rows.fnExactDoRow.holds Try.pinned (OpenSpec.ofChange Rows.fnExactDoSpec) :=
  OpenClaim.holds_of_wide 3 Try.f3 rfl rfl rfl rfl rfl rfl rfl ⟨rfl, rfl, rfl, rfl, rfl⟩ rfl rfl rfl rfl rfl (by kernel_rfl) Try.func3 (by kernel_rfl)
    (of_decide_eq_true (by kernel_rfl)) (by unfold Func.isWrapper; first | (rw [if_pos (by decide +kernel)]; kernel_rfl) | (rw [if_neg (by decide +kernel)]; exact ⟨rfl, rfl⟩))
    (fun os started H enc _ => lifted os started H enc)

end Go.Proofs.Ytbfimfmfdllejaa.fnExactDo
namespace Go.Proofs.Ytbfimfmfdllejaa
theorem FnExactDo_holds : Rows.FnExactDoSaid := fnExactDo.over
end Go.Proofs.Ytbfimfmfdllejaa

