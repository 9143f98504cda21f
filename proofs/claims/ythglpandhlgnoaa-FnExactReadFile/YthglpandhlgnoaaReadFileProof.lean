/- Proved here: FnExactReadFile answers true for every disk and name and leaves its arguments as they were, with no condition on them. -/
import Derived.Test.YthglpandhlgnoaaDkRead
namespace Go.Proofs.Ythglpandhlgnoaa.fnExactReadFile
open Go.ChangeShapes Go.WideShapes Go.ChangeAt Go.RowKit Go.Joins
open Go.ChangeMaps (open_string shut_string)
set_option linter.unusedVariables false

set_option maxRecDepth 8000 in
set_option maxHeartbeats 4000000 in
theorem walk (adL adS adO : Option Addr) (capL capS capO : Nat) (ls ss : List Fl) (os : List Dop) (x : ByteArray) (w : World) (H : Dk w adL adS adO ls ss os w) (fl : ∀ f ∈ ls, f.fits) (fs : ∀ f ∈ ss, f.fits) (fo : ∀ f ∈ os, f.fits) (ml : ls.length ≤ maxLen) (ms : ss.length ≤ maxLen) (mo : os.length ≤ maxLen) (hx : x.size ≤ maxLen) :
    Calls Try.prog 4 #[.agg #[.slice adL ls.length capL, .slice adS ss.length capS, .slice adO os.length capO], .string x] w fun e w' => e = .returned (.bool true) ∧ Below w.heap.size w w' := by
  obtain ⟨W, hW⟩ : ∃ W, W = w.alloc (.cells #[.slice adL ls.length capL, .slice adS ss.length capS, .slice adO os.length capO] 25) := ⟨_, rfl⟩
  have C0 : Hid (Cl w (.slice adL ls.length capL) (.slice adS ss.length capS) (.slice adO os.length capO) W) := by rw [hW]; exact cl_new _ _ _ _ _
  have K0 : Hid (Dk w adL adS adO ls ss os W) := H.later (by rw [hW]; exact (Below.refl _ _).alloc (Nat.le_refl _) _)
  have HFL := HIDk fl
  have HFS := HIDk fs
  have HFO := HIDk fo
  clear H fl fs fo
  unfold maxLen at hx
  by_cases hbig : 1048576 < x.size
  · go_enter Try.func4, Try.ntmps4
    go_wp2
    rw [← hW]
    go_ret
    exact ⟨rfl, K0.out.bel⟩
  go_enter Try.func4, Try.ntmps4
  go_wp2_with fail
  rw [← hW]
  clear hW
  refine (szDisk_any adL adS adO capL capS capO ls ss os 1048576 W ml ms mo (dk_self K0.out) HFL.out HFS.out HFO.out (by decide) (by decide)).mono ?_
  rintro e w1 ⟨⟨n1, rfl, hn1⟩, hb1⟩
  have K1 := HIDk (K0.out.later hb1)
  have C1 := HIDk (C0.out.later hb1)
  clear hb1 K0 C0
  rcases hn1 with rfl | ⟨a0, a1, ⟨pl1, pl2⟩, ⟨ps1, ps2⟩, po1, po2⟩
  · go_wp2
    go_ret
    exact ⟨rfl, K1.out.bel⟩
  have PL := HIDk (small2 pl2)
  have PS := HIDk (small2 ps2)
  have PO := HIDk po2
  clear pl2 ps2 po2
  have d1 : decide (n1 < 0) = false := by simp; omega
  obtain ⟨z0, z1, z2, z3⟩ := C1.out
  go_wp2_with fail
  refine (toDisk_any adL adS adO capL capS capO ls ss os w1 pl1 ps1 po1 (dk_self K1.out)).mono ?_
  rintro e w2 ⟨gL, gS, gO, rfl, -, -, -, sL, sS, sO, hb2⟩
  have K2 := HIDk (K1.out.later hb2)
  have C2 := HIDk (C1.out.later hb2)
  have D2 : Hid (Dk w2 (some ⟨gL, 0, none⟩) (some ⟨gS, 0, none⟩) (some ⟨gO, 0, none⟩) ls ss os w2) := ⟨Below.refl _ _, sL, sS, sO⟩
  clear hb2 sL sS sO K1 C1 z0 z1 z2 z3
  go_wp2_with fail
  refine (specReadFile_any _ _ _ _ _ _ ls ss os x w2 pl1 ps1 po1 D2.out (fun h => by cases h) PL.out PS.out PO.out).mono ?_
  rintro e w3 ⟨rfl, hb3⟩
  have K3 := HIDk (K2.out.later hb3)
  have C3 := HIDk (C2.out.later hb3)
  clear hb3 K2 C2 D2
  obtain ⟨z0, z1, z2, z3⟩ := C3.out
  go_wp2_with fail
  refine (toDisk_any adL adS adO capL capS capO ls ss os w3 pl1 ps1 po1 (dk_self K3.out)).mono ?_
  rintro e w4 ⟨qL, qS, qO, rfl, -, -, -, sL, sS, sO, hb4⟩
  have K4 := HIDk (K3.out.later hb4)
  have C4 := HIDk (C3.out.later hb4)
  have D4 : Hid (Dk w4 (some ⟨qL, 0, none⟩) (some ⟨qS, 0, none⟩) (some ⟨qO, 0, none⟩) ls ss os w4) := ⟨Below.refl _ _, sL, sS, sO⟩
  clear hb4 sL sS sO K3 C3 z0 z1 z2 z3
  obtain ⟨X, hX⟩ : ∃ X, X = w4.alloc (.cells #[.slice (some ⟨qL, 0, none⟩) ls.length ls.length, .slice (some ⟨qS, 0, none⟩) ss.length ss.length, .slice (some ⟨qO, 0, none⟩) os.length os.length] 31) := ⟨_, rfl⟩
  have hbX : Below w4.heap.size w4 X := by rw [hX]; exact (Below.refl _ _).alloc (Nat.le_refl _) _
  have CX : Hid (Cl w4 (.slice (some ⟨qL, 0, none⟩) ls.length ls.length) (.slice (some ⟨qS, 0, none⟩) ss.length ss.length) (.slice (some ⟨qO, 0, none⟩) os.length os.length) X) := by rw [hX]; exact cl_new _ _ _ _ _
  have K5 := HIDk (K4.out.later hbX)
  have C5 := HIDk (C4.out.later hbX)
  have D5 := HIDk (D4.out.later hbX)
  clear hbX K4 C4 D4
  go_wp2_with fail
  rw [← hX]
  clear hX
  refine (implReadFile_any _ _ _ _ _ _ ls ss os x X pl1 ps1 po1 ⟨Below.refl _ _, D5.out.live, D5.out.safe, D5.out.ops⟩ PL.out PS.out PO.out).mono ?_
  rintro e w6 ⟨rfl, hb6⟩
  have K6 := HIDk (K5.out.later hb6)
  have C6 := HIDk (C5.out.later hb6)
  have D6 := HIDk (D5.out.later hb6)
  have E6 := HIDk (CX.out.later hb6)
  clear hb6 K5 C5 D5 CX
  generalize hq : readB ls ss os x = q
  generalize hy : readD ls ss os x = y
  clear hq hy
  obtain ⟨z0, z1, z2, z3⟩ := C6.out
  obtain ⟨y0, y1, y2, y3⟩ := E6.out
  have H0 : w6.drew.cell? ⟨w.heap.size, 0, none⟩ = some (.slice adL ls.length capL) ∧ w6.drew.cell? ⟨w.heap.size, 1, none⟩ = some (.slice adS ss.length capS) ∧ w6.drew.cell? ⟨w.heap.size, 2, none⟩ = some (.slice adO os.length capO) ∧ w6.drew.cell? ⟨w4.heap.size, 0, none⟩ = some (.slice (some ⟨qL, 0, none⟩) ls.length ls.length) ∧ w6.drew.cell? ⟨w4.heap.size, 1, none⟩ = some (.slice (some ⟨qS, 0, none⟩) ss.length ss.length) ∧ w6.drew.cell? ⟨w4.heap.size, 2, none⟩ = some (.slice (some ⟨qO, 0, none⟩) os.length os.length) ∧ w.heap.size < w6.drew.heap.size ∧ w4.heap.size < w6.drew.heap.size ∧ Below w.heap.size w w6.drew := ⟨z1, z2, z3, y1, y2, y3, z0, y0, K6.out.bel.drew⟩
  have hdr : Below w6.heap.size w6 w6.drew := (Below.refl _ _).drew
  have K7 := HIDk (K6.out.later hdr)
  have D7 := HIDk (D6.out.later hdr)
  clear z0 z1 z2 z3 y0 y1 y2 y3 C6 E6 K6 D6 hdr
  cases q <;>
  · go_wp2_with fail
    go_region_held3 (fun w' => w'.cell? ⟨w.heap.size, 0, none⟩ = some (.slice adL ls.length capL) ∧ w'.cell? ⟨w.heap.size, 1, none⟩ = some (.slice adS ss.length capS) ∧ w'.cell? ⟨w.heap.size, 2, none⟩ = some (.slice adO os.length capO) ∧ w'.cell? ⟨w4.heap.size, 0, none⟩ = some (.slice (some ⟨qL, 0, none⟩) ls.length ls.length) ∧ w'.cell? ⟨w4.heap.size, 1, none⟩ = some (.slice (some ⟨qS, 0, none⟩) ss.length ss.length) ∧ w'.cell? ⟨w4.heap.size, 2, none⟩ = some (.slice (some ⟨qO, 0, none⟩) os.length os.length) ∧ w.heap.size < w'.heap.size ∧ w4.heap.size < w'.heap.size ∧ Below w.heap.size w w')
      (first | assumption | exact keepS (by assumption) hb7 | exact keepS (by assumption) hb8 | exact H0)
      (first | (go_at_call 11; refine (toDisk_any adL adS adO capL capS capO ls ss os _ pl1 ps1 po1 (dk_self K7.out)).mono ?_; rintro e w7 ⟨rL, rS, rO, rfl, -, -, -, sL, sS, sO, hb7⟩) | (go_at_call 13; refine (eqDisk_same _ _ _ _ _ _ _ _ _ _ _ _ ls ss os _ pl1 ps1 po1 (dk_self (D7.out.later hb7)) ⟨Below.refl _ _, sL, sS, sO⟩).mono ?_; rintro e w8 ⟨rfl, hb8⟩))
    rename_i hH
    go_wp2
    go_ret
    exact ⟨rfl, hH.2.2.2.2.2.2.2.2⟩

theorem own : ownKnob Try.prog.godebug = none := by kernel_rfl
theorem laidOut : laidOutB Try.prog = true := by kernel_rfl

set_option maxRecDepth 100000 in
theorem lifted (os : Os) (started : os.Started) (H : Type) (enc : TypeId × Value → H) :
    ReturnsInHanded {} Try.checked os 4 .any (Rows.fnExactReadFileSpec.pre6 enc Try.prog Try.f4 Rows.fnExactReadFileRow.domain false) (Rows.fnExactReadFileSpec.post enc Try.prog Try.f4 false true false false) := by
  refine returnsInHanded_of_change (C := Try.checked) own started (by kernel_rfl) Try.func4
    (ChangeSpec.witness6 (enc := enc) (C := Try.checked) false ⟨#[], #[.agg #[.slice none 0 0, .slice none 0 0, .slice none 0 0], .string ByteArray.empty], []⟩ 8 (by kernel_rfl) (by kernel_rfl) (by kernel_rfl) (by kernel_rfl)) ?_
  intro W base args ds gs before hval0 hW hcnd _
  have hval : ∀ (j : Nat) t v, Try.f4.params[j]? = some t → args[j]? = some v → Value.okWide Try.prog W .any base t v := hval0
  have hW' := hW
  obtain ⟨p, q, hA0, hV, rfl, hfz, hnd⟩ := hW
  have hA : DataW.TrodAll enc Try.prog W 0 (fun _ => true) true Try.f4.params.toList args.toList ds p := hA0
  rw [Try.params4] at hA hval
  obtain ⟨v0, vs0, d0, ds0, p0, q0, hargs, rfl, rfl, h0, r0⟩ := trodAll_cons hA
  obtain ⟨v1, vs1, d1, ds1, p1, q1, rfl, rfl, rfl, h1, r1⟩ := trodAll_cons r0
  obtain ⟨rfl, rfl, rfl⟩ := trodAll_nil r1
  obtain rfl : args = #[v0, v1] := by cases args; simp_all
  obtain ⟨rfl, rfl⟩ := trodVars_none hV
  have k0 := h0
  have lt0 : ∀ x ∈ p0, x.block < W.heap.size := by obtain ⟨m, hm⟩ := k0; exact DataW.trod_lt m _ _ _ hm
  obtain ⟨adL0, adS0, adO0, capL0, capS0, capO0, ls0, ss0, os0, hv0, hdk0, fl0, fs0, fo0, ml0, ms0, mo0⟩ := open_disk (hval 0 25 v0 rfl rfl) h0
  subst hv0
  have k1 := h1
  have lt1 : ∀ x ∈ p1, x.block < W.heap.size := by obtain ⟨m, hm⟩ := k1; exact DataW.trod_lt m _ _ _ hm
  obtain ⟨s1, hv1, -, -, hs1⟩ := open_string Try.underlying9 (hval 1 9 v1 rfl rfl) h1
  subst hv1
  clear hA0 hval0
  refine (walk adL0 adS0 adO0 capL0 capS0 capO0 ls0 ss0 os0 s1 W hdk0 fl0 fs0 fo0 ml0 ms0 mo0 hs1).mono fun e W' ⟨he, bel⟩ => ?_
  subst he
  exact ⟨_, rfl, _, _, _, [], _, [], hW', trodAll_mk1 (shut_bool Try.underlying4 _), (trodAll_cons_mk (Below.trod laidOut (by kernel_rfl) (of_decide_eq_true (by kernel_rfl)) k0 bel lt0) (trodAll_cons_mk (Below.trod laidOut (by kernel_rfl) (of_decide_eq_true (by kernel_rfl)) k1 bel lt1) trodAll_mk0)), rfl, bel.frame _, fun h => by cases h⟩

theorem over : Rows.fnExactReadFileRow.holds Try.pinned (OpenSpec.ofChange Rows.fnExactReadFileSpec) :=
  OpenClaim.holds_of_wide 4 Try.f4 rfl rfl rfl rfl rfl rfl rfl ⟨rfl, rfl, rfl, rfl, rfl⟩ rfl rfl rfl rfl rfl (by kernel_rfl) Try.func4 (by kernel_rfl)
    (of_decide_eq_true (by kernel_rfl)) (by unfold Func.isWrapper; first | (rw [if_pos (by decide +kernel)]; kernel_rfl) | (rw [if_neg (by decide +kernel)]; exact ⟨rfl, rfl⟩))
    (fun os started H enc _ => lifted os started H enc)

end Go.Proofs.Ythglpandhlgnoaa.fnExactReadFile
namespace Go.Proofs.Ythglpandhlgnoaa
theorem FnExactReadFile_holds : Rows.FnExactReadFileSaid := fnExactReadFile.over
end Go.Proofs.Ythglpandhlgnoaa
