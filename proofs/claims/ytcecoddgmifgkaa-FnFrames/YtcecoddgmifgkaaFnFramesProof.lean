/- Proved here: FnFrames answers true for every slice of bytes and leaves it as it was, with no condition on it. -/
import Derived.Test.YtcecoddgmifgkaaDrawFr
import Derived.Test.YtcecoddgmifgkaaTakeS
import Derived.Test.YtcecoddgmifgkaaStrS
import Derived.OpenShut
import Derived.ShutString
namespace Go.Proofs.Ytcecoddgmifgkaa.fnFrames
open Go.ChangeShapes Go.WideShapes Go.ChangeAt Go.RowKit
open Pl
set_option linter.unusedVariables false

theorem catF_app (x y : List ByteArray) : catF (x ++ y) = catF x ++ catF y := by
  induction x with
  | nil => simp [catF, nil_app]
  | cons e l ih => simp only [List.cons_append, catF, ih, app_asc]
theorem catF_take (l : List ByteArray) (k : Nat) : (catF (l.take k)).size ≤ (catF l).size := by
  have : catF l = catF (l.take k) ++ catF (l.drop k) := by rw [← catF_app, List.take_append_drop]
  rw [this, ByteArray.size_append]; omega
theorem catF_next (l : List ByteArray) (k : Nat) (h : k < l.length) : catF (l.take (k + 1)) = catF (l.take k) ++ frameT l[k] := by
  rw [List.take_succ_eq_append_getElem h, catF_snoc]
theorem slT_take {w : World} {ad : Option Addr} {xs : List ByteArray} (h : SlT1 w ad xs) (n : Nat) : SlT1 w ad (xs.take n) := by
  rcases h with rfl | ⟨g, e, hg, hr⟩
  · exact .inl (by simp)
  · exact .inr ⟨g, e, hg, fun i hi => by
      have h2 : i < xs.length := by simp at hi; omega
      rw [List.getElem_take]; exact hr i h2⟩

set_option maxHeartbeats 1000000 in
theorem sameTexts_any (ad ad' : Option Addr) (cap cap' : Nat) (xs : List ByteArray) (w : World) (hl : xs.length ≤ 1048576) (h : SlT1 w ad xs) (h' : SlT1 w ad' xs) :
    Calls Try.prog 27 #[.slice ad xs.length cap, .slice ad' xs.length cap'] w fun e w' => e = .returned (.bool true) ∧ Below w.heap.size w w' := by
  go_enter Try.func27, Try.ntmps27
  go_wp2_with fail
  go_loopw [5] (fun i wr => ∃ k : Nat, k ≤ xs.length ∧ i = .int .i64 (k : Int) ∧ Below w.heap.size w wr) (fun i _ => xs.length - (intOf i).toNat)
  case atStart => exact ⟨0, Nat.zero_le _, rfl, Below.refl _ _⟩
  case round =>
    obtain ⟨k, hk, rfl, hB⟩ := hrel
    by_cases hlt : k < xs.length
    · rcases h.below hB with rfl | ⟨g, rfl, hg, hr⟩
      · simp at hlt
      rcases h'.below hB with rfl | ⟨g', rfl, hg', hr'⟩
      · simp at hlt
      have c0 := hr k hlt
      have c1 := hr' k hlt
      clear hr hr' h h'
      have k0 : (0 : Int) ≤ (k : Int) := by omega
      have k1 : (k : Int) < (xs.length : Int) := by omega
      go_wp2_with fail
      go_quiet (fail)
      go_wp2
      go_roundw
      case rel => exact ⟨k + 1, by omega, by go_num, below_drewN hB _⟩
      case measure => simp [intOf]; omega
    · go_wp2
      go_ret
      exact ⟨rfl, hB⟩


set_option maxRecDepth 100000 in
set_option maxHeartbeats 4000000 in
theorem walk (ad : Option Addr) (len cap : Nat) (w : World) (h : Bytes w ad len) :
    Calls Try.prog 8 #[.slice ad len cap] w fun e w' => e = .returned (.bool true) ∧ Below w.heap.size w w' := by
  have H : Hid (Bytes w ad len) := h
  clear h
  by_cases hbig : (1048576 : Int) < (len : Int)
  · go_enter Try.func8, Try.ntmps8
    go_wp2_with (go_at_call 16; refine (big_any _ _ _ _).mono ?_; rintro e w ⟨rfl, rfl⟩)
    go_ret
    exact ⟨rfl, Below.refl _ _⟩
  go_enter Try.func8, Try.ntmps8
  go_wp2_with (first | (go_at_call 16; refine (big_any _ _ _ _).mono ?_; rintro e w ⟨rfl, rfl⟩) | fail)
  go_wp2_with fail
  refine (drawTake_any ad len cap _ H.out).mono ?_
  rintro e w1 ⟨⟨s, rfl, hs⟩, hb1⟩
  have HB1 : Hid (Below w.heap.size w w1) := hb1
  clear hb1
  go_wp2_with fail
  refine (implTake_any s _ (by omega)).mono ?_
  rintro e w2 ⟨v1, l, a, rfl, hown1, hF1, hb2⟩
  obtain ⟨ad1, cap1, rfl, hl1, -⟩ := own_list hown1
  have hcl1 : l.length ≤ cap1 := by
    rcases hown1.2 with ⟨e, h0⟩ | ⟨g, cp, cur, e, -, -, hnc, -⟩
    · injection e with e1 e2 e3; omega
    · injection e with e1 e2 e3; omega
  obtain ⟨⟨kk, hkk⟩, hno⟩ := hF1
  have hok := itF_ok kk hkk
  have hle := hok.le
  have hln := hok.len
  have HSM : Hid (∀ d ∈ l, d.size ≤ 100000) := hok.small
  have HCAT : Hid (catF l = s.extract 0 a) := itF_cat_of kk hkk
  have hcs : (catF l).size = a := by rw [HCAT.out, ByteArray.size_extract]; omega
  have HF1 : Hid (FrEnd s l a) := ⟨⟨kk, hkk⟩, hno⟩
  have HL1 : Hid (SlT1 w2 ad1 l) := hl1
  have HB2 : Hid (Below w.heap.size w w2) := HB1.out.trans (hb2.mono HB1.out.size)
  clear hown1 hkk hno hok hl1 hb2 HB1
  go_wp2_with fail
  refine (specTake_any s _ (by omega)).mono ?_
  rintro e w3 ⟨v2, l', a', rfl, hown2, hF2, hb3⟩
  obtain ⟨rfl, rfl⟩ := HF1.out.one hF2
  obtain ⟨ad2, cap2, rfl, hl2, -⟩ := own_list hown2
  have HL2 : Hid (SlT1 w3 ad2 l) := hl2
  have HL13 : Hid (SlT1 w3 ad1 l) := HL1.out.below hb3
  have HB3 : Hid (Below w.heap.size w w3) := HB2.out.trans (hb3.mono HB2.out.size)
  clear hown2 hF2 hl2 hb3 HL1 HB2
  go_wp2_with fail
  refine (sameTexts_any ad1 ad2 cap1 cap2 l _ (by omega) HL13.out HL2.out).mono ?_
  rintro e w4 ⟨rfl, hb4⟩
  have HL14 : Hid (SlT1 w4 ad1 l) := HL13.out.below hb4
  have HB4 : Hid (Below w.heap.size w w4) := HB3.out.trans (hb4.mono HB3.out.size)
  have hgt : decide ((s.size : Int) < (a : Int)) = false := by simp; omega
  have hgt2 : decide (s.size < a) = false := by simp; omega
  clear hb4 HL13 HB3 HL2
  go_wp2_with fail
  go_loopw [8, 9] (fun v i wr => ∃ k : Nat, k ≤ l.length ∧ v = .string (catF (l.take k)) ∧ i = .int .i64 (k : Int) ∧ Hid (SlT1 wr ad1 l) ∧ Hid (Below w.heap.size w wr)) (fun _ i _ => l.length - (intOf i).toNat)
  case atStart => exact ⟨0, Nat.zero_le _, rfl, rfl, HL14, HB4⟩
  case round =>
    obtain ⟨k, hk, rfl, rfl, HL, HB⟩ := hrel
    by_cases hlt : k < l.length
    · rcases HL.out with h0 | ⟨g, rfl, hg, hr⟩
      · rw [h0] at hlt; simp at hlt
      have c0 := hr k hlt
      clear hr
      have k0 : (0 : Int) ≤ (k : Int) := by omega
      have k1 : (k : Int) < (l.length : Int) := by omega
      have hdk : l[k].size ≤ 100000 := HSM.out _ (List.getElem_mem hlt)
      have HNX : Hid (catF (l.take (k + 1)) = catF (l.take k) ++ frameT l[k]) := catF_next l k hlt
      have hsz1 := catF_take l k
      have hfs := frame_size hdk
      have hov : (9223372036854775807 < (catF (l.take k)).size + (frameT l[k]).size) = False := by simp only [eq_iff_iff, iff_false]; omega
      clear hfs hsz1
      go_wp2_with fail
      refine (implFrame_any l[k] _ (by omega)).mono ?_
      rintro e w5 ⟨rfl, hb5⟩
      have HL5 : Hid (SlT1 w5 (some ⟨g, 0, none⟩) l) := HL.out.below hb5
      have HB5 : Hid (Below w.heap.size w w5) := HB.out.trans (hb5.mono HB.out.size)
      clear hb5
      go_wp2
      go_roundw
      case rel => exact ⟨k + 1, by omega, by rw [HNX.out], by go_num, HL5, HB5⟩
      case measure => simp [intOf]; omega
    · obtain rfl : k = l.length := by omega
      have HTK : Hid (l.take l.length = l) := List.take_of_length_le (Nat.le_refl _)
      rw [HTK.out]
      obtain ⟨A, hA⟩ : ∃ A, A = catF l := ⟨_, rfl⟩
      rw [← hA]
      have hAs : A.size = a := by rw [hA]; exact hcs
      have HA : Hid (A = catF l) := hA
      clear hA hk
      go_wp2_with fail
      refine (drawFrameOf_any ad len cap _ (H.out.below (HB.out))).mono ?_
      rintro e w5 ⟨⟨t, rfl, ht⟩, hb5⟩
      have HL5 : Hid (SlT1 w5 ad1 l) := HL.out.below hb5
      have HB5 : Hid (Below w.heap.size w w5) := HB.out.trans (hb5.mono HB.out.size)
      clear hb5 HL HB
      go_wp2_with fail
      refine (implFrame_any t _ (by omega)).mono ?_
      rintro e w6 ⟨rfl, hb6⟩
      have HL6 : Hid (SlT1 w6 ad1 l) := HL5.out.below hb6
      have HB6 : Hid (Below w.heap.size w w6) := HB5.out.trans (hb6.mono HB5.out.size)
      clear hb6 HL5 HB5
      have hft := frame_size (d := t) (by omega)
      have hov : (9223372036854775807 < A.size + (frameT t).size) = False := by simp only [eq_iff_iff, iff_false]; omega
      have hsm2 : (A ++ frameT t).size ≤ 1048576 := by rw [ByteArray.size_append]; omega
      go_wp2_with fail
      refine (implTake_any (A ++ frameT t) _ hsm2).mono ?_
      rintro e w7 ⟨v3, l3, a3, rfl, hown3, hF3, hb7⟩
      have HE : Hid (FrEnd (A ++ frameT t) (l ++ [t]) (A ++ frameT t).size) := by
        show FrEnd _ _ _
        rw [HA.out, ← catF_snoc]
        exact end_cat (fun d hd => by
          rcases List.mem_append.1 hd with hd | hd
          · exact HSM.out d hd
          · rw [List.mem_singleton.1 hd]; omega)
      obtain ⟨rfl, rfl⟩ := HE.out.one hF3
      obtain ⟨ad3, cap3, rfl, hl3, -⟩ := own_list hown3
      have HL3 : Hid (SlT1 w7 ad3 (l ++ [t])) := hl3
      have HL7 : Hid (SlT1 w7 ad1 l) := HL6.out.below hb7
      have HB7 : Hid (Below w.heap.size w w7) := HB6.out.trans (hb7.mono HB6.out.size)
      clear hown3 hF3 hl3 hb7 HL6 HB6
      have hlen : (l ++ [t]).length = l.length + 1 := by simp
      have hqa : len % (a + 1) ≤ a := by have := Nat.mod_lt len (show 0 < a + 1 by omega); omega
      have hsm3 : (A.extract 0 (len % (a + 1))).size ≤ 1048576 := by rw [ByteArray.size_extract]; omega
      have m0 : (0 : Int) ≤ (len : Int) % ((a : Int) + 1) := Int.emod_nonneg _ (by omega)
      have m1 : (len : Int) % ((a : Int) + 1) ≤ (a : Int) := by have := Int.emod_lt_of_pos (len : Int) (show (0 : Int) < (a : Int) + 1 by omega); omega
      go_wp2_with fail
      refine (implTake_any (A.extract 0 (len % (a + 1))) _ hsm3).mono ?_
      rintro e w8 ⟨v4, few, b, rfl, hown4, hF4, hb8⟩
      obtain ⟨hfl, hfe⟩ : few.length ≤ l.length ∧ few = l.take few.length := by
        rw [HA.out] at hF4
        exact few_pre HSM.out (by rw [hcs]; exact hqa) hF4
      have HFE : Hid (few = l.take few.length) := hfe
      clear hfe
      obtain ⟨ad4, cap4, rfl, hl4, -⟩ := own_list hown4
      have HL4 : Hid (SlT1 w8 ad4 few) := hl4
      have HL8 : Hid (SlT1 w8 ad1 l) := HL7.out.below hb8
      have HL38 : Hid (SlT1 w8 ad3 (l ++ [t])) := HL3.out.below hb8
      have HB8 : Hid (Below w.heap.size w w8) := HB7.out.trans (hb8.mono HB7.out.size)
      clear hown4 hF4 hl4 hb8 HL7 HL3 HB7
      rcases HL38.out with h0 | ⟨g3, rfl, hg3, hr3⟩
      · simp at h0
      have c3 : w8.cell? ⟨g3, l.length, none⟩ = some (.string t) := by
        have := hr3 l.length (by simp)
        simpa using this
      clear hr3
      have i0 : (0 : Int) ≤ (l.length : Int) := by omega
      have i1 : (l.length : Int) < (l.length : Int) + 1 := by omega
      have i2 : l.length < l.length + 1 := by omega
      have i3 : (0 : Int) ≤ (a : Int) := by omega
      have i4 : (a : Int) ≤ (s.size : Int) := by omega
      have heq : (A.toList == (s.extract 0 a).toList) = true := by rw [HA.out, HCAT.out]; simp
      go_wp2_with fail
      refine (implFrame_any t _ (by omega)).mono ?_
      rintro e w9 ⟨rfl, hb9⟩
      have HL9 : Hid (SlT1 w9 ad1 l) := HL8.out.below hb9
      have HL49 : Hid (SlT1 w9 ad4 few) := HL4.out.below hb9
      have HB9 : Hid (Below w.heap.size w w9) := HB8.out.trans (hb9.mono HB8.out.size)
      clear hb9 HL8 HL38 HL4 HB8 c3
      have j0 : (0 : Int) ≤ (few.length : Int) := by omega
      have j1 : (few.length : Int) ≤ (cap1 : Int) := by omega
      have j2 : (few.length : Int) ≤ (l.length : Int) := by omega
      have HL9f : Hid (SlT1 w9 ad1 few) := by
        have := slT_take HL9.out few.length
        rw [← HFE.out] at this
        exact this
      go_wp2_with fail
      refine (sameTexts_any ad4 ad1 cap4 cap1 few _ (by omega) HL49.out HL9f.out).mono ?_
      rintro e w10 ⟨rfl, hb10⟩
      have HB10 : Hid (Below w.heap.size w w10) := HB9.out.trans (hb10.mono HB9.out.size)
      clear hb10
      go_wp2
      go_ret
      exact ⟨rfl, HB10.out⟩

theorem own : ownKnob Try.prog.godebug = none := by kernel_rfl
theorem laidOut : laidOutB Try.prog = true := by kernel_rfl

set_option maxRecDepth 100000 in
theorem lifted (os : Os) (started : os.Started) (H : Type) (enc : TypeId × Value → H) :
    ReturnsInHanded {} Try.checked os 8 .any (Rows.fnFramesSpec.pre6 enc Try.prog Try.f8 Rows.fnFramesRow.domain false) (Rows.fnFramesSpec.post enc Try.prog Try.f8 false true false false) := by
  refine returnsInHanded_of_change (C := Try.checked) own started (by kernel_rfl) Try.func8
    (ChangeSpec.witness6 (enc := enc) (C := Try.checked) false ⟨#[], #[.slice none 0 0], []⟩ 8 (by kernel_rfl) (by kernel_rfl) (by kernel_rfl) (by kernel_rfl)) ?_
  intro W base args ds gs before hval0 hW hcnd _
  have hval : ∀ (j : Nat) t v, Try.f8.params[j]? = some t → args[j]? = some v → Value.okWide Try.prog W .any base t v := hval0
  have hW' := hW
  obtain ⟨p, q, hA0, hV, rfl, hfz, hnd⟩ := hW
  have hA : DataW.TrodAll enc Try.prog W 0 (fun _ => true) true Try.f8.params.toList args.toList ds p := hA0
  rw [Try.params8] at hA hval
  obtain ⟨v0, vs0, d0, ds0, p0, q0, hargs, rfl, rfl, h0, r0⟩ := trodAll_cons hA
  obtain ⟨rfl, rfl, rfl⟩ := trodAll_nil r0
  obtain rfl : args = #[v0] := by cases args; simp_all
  obtain ⟨rfl, rfl⟩ := trodVars_none hV
  have k0 := h0
  have lt0 : ∀ x ∈ p0, x.block < W.heap.size := by obtain ⟨m, hm⟩ := k0; exact DataW.trod_lt m _ _ _ hm
  obtain ⟨ad0, len0, cap0, hv0⟩ := okWide_slice Try.underlying41 (hval 0 41 v0 rfl rfl)
  subst hv0
  obtain ⟨fuel0, hf0⟩ := h0
  have hby0 := open_bytes (by simpa [Value.cells] using hf0)
  clear hA0 hval0
  refine (walk ad0 len0 cap0 W hby0).mono fun e W' ⟨he, bel⟩ => ?_
  subst he
  exact ⟨_, rfl, _, _, _, [], _, [], hW', trodAll_mk1 (shut_bool Try.underlying4 _), (trodAll_cons_mk (Below.trod laidOut (by kernel_rfl) (of_decide_eq_true (by kernel_rfl)) k0 bel lt0) trodAll_mk0), rfl, bel.frame _, fun h => by cases h⟩

theorem over : Rows.fnFramesRow.holds Try.pinned (OpenSpec.ofChange Rows.fnFramesSpec) :=
  OpenClaim.holds_of_wide 8 Try.f8 rfl rfl rfl rfl rfl rfl rfl ⟨rfl, rfl, rfl, rfl, rfl⟩ rfl rfl rfl rfl rfl (by kernel_rfl) Try.func8 (by kernel_rfl)
    (of_decide_eq_true (by kernel_rfl)) (by unfold Func.isWrapper; first | (rw [if_pos (by decide +kernel)]; kernel_rfl) | (rw [if_neg (by decide +kernel)]; exact ⟨rfl, rfl⟩))
    (fun os started H enc _ => lifted os started H enc)

end Go.Proofs.Ytcecoddgmifgkaa.fnFrames
namespace Go.Proofs.Ytcecoddgmifgkaa
theorem FnFrames_holds : Rows.FnFramesSaid := fnFrames.over
end Go.Proofs.Ytcecoddgmifgkaa
