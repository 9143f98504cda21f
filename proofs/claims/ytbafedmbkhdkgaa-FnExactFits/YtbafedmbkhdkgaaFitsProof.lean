/- Proved here: FnExactFits answers true for every slice of types and every tuple and leaves them as they were, with no condition on them. -/
import Derived.Test.YtbafedmbkhdkgaaFits
import Derived.Test.YtbafedmbkhdkgaaJ2
import Derived.Test.YtbafedmbkhdkgaaJ1
import Derived.Test.YtbafedmbkhdkgaaJ3
namespace Go.Proofs.Ytbafedmbkhdkgaa.fnExactFits
open Go.ChangeShapes Go.WideShapes Go.ChangeAt Go.RowKit
open Go.ChangeMaps (open_string shut_string)
open Pl
set_option linter.unusedVariables false
theorem exsP {rs rs' : List ER} {p : Ex → Prop} (h : exs rs' = exs rs) (hp : ∀ r ∈ rs, p r.e) : ∀ r ∈ rs', p r.e := by
  intro r hr
  have h1 : r.e ∈ exs rs' := List.mem_map.2 ⟨r, hr, rfl⟩
  rw [h] at h1
  obtain ⟨q, hq, e⟩ := List.mem_map.1 h1
  rw [← e]
  exact hp q hq
theorem rlsP {rs rs' : List RR} (h : rls rs' = rls rs) : ∀ r ∈ rs', ∃ q ∈ rs, q.name = r.name ∧ exs r.rows = exs q.rows := by
  intro r hr
  have h1 : r.p ∈ rls rs' := List.mem_map.2 ⟨r, hr, rfl⟩
  rw [h] at h1
  obtain ⟨q, hq, e⟩ := List.mem_map.1 h1
  injection e with e1 e2
  exact ⟨q, hq, e1, e2.symm⟩
theorem tysP {rs rs' : List TR} (h : tys rs' = tys rs) : ∀ r ∈ rs', ∃ q ∈ rs, q.name = r.name ∧ rls r.rows = rls q.rows := by
  intro r hr
  have h1 : r.p ∈ tys rs' := List.mem_map.2 ⟨r, hr, rfl⟩
  rw [h] at h1
  obtain ⟨q, hq, e⟩ := List.mem_map.1 h1
  injection e with e1 e2
  exact ⟨q, hq, e1, e2.symm⟩
theorem lightP {rs rs' : List TR} (h : tys rs' = tys rs) (hl : ∀ r ∈ rs, r.light) : ∀ r ∈ rs', r.light := by
  intro r hr
  obtain ⟨q, hq, -, e⟩ := tysP h r hr
  have h1 := hl q hq
  refine ⟨by rw [← rls_len, e, rls_len]; exact h1.1, fun x hx => ?_⟩
  obtain ⟨y, hy, -, e2⟩ := rlsP e x hx
  have h2 := h1.2 y hy
  exact ⟨by rw [← exs_len, e2, exs_len]; exact h2.1, exsP e2 h2.2⟩
theorem fitsP {rs rs' : List TR} (h : tys rs' = tys rs) (hl : ∀ r ∈ rs, r.fits) : ∀ r ∈ rs', r.fits := by
  intro r hr
  obtain ⟨q, hq, en, e⟩ := tysP h r hr
  have h1 := hl q hq
  refine ⟨by rw [← en]; exact h1.1, by rw [← rls_len, e, rls_len]; exact h1.2.1, fun x hx => ?_⟩
  obtain ⟨y, hy, en2, e2⟩ := rlsP e x hx
  have h2 := h1.2.2 y hy
  exact ⟨by rw [← en2]; exact h2.1, by rw [← exs_len, e2, exs_len]; exact h2.2.1, exsP e2 h2.2.2⟩
theorem lenP {rs rs' : List TR} (h : tys rs' = tys rs) : rs'.length = rs.length := by rw [← tys_len, h, tys_len]


def VT (rs : List TR) (l : List Value) (n : Nat) (v : Value) (w : World) : Prop := (n = 1 → ∃ (ad : Option Addr) (cap : Nat) (rs1 : List TR), v = .slice ad rs1.length cap ∧ tys rs1 = tys rs ∧ SlT w ad rs1) ∧ (n ≠ 1 → v = l.getD n undef)
theorem VT.later {rs : List TR} {l : List Value} {w w' : World} (hb : Below w.heap.size w w') : ∀ k u, VT rs l k u w → VT rs l k u w' := fun k u h => ⟨fun e => by
  obtain ⟨ad, cap, rs1, e1, e2, e3⟩ := h.1 e
  exact ⟨ad, cap, rs1, e1, e2, e3.below hb⟩, h.2⟩

set_option maxRecDepth 100000 in
set_option maxHeartbeats 4000000 in
theorem walk (ad : Option Addr) (cap : Nat) (rs : List TR) (oa ob r c d s : ByteArray) (w : World) (hm : rs.length ≤ maxLen) (hs : SlT w ad rs) (hf : ∀ r ∈ rs, r.fits) (ha : oa.size ≤ maxLen) (hb : ob.size ≤ maxLen) (hr : r.size ≤ maxLen) (hc : c.size ≤ maxLen) (hd : d.size ≤ maxLen) (hz : s.size ≤ maxLen) :
    Calls Try.prog 5 #[.slice ad rs.length cap, .agg #[.string oa, .string ob, .string r, .string c, .string d, .string s]] w fun e w' => e = .returned (.bool true) ∧ Below w.heap.size w w' := by
  have HS : Hid (SlT w ad rs) := hs
  have HF : Hid (∀ r ∈ rs, r.fits) := hf
  clear hs hf
  obtain ⟨W0, hW0⟩ : ∃ W0, W0 = w.alloc (.cells #[.string oa, .string ob, .string r, .string c, .string d, .string s] 51) := ⟨_, rfl⟩
  have HB0 : Hid (Below w.heap.size w W0) := by show Below _ _ _; rw [hW0]; exact (Below.refl _ _).alloc (Nat.le_refl _) _
  have hw0 : w.heap.size < W0.heap.size := by rw [hW0]; simp
  have c0 : W0.cell? ⟨w.heap.size, 0, none⟩ = some (.string oa) := by rw [hW0]; simp
  have c1 : W0.cell? ⟨w.heap.size, 1, none⟩ = some (.string ob) := by rw [hW0]; simp
  have c2 : W0.cell? ⟨w.heap.size, 2, none⟩ = some (.string r) := by rw [hW0]; simp
  have c3 : W0.cell? ⟨w.heap.size, 3, none⟩ = some (.string c) := by rw [hW0]; simp
  have c4 : W0.cell? ⟨w.heap.size, 4, none⟩ = some (.string d) := by rw [hW0]; simp
  have c5 : W0.cell? ⟨w.heap.size, 5, none⟩ = some (.string s) := by rw [hW0]; simp
  go_enter Try.func5, Try.ntmps5
  go_wp2_with fail
  rw [← hW0]
  clear hW0
  refine (szTypeS_any ad cap rs 1048576 _ hm (HS.out.below HB0.out) HF.out (by omega) (by omega)).mono ?_
  rintro e w1 ⟨⟨n, rfl, hn⟩, hb1⟩
  have HB1 : Hid (Below w.heap.size w w1) := HB0.out.trans (hb1.mono HB0.out.size)
  replace c0 := kept5 hb1 hw0 c0
  replace c1 := kept5 hb1 hw0 c1
  replace c2 := kept5 hb1 hw0 c2
  replace c3 := kept5 hb1 hw0 c3
  replace c4 := kept5 hb1 hw0 c4
  replace c5 := kept5 hb1 hw0 c5
  have hw1 : w.heap.size < w1.heap.size := Nat.lt_of_lt_of_le hw0 hb1.size
  clear hb1 hw0
  rcases hn with rfl | ⟨hn0, hn1, hn2, hn3⟩
  · go_wp2
    go_ret
    exact ⟨rfl, HB1.out⟩
  have HL : Hid (∀ r ∈ rs, r.light) := hn3
  have hlen : rs.length ≤ 1048576 := by omega
  clear hn3 hn2
  go_wp2_with fail
  refine (szTuple_any oa ob r c d s _ _ ha hb hr hc hd hz (by omega) (by omega)).mono ?_
  rintro e w2 ⟨rfl, hb2⟩
  have HB2 : Hid (Below w.heap.size w w2) := HB1.out.trans (hb2.mono HB1.out.size)
  replace c0 := kept5 hb2 hw1 c0
  replace c1 := kept5 hb2 hw1 c1
  replace c2 := kept5 hb2 hw1 c2
  replace c3 := kept5 hb2 hw1 c3
  replace c4 := kept5 hb2 hw1 c4
  replace c5 := kept5 hb2 hw1 c5
  have hw2 : w.heap.size < w2.heap.size := Nat.lt_of_lt_of_le hw1 hb2.size
  clear hb2 hw1
  by_cases hn5 : szTup oa ob r c d s n < 0
  · go_wp2
    go_ret
    exact ⟨rfl, HB2.out⟩
  obtain ⟨v, hv⟩ : ∃ v, fitsD (tys rs) oa ob r c d s = v := ⟨_, rfl⟩
  have HV : Hid (fitsD (tys rs) oa ob r c d s = v) := hv
  clear hv
  go_wp2_with fail
  refine wp_region_mid0 5 (fun n => (undef :: undef :: undef :: undef :: undef :: []).getD n undef) (fun fq => { tmps := List.toArray (Value.slice ad rs.length cap :: Value.agg #[Value.string oa, Value.string ob, Value.string r, Value.string c, Value.string d, Value.string s] :: undef :: Value.pointer (some { block := w.heap.size, off := 0 }) :: Value.bool false :: Value.int IntKind.i64 (szTup oa ob r c d s n) :: undef :: undef :: undef :: Value.slice ad rs.length cap :: Value.int IntKind.i64 1048576 :: Value.int IntKind.i64 n :: Value.int IntKind.i64 n :: Value.bool (decide (n < 0)) :: Value.agg #[Value.string oa, Value.string ob, Value.string r, Value.string c, Value.string d, Value.string s] :: Value.int IntKind.i64 n :: Value.int IntKind.i64 (szTup oa ob r c d s n) :: Value.int IntKind.i64 (szTup oa ob r c d s n) :: Value.bool (decide (szTup oa ob r c d s n < 0)) :: fq 0 :: fq 1 :: fq 2 :: fq 3 :: fq 4 :: undef :: undef :: undef :: undef :: undef :: undef :: undef :: undef :: undef :: undef :: undef :: undef :: undef :: undef :: []), defers := [] }) (VT rs (Value.slice ad rs.length cap :: undef :: Value.agg #[.string oa, .string ob, .string r, .string c, .string d, .string s] :: Value.agg #[.string oa, .string ob, .string r, .string c, .string d, .string s] :: Value.bool v :: [])) (fun w' => Below w2.heap.size w2 w') (by kernel_rfl) rfl (by kernel_rfl) (by kernel_rfl) rfl (Below.refl _ _).drew ?stepL ?finL
  case stepL =>
    rintro i hi o ho fq w' hG hpre
    have HG : Hid (Below w2.heap.size w2 w') := hG
    replace c0 := kept5 hG hw2 c0
    replace c1 := kept5 hG hw2 c1
    replace c2 := kept5 hG hw2 c2
    replace c3 := kept5 hG hw2 c3
    replace c4 := kept5 hG hw2 c4
    replace c5 := kept5 hG hw2 c5
    have HM : Hid (∀ e ∈ o.after, Region.binds .any e = true → _) := hpre
    clear hG hpre
    have hc : i = 0 ∨ i = 1 ∨ i = 2 ∨ i = 3 ∨ i = 4 := by omega
    clear hi
    rcases hc with rfl | rfl | rfl | rfl | rfl
    · obtain rfl := Option.some.inj ho
      clear ho HM
      refine wpOp_step rfl (fun K hK => ?_)
      have HK : Hid (∀ a w, _ → K a w) := hK
      clear hK
      dsimp only
      go_simp
      exact HK.out _ _ ⟨Value.slice ad rs.length cap, by simp [upd], HG.out, ⟨fun h => absurd h (by decide), fun _ => rfl⟩, fun k u hu => hu⟩
    · obtain rfl := Option.some.inj ho
      have e0 : fq 0 = Value.slice ad rs.length cap := (HM.out { on := 0, ground := .data } (by simp) rfl).2 (by decide)
      clear ho HM
      refine wpOp_step rfl (fun K hK => ?_)
      have HK : Hid (∀ a w, _ → K a w) := hK
      clear hK
      simp only [e0]
      go_simp
      refine (toTypeS_any ad cap rs _ hlen (HS.out.below (HB2.out.trans (HG.out.mono HB2.out.size))) HL.out).mono ?_
      rintro e w5 ⟨rs1, rfl, he1, hs1, -, -, hb5⟩
      have HB5 : Hid (Below w'.heap.size w' w5) := hb5
      have HG5 : Hid (Below w2.heap.size w2 w5) := HG.out.trans (hb5.mono HG.out.size)
      have HE1 : Hid (tys rs1 = tys rs) := he1
      have HS1 : Hid (SlT w5 (some ⟨w'.heap.size, 0, none⟩) rs1) := hs1
      clear he1 hs1 hb5
      go_wp2_with fail
      exact HK.out _ _ ⟨Value.slice (some ⟨w'.heap.size, 0, none⟩) rs1.length rs1.length, by simp [upd, e0], HG5.out, ⟨fun _ => ⟨_, _, rs1, rfl, HE1.out, HS1.out⟩, fun h => absurd rfl h⟩, VT.later HB5.out⟩
    · obtain rfl := Option.some.inj ho
      clear ho HM
      refine wpOp_step rfl (fun K hK => ?_)
      have HK : Hid (∀ a w, _ → K a w) := hK
      clear hK
      dsimp only
      go_simp
      exact HK.out _ _ ⟨Value.agg #[.string oa, .string ob, .string r, .string c, .string d, .string s], by simp [upd], HG.out, ⟨fun h => absurd h (by decide), fun _ => rfl⟩, fun k u hu => hu⟩
    · obtain rfl := Option.some.inj ho
      have e2 : fq 2 = Value.agg #[.string oa, .string ob, .string r, .string c, .string d, .string s] := (HM.out { on := 2, ground := .data } (by simp) rfl).2 (by decide)
      clear ho HM
      refine wpOp_step rfl (fun K hK => ?_)
      have HK : Hid (∀ a w, _ → K a w) := hK
      clear hK
      simp only [e2]
      go_simp
      refine (toTuple_any oa ob r c d s _).mono ?_
      rintro e w5 ⟨rfl, hb5⟩
      have HB5 : Hid (Below w'.heap.size w' w5) := hb5
      have HG5 : Hid (Below w2.heap.size w2 w5) := HG.out.trans (hb5.mono HG.out.size)
      clear hb5
      go_wp2_with fail
      exact HK.out _ _ ⟨Value.agg #[.string oa, .string ob, .string r, .string c, .string d, .string s], by simp [upd, e2], HG5.out, ⟨fun h => absurd h (by decide), fun _ => rfl⟩, VT.later HB5.out⟩
    · obtain rfl := Option.some.inj ho
      obtain ⟨ad1, cap1, rs1, e1, he1, hs1⟩ := (HM.out { on := 1, ground := .data } (by simp) rfl).1 rfl
      have e3 : fq 3 = Value.agg #[.string oa, .string ob, .string r, .string c, .string d, .string s] := (HM.out { on := 3, ground := .data } (by simp) rfl).2 (by decide)
      clear ho HM
      refine wpOp_step rfl (fun K hK => ?_)
      have HK : Hid (∀ a w, _ → K a w) := hK
      clear hK
      simp only [e1, e3]
      go_simp
      refine (specFits_any ad1 cap1 rs1 oa ob r c d s _ (by rw [lenP he1]; exact hlen) hs1 (lightP he1 HL.out) (fitsP he1 HF.out) ha hb hr hc hd hz).mono ?_
      rintro e w5 ⟨he, hb5⟩
      rw [he1, HV.out] at he
      subst he
      have HB5 : Hid (Below w'.heap.size w' w5) := hb5
      have HG5 : Hid (Below w2.heap.size w2 w5) := HG.out.trans (hb5.mono HG.out.size)
      clear hb5 hs1 he1
      go_wp2_with fail
      exact HK.out _ _ ⟨Value.bool v, by simp [upd, e1, e3], HG5.out, ⟨fun h => absurd h (by decide), fun _ => rfl⟩, VT.later HB5.out⟩
  case finL =>
    rintro o ho fq w' hG hall
    have e4 : fq 4 = Value.bool v := (hall 4 (by omega)).2 (by decide)
    have HG : Hid (Below w2.heap.size w2 w') := hG
    clear hG hall
    obtain rfl := Option.some.inj ho
    clear ho
    refine wpOp_step rfl (fun K hK => ?_)
    have HK : Hid (∀ a w, _ → K a w) := hK
    clear hK
    simp only [e4]
    go_simp
    refine HK.out _ _ ?_
    clear HK
    clear e4
    replace c0 := kept5 HG.out hw2 c0
    replace c1 := kept5 HG.out hw2 c1
    replace c2 := kept5 HG.out hw2 c2
    replace c3 := kept5 HG.out hw2 c3
    replace c4 := kept5 HG.out hw2 c4
    replace c5 := kept5 HG.out hw2 c5
    have hw3 : w.heap.size < w'.heap.size := Nat.lt_of_lt_of_le hw2 HG.out.size
    have HB3 : Hid (Below w.heap.size w w') := HB2.out.trans (HG.out.mono HB2.out.size)
    clear HG hw2
    go_wp2_with fail
    refine (toTypeS_any ad cap rs _ hlen (HS.out.below HB3.out) HL.out).mono ?_
    rintro e w4 ⟨rs2, rfl, he2, hs2, hc2, -, hb4⟩
    have HB4 : Hid (Below w.heap.size w w4) := HB3.out.trans (hb4.mono HB3.out.size)
    have HE2 : Hid (tys rs2 = tys rs) := he2
    have HS2 : Hid (SlT w4 (some ⟨w'.heap.size, 0, none⟩) rs2) := hs2
    have HC2 : Hid (∀ r ∈ rs2, r.caps) := hc2
    replace c0 := kept5 hb4 hw3 c0
    replace c1 := kept5 hb4 hw3 c1
    replace c2 := kept5 hb4 hw3 c2
    replace c3 := kept5 hb4 hw3 c3
    replace c4 := kept5 hb4 hw3 c4
    replace c5 := kept5 hb4 hw3 c5
    have hw4 : w.heap.size < w4.heap.size := Nat.lt_of_lt_of_le hw3 hb4.size
    clear he2 hs2 hc2 hb4
    go_wp2_with fail
    refine (toTuple_any oa ob r c d s _).mono ?_
    rintro e w5 ⟨rfl, hb5⟩
    have HB5 : Hid (Below w.heap.size w w5) := HB4.out.trans (hb5.mono HB4.out.size)
    have HS3 : Hid (SlT w5 (some ⟨w'.heap.size, 0, none⟩) rs2) := HS2.out.below hb5
    clear hb5 HS2 c0 c1 c2 c3 c4 c5
    go_wp2_with fail
    refine (implFits_any _ _ rs2 oa ob r c d s _ (by rw [lenP HE2.out]; exact hlen) HS3.out (lightP HE2.out HL.out) (fitsP HE2.out HF.out) HC2.out ha hb hr hc hd hz).mono ?_
    rintro e w6 ⟨he, hb6⟩
    rw [HE2.out, HV.out] at he
    subst he
    have HB6 : Hid (Below w.heap.size w w6) := HB5.out.trans (hb6.mono HB5.out.size)
    have HS4 : Hid (SlT w6 (some ⟨w'.heap.size, 0, none⟩) rs2) := HS3.out.below hb6
    clear hb6 HS3
    go_wp2_with fail
    refine (toTypeS_any ad cap rs _ hlen (HS.out.below HB6.out) HL.out).mono ?_
    rintro e w7 ⟨rs3, rfl, he3, hs3, hc3, -, hb7⟩
    have HB7 : Hid (Below w.heap.size w w7) := HB6.out.trans (hb7.mono HB6.out.size)
    have HE3 : Hid (tys rs3 = tys rs) := he3
    have HS5 : Hid (SlT w7 (some ⟨w6.heap.size, 0, none⟩) rs3) := hs3
    have HS6 : Hid (SlT w7 (some ⟨w'.heap.size, 0, none⟩) rs2) := HS4.out.below hb7
    clear he3 hs3 hc3 hb7 HS4
    go_wp2_with fail
    refine (eqTypeS_same _ _ _ _ rs2 rs3 _ (by rw [lenP HE2.out]; exact hlen) (by rw [HE3.out, HE2.out]) HS6.out HS5.out (lightP HE2.out HL.out)).mono ?_
    rintro e w8 ⟨rfl, hb8⟩
    have HB8 : Hid (Below w.heap.size w w8) := HB7.out.trans (hb8.mono HB7.out.size)
    clear hb8
    go_wp2
    go_ret
    exact ⟨rfl, HB8.out⟩

theorem own : ownKnob Try.prog.godebug = none := by kernel_rfl
theorem laidOut : laidOutB Try.prog = true := by kernel_rfl

set_option maxRecDepth 100000 in
theorem lifted (os : Os) (started : os.Started) (H : Type) (enc : TypeId × Value → H) :
    ReturnsInHanded {} Try.checked os 5 .any (Rows.fnExactFitsSpec.pre6 enc Try.prog Try.f5 Rows.fnExactFitsRow.domain false) (Rows.fnExactFitsSpec.post enc Try.prog Try.f5 false true false false) := by
  refine returnsInHanded_of_change (C := Try.checked) own started (by kernel_rfl) Try.func5
    (ChangeSpec.witness6 (enc := enc) (C := Try.checked) false ⟨#[], #[.slice none 0 0, .agg #[.string ByteArray.empty, .string ByteArray.empty, .string ByteArray.empty, .string ByteArray.empty, .string ByteArray.empty, .string ByteArray.empty]], []⟩ 8 (by kernel_rfl) (by kernel_rfl) (by kernel_rfl) (by kernel_rfl)) ?_
  intro W base args ds gs before hval0 hW hcnd _
  have hval : ∀ (j : Nat) t v, Try.f5.params[j]? = some t → args[j]? = some v → Value.okWide Try.prog W .any base t v := hval0
  have hW' := hW
  obtain ⟨p, q, hA0, hV, rfl, hfz, hnd⟩ := hW
  have hA : DataW.TrodAll enc Try.prog W 0 (fun _ => true) true Try.f5.params.toList args.toList ds p := hA0
  rw [Try.params5] at hA hval
  obtain ⟨v0, vs0, d0, ds0, p0, q0, hargs, rfl, rfl, h0, r0⟩ := trodAll_cons hA
  obtain ⟨v1, vs1, d1, ds1, p1, q1, rfl, rfl, rfl, h1, r1⟩ := trodAll_cons r0
  obtain ⟨rfl, rfl, rfl⟩ := trodAll_nil r1
  obtain rfl : args = #[v0, v1] := by cases args; simp_all
  obtain ⟨rfl, rfl⟩ := trodVars_none hV
  have k0 := h0
  have lt0 : ∀ x ∈ p0, x.block < W.heap.size := by obtain ⟨m, hm⟩ := k0; exact DataW.trod_lt m _ _ _ hm
  obtain ⟨ad0, len0, cap0, hv0⟩ := okWide_slice Try.underlying37 (hval 0 37 v0 rfl rfl)
  subst hv0
  obtain ⟨fuel0, hf0⟩ := h0
  obtain ⟨rs0, hl0, hsl0, hft0, hm0⟩ := open_types (by simpa [Value.cells] using hf0)
  subst hl0
  have k1 := h1
  have lt1 : ∀ x ∈ p1, x.block < W.heap.size := by obtain ⟨m, hm⟩ := k1; exact DataW.trod_lt m _ _ _ hm
  obtain ⟨xa1, xb1, xr1, xc1, xd1, xs1, hv1, wa1, wb1, wr1, wc1, wd1, ws1⟩ := open_tup (hval 1 51 v1 rfl rfl) h1
  subst hv1
  clear hA0 hval0
  refine (walk ad0 cap0 rs0 xa1 xb1 xr1 xc1 xd1 xs1 W hm0 hsl0 hft0 wa1 wb1 wr1 wc1 wd1 ws1).mono fun e W' ⟨he, bel⟩ => ?_
  subst he
  exact ⟨_, rfl, _, _, _, [], _, [], hW', trodAll_mk1 (shut_bool Try.underlying4 _), (trodAll_cons_mk (Below.trod laidOut (by kernel_rfl) (of_decide_eq_true (by kernel_rfl)) k0 bel lt0) (trodAll_cons_mk (Below.trod laidOut (by kernel_rfl) (of_decide_eq_true (by kernel_rfl)) k1 bel lt1) trodAll_mk0)), rfl, bel.frame _, fun h => by cases h⟩

theorem over : Rows.fnExactFitsRow.holds Try.pinned (OpenSpec.ofChange Rows.fnExactFitsSpec) :=
  OpenClaim.holds_of_wide 5 Try.f5 rfl rfl rfl rfl rfl rfl rfl ⟨rfl, rfl, rfl, rfl, rfl⟩ rfl rfl rfl rfl rfl (by kernel_rfl) Try.func5 (by kernel_rfl)
    (of_decide_eq_true (by kernel_rfl)) (by unfold Func.isWrapper; first | (rw [if_pos (by decide +kernel)]; kernel_rfl) | (rw [if_neg (by decide +kernel)]; exact ⟨rfl, rfl⟩))
    (fun os started H enc _ => lifted os started H enc)

end Go.Proofs.Ytbafedmbkhdkgaa.fnExactFits
namespace Go.Proofs.Ytbafedmbkhdkgaa
theorem FnExactFits_holds : Rows.FnExactFitsSaid := fnExactFits.over
end Go.Proofs.Ytbafedmbkhdkgaa
