/- Proved here: FnExactRemoved answers true for every list of tuples and every tuple and leaves them as they were, with no condition on them. -/
import Derived.Test.YtdgfcninffoafaaImplAddRem
import Derived.Test.YtdgfcninffoafaaEqT
import Derived.Test.YtdgfcninffoafaaMarkTup
import Derived.Test.YtdgfcninffoafaaToTupS
import Derived.Test.YtdgfcninffoafaaOpenTup
import Derived.Test.YtdgfcninffoafaaOpenTups
import Derived.Test.YtdgfcninffoafaaLawTup
namespace Go.Proofs.Ytdgfcninffoafaa.fnExactRemoved
open Go.ChangeShapes Go.WideShapes Go.ChangeAt Go.RowKit Go.Joins
open Go.ChangeMaps (open_string shut_string)
open Pl
set_option linter.unusedVariables false

set_option maxRecDepth 100000 in
set_option maxHeartbeats 8000000 in
theorem walk0 (ad : Option Addr) (cap : Nat) (ts : List Tp) (t : Tp) (w : World) (hm : ts.length ≤ maxLen) (hs : Sl w ad ts) (hf : ∀ x ∈ ts, x.fits) (ht : t.fits) :
    Calls Try.prog 4 #[.slice ad ts.length cap, .agg #[.string t.a, .string t.b, .string t.r, .string t.c, .string t.d, .string t.s]] w fun e w' => e = .returned (.bool true) ∧ Below w.heap.size w w' := by
  have HS := HID hs
  have HF := HID hf
  have HFT := HID ht
  clear hs hf ht
  obtain ⟨W0, hW0⟩ : ∃ W0, W0 = w.alloc (.cells #[.string t.a, .string t.b, .string t.r, .string t.c, .string t.d, .string t.s] 26) := ⟨_, rfl⟩
  have HB0 : Hid (Below w.heap.size w W0) := by show Below _ _ _; rw [hW0]; exact (Below.refl _ _).alloc (Nat.le_refl _) _
  have HX0 : Hid (Six W0 w.heap.size t) := by show Six _ _ _; rw [hW0]; exact six_new w t _
  go_enter Try.func4, Try.ntmps4
  go_wp2_with fail
  rw [← hW0]
  clear hW0
  refine (szTupleS_any ad cap ts 1048576 _ hm (HS.out.below HB0.out) HF.out (by omega) (by omega)).mono ?_
  rintro e w1 ⟨⟨n, rfl, hn⟩, hb1⟩
  have HB1 : Hid (Below w.heap.size w w1) := HB0.out.trans (hb1.mono HB0.out.size)
  have HX1 : Hid (Six w1 w.heap.size t) := HX0.out.below hb1
  clear hb1 HX0 HB0
  rcases hn with rfl | ⟨hn0, hn1, hn2⟩
  · go_wp2
    go_ret
    exact ⟨rfl, HB1.out⟩
  have hlen : ts.length ≤ 1048576 := by omega
  clear hn2
  obtain ⟨x0, x1, x2, x3, x4, x5, xl⟩ := HX1.out
  obtain ⟨f0, f1, f2, f3, f4, f5⟩ := HFT.out
  have HZ := HID (szTuple_any t.a t.b t.r t.c t.d t.s n w1 f0 f1 f2 f3 f4 f5 (by omega) (by omega))
  clear f0 f1 f2 f3 f4 f5
  go_wp2_with fail
  refine HZ.out.mono ?_
  rintro e w2 ⟨rfl, hb2⟩
  have HB2 : Hid (Below w.heap.size w w2) := HB1.out.trans (hb2.mono HB1.out.size)
  have HX2 : Hid (Six w2 w.heap.size t) := HX1.out.below hb2
  clear hb2 HX1 HB1 HZ x0 x1 x2 x3 x4 x5 xl
  by_cases hn5 : szTup t.a t.b t.r t.c t.d t.s n < 0
  · go_wp2
    go_ret
    exact ⟨rfl, HB2.out⟩
  obtain ⟨x0, x1, x2, x3, x4, x5, xl⟩ := HX2.out
  have H0 : w2.drew.cell? ⟨w.heap.size, 0, none⟩ = some (.string t.a) ∧ w2.drew.cell? ⟨w.heap.size, 1, none⟩ = some (.string t.b) ∧ w2.drew.cell? ⟨w.heap.size, 2, none⟩ = some (.string t.r) ∧ w2.drew.cell? ⟨w.heap.size, 3, none⟩ = some (.string t.c) ∧ w2.drew.cell? ⟨w.heap.size, 4, none⟩ = some (.string t.d) ∧ w2.drew.cell? ⟨w.heap.size, 5, none⟩ = some (.string t.s) ∧ w.heap.size < w2.drew.heap.size ∧ Below w.heap.size w w2.drew := ⟨x0, x1, x2, x3, x4, x5, xl, HB2.out.drew⟩
  clear x0 x1 x2 x3 x4 x5
  go_wp2_with fail
  go_region_held3 (fun w' => w'.cell? ⟨w.heap.size, 0, none⟩ = some (.string t.a) ∧ w'.cell? ⟨w.heap.size, 1, none⟩ = some (.string t.b) ∧ w'.cell? ⟨w.heap.size, 2, none⟩ = some (.string t.r) ∧ w'.cell? ⟨w.heap.size, 3, none⟩ = some (.string t.c) ∧ w'.cell? ⟨w.heap.size, 4, none⟩ = some (.string t.d) ∧ w'.cell? ⟨w.heap.size, 5, none⟩ = some (.string t.s) ∧ w.heap.size < w'.heap.size ∧ Below w.heap.size w w')
    (first | assumption | exact keep6 (by assumption) F3.below | exact keep6 (by assumption) hb4 | exact keep6 (by assumption) hb5 | exact H0)
    (first | (go_at_call 8; refine (toTupleS_any ad cap ts _ hlen (HS.out.below (HB2.out.drew))).mono ?_; rintro e w3 ⟨rfl, F3⟩) | (go_at_call 9; refine (toTuple_any t.a t.b t.r t.c t.d t.s _).mono ?_; rintro e w4 ⟨rfl, hb4⟩) | (go_at_call 14; refine (specRemoved_any _ _ ts t _ hlen (F3.later hb4).sl HF.out).mono ?_; rintro e w5 ⟨ad5, cap5, rfl, hs5, hb5⟩))
  rename_i hH
  obtain ⟨x0, x1, x2, x3, x4, x5, xl5, gB⟩ := hH
  have HB5 := HID gB
  have HX5 := HID (six_of x0 x1 x2 x3 x4 x5 xl5)
  have HL5 := HID hs5
  have HV : Hid (remB ts t = remB ts t) := rfl
  generalize hvv : remB ts t = v at *
  have HVV := HID hvv
  clear hvv HV H0 F3 hb4 hb5 hs5 gB x0 x1 x2 x3 x4 x5 xl HX2 hn5
  have s5 : w.heap.size ≤ w5.heap.size := HB5.out.size
  go_wp2_with fail
  refine (toTupleS_any ad cap ts _ hlen (HS.out.below HB5.out)).mono ?_
  rintro e w6 ⟨rfl, F6⟩
  have HF6 := HID F6
  have HB6 : Hid (Below w.heap.size w w6) := HB5.out.trans (F6.below.mono s5)
  have HX6 : Hid (Six w6 w.heap.size t) := HX5.out.below F6.below
  have HL6 : Hid (Sl w6 ad5 (remL ts t)) := HL5.out.below F6.below
  have s6 : w5.heap.size < w6.heap.size := F6.lt
  clear F6 HX5 HB5
  obtain ⟨x0, x1, x2, x3, x4, x5, xl⟩ := HX6.out
  go_wp2_with fail
  refine (toTuple_any t.a t.b t.r t.c t.d t.s _).mono ?_
  rintro e w7 ⟨rfl, hb7⟩
  have HF7 := HID (HF6.out.later hb7)
  have HB7 : Hid (Below w.heap.size w w7) := HB6.out.trans (hb7.mono HB6.out.size)
  have HX7 : Hid (Six w7 w.heap.size t) := HX6.out.below hb7
  have HL7 : Hid (Sl w7 ad5 (remL ts t)) := HL6.out.below hb7
  have s7 : w6.heap.size ≤ w7.heap.size := hb7.size
  clear hb7 HX6 HB6 HF6 HL6 x0 x1 x2 x3 x4 x5 xl
  go_wp2_with fail
  refine (implRemoved_any _ _ ts t _ hlen HF7.out.sl HF.out HFT.out).mono ?_
  rintro e w8 ⟨ad8, cap8, he, hO8, hb8⟩
  rw [HVV.out] at he
  subst he
  have HF8 := HID (HF7.out.later hb8)
  have HB8 : Hid (Below w.heap.size w w8) := HB7.out.trans (hb8.mono HB7.out.size)
  have HX8 : Hid (Six w8 w.heap.size t) := HX7.out.below hb8
  have HL8 : Hid (Sl w8 ad5 (remL ts t)) := HL7.out.below hb8
  have HO8 : Hid (OwnL w6.heap.size w8 ad8 (remL ts t)) := hO8.mono s7
  have hll : (remL ts t).length ≤ maxLen := by have := remLen2 (t := t) hlen; unfold maxLen; omega
  have hl2 : (remL ts t).length ≤ 1048576 := remLen2 hlen
  clear hb8 hO8 HX7 HB7 HF7 HL7
  go_wp2_with fail
  refine (eqTupleS_any ad8 ad5 cap8 cap5 (remL ts t) _ hll HO8.out.1 HL8.out).mono ?_
  rintro e w9 ⟨rfl, hb9⟩
  have HF9 := HID (HF8.out.later hb9)
  have HB9 : Hid (Below w.heap.size w w9) := HB8.out.trans (hb9.mono HB8.out.size)
  have HX9 : Hid (Six w9 w.heap.size t) := HX8.out.below hb9
  have HL9 : Hid (Sl w9 ad5 (remL ts t)) := HL8.out.below hb9
  have HO9 : Hid (OwnL w6.heap.size w9 ad8 (remL ts t)) := HO8.out.later hb9
  clear hb9 HX8 HB8 HF8 HL8 HO8
  go_wp2_with fail
  refine (toTupleS_any ad cap ts _ hlen (HS.out.below HB9.out)).mono ?_
  rintro e w10 ⟨rfl, F10⟩
  have HF10 := HID (HF9.out.later F10.below)
  have HB10 : Hid (Below w.heap.size w w10) := HB9.out.trans (F10.below.mono HB9.out.size)
  have HX10 : Hid (Six w10 w.heap.size t) := HX9.out.below F10.below
  have HL10 : Hid (Sl w10 ad5 (remL ts t)) := HL9.out.below F10.below
  have HO10 : Hid (OwnL w6.heap.size w10 ad8 (remL ts t)) := HO9.out.later F10.below
  have HG10 := HID F10.sl
  clear F10 HX9 HB9 HF9 HL9 HO9
  go_wp2_with fail
  refine (eqTupleS_any _ _ _ _ ts _ hm HF10.out.sl HG10.out).mono ?_
  rintro e w11 ⟨rfl, hb11⟩
  have HF11 := HID (HF10.out.later hb11)
  have HB11 : Hid (Below w.heap.size w w11) := HB10.out.trans (hb11.mono HB10.out.size)
  have HX11 : Hid (Six w11 w.heap.size t) := HX10.out.below hb11
  have HL11 : Hid (Sl w11 ad5 (remL ts t)) := HL10.out.below hb11
  have HO11 : Hid (OwnL w6.heap.size w11 ad8 (remL ts t)) := HO10.out.later hb11
  clear hb11 HX10 HB10 HF10 HL10 HO10 HG10
  go_wp2_with fail
  refine (markTupleS_any _ _ ts 1 _ HF11.out.sl (fun _ => ⟨_, rfl, HF11.out.free⟩) (by omega) (by omega)).mono ?_
  rintro e w12 ⟨rfl, -, hc12⟩
  have HB12 : Hid (Below w.heap.size w w12) := HB11.out.trans (hc12.below (fun g hg => by obtain ⟨-, e⟩ := hg; injection e with e; injection e with e; omega) HB11.out.size)
  have HX5L := HID xl5
  have HX12 : Hid (Six w12 w.heap.size t) := HX11.out.chg hc12 (fun hg => by obtain ⟨-, e⟩ := hg; injection e with e; injection e with e; have := HX5L.out; omega)
  have HL12 : Hid (Sl w12 ad5 (remL ts t)) := HL11.out.chg hc12 (fun g o hne e hg => by
    obtain ⟨-, e2⟩ := hg
    injection e2 with e2; injection e2 with e2 e3
    have := sl_lt HL5.out hne e
    omega)
  have HO12 : Hid (OwnL w6.heap.size w12 ad8 (remL ts t)) := HO11.out.chg hc12 (fun g hge hg => by
    obtain ⟨-, e2⟩ := hg
    injection e2 with e2; injection e2 with e2 e3
    omega)
  have hk1 : ¬ ((1 + 6 * ts.length : Nat) : Int) < 0 := by omega
  clear hc12 HX11 HB11 HF11 HL11 HO11
  go_wp2_with fail
  refine (eqTupleS_any ad8 ad5 cap8 cap5 (remL ts t) _ hll HO12.out.1 HL12.out).mono ?_
  rintro e w13 ⟨rfl, hb13⟩
  have HB13 : Hid (Below w.heap.size w w13) := HB12.out.trans (hb13.mono HB12.out.size)
  have HX13 : Hid (Six w13 w.heap.size t) := HX12.out.below hb13
  have HL13 : Hid (Sl w13 ad5 (remL ts t)) := HL12.out.below hb13
  have HO13 : Hid (OwnL w6.heap.size w13 ad8 (remL ts t)) := HO12.out.later hb13
  clear hb13 HX12 HB12 HL12 HO12
  go_wp2_with fail
  refine (markTupleS_any ad8 cap8 (remL ts t) 1 _ HO13.out.1 (fun h => by obtain ⟨g, e, -, hfr⟩ := HO13.out.2 h; exact ⟨g, e, hfr⟩) (by omega) (by omega)).mono ?_
  rintro e w14 ⟨rfl, hs14, hc14⟩
  have HM14 := HID hs14
  have hfar : ∀ g, ((remL ts t) ≠ [] ∧ ad8 = some ⟨g, 0, none⟩) → w6.heap.size ≤ g := fun g hg => by
    obtain ⟨g', e, h1, -⟩ := HO13.out.2 hg.1
    have e2 := hg.2
    rw [e] at e2; injection e2 with e2; injection e2 with e2 e3; omega
  have HB14 : Hid (Below w.heap.size w w14) := HB13.out.trans (hc14.below (fun g hg => by have := hfar g hg; omega) HB13.out.size)
  have HX14 : Hid (Six w14 w.heap.size t) := HX13.out.chg hc14 (fun hg => by have := hfar _ hg; omega)
  have HL14 : Hid (Sl w14 ad5 (remL ts t)) := HL13.out.chg hc14 (fun g o hne e hg => by
    have := hfar g hg
    have := sl_lt HL5.out hne e
    omega)
  clear hs14 hc14 hfar HX13 HB13 HL13 HO13
  go_wp2_with fail
  refine (heldTupleS_any ad8 cap8 (remL ts t) 1 _ HM14.out (by omega) (by omega)).mono ?_
  rintro e w15 ⟨rfl, hb15⟩
  have HB15 : Hid (Below w.heap.size w w15) := HB14.out.trans (hb15.mono HB14.out.size)
  have HX15 : Hid (Six w15 w.heap.size t) := HX14.out.below hb15
  have HL15 : Hid (Sl w15 ad5 (remL ts t)) := HL14.out.below hb15
  have HM15 : Hid (Sl w15 ad8 (mkT 1 (remL ts t))) := HM14.out.below hb15
  have hk2 : ¬ ((1 + 6 * (remL ts t).length : Nat) : Int) < 0 := by omega
  clear hb15 HX14 HB14 HL14 HM14
  obtain ⟨x0, x1, x2, x3, x4, x5, xl⟩ := HX15.out
  have H0 : w15.drew.cell? ⟨w.heap.size, 0, none⟩ = some (.string t.a) ∧ w15.drew.cell? ⟨w.heap.size, 1, none⟩ = some (.string t.b) ∧ w15.drew.cell? ⟨w.heap.size, 2, none⟩ = some (.string t.r) ∧ w15.drew.cell? ⟨w.heap.size, 3, none⟩ = some (.string t.c) ∧ w15.drew.cell? ⟨w.heap.size, 4, none⟩ = some (.string t.d) ∧ w15.drew.cell? ⟨w.heap.size, 5, none⟩ = some (.string t.s) ∧ w.heap.size < w15.drew.heap.size ∧ Below w.heap.size w w15.drew := ⟨x0, x1, x2, x3, x4, x5, xl, HB15.out.drew⟩
  clear x0 x1 x2 x3 x4 x5
  go_wp2_with fail
  go_region_held3 (fun w' => w'.cell? ⟨w.heap.size, 0, none⟩ = some (.string t.a) ∧ w'.cell? ⟨w.heap.size, 1, none⟩ = some (.string t.b) ∧ w'.cell? ⟨w.heap.size, 2, none⟩ = some (.string t.r) ∧ w'.cell? ⟨w.heap.size, 3, none⟩ = some (.string t.c) ∧ w'.cell? ⟨w.heap.size, 4, none⟩ = some (.string t.d) ∧ w'.cell? ⟨w.heap.size, 5, none⟩ = some (.string t.s) ∧ w.heap.size < w'.heap.size ∧ Below w.heap.size w w')
    (first | assumption | exact keep6 (by assumption) F16.below | exact keep6 (by assumption) hb17 | exact keep6 (by assumption) hb18 | exact H0)
    (first | (go_at_call 8; refine (toTupleS_any ad cap ts _ hlen (HS.out.below (HB15.out.drew))).mono ?_; rintro e w16 ⟨rfl, F16⟩) | (go_at_call 9; refine (toTuple_any t.a t.b t.r t.c t.d t.s _).mono ?_; rintro e w17 ⟨rfl, hb17⟩) | (go_at_call 15; refine (implRemoved_any _ _ ts t _ hlen (F16.later hb17).sl HF.out HFT.out).mono ?_; rintro e w18 ⟨ad18, cap18, he, hO18, hb18⟩; rw [HVV.out] at he; subst he))
  have b16 : Below w15.heap.size w15 w16 := ((Below.refl w15.heap.size w15).drew).trans F16.below
  have HB18 : Hid (Below w.heap.size w w18) := HB15.out.trans ((b16.trans ((hb17.mono b16.size).trans (hb18.mono (Nat.le_trans b16.size hb17.size)))).mono HB15.out.size)
  have HL18 : Hid (Sl w18 ad5 (remL ts t)) := ((HL15.out.below b16).below hb17).below hb18
  have HM18 : Hid (Sl w18 ad8 (mkT 1 (remL ts t))) := ((HM15.out.below b16).below hb17).below hb18
  have HO18 := HID hO18.1
  rename_i hH
  clear hH H0 F16 b16 hb17 hb18 hO18 HX15 HB15 HL15 HM15 xl
  go_wp2_with fail
  refine (eqTupleS_any ad18 ad5 cap18 cap5 (remL ts t) _ hll HO18.out HL18.out).mono ?_
  rintro e w19 ⟨rfl, hb19⟩
  have HB19 : Hid (Below w.heap.size w w19) := HB18.out.trans (hb19.mono HB18.out.size)
  have HM19 : Hid (Sl w19 ad8 (mkT 1 (remL ts t))) := HM18.out.below hb19
  clear hb19 HB18 HL18 HM18 HO18
  go_wp2_with fail
  refine (heldTupleS_any ad8 cap8 (remL ts t) 1 _ HM19.out (by omega) (by omega)).mono ?_
  rintro e w20 ⟨rfl, hb20⟩
  have HB20 : Hid (Below w.heap.size w w20) := HB19.out.trans (hb20.mono HB19.out.size)
  clear hb20 HB19 HM19
  go_wp2
  go_ret
  exact ⟨rfl, HB20.out⟩

theorem walk (ad : Option Addr) (cap : Nat) (ts : List Tp) (a b r c d s : ByteArray) (w : World) (hm : ts.length ≤ maxLen) (hs : Sl w ad ts) (hf : ∀ x ∈ ts, x.fits) (ha : a.size ≤ maxLen) (hb : b.size ≤ maxLen) (hr : r.size ≤ maxLen) (hc : c.size ≤ maxLen) (hd : d.size ≤ maxLen) (hz : s.size ≤ maxLen) :
    Calls Try.prog 4 #[.slice ad ts.length cap, .agg #[.string a, .string b, .string r, .string c, .string d, .string s]] w fun e w' => e = .returned (.bool true) ∧ Below w.heap.size w w' :=
  walk0 ad cap ts ⟨a, b, r, c, d, s⟩ w hm hs hf ⟨ha, hb, hr, hc, hd, hz⟩

theorem own : ownKnob Try.prog.godebug = none := by kernel_rfl
theorem laidOut : laidOutB Try.prog = true := by kernel_rfl

set_option maxRecDepth 100000 in
theorem lifted (os : Os) (started : os.Started) (H : Type) (enc : TypeId × Value → H) :
    ReturnsInHanded {} Try.checked os 4 .any (Rows.fnExactRemovedSpec.pre6 enc Try.prog Try.f4 Rows.fnExactRemovedRow.domain false) (Rows.fnExactRemovedSpec.post enc Try.prog Try.f4 false true false false) := by
  refine returnsInHanded_of_change (C := Try.checked) own started (by kernel_rfl) Try.func4
    (ChangeSpec.witness6 (enc := enc) (C := Try.checked) false ⟨#[], #[.slice none 0 0, .agg #[.string ByteArray.empty, .string ByteArray.empty, .string ByteArray.empty, .string ByteArray.empty, .string ByteArray.empty, .string ByteArray.empty]], []⟩ 8 (by kernel_rfl) (by kernel_rfl) (by kernel_rfl) (by kernel_rfl)) ?_
  intro W base args ds gs before hval0 hW hcnd _
  have hval : ∀ (j : Nat) t v, Try.f4.params[j]? = some t → args[j]? = some v → Value.okWide Try.prog W .any base t v := hval0
  have hW' := hW
  obtain ⟨p, q, hA0, hV, rfl, hfz, hnd⟩ := hW
  have hA : DataW.TrodAll enc Try.prog W 0 (fun _ => true) true Try.f4.params.toList args.toList ds p := hA0
  rw [Try.params4] at hA hval
  obtain ⟨v0, vs0, d0, ds0, p0, q0, hargs, rfl, rfl, h0, r0⟩ := trodAll_cons hA
  obtain ⟨v1, vs1, d1, ds1, p1, q1, rfl, rfl, rfl, h1, r1⟩ := trodAll_cons r0
  obtain ⟨rfl, rfl, rfl⟩ := trodAll_nil r1
  obtain rfl : args = #[v0, v1] := by cases args; simp_all
  obtain ⟨rfl, rfl⟩ := trodVars_none hV
  have k0 := h0
  have lt0 : ∀ x ∈ p0, x.block < W.heap.size := by obtain ⟨m, hm⟩ := k0; exact DataW.trod_lt m _ _ _ hm
  obtain ⟨ad0, len0, cap0, hv0⟩ := okWide_slice Try.underlying22 (hval 0 22 v0 rfl rfl)
  subst hv0
  obtain ⟨fuel0, hf0⟩ := h0
  obtain ⟨ts0, hl0, hsl0, hft0, hm0⟩ := open_tups (by simpa [Value.cells] using hf0)
  subst hl0
  have k1 := h1
  have lt1 : ∀ x ∈ p1, x.block < W.heap.size := by obtain ⟨m, hm⟩ := k1; exact DataW.trod_lt m _ _ _ hm
  obtain ⟨xa1, xb1, xr1, xc1, xd1, xs1, hv1, wa1, wb1, wr1, wc1, wd1, ws1⟩ := open_tup (hval 1 26 v1 rfl rfl) h1
  subst hv1
  clear hA0 hval0
  refine (walk ad0 cap0 ts0 xa1 xb1 xr1 xc1 xd1 xs1 W hm0 hsl0 hft0 wa1 wb1 wr1 wc1 wd1 ws1).mono fun e W' ⟨he, bel⟩ => ?_
  subst he
  exact ⟨_, rfl, _, _, _, [], _, [], hW', trodAll_mk1 (shut_bool Try.underlying4 _), (trodAll_cons_mk (Below.trod laidOut (by kernel_rfl) (of_decide_eq_true (by kernel_rfl)) k0 bel lt0) (trodAll_cons_mk (Below.trod laidOut (by kernel_rfl) (of_decide_eq_true (by kernel_rfl)) k1 bel lt1) trodAll_mk0)), rfl, bel.frame _, fun h => by cases h⟩

theorem over : Rows.fnExactRemovedRow.holds Try.pinned (OpenSpec.ofChange Rows.fnExactRemovedSpec) :=
  OpenClaim.holds_of_wide 4 Try.f4 rfl rfl rfl rfl rfl rfl rfl ⟨rfl, rfl, rfl, rfl, rfl⟩ rfl rfl rfl rfl rfl (by kernel_rfl) Try.func4 (by kernel_rfl)
    (of_decide_eq_true (by kernel_rfl)) (by unfold Func.isWrapper; first | (rw [if_pos (by decide +kernel)]; kernel_rfl) | (rw [if_neg (by decide +kernel)]; exact ⟨rfl, rfl⟩))
    (fun os started H enc _ => lifted os started H enc)

end Go.Proofs.Ytdgfcninffoafaa.fnExactRemoved
namespace Go.Proofs.Ytdgfcninffoafaa
theorem FnExactRemoved_holds : Rows.FnExactRemovedSaid := fnExactRemoved.over
end Go.Proofs.Ytdgfcninffoafaa
