/- Proved here: FnChangeTexts answers true for every slice of bytes and leaves it as it was, with no condition on it; whatever the package variable internal/bytealg.MaxLen holds. -/
import Derived.Test.YtgifbgcnlijjiaaDrawChg2
import Derived.Test.YtgifbgcnlijjiaaRdChg
import Derived.OpenShut
import Derived.ShutString
import Derived.HandedShaped
namespace Go.Proofs.Ytgifbgcnlijjiaa.fnChangeTexts
open Go.ChangeShapes Go.WideShapes Go.ChangeAt Go.RowKit
open Pl
set_option linter.unusedVariables false

set_option maxRecDepth 100000 in
set_option maxHeartbeats 4000000 in
theorem walk (ad : Option Addr) (len cap : Nat) (w : World) (h : Bytes w ad len) (hsh : w.ShapedOpen Try.prog) :
    Calls Try.prog 3 #[.slice ad len cap] w fun e w' => e = .returned (.bool true) ∧ Below w.heap.size w w' := by
  obtain ⟨m, hm⟩ := Try.laysM145.s1_3 w hsh
  have H : Hid (Bytes w ad len) := h
  have HL0 : Hid (w.cell? ⟨0, 0, none⟩ = some (.int .i64 m)) := hm
  clear h hm hsh
  by_cases hbig : (1048576 : Int) < (len : Int)
  · go_enter Try.func3, Try.ntmps3
    go_wp2_with (go_at_call 8; refine (big_any _ _ _ _).mono ?_; rintro e w ⟨rfl, rfl⟩)
    go_ret
    exact ⟨rfl, Below.refl _ _⟩
  go_enter Try.func3, Try.ntmps3
  go_wp2_with (first | (go_at_call 8; refine (big_any _ _ _ _).mono ?_; rintro e w ⟨rfl, rfl⟩) | fail)
  go_wp2_with fail
  refine (drawChangeText_any ad len cap _ H.out).mono ?_
  rintro e w1 ⟨⟨k, a, b, r, c, d, s, rfl, ha, hb, hr, hc, hd, hs⟩, hb1⟩
  have HB1 : Hid (Below w.heap.size w w1) := hb1
  have HL1 : Hid (w1.cell? ⟨0, 0, none⟩ = some (.int .i64 m)) := cell_later hb1 HL0.out
  clear hb1 HL0
  obtain ⟨W1, hW1⟩ : ∃ W1, W1 = w1.alloc (.cells #[.int .i64 k, .string a, .string b, .string r, .string c, .string d, .string s] 29) := ⟨_, rfl⟩
  have HCW1 : Hid (W1.cell? ⟨w1.heap.size, 0, none⟩ = some (.int .i64 k) ∧ W1.cell? ⟨w1.heap.size, 1, none⟩ = some (.string a) ∧ W1.cell? ⟨w1.heap.size, 2, none⟩ = some (.string b) ∧ W1.cell? ⟨w1.heap.size, 3, none⟩ = some (.string r) ∧ W1.cell? ⟨w1.heap.size, 4, none⟩ = some (.string c) ∧ W1.cell? ⟨w1.heap.size, 5, none⟩ = some (.string d) ∧ W1.cell? ⟨w1.heap.size, 6, none⟩ = some (.string s) ∧ w1.heap.size < W1.heap.size ∧ Below w.heap.size w W1) := by
    show _ ∧ _
    rw [hW1]
    refine ⟨?_, ?_, ?_, ?_, ?_, ?_, ?_, ?_, HB1.out.alloc HB1.out.size _⟩ <;> simp
  have HBW1 : Hid (Below w.heap.size w W1) := HCW1.out.2.2.2.2.2.2.2.2
  have HAW1 : Hid (Below w1.heap.size w1 W1) := by show Below _ _ _; rw [hW1]; exact (Below.refl _ _).alloc (Nat.le_refl _) _
  have HLW : Hid (W1.cell? ⟨0, 0, none⟩ = some (.int .i64 m)) := cell_later HAW1.out HL1.out
  go_wp2_with fail
  rw [← hW1]
  clear hW1
  refine (implChg_any k a b r c d s _ (le20m ha) (le20m hb) (le20m hr) (le20m hc) (le20m hd) (le20m hs)).mono ?_
  rintro e w2 ⟨rfl, hb2⟩
  have HC2 := HID (keep7 HCW1.out hb2)
  have HL2 : Hid (w2.cell? ⟨0, 0, none⟩ = some (.int .i64 m)) := cell_later hb2 HLW.out
  have HB2 : Hid (Below w.heap.size w w2) := HBW1.out.trans (hb2.mono HBW1.out.size)
  have hcs := chgText_size k a b r c d s
  clear hb2 HCW1 HLW HBW1 HL1 HAW1
  go_wp2_with fail
  refine (implRdChg_any (chgText k a b r c d s) m _ (by omega) HL2.out).mono ?_
  rintro e w3 ⟨k', a', b', r', c', d', s', f, rfl, hA, hb3⟩
  have HC3 := HID (keep7 HC2.out hb3)
  have HL3 : Hid (w3.cell? ⟨0, 0, none⟩ = some (.int .i64 m)) := cell_later hb3 HL2.out
  have HB3 : Hid (Below w.heap.size w w3) := HB2.out.trans (hb3.mono HB2.out.size)
  clear hb3 HC2 HL2 HB2
  cases hok : (chgB k && tupB a b r c d s) with
  | true =>
    have hk : chgB k = true := by cases h1 : chgB k with | true => rfl | false => rw [h1] at hok; cases hok
    have ht : tupB a b r c d s = true := by rw [hk] at hok; exact hok
    have hne := chgText_some hk ht
    obtain ⟨⟨rfl, rfl, rfl, rfl, rfl, rfl, rfl⟩, rfl⟩ := ChgAs.one (.inl ⟨rfl, hk, ht, rfl⟩ : ChgAs (chgText k a b r c d s) k a b r c d s true) hA
    clear hA hok hk ht
    obtain ⟨W3, hW3⟩ : ∃ W3, W3 = w3.alloc (.cells #[.int .i64 k, .string a, .string b, .string r, .string c, .string d, .string s] 29) := ⟨_, rfl⟩
    have HCW3 : Hid (W3.cell? ⟨w3.heap.size, 0, none⟩ = some (.int .i64 k) ∧ W3.cell? ⟨w3.heap.size, 1, none⟩ = some (.string a) ∧ W3.cell? ⟨w3.heap.size, 2, none⟩ = some (.string b) ∧ W3.cell? ⟨w3.heap.size, 3, none⟩ = some (.string r) ∧ W3.cell? ⟨w3.heap.size, 4, none⟩ = some (.string c) ∧ W3.cell? ⟨w3.heap.size, 5, none⟩ = some (.string d) ∧ W3.cell? ⟨w3.heap.size, 6, none⟩ = some (.string s) ∧ w3.heap.size < W3.heap.size ∧ Below w.heap.size w W3) := by
      show _ ∧ _
      rw [hW3]
      refine ⟨?_, ?_, ?_, ?_, ?_, ?_, ?_, ?_, HB3.out.alloc HB3.out.size _⟩ <;> simp
    have HBW3 : Hid (Below w.heap.size w W3) := HCW3.out.2.2.2.2.2.2.2.2
    have HAW3 : Hid (Below w3.heap.size w3 W3) := by show Below _ _ _; rw [hW3]; exact (Below.refl _ _).alloc (Nat.le_refl _) _
    have HLW : Hid (W3.cell? ⟨0, 0, none⟩ = some (.int .i64 m)) := cell_later HAW3.out HL3.out
    have HC4 := HID (keep7 HC3.out HAW3.out)
    obtain ⟨c0, c1, c2, c3, c4, c5, c6, cl, -⟩ := HC3.out
    go_wp2_with fail
    rw [← hW3]
    clear hW3
    refine (specChg_any k a b r c d s _ (le20m ha) (le20m hb) (le20m hr) (le20m hc) (le20m hd) (le20m hs)).mono ?_
    rintro e w4 ⟨rfl, hb4⟩
    obtain ⟨y0, y1, y2, y3, y4, y5, y6, yl, -⟩ := keep7 HC4.out hb4
    obtain ⟨x0, x1, x2, x3, x4, x5, x6, xl, -⟩ := keep7 HCW3.out hb4
    have HL4 : Hid (w4.cell? ⟨0, 0, none⟩ = some (.int .i64 m)) := cell_later hb4 HLW.out
    have HB4 : Hid (Below w.heap.size w w4) := HBW3.out.trans (hb4.mono HBW3.out.size)
    clear hb4 c0 c1 c2 c3 c4 c5 c6 HC4 HCW3 HBW3 HLW HAW3 HC3 HL3 HB3
    go_wp2_with fail
    refine (drawReadChange_any ad len cap _ (H.out.below HB4.out)).mono ?_
    rintro e u1 ⟨⟨t, rfl, ht⟩, hv1⟩
    have HLu1 : Hid (u1.cell? ⟨0, 0, none⟩ = some (.int .i64 m)) := cell_later hv1 HL4.out
    have HBu1 : Hid (Below w.heap.size w u1) := HB4.out.trans (hv1.mono HB4.out.size)
    clear hv1
    go_wp2_with fail
    refine (implRdChg_any t m _ (by omega) HLu1.out).mono ?_
    rintro e u2 ⟨k2, a2, b2, r2, c2, d2, s2, f2, rfl, hA2, hv2⟩
    have HLu2 : Hid (u2.cell? ⟨0, 0, none⟩ = some (.int .i64 m)) := cell_later hv2 HLu1.out
    have HBu2 : Hid (Below w.heap.size w u2) := HBu1.out.trans (hv2.mono HBu1.out.size)
    have HCA : Hid (ChgAs t k2 a2 b2 r2 c2 d2 s2 f2) := hA2
    clear hv2 hA2 HLu1 HBu1
    obtain ⟨U2, hU2⟩ : ∃ U2, U2 = u2.alloc (.cells #[.int .i64 k2, .string a2, .string b2, .string r2, .string c2, .string d2, .string s2] 29) := ⟨_, rfl⟩
    have HCU2 : Hid (U2.cell? ⟨u2.heap.size, 0, none⟩ = some (.int .i64 k2) ∧ U2.cell? ⟨u2.heap.size, 1, none⟩ = some (.string a2) ∧ U2.cell? ⟨u2.heap.size, 2, none⟩ = some (.string b2) ∧ U2.cell? ⟨u2.heap.size, 3, none⟩ = some (.string r2) ∧ U2.cell? ⟨u2.heap.size, 4, none⟩ = some (.string c2) ∧ U2.cell? ⟨u2.heap.size, 5, none⟩ = some (.string d2) ∧ U2.cell? ⟨u2.heap.size, 6, none⟩ = some (.string s2) ∧ u2.heap.size < U2.heap.size ∧ Below w.heap.size w U2) := by
      show _ ∧ _
      rw [hU2]
      refine ⟨?_, ?_, ?_, ?_, ?_, ?_, ?_, ?_, HBu2.out.alloc HBu2.out.size _⟩ <;> simp
    have HBU2 : Hid (Below w.heap.size w U2) := HCU2.out.2.2.2.2.2.2.2.2
    have HAU2 : Hid (Below u2.heap.size u2 U2) := by show Below _ _ _; rw [hU2]; exact (Below.refl _ _).alloc (Nat.le_refl _) _
    go_wp2_with fail
    rw [← hU2]
    clear hU2
    refine (specRdChg_any t _ (by unfold maxLen; omega)).mono ?_
    rintro e u3 ⟨k3, a3, b3, r3, c3, d3, s3, f3, rfl, hA3, hv3⟩
    obtain ⟨⟨rfl, rfl, rfl, rfl, rfl, rfl, rfl⟩, rfl⟩ := HCA.out.one hA3
    have HC3 := HID (keep7 HCU2.out hv3)
    have HBu3 : Hid (Below w.heap.size w u3) := HBU2.out.trans (hv3.mono HBU2.out.size)
    clear hA3 hv3 HBU2 HCU2
    obtain ⟨e0, e1, e2, e3, e4, e5, e6, el, -⟩ := HC3.out
    cases f2 with
    | false =>
      have HB9 : Hid (Below w.heap.size w (u3.alloc (.cells #[.int .i64 k2, .string a2, .string b2, .string r2, .string c2, .string d2, .string s2] 29))) := HBu3.out.alloc HBu3.out.size _
      go_wp2
      go_ret
      exact ⟨rfl, HB9.out⟩
    | true =>
      obtain ⟨p0, p1, p2⟩ : chgB k2 = true ∧ tupB a2 b2 r2 c2 d2 s2 = true ∧ chgText k2 a2 b2 r2 c2 d2 s2 = t := by
        rcases HCA.out with ⟨-, p0, p1, p2⟩ | ⟨h, -⟩
        · exact ⟨p0, p1, p2⟩
        · cases h
      obtain ⟨z1, z2, z3, z4, z5, z6⟩ := readAs_fit (x := tupText a2 b2 r2 c2 d2 s2) (f := true) (.inl ⟨rfl, p1, rfl⟩)
      have HP2 : Hid (chgText k2 a2 b2 r2 c2 d2 s2 = t) := p2
      clear p0 p1 p2
      obtain ⟨U3, hU3⟩ : ∃ U3, U3 = u3.alloc (.cells #[.int .i64 k2, .string a2, .string b2, .string r2, .string c2, .string d2, .string s2] 29) := ⟨_, rfl⟩
      have HCU3 : Hid (U3.cell? ⟨u3.heap.size, 0, none⟩ = some (.int .i64 k2) ∧ U3.cell? ⟨u3.heap.size, 1, none⟩ = some (.string a2) ∧ U3.cell? ⟨u3.heap.size, 2, none⟩ = some (.string b2) ∧ U3.cell? ⟨u3.heap.size, 3, none⟩ = some (.string r2) ∧ U3.cell? ⟨u3.heap.size, 4, none⟩ = some (.string c2) ∧ U3.cell? ⟨u3.heap.size, 5, none⟩ = some (.string d2) ∧ U3.cell? ⟨u3.heap.size, 6, none⟩ = some (.string s2) ∧ u3.heap.size < U3.heap.size ∧ Below w.heap.size w U3) := by
        show _ ∧ _
        rw [hU3]
        refine ⟨?_, ?_, ?_, ?_, ?_, ?_, ?_, ?_, HBu3.out.alloc HBu3.out.size _⟩ <;> simp
      have HBU3 : Hid (Below w.heap.size w U3) := HCU3.out.2.2.2.2.2.2.2.2
      have HAU3 : Hid (Below u3.heap.size u3 U3) := by show Below _ _ _; rw [hU3]; exact (Below.refl _ _).alloc (Nat.le_refl _) _
      go_wp2_with fail
      rw [← hU3]
      clear hU3
      refine (implChg_any k2 a2 b2 r2 c2 d2 s2 _ z1 z2 z3 z4 z5 z6).mono ?_
      rintro e u4 ⟨rfl, hv4⟩
      rw [HP2.out]
      have HB9 : Hid (Below w.heap.size w u4) := HBU3.out.trans (hv4.mono HBU3.out.size)
      clear hv4
      go_wp2
      go_ret
      exact ⟨rfl, HB9.out⟩
  | false =>
    have hE : chgText k a b r c d s = ⟨#[]⟩ := by
      cases h1 : chgB k with
      | false => exact chgText_no2 h1
      | true => rw [h1] at hok; exact chgText_no1 hok
    obtain rfl : f = false := by
      cases f with
      | false => rfl
      | true =>
        rcases hA with ⟨-, p0, p1, p2⟩ | ⟨h, -⟩
        · have := chgText_some p0 p1
          rw [p2, hE, Go.ByteArray.toList_eq] at this; simp at this
        · cases h
    have hne : (chgText k a b r c d s).toList.isEmpty = true := by rw [hE, Go.ByteArray.toList_eq]; rfl
    clear hA hok hE
    obtain ⟨W3, hW3⟩ : ∃ W3, W3 = w3.alloc (.cells #[.int .i64 k', .string a', .string b', .string r', .string c', .string d', .string s'] 29) := ⟨_, rfl⟩
    have HCW3 : Hid (W3.cell? ⟨w3.heap.size, 0, none⟩ = some (.int .i64 k') ∧ W3.cell? ⟨w3.heap.size, 1, none⟩ = some (.string a') ∧ W3.cell? ⟨w3.heap.size, 2, none⟩ = some (.string b') ∧ W3.cell? ⟨w3.heap.size, 3, none⟩ = some (.string r') ∧ W3.cell? ⟨w3.heap.size, 4, none⟩ = some (.string c') ∧ W3.cell? ⟨w3.heap.size, 5, none⟩ = some (.string d') ∧ W3.cell? ⟨w3.heap.size, 6, none⟩ = some (.string s') ∧ w3.heap.size < W3.heap.size ∧ Below w.heap.size w W3) := by
      show _ ∧ _
      rw [hW3]
      refine ⟨?_, ?_, ?_, ?_, ?_, ?_, ?_, ?_, HB3.out.alloc HB3.out.size _⟩ <;> simp
    have HBW3 : Hid (Below w.heap.size w W3) := HCW3.out.2.2.2.2.2.2.2.2
    have HAW3 : Hid (Below w3.heap.size w3 W3) := by show Below _ _ _; rw [hW3]; exact (Below.refl _ _).alloc (Nat.le_refl _) _
    have HLW : Hid (W3.cell? ⟨0, 0, none⟩ = some (.int .i64 m)) := cell_later HAW3.out HL3.out
    have HC4 := HID (keep7 HC3.out HAW3.out)
    obtain ⟨c0, c1, c2, c3, c4, c5, c6, cl, -⟩ := HC3.out
    go_wp2_with fail
    rw [← hW3]
    clear hW3
    refine (specChg_any k a b r c d s _ (le20m ha) (le20m hb) (le20m hr) (le20m hc) (le20m hd) (le20m hs)).mono ?_
    rintro e w4 ⟨rfl, hb4⟩
    have HL4 : Hid (w4.cell? ⟨0, 0, none⟩ = some (.int .i64 m)) := cell_later hb4 HLW.out
    have HB4 : Hid (Below w.heap.size w w4) := HBW3.out.trans (hb4.mono HBW3.out.size)
    clear hb4 c0 c1 c2 c3 c4 c5 c6 HC4 HCW3 HBW3 HLW HAW3 HC3 HL3 HB3
    go_wp2_with fail
    refine (drawReadChange_any ad len cap _ (H.out.below HB4.out)).mono ?_
    rintro e u1 ⟨⟨t, rfl, ht⟩, hv1⟩
    have HLu1 : Hid (u1.cell? ⟨0, 0, none⟩ = some (.int .i64 m)) := cell_later hv1 HL4.out
    have HBu1 : Hid (Below w.heap.size w u1) := HB4.out.trans (hv1.mono HB4.out.size)
    clear hv1
    go_wp2_with fail
    refine (implRdChg_any t m _ (by omega) HLu1.out).mono ?_
    rintro e u2 ⟨k2, a2, b2, r2, c2, d2, s2, f2, rfl, hA2, hv2⟩
    have HLu2 : Hid (u2.cell? ⟨0, 0, none⟩ = some (.int .i64 m)) := cell_later hv2 HLu1.out
    have HBu2 : Hid (Below w.heap.size w u2) := HBu1.out.trans (hv2.mono HBu1.out.size)
    have HCA : Hid (ChgAs t k2 a2 b2 r2 c2 d2 s2 f2) := hA2
    clear hv2 hA2 HLu1 HBu1
    obtain ⟨U2, hU2⟩ : ∃ U2, U2 = u2.alloc (.cells #[.int .i64 k2, .string a2, .string b2, .string r2, .string c2, .string d2, .string s2] 29) := ⟨_, rfl⟩
    have HCU2 : Hid (U2.cell? ⟨u2.heap.size, 0, none⟩ = some (.int .i64 k2) ∧ U2.cell? ⟨u2.heap.size, 1, none⟩ = some (.string a2) ∧ U2.cell? ⟨u2.heap.size, 2, none⟩ = some (.string b2) ∧ U2.cell? ⟨u2.heap.size, 3, none⟩ = some (.string r2) ∧ U2.cell? ⟨u2.heap.size, 4, none⟩ = some (.string c2) ∧ U2.cell? ⟨u2.heap.size, 5, none⟩ = some (.string d2) ∧ U2.cell? ⟨u2.heap.size, 6, none⟩ = some (.string s2) ∧ u2.heap.size < U2.heap.size ∧ Below w.heap.size w U2) := by
      show _ ∧ _
      rw [hU2]
      refine ⟨?_, ?_, ?_, ?_, ?_, ?_, ?_, ?_, HBu2.out.alloc HBu2.out.size _⟩ <;> simp
    have HBU2 : Hid (Below w.heap.size w U2) := HCU2.out.2.2.2.2.2.2.2.2
    have HAU2 : Hid (Below u2.heap.size u2 U2) := by show Below _ _ _; rw [hU2]; exact (Below.refl _ _).alloc (Nat.le_refl _) _
    go_wp2_with fail
    rw [← hU2]
    clear hU2
    refine (specRdChg_any t _ (by unfold maxLen; omega)).mono ?_
    rintro e u3 ⟨k3, a3, b3, r3, c3, d3, s3, f3, rfl, hA3, hv3⟩
    obtain ⟨⟨rfl, rfl, rfl, rfl, rfl, rfl, rfl⟩, rfl⟩ := HCA.out.one hA3
    have HC3 := HID (keep7 HCU2.out hv3)
    have HBu3 : Hid (Below w.heap.size w u3) := HBU2.out.trans (hv3.mono HBU2.out.size)
    clear hA3 hv3 HBU2 HCU2
    obtain ⟨e0, e1, e2, e3, e4, e5, e6, el, -⟩ := HC3.out
    cases f2 with
    | false =>
      have HB9 : Hid (Below w.heap.size w (u3.alloc (.cells #[.int .i64 k2, .string a2, .string b2, .string r2, .string c2, .string d2, .string s2] 29))) := HBu3.out.alloc HBu3.out.size _
      go_wp2
      go_ret
      exact ⟨rfl, HB9.out⟩
    | true =>
      obtain ⟨p0, p1, p2⟩ : chgB k2 = true ∧ tupB a2 b2 r2 c2 d2 s2 = true ∧ chgText k2 a2 b2 r2 c2 d2 s2 = t := by
        rcases HCA.out with ⟨-, p0, p1, p2⟩ | ⟨h, -⟩
        · exact ⟨p0, p1, p2⟩
        · cases h
      obtain ⟨z1, z2, z3, z4, z5, z6⟩ := readAs_fit (x := tupText a2 b2 r2 c2 d2 s2) (f := true) (.inl ⟨rfl, p1, rfl⟩)
      have HP2 : Hid (chgText k2 a2 b2 r2 c2 d2 s2 = t) := p2
      clear p0 p1 p2
      obtain ⟨U3, hU3⟩ : ∃ U3, U3 = u3.alloc (.cells #[.int .i64 k2, .string a2, .string b2, .string r2, .string c2, .string d2, .string s2] 29) := ⟨_, rfl⟩
      have HCU3 : Hid (U3.cell? ⟨u3.heap.size, 0, none⟩ = some (.int .i64 k2) ∧ U3.cell? ⟨u3.heap.size, 1, none⟩ = some (.string a2) ∧ U3.cell? ⟨u3.heap.size, 2, none⟩ = some (.string b2) ∧ U3.cell? ⟨u3.heap.size, 3, none⟩ = some (.string r2) ∧ U3.cell? ⟨u3.heap.size, 4, none⟩ = some (.string c2) ∧ U3.cell? ⟨u3.heap.size, 5, none⟩ = some (.string d2) ∧ U3.cell? ⟨u3.heap.size, 6, none⟩ = some (.string s2) ∧ u3.heap.size < U3.heap.size ∧ Below w.heap.size w U3) := by
        show _ ∧ _
        rw [hU3]
        refine ⟨?_, ?_, ?_, ?_, ?_, ?_, ?_, ?_, HBu3.out.alloc HBu3.out.size _⟩ <;> simp
      have HBU3 : Hid (Below w.heap.size w U3) := HCU3.out.2.2.2.2.2.2.2.2
      have HAU3 : Hid (Below u3.heap.size u3 U3) := by show Below _ _ _; rw [hU3]; exact (Below.refl _ _).alloc (Nat.le_refl _) _
      go_wp2_with fail
      rw [← hU3]
      clear hU3
      refine (implChg_any k2 a2 b2 r2 c2 d2 s2 _ z1 z2 z3 z4 z5 z6).mono ?_
      rintro e u4 ⟨rfl, hv4⟩
      rw [HP2.out]
      have HB9 : Hid (Below w.heap.size w u4) := HBU3.out.trans (hv4.mono HBU3.out.size)
      clear hv4
      go_wp2
      go_ret
      exact ⟨rfl, HB9.out⟩

theorem own : ownKnob Try.prog.godebug = none := by kernel_rfl
theorem laidOut : laidOutB Try.prog = true := by kernel_rfl

set_option maxRecDepth 100000 in
theorem lifted (os : Os) (started : os.Started) (H : Type) (enc : TypeId × Value → H) :
    ReturnsInHanded {} Try.checked os 3 .any (Rows.fnChangeTextsSpec.pre6 enc Try.prog Try.f3 Rows.fnChangeTextsRow.domain false) (Rows.fnChangeTextsSpec.post enc Try.prog Try.f3 false true false false) := by
  refine returnsInHanded_of_change_shaped (C := Try.checked) own started (by kernel_rfl) Try.func3
    (ChangeSpec.witness6 (enc := enc) (C := Try.checked) false ⟨#[], #[.slice none 0 0], []⟩ 8 (by kernel_rfl) (by kernel_rfl) (by kernel_rfl) (by kernel_rfl)) ?_
  intro W base args ds gs before hval0 hW hcnd _ hsh _
  have hval : ∀ (j : Nat) t v, Try.f3.params[j]? = some t → args[j]? = some v → Value.okWide Try.prog W .any base t v := hval0
  have hW' := hW
  obtain ⟨p, q, hA0, hV, rfl, hfz, hnd⟩ := hW
  have hA : DataW.TrodAll enc Try.prog W 0 (fun _ => true) true Try.f3.params.toList args.toList ds p := hA0
  rw [Try.params3] at hA hval
  obtain ⟨v0, vs0, d0, ds0, p0, q0, hargs, rfl, rfl, h0, r0⟩ := trodAll_cons hA
  obtain ⟨rfl, rfl, rfl⟩ := trodAll_nil r0
  obtain rfl : args = #[v0] := by cases args; simp_all
  obtain ⟨rfl, rfl⟩ := trodVars_none hV
  have k0 := h0
  have lt0 : ∀ x ∈ p0, x.block < W.heap.size := by obtain ⟨m, hm⟩ := k0; exact DataW.trod_lt m _ _ _ hm
  obtain ⟨ad0, len0, cap0, hv0⟩ := okWide_slice Try.underlying22 (hval 0 22 v0 rfl rfl)
  subst hv0
  obtain ⟨fuel0, hf0⟩ := h0
  have hby0 := open_bytes (by simpa [Value.cells] using hf0)
  clear hA0 hval0
  refine (walk ad0 len0 cap0 W hby0 hsh).mono fun e W' ⟨he, bel⟩ => ?_
  subst he
  exact ⟨_, rfl, _, _, _, [], _, [], hW', trodAll_mk1 (shut_bool Try.underlying4 _), (trodAll_cons_mk (Below.trod laidOut (by kernel_rfl) (of_decide_eq_true (by kernel_rfl)) k0 bel lt0) trodAll_mk0), rfl, bel.frame _, fun h => by cases h⟩

theorem over : Rows.fnChangeTextsRow.holds Try.pinned (OpenSpec.ofChange Rows.fnChangeTextsSpec) :=
  OpenClaim.holds_of_wide 3 Try.f3 rfl rfl rfl rfl rfl rfl rfl ⟨rfl, rfl, rfl, rfl, rfl⟩ rfl rfl rfl rfl rfl (by kernel_rfl) Try.func3 (by kernel_rfl)
    (of_decide_eq_true (by kernel_rfl)) (by unfold Func.isWrapper; first | (rw [if_pos (by decide +kernel)]; kernel_rfl) | (rw [if_neg (by decide +kernel)]; exact ⟨rfl, rfl⟩))
    (fun os started H enc _ => lifted os started H enc)

end Go.Proofs.Ytgifbgcnlijjiaa.fnChangeTexts
namespace Go.Proofs.Ytgifbgcnlijjiaa
theorem FnChangeTexts_holds : Rows.FnChangeTextsSaid := fnChangeTexts.over
end Go.Proofs.Ytgifbgcnlijjiaa
