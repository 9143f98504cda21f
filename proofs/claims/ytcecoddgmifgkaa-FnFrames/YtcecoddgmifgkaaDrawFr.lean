/- What the drawings of frames and of a text answer: a short string; nothing that was there is touched. -/
import Derived.Test.YtcecoddgmifgkaaHurt
import Derived.Test.YtcecoddgmifgkaaFrameS
import Derived.Test.YtcecoddgmifgkaaPlainFr2
namespace Go.Proofs.Ytcecoddgmifgkaa
open Go.ChangeShapes Go.WideShapes Go.ChangeAt Go.RowKit
open Pl

set_option maxHeartbeats 2000000 in
theorem bytes5_any (R : Nat) (ad : Option Addr) (len cap : Nat) (w : World) (h : Rd w R ad len cap) :
    Calls Try.prog 49 #[.pointer (some ⟨R, 0, none⟩), .int .i64 5] w fun e w' => (∃ s : ByteArray, e = .returned (.string s) ∧ s.size ≤ 5) ∧ Rd w' R ad len cap ∧ Only R w w' := by
  have H : Hid (Rd w R ad len cap) := h
  have hRw := h.lt
  clear h
  obtain ⟨i0, hi, hz0, hz1, hz2⟩ := info_parts info_u8
  go_enter Try.func49, Try.ntmps49
  go_wp2_with fail
  refine (below_any R ad len cap 6 _ (H.out.alloc _) (by omega) (by omega)).mono ?_
  rintro e w1 ⟨⟨x, rfl, hx0, hx1⟩, hR1, hO1⟩
  obtain ⟨x, rfl⟩ : ∃ y : Nat, x = (y : Int) := ⟨x.toNat, by omega⟩
  have hown1 : w1.ownsRow w.heap.size 5 1 (.slice (some ⟨w.heap.size, 0, none⟩) 0 0) 0 [] := (World.ownsRow_made w #[] 0 (Nat.le_refl _) (by decide) rfl).kept hO1 (.inr (by simp [Value.ownBlock]; omega))
  have HR1 : Hid (Rd w1 R ad len cap) := hR1
  have HO1 : Hid (Only R w w1) := ((Only.refl R w).alloc _).trans hO1
  clear hR1 hO1
  go_wp2_with fail
  go_loopw [5, 6] (fun v i wr => ∃ (k : Nat) (l : List UInt8) (g cp : Nat), v = .slice (some ⟨g, 0, none⟩) l.length cp ∧ i = .int .i64 k ∧ l.length + k ≤ 5 ∧ wr.ownsRow w.heap.size 5 1 (.slice (some ⟨g, 0, none⟩) l.length cp) l.length (l.map bv) ∧ Hid (Rd wr R ad len cap) ∧ Hid (Only R w wr)) (fun _ i _ => (intOf i).toNat)
  case atStart => exact ⟨x, [], _, _, rfl, rfl, by simp; omega, hown1, HR1, HO1⟩
  case round =>
    obtain ⟨k, l, g, cp, rfl, rfl, hk, hown, HR, HO⟩ := hrel
    by_cases hk0 : 0 < k
    · have hki : (0 : Int) < (k : Int) := by omega
      have hgB : w.heap.size ≤ g := (hown.lt g rfl).1
      go_wp2_with fail
      refine (below_any R ad len cap 256 _ HR.out (by omega) (by omega)).mono ?_
      rintro e w2 ⟨⟨y, rfl, hy0, hy1⟩, hR2, hO2⟩
      obtain ⟨y, rfl⟩ : ∃ z : Nat, y = (z : Int) := ⟨y.toNat, by omega⟩
      have hw : IntKind.u8.wrap (y : Int) = y := by rw [IntKind.wrap_u8]; omega
      have hown2 := hown.kept hO2 (.inr (by simp [Value.ownBlock]; omega))
      have HR2 : Hid (Rd w2 R ad len cap) := hR2
      have HO2 : Hid (Only R w w2) := HO.out.trans hO2
      have hs2 : w.heap.size ≤ w2.heap.size := HO2.out.size
      clear hR2 hO2 hown
      go_wp2_with (at_builtin; refine wpList_append_own _ rfl _ _ 41 rfl w.heap.size 5 i0 (.int .u8 0) 1 1 Try.underlying41 hi hz0 hz1 hz2 rfl (by decide) _ _ _ rfl (hown2.alloc _) ⟨w2.heap.size, 0, none⟩ 1 1 [.int .u8 (y : Int)] rfl rfl (cell_one_new _ _ _) (by intro u hu; simp at hu; subst hu; rfl) (by unfold maxLen; omega) (by omega) (by simp; omega) ?_)
      intro v' w3 hown3 hgrow hnil
      have hb3 : Below w.heap.size (w2.alloc (.cells #[.int .u8 (y : Int)] 5)) w3 := (Below.refl _ _).grown hgrow (by simp; omega) (fun i hi => by simp [Value.ownBlock] at hi; omega)
      have hb2 : Below w.heap.size w2 w3 := ((Below.refl _ w2).alloc hs2 _).trans hb3
      have HR3 : Hid (Rd w3 R ad len cap) := HR2.out.far H.out hb2
      have HO3 : Hid (Only R w w3) := HO2.out.far hb2
      obtain ⟨g3, cp3, rfl⟩ : ∃ g3 cp3, v' = .slice (some ⟨g3, 0, none⟩) (l.length + 1) cp3 := by
        rcases hown3.2 with ⟨rfl, -⟩ | ⟨g3, cp3, cur, rfl, -⟩
        · exact absurd rfl hnil
        · exact ⟨g3, cp3, rfl⟩
      have hown4 : w3.ownsRow w.heap.size 5 1 (.slice (some ⟨g3, 0, none⟩) (l ++ [UInt8.ofNat y]).length cp3) (l ++ [UInt8.ofNat y]).length ((l ++ [UInt8.ofNat y]).map bv) := by
        have e1 : bv (UInt8.ofNat y) = .int .u8 (y : Int) := by
          simp only [bv, UInt8.toNat_ofNat']
          rw [Nat.mod_eq_of_lt (by omega)]
        simpa [e1] using hown3
      clear hown3 hgrow hnil hb3 hb2 hown2 HR2 HO2
      go_wp2
      go_roundw
      case rel => exact ⟨k - 1, l ++ [UInt8.ofNat y], g3, cp3, by simp, by simp; omega, by simp; omega, hown4, HR3, HO3⟩
      case measure => simp [intOf]; omega
    · have hk1 : k = 0 := by omega
      subst hk1
      have hc := hown.cells (g := g) rfl
      have HCV : (convert 41 9 (.slice (some ⟨g, 0, none⟩) l.length cp)).run Try.prog wr = .ok (.string ⟨l.toArray⟩) wr :=
        run_convert_bytes_back wr 41 9 5 ⟨g, 0, none⟩ cp l Try.underlying41 Try.underlying5 Try.underlying9 (fun j hj => hc j _ (by simp [bv, hj]))
      clear hc
      go_wp2
      go_ret
      exact ⟨⟨_, rfl, by rw [size_list]; omega⟩, HR.out, HO.out⟩


theorem text_any (R : Nat) (ad : Option Addr) (len cap : Nat) (w : World) (h : Rd w R ad len cap) :
    Calls Try.prog 48 #[.pointer (some ⟨R, 0, none⟩)] w fun e w' => (∃ s : ByteArray, e = .returned (.string s) ∧ s.size ≤ 20) ∧ Rd w' R ad len cap ∧ Only R w w' := by
  have H : Hid (Rd w R ad len cap) := h
  have hRw := h.lt
  clear h
  go_enter Try.func48, Try.ntmps48
  go_wp2_with fail
  refine (below_any R ad len cap 6 _ (H.out.alloc _) (by omega) (by omega)).mono ?_
  rintro e w1 ⟨⟨x, rfl, hx0, hx1⟩, hR1, hO1⟩
  obtain ⟨x, rfl⟩ : ∃ y : Nat, x = (y : Int) := ⟨x.toNat, by omega⟩
  have HR1 : Hid (Rd w1 R ad len cap) := hR1
  have HO1 : Hid (Only R w w1) := ((Only.refl R w).alloc _).trans hO1
  have hS := (strs_new w R hRw (t := 9) (xs := [⟨#[]⟩, ⟨#[97]⟩, ⟨#[98]⟩, ⟨#[97, 98]⟩, ⟨#[97, 98, 99]⟩, ⟨#[120, 32, 121]⟩]) (by decide)).only hO1
  obtain ⟨t, ht, hcell⟩ := hS.2.2 x (by show x < 6; omega)
  clear hS hR1 hO1
  go_wp2
  go_ret
  exact ⟨⟨_, rfl, ht⟩, HR1.out, HO1.out⟩

set_option maxHeartbeats 1000000 in
theorem drawFrameOf_any (ad : Option Addr) (len cap : Nat) (w : World) (h : Bytes w ad len) :
    Calls Try.prog 28 #[.slice ad len cap] w fun e w' => (∃ t : ByteArray, e = .returned (.string t) ∧ t.size ≤ 25) ∧ Below w.heap.size w w' := by
  have H : Hid (Bytes w ad len) := h
  clear h
  go_enter Try.func28, Try.ntmps28
  go_wp2_with fail
  refine (open_any ad len cap _ H.out).mono ?_
  rintro e w1 ⟨rfl, hR1, hb1⟩
  have HB1 : Hid (Below w.heap.size w w1) := hb1
  have HR1 : Hid (Rd w1 w.heap.size ad len cap) := hR1
  clear hR1 hb1
  go_wp2_with fail
  refine (text_any w.heap.size ad len cap _ HR1.out).mono ?_
  rintro e w2 ⟨⟨t, rfl, ht⟩, hR2, hO2⟩
  have HB2 : Hid (Below w.heap.size w w2) := Only.toBelow HB1.out hO2 HB1.out.size (Nat.le_refl _)
  have HR2 : Hid (Rd w2 w.heap.size ad len cap) := hR2
  clear hR2 hO2 HB1 HR1
  go_wp2_with fail
  refine (bytes5_any w.heap.size ad len cap _ HR2.out).mono ?_
  rintro e w3 ⟨⟨u, rfl, hu⟩, hR3, hO3⟩
  have HB3 : Hid (Below w.heap.size w w3) := Only.toBelow HB2.out hO3 HB2.out.size (Nat.le_refl _)
  clear hR3 hO3 HB2 HR2
  have hov : (9223372036854775807 < t.size + u.size) = False := by simp only [eq_iff_iff, iff_false]; omega
  go_wp2
  go_ret
  exact ⟨⟨_, rfl, by rw [ByteArray.size_append]; omega⟩, HB3.out⟩

set_option maxRecDepth 100000 in
set_option maxHeartbeats 1000000 in
theorem drawTake_any (ad : Option Addr) (len cap : Nat) (w : World) (h : Bytes w ad len) :
    Calls Try.prog 26 #[.slice ad len cap] w fun e w' => (∃ t : ByteArray, e = .returned (.string t) ∧ t.size ≤ 400) ∧ Below w.heap.size w w' := by
  have H : Hid (Bytes w ad len) := h
  clear h
  go_enter Try.func26, Try.ntmps26
  go_wp2_with fail
  refine (open_any ad len cap _ H.out).mono ?_
  rintro e w1 ⟨rfl, hR1, hb1⟩
  have HB1 : Hid (Below w.heap.size w w1) := hb1
  have HR1 : Hid (Rd w1 w.heap.size ad len cap) := hR1
  clear hR1 hb1
  go_wp2_with fail
  refine (below_any w.heap.size ad len cap 4 _ HR1.out (by omega) (by omega)).mono ?_
  rintro e w2 ⟨⟨x, rfl, hx0, hx1⟩, hR2, hO2⟩
  obtain ⟨x, rfl⟩ : ∃ y : Nat, x = (y : Int) := ⟨x.toNat, by omega⟩
  have HB2 : Hid (Below w.heap.size w w2) := Only.toBelow HB1.out hO2 HB1.out.size (Nat.le_refl _)
  have HR2 : Hid (Rd w2 w.heap.size ad len cap) := hR2
  clear hR2 hO2 HB1 HR1
  go_wp2_with fail
  go_loopw [4, 5] (fun v i wr => ∃ (k : Nat) (s : ByteArray), v = .string s ∧ i = .int .i64 (k : Int) ∧ k ≤ 3 ∧ s.size + 28 * k ≤ 84 ∧ Hid (Rd wr w.heap.size ad len cap) ∧ Hid (Below w.heap.size w wr)) (fun _ i _ => (intOf i).toNat)
  case atStart => exact ⟨x, ⟨#[]⟩, rfl, rfl, by omega, by show 0 + 28 * x ≤ 84; omega, HR2, HB2⟩
  case round =>
    obtain ⟨k, s, rfl, rfl, hk3, hsz, HR, HB⟩ := hrel
    by_cases hk : 0 < k
    · have hki : (0 : Int) < (k : Int) := by omega
      go_wp2_with fail
      refine (text_any w.heap.size ad len cap _ HR.out).mono ?_
      rintro e w3 ⟨⟨t, rfl, ht⟩, hR3, hO3⟩
      have HB3 : Hid (Below w.heap.size w w3) := Only.toBelow HB.out hO3 HB.out.size (Nat.le_refl _)
      have HR3 : Hid (Rd w3 w.heap.size ad len cap) := hR3
      clear hR3 hO3
      go_wp2_with fail
      refine (specFrame_any t _ (by omega)).mono ?_
      rintro e w4 ⟨rfl, hb4⟩
      have HB4 : Hid (Below w.heap.size w w4) := HB3.out.trans (hb4.mono HB3.out.size)
      have HR4 : Hid (Rd w4 w.heap.size ad len cap) := HR3.out.below hb4
      have hfs := frame_size (d := t) (by omega)
      clear hb4 HB3 HR3
      have hov : (9223372036854775807 < s.size + (frameT t).size) = False := by simp only [eq_iff_iff, iff_false]; omega
      have HS : Hid ((s ++ frameT t).size + 28 * (k - 1) ≤ 84) := by show _ ≤ _; rw [ByteArray.size_append]; omega
      clear hfs
      go_wp2
      go_roundw
      case rel => exact ⟨k - 1, _, rfl, by go_num, by omega, HS.out, HR4, HB4⟩
      case measure => simp [intOf]; omega
    · obtain rfl : k = 0 := by omega
      go_wp2_with fail
      refine (hurt_any w.heap.size ad len cap s _ HR.out (by omega)).mono ?_
      rintro e w3 ⟨⟨t, rfl, ht⟩, hR3, hO3⟩
      have HB3 : Hid (Below w.heap.size w w3) := Only.toBelow HB.out hO3 HB.out.size (Nat.le_refl _)
      clear hR3 hO3
      go_wp2
      go_ret
      exact ⟨⟨_, rfl, ht⟩, HB3.out⟩
end Go.Proofs.Ytcecoddgmifgkaa
