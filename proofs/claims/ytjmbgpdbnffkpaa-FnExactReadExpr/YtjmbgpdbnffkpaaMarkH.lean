/- Contracts of the law's helpers that look whether the marks of numbers and of pairs are held. -/
import Derived.Test.YtjmbgpdbnffkpaaMark3
namespace Go.Proofs.Ytjmbgpdbnffkpaa
open Go.ChangeShapes Go.WideShapes Go.ChangeAt Go.RowKit
open Pl

set_option maxHeartbeats 1000000 in
theorem heldInt64S_any (ad : Option Addr) (cap : Nat) (zs : List Int) (k : Nat) (w : World) (hs : SlI w ad (mkI k zs)) (h1 : k + zs.length ≤ 1000000000) :
    Calls Try.prog 36 #[.slice ad zs.length cap, .int .i64 (k : Int)] w fun e w' => e = .returned (.int .i64 ((k + zs.length : Nat) : Int)) ∧ w' = w := by
  have HS : Hid (SlI w ad (mkI k zs)) := hs
  clear hs
  go_enter Try.func36, Try.ntmps36
  go_wp2
  go_loopw [1, 5] (fun kv i wr => ∃ j : Nat, j ≤ zs.length ∧ kv = .int .i64 ((k + j : Nat) : Int) ∧ i = .int .i64 (j : Int) ∧ wr = w) (fun _ i _ => zs.length - (intOf i).toNat)
  case atStart => exact ⟨0, Nat.zero_le _, rfl, rfl, rfl⟩
  case round =>
    obtain ⟨j, hj, rfl, rfl, rfl⟩ := hrel
    by_cases hlt : j < zs.length
    · rcases HS.out with h | ⟨b, off, rfl, hb, hr⟩
      · rw [mkI_nil] at h; rw [h] at hlt; simp at hlt
      have c0 := hr j (by rw [mkI_len]; exact hlt)
      rw [mkI_at] at c0
      have hj1 : (0 : Int) ≤ (j : Int) := by omega
      have hj2 : (j : Int) < (zs.length : Int) := by omega
      clear hr
      go_wp2
      go_roundw
      case rel => exact ⟨j + 1, by omega, by go_num, by go_num, by first | rfl | trivial⟩
      case measure => first | (simp [intOf]; done) | (simp [intOf]; omega)
    · obtain rfl : j = zs.length := by omega
      go_wp2
      go_ret
      exact ⟨by go_num, rfl⟩

set_option maxHeartbeats 2000000 in
theorem heldAllowedS_any (ad : Option Addr) (cap : Nat) (xs : List Al) (k : Nat) (w : World) (hs : SlA w ad (mkA k xs)) (h0 : 0 < k) (h1 : k + 2 * xs.length ≤ 1000000000) :
    Calls Try.prog 35 #[.slice ad xs.length cap, .int .i64 (k : Int)] w fun e w' => e = .returned (.int .i64 ((k + 2 * xs.length : Nat) : Int)) ∧ Below w.heap.size w w' := by
  have HS : Hid (SlA w ad (mkA k xs)) := hs
  clear hs
  go_enter Try.func35, Try.ntmps35
  go_wp2
  go_loopw [1, 5] (fun kv i wr => ∃ j : Nat, j ≤ xs.length ∧ kv = .int .i64 ((k + 2 * j : Nat) : Int) ∧ i = .int .i64 (j : Int) ∧ Hid (Below w.heap.size w wr)) (fun _ i _ => xs.length - (intOf i).toNat)
  case atStart => exact ⟨0, Nat.zero_le _, rfl, rfl, Below.refl _ _⟩
  case round =>
    obtain ⟨j, hj, rfl, rfl, HB⟩ := hrel
    by_cases hlt : j < xs.length
    · rcases HS.out.below HB.out with h | ⟨b, off, rfl, hb, hr⟩
      · rw [mkA_nil] at h; rw [h] at hlt; simp at hlt
      obtain ⟨c0, c1⟩ := hr j (by rw [mkA_len]; exact hlt)
      rw [mkA_at] at c0 c1
      have hj1 : (0 : Int) ≤ (j : Int) := by omega
      have hj2 : (j : Int) < (xs.length : Int) := by omega
      clear hr
      go_wp2_with fail
      go_region_held3 (fun w' => w'.cell? ⟨b, off + j * 2, none⟩ = some (.string (mtx (k + 2 * j))) ∧ w'.cell? ⟨b, off + j * 2 + 1, none⟩ = some (.string (mtx (k + 2 * j + 1))) ∧ b < w'.heap.size ∧ Below w.heap.size w w')
        (first | assumption | exact keepA (by assumption) hbx | exact ⟨c0, c1, hb, HB.out.drew⟩)
        (first | (go_at_call 33; refine (markText_at _ (k + 2 * j) _ (by omega) (by omega) (by omega)).mono ?_; rintro e w' ⟨rfl, hbx⟩))
      rename_i hH
      obtain ⟨d0, d1, db, dB⟩ := hH
      clear c0 c1 hb
      have HD : Hid (Below w.heap.size w _) := dB
      clear dB
      go_wp2_with fail
      go_region_held3 (fun w' => w'.cell? ⟨b, off + j * 2, none⟩ = some (.string (mtx (k + 2 * j))) ∧ w'.cell? ⟨b, off + j * 2 + 1, none⟩ = some (.string (mtx (k + 2 * j + 1))) ∧ b < w'.heap.size ∧ Below w.heap.size w w')
        (first | assumption | exact keepA (by assumption) hbx | exact ⟨d0, d1, db, HD.out.drew⟩)
        (first | (go_at_call 33; refine (markText_at _ (k + 2 * j + 1) _ (by omega) (by omega) (by omega)).mono ?_; rintro e w' ⟨rfl, hbx⟩))
      rename_i hH
      obtain ⟨-, -, -, dB⟩ := hH
      have HB3 : Hid (Below w.heap.size w _) := dB
      clear dB d0 d1 db HD
      go_wp2
      go_roundw
      case rel => exact ⟨j + 1, by omega, by go_num, by go_num, HB3⟩
      case measure => first | (simp [intOf]; done) | (simp [intOf]; omega)
    · obtain rfl : j = xs.length := by omega
      go_wp2
      go_ret
      exact ⟨by go_num, HB.out⟩
theorem heldAllowedS_at (x : Int) (ad : Option Addr) (cap : Nat) (xs : List Al) (k : Nat) (w : World) (hx : x = (k : Int)) (hs : SlA w ad (mkA k xs)) (h0 : 0 < k) (h1 : k + 2 * xs.length ≤ 1000000000) :
    Calls Try.prog 35 #[.slice ad xs.length cap, .int .i64 x] w fun e w' => e = .returned (.int .i64 ((k + 2 * xs.length : Nat) : Int)) ∧ Below w.heap.size w w' := by
  rw [hx]; exact heldAllowedS_any ad cap xs k w hs h0 h1
theorem heldInt64S_at (x : Int) (ad : Option Addr) (cap : Nat) (zs : List Int) (k : Nat) (w : World) (hx : x = (k : Int)) (hs : SlI w ad (mkI k zs)) (h1 : k + zs.length ≤ 1000000000) :
    Calls Try.prog 36 #[.slice ad zs.length cap, .int .i64 x] w fun e w' => e = .returned (.int .i64 ((k + zs.length : Nat) : Int)) ∧ w' = w := by
  rw [hx]; exact heldInt64S_any ad cap zs k w hs h1

end Go.Proofs.Ytjmbgpdbnffkpaa
