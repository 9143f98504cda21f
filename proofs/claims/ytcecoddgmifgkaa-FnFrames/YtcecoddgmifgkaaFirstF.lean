/- The contract of the program's function that takes the first frame of a text. -/
import Derived.Test.YtcecoddgmifgkaaCrcW
import Derived.Test.YtcecoddgmifgkaaPlainFr
import Derived.BigQuiet
import Derived.Deep.QuietTactic
import Derived.Deep.RegionHeld3
namespace Go.Proofs.Ytcecoddgmifgkaa
open Go.ChangeShapes Go.WideShapes Go.ChangeAt Go.RowKit
open Pl

/-- how the machine puts two numbers of 64 bits together -/
theorem bits_or {a b : Nat} (ha : a < 4294967296) (hb : b < 4294967296) : bits .or .i64 (a : Int) (b : Int) = ((a ||| b : Nat) : Int) := by
  show IntKind.i64.wrap ((BitVec.ofInt 64 (a : Int) ||| BitVec.ofInt 64 (b : Int)).toNat : Int) = _
  have h : (BitVec.ofInt 64 (a : Int) ||| BitVec.ofInt 64 (b : Int)).toNat = a ||| b := by
    rw [BitVec.toNat_or]
    simp only [BitVec.ofInt_natCast, BitVec.toNat_ofNat]
    rw [Nat.mod_eq_of_lt (by omega), Nat.mod_eq_of_lt (by omega)]
  have hl : a ||| b < 4294967296 := Nat.or_lt_two_pow (n := 32) ha hb
  rw [h, IntKind.wrap_i64]
  omega

def FFPost (t : ByteArray) (w : World) (e : Ending) (w' : World) : Prop := ∃ x f, e = .returned (.tuple #[.string x, .bool f]) ∧ (f = okF t 0 ∧ (f = true → x = datA t 0)) ∧ Below w.heap.size w w'
theorem ff_mk {t x : ByteArray} {f : Bool} {w w' : World} (h1 : f = okF t 0) (h2 : f = true → x = datA t 0) (hB : Below w.heap.size w w') : FFPost t w (.returned (.tuple #[.string x, .bool f])) w' := ⟨x, f, rfl, ⟨h1, h2⟩, hB⟩
theorem or_lt {a b : Nat} (ha : a < 4294967296) (hb : b < 4294967296) : a ||| b < 4294967296 := Nat.or_lt_two_pow (n := 32) ha hb
theorem orAll {x0 x1 x2 x3 m : Nat} (l0 : x0 < 256) (l1 : x1 < 256) (l2 : x2 < 256) (l3 : x3 < 256) (h : (((x0 * 16777216 ||| x1 * 65536) ||| x2 * 256) ||| x3) = m) : bits BinOp.or IntKind.i64 (bits BinOp.or IntKind.i64 (bits BinOp.or IntKind.i64 ((x0 : Int) * 16777216) ((x1 : Int) * 65536)) ((x2 : Int) * 256)) (x3 : Int) = (m : Int) := by
  have a0 : ((x0 : Int) * 16777216) = ((x0 * 16777216 : Nat) : Int) := by simp
  have a1 : ((x1 : Int) * 65536) = ((x1 * 65536 : Nat) : Int) := by simp
  have a2 : ((x2 : Int) * 256) = ((x2 * 256 : Nat) : Int) := by simp
  have b0 : x0 * 16777216 < 4294967296 := Nat.lt_of_le_of_lt (Nat.mul_le_mul_right _ (Nat.le_of_lt_succ l0 : x0 ≤ 255)) (by decide)
  have b1 : x1 * 65536 < 4294967296 := Nat.lt_of_le_of_lt (Nat.mul_le_mul_right _ (Nat.le_of_lt_succ l1 : x1 ≤ 255)) (by decide)
  have b2 : x2 * 256 < 4294967296 := Nat.lt_of_le_of_lt (Nat.mul_le_mul_right _ (Nat.le_of_lt_succ l2 : x2 ≤ 255)) (by decide)
  rw [a0, a1, a2, bits_or b0 b1, bits_or (or_lt b0 b1) b2, bits_or (or_lt (or_lt b0 b1) b2) (by omega), h]

set_option maxRecDepth 100000 in
set_option maxHeartbeats 1000000 in
theorem firstFrame_any (t : ByteArray) (w : World) (hs : t.size ≤ 1048576) :
    Calls Try.prog 45 #[.string t] w fun e w' => FFPost t w e w' := by
  by_cases h8 : t.size < 8
  · have HN : Hid (okF t 0 = false) := okF_no1 (by omega)
    go_enter Try.func45, Try.ntmps45
    go_wp2
    go_ret2
    exact ff_mk HN.out.symm (fun h => by cases h) (Below.refl _ _)
  · have h8' : 8 ≤ t.size := by omega
    have l0 := byte_lt t[0]
    have l1 := byte_lt t[1]
    have l2 := byte_lt t[2]
    have l3 := byte_lt t[3]
    have j0 : 0 < t.size := by omega
    have j1 : 1 < t.size := by omega
    have j2 : 2 < t.size := by omega
    have j3 : 3 < t.size := by omega
    have i0 : (0 : Int) < (t.size : Int) := by omega
    have i1 : (1 : Int) < (t.size : Int) := by omega
    have i2 : (2 : Int) < (t.size : Int) := by omega
    have i3 : (3 : Int) < (t.size : Int) := by omega
    go_enter Try.func45, Try.ntmps45
    go_wp2_with fail
    go_quiet (fail)
    have HN : bits BinOp.or IntKind.i64 (bits BinOp.or IntKind.i64 (bits BinOp.or IntKind.i64 ((t[0].toNat : Int) * 16777216) ((t[1].toNat : Int) * 65536)) ((t[2].toNat : Int) * 256)) (t[3].toNat : Int) = ((hor t 0 4 : Nat) : Int) := by
      rw [byA_get t 0 j0, byA_get t 1 j1, byA_get t 2 j2, byA_get t 3 j3]
      exact orAll (byA_lt t 0) (byA_lt t 1) (byA_lt t 2) (byA_lt t 3) (or4 t)
    rw [HN]
    clear HN l0 l1 l2 l3
    obtain ⟨n, hn⟩ : ∃ n, n = hor t 0 4 := ⟨_, rfl⟩
    have hnl : n < 4294967296 := by rw [hn]; exact hor4_lt t 0
    rw [← hn]
    by_cases hb1 : 100000 < n
    · have HF : Hid (okF t 0 = false) := okF_no2 (by omega)
      clear hn
      go_wp2
      go_ret2
      exact ff_mk HF.out.symm (fun h => by cases h) (below_drewN (Below.refl _ _) _)
    by_cases hb2 : t.size < 8 + n
    · have HF : Hid (okF t 0 = false) := okF_no3 (by omega)
      clear hn
      go_wp2
      go_ret2
      exact ff_mk HF.out.symm (fun h => by cases h) (below_drewN (Below.refl _ _) _)
    have HF : Hid (okF t 0 = ((t.extract 0 8).toList == (headT (t.extract 8 (8 + n))).toList)) := by show _ = _; rw [hn]; exact okF_head h8' (by omega) (by omega)
    have HD : Hid (t.extract 8 (8 + n) = datA t 0) := by show _ = _; rw [hn, datA]
    have hsz : (t.extract 8 (8 + n)).size ≤ 1048576 := by rw [ByteArray.size_extract]; omega
    clear hn
    have k1 : (0 : Int) ≤ 8 + (n : Int) := by omega
    have k2 : (8 : Int) ≤ 8 + (n : Int) := by omega
    have k3 : 8 + (n : Int) ≤ (t.size : Int) := by omega
    go_wp2_with fail
    go_region_held3 (fun w' => Below w.heap.size w w')
      (first | assumption | exact Below.trans (by assumption) (hbx.mono (Below.size (by assumption))) | exact (below_drewN (Below.refl _ _) _).drew)
      (first | (go_at_call 44; refine (frameHead_any _ _ hsz).mono ?_; rintro e w' ⟨rfl, hbx⟩))
    rename_i hH
    have HH : Hid (Below w.heap.size w _) := hH
    clear hH
    go_wp2
    go_ret2
    exact ff_mk HF.out.symm (fun _ => HD.out) HH.out
end Go.Proofs.Ytcecoddgmifgkaa
