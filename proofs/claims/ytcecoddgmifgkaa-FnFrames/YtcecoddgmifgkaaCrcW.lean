/- Contracts of the functions that sum a text and make a frame of it. -/
import Derived.Test.YtcecoddgmifgkaaPlainCrc
import Derived.Test.YtcecoddgmifgkaaPlain2
import Derived.Test.YtcecoddgmifgkaaNamesL
import Derived.Laws.BytesString
import Derived.Laws.IdiomStrings
namespace Go.Proofs.Ytcecoddgmifgkaa
open Go.ChangeShapes Go.WideShapes Go.ChangeAt Go.RowKit
open Pl

theorem bits_xor {a b : Nat} (ha : a < 4294967296) (hb : b < 4294967296) : bits .xor .u32 (a : Int) (b : Int) = ((a ^^^ b : Nat) : Int) := by
  show IntKind.u32.wrap ((BitVec.ofInt 32 (a : Int) ^^^ BitVec.ofInt 32 (b : Int)).toNat : Int) = _
  rw [xor32 ha hb, IntKind.wrap_u32]
  have := lt32 ha hb
  omega
theorem bits_and1 {a : Nat} (ha : a < 4294967296) : bits .and .u32 (a : Int) 1 = ((a % 2 : Nat) : Int) := by
  show IntKind.u32.wrap ((BitVec.ofInt 32 (a : Int) &&& BitVec.ofInt 32 (1 : Int)).toNat : Int) = _
  rw [and32 ha, IntKind.wrap_u32]
  omega
theorem bits_not {a : Nat} (ha : a < 4294967296) : bits .xor .u32 IntKind.u32.max (a : Int) = ((4294967295 ^^^ a : Nat) : Int) := by
  have e : IntKind.u32.max = ((4294967295 : Nat) : Int) := rfl
  rw [e, bits_xor (by omega) ha]
/-- the program's step -/
theorem step_impl {y : Nat} (hy : y < 4294967296) : bits .xor .u32 ((y : Int) / 2) (3988292384 * bits .and .u32 (y : Int) 1 % 4294967296) = (crc1 y : Int) := by
  rw [bits_and1 hy]
  have e1 : ((y : Int) / 2) = ((y / 2 : Nat) : Int) := by omega
  rcases Nat.mod_two_eq_zero_or_one y with h | h
  · rw [h, e1]
    have e2 : (3988292384 * ((0 : Nat) : Int) % 4294967296) = ((0 : Nat) : Int) := by omega
    rw [e2, bits_xor (by omega) (by omega), Nat.xor_zero, crc1, if_neg (by omega)]
  · rw [h, e1]
    have e2 : (3988292384 * ((1 : Nat) : Int) % 4294967296) = ((3988292384 : Nat) : Int) := by omega
    rw [e2, bits_xor (by omega) (by omega), crc1, if_pos h]
/-- the document's step -/
theorem step_one {y : Nat} (hy : y < 4294967296) (h : y % 2 = 1) : bits .xor .u32 ((y : Int) / 2) 3988292384 = (crc1 y : Int) := by
  have e1 : ((y : Int) / 2) = ((y / 2 : Nat) : Int) := by omega
  have e2 : (3988292384 : Int) = ((3988292384 : Nat) : Int) := rfl
  rw [e1, e2, bits_xor (by omega) (by omega), crc1, if_pos h]
theorem step_nil {y : Nat} (h : y % 2 = 0) : ((y : Int) / 2) = (crc1 y : Int) := by
  rw [crc1, if_neg (by omega)]; omega

set_option maxHeartbeats 1000000 in
theorem crcOf_any (s : ByteArray) (w : World) (hs : s.size ≤ maxLen) :
    Calls Try.prog 64 #[.string s] w fun e w' => e = .returned (.int .u32 (crcP s : Int)) ∧ w' = w := by
  unfold maxLen at hs
  go_enter Try.func64, Try.ntmps64
  go_wp2
  go_loop [3, 7] (fun c i => ∃ k : Nat, k ≤ s.size ∧ i = .int .i64 k ∧ ∃ x : Nat, c = .int .u32 (x : Int) ∧ Hid (x = crcUp s k)) (fun _ i => s.size - (intOf i).toNat)
  case atStart => exact ⟨0, Nat.zero_le _, rfl, 4294967295, rfl, (crcUp_zero s).symm⟩
  case round =>
    obtain ⟨k, hk, rfl, x, rfl, hu⟩ := hrel
    have hx : x < 4294967296 := by rw [hu.out]; exact crcUp_lt _ _
    by_cases hlt : k < s.size
    · have hby := byte_lt s[k]
      go_wp2_with fail
      go_loop [3, 16] (fun c i => ∃ j : Nat, j ≤ 8 ∧ i = .int .i64 j ∧ ∃ y : Nat, c = .int .u32 (y : Int) ∧ Hid (y = crcN j (x ^^^ s[k].toNat))) (fun _ i => 8 - (intOf i).toNat)
      case atStart => exact ⟨0, Nat.zero_le _, rfl, _, by rw [bits_xor hx (by omega)]; rfl, rfl⟩
      case round =>
        obtain ⟨j, hj, rfl, y, rfl, hv⟩ := hrel
        have hy : y < 4294967296 := by rw [hv.out]; exact crcN_lt (lt32 hx (by omega)) j
        by_cases hj8 : j < 8
        · go_wp2
          go_round
          case rel => exact ⟨j + 1, by omega, by go_num, crc1 y, by rw [step_impl hy], by show _ = crc1 _; rw [← hv.out]⟩
          case measure => simp [intOf]; omega
        · have hj9 : j = 8 := by omega
          subst hj9
          go_wp2
          go_round
          case rel => exact ⟨k + 1, by omega, by go_num, y, rfl, by show _ = _; rw [hv.out, crcUp_succ _ _ hlt, ← hu.out]; rfl⟩
          case measure => simp [intOf]; omega
    · have hk2 : k = s.size := by omega
      subst hk2
      go_wp2
      go_ret
      refine ⟨?_, rfl⟩
      show Ending.returned (Value.int IntKind.u32 (bits BinOp.xor IntKind.u32 IntKind.u32.max ↑x)) = _
      rw [bits_not hx, hu.out, crcP]

theorem u8_wrap (n : Nat) : IntKind.u8.wrap (n : Int) = ((b8 n).toNat : Int) := by
  rw [IntKind.wrap_u8, b8, UInt8.toNat_ofNat']; omega

/-- new bytes, made into a text -/
theorem conv_new (w : World) (cap : Nat) (bs : List UInt8) (n : Nat) (hn : n = bs.length) (vs : Array Value) (hv : vs = (bs.map fun b => Value.int .u8 (b.toNat : Int)).toArray) :
    (convert 41 9 (.slice (some ⟨w.heap.size, 0, none⟩) n cap)).run Try.prog (w.alloc (.cells vs 5)) = .ok (.string ⟨bs.toArray⟩) (w.alloc (.cells vs 5)) := by
  subst hn hv
  refine run_convert_bytes_back _ 41 9 5 ⟨w.heap.size, 0, none⟩ cap bs Try.underlying41 Try.underlying5 Try.underlying9 (fun j hj => ?_)
  rcases Nat.eq_zero_or_pos j with rfl | h
  · simp [Addr.add]; exact ⟨_, List.getElem?_eq_getElem hj, rfl⟩
  · simp [Addr.add, Nat.ne_of_gt h, hj]
theorem b8_val (n : Nat) : ((b8 n).toNat : Int) = (n : Int) % 256 := by rw [b8, UInt8.toNat_ofNat']; omega

set_option maxRecDepth 100000 in
set_option maxHeartbeats 1000000 in
theorem l9Sum_any (s : ByteArray) (w : World) (hs : s.size ≤ maxLen) :
    Calls Try.prog 43 #[.string s] w fun e w' => e = .returned (.string (sumT (crcP s))) ∧ Below w.heap.size w w' := by
  unfold maxLen at hs
  go_enter Try.func43, Try.ntmps43
  go_wp2
  go_loop [3, 4] (fun c i => ∃ k : Nat, k ≤ s.size ∧ i = .int .i64 k ∧ ∃ x : Nat, c = .int .u32 (x : Int) ∧ Hid (x = crcUp s k)) (fun _ i => s.size - (intOf i).toNat)
  case atStart => exact ⟨0, Nat.zero_le _, rfl, 4294967295, rfl, (crcUp_zero s).symm⟩
  case round =>
    obtain ⟨k, hk, rfl, x, rfl, hu⟩ := hrel
    have hx : x < 4294967296 := by rw [hu.out]; exact crcUp_lt _ _
    by_cases hlt : k < s.size
    · have hby := byte_lt s[k]
      go_wp2_with fail
      go_loop [3, 5] (fun c i => ∃ j : Nat, j ≤ 8 ∧ i = .int .i64 j ∧ ∃ y : Nat, c = .int .u32 (y : Int) ∧ Hid (y = crcN j (x ^^^ s[k].toNat))) (fun _ i => 8 - (intOf i).toNat)
      case atStart => exact ⟨0, Nat.zero_le _, rfl, _, by rw [bits_xor hx (by omega)]; rfl, rfl⟩
      case round =>
        obtain ⟨j, hj, rfl, y, rfl, hv⟩ := hrel
        have hy : y < 4294967296 := by rw [hv.out]; exact crcN_lt (lt32 hx (by omega)) j
        by_cases hj8 : j < 8
        · rcases Nat.mod_two_eq_zero_or_one y with h | h
          · have h2 : ((y : Int) % 2 == 1) = false := by simp; omega
            go_wp2
            go_round
            case rel => exact ⟨j + 1, by omega, by go_num, crc1 y, by rw [step_nil h], by show _ = crc1 _; rw [← hv.out]⟩
            case measure => simp [intOf]; omega
          · have h2 : ((y : Int) % 2 == 1) = true := by simp; omega
            go_wp2
            go_round
            case rel => exact ⟨j + 1, by omega, by go_num, crc1 y, by rw [step_one hy h], by show _ = crc1 _; rw [← hv.out]⟩
            case measure => simp [intOf]; omega
        · have hj9 : j = 8 := by omega
          subst hj9
          go_wp2
          go_round
          case rel => exact ⟨k + 1, by omega, by go_num, y, rfl, by show _ = _; rw [hv.out, crcUp_succ _ _ hlt, ← hu.out]; rfl⟩
          case measure => simp [intOf]; omega
    · have hk2 : k = s.size := by omega
      subst hk2
      obtain ⟨z, hz⟩ : ∃ z : Nat, z = crcP s := ⟨_, rfl⟩
      have hn : bits BinOp.xor IntKind.u32 IntKind.u32.max (x : Int) = (z : Int) := by rw [bits_not hx, hz, hu.out, crcP]
      have hzl : z < 4294967296 := by rw [hz]; exact crcP_lt s
      have HZ : Hid (z = crcP s) := hz
      clear hz
      have hcv : (convert 41 9 (.slice (some ⟨w.heap.size, 0, none⟩) 4 4)).run Try.prog (w.alloc (.cells #[.int .u8 ((z : Int) % 256), .int .u8 ((z : Int) / 256 % 256), .int .u8 ((z : Int) / 65536 % 256), .int .u8 ((z : Int) / 16777216 % 256)] 5)) = .ok (.string (sumT z)) (w.alloc (.cells #[.int .u8 ((z : Int) % 256), .int .u8 ((z : Int) / 256 % 256), .int .u8 ((z : Int) / 65536 % 256), .int .u8 ((z : Int) / 16777216 % 256)] 5)) :=
        conv_new w 4 [b8 z, b8 (z / 256), b8 (z / 65536), b8 (z / 16777216)] 4 rfl _ (by simp [b8_val])
      go_wp2
      go_ret
      exact ⟨ret_str (by rw [← HZ.out]), (Below.refl _ _).alloc (Nat.le_refl _) _⟩
set_option maxRecDepth 100000 in
set_option maxHeartbeats 1000000 in
theorem frameHead_any (s : ByteArray) (w : World) (hs : s.size ≤ 1048576) :
    Calls Try.prog 44 #[.string s] w fun e w' => e = .returned (.string (headT s)) ∧ Below w.heap.size w w' := by
  have hs2 : s.size ≤ maxLen := by unfold maxLen; omega
  obtain ⟨z, hz⟩ : ∃ z : Nat, z = crcP s := ⟨_, rfl⟩
  have hzl : z < 4294967296 := by rw [hz]; exact crcP_lt s
  obtain ⟨n, hn⟩ : ∃ n : Nat, n = s.size := ⟨_, rfl⟩
  have hE : headT s = ⟨#[b8 (n / 16777216), b8 (n / 65536), b8 (n / 256), b8 n, b8 z, b8 (z / 256), b8 (z / 65536), b8 (z / 16777216)]⟩ := by rw [headT, lenT, sumT, ← hz, ← hn]; rfl
  have HE : Hid (headT s = ⟨#[b8 (n / 16777216), b8 (n / 65536), b8 (n / 256), b8 n, b8 z, b8 (z / 256), b8 (z / 65536), b8 (z / 16777216)]⟩) := hE
  have hcv : (convert 41 9 (.slice (some ⟨w.heap.size, 0, none⟩) 8 8)).run Try.prog (w.alloc (.cells #[.int .u8 ((n : Int) / 16777216 % 256), .int .u8 ((n : Int) / 65536 % 256), .int .u8 ((n : Int) / 256 % 256), .int .u8 ((n : Int) % 256), .int .u8 ((z : Int) % 256), .int .u8 ((z : Int) / 256 % 256), .int .u8 ((z : Int) / 65536 % 256), .int .u8 ((z : Int) / 16777216 % 256)] 5)) = .ok (.string ⟨#[b8 (n / 16777216), b8 (n / 65536), b8 (n / 256), b8 n, b8 z, b8 (z / 256), b8 (z / 65536), b8 (z / 16777216)]⟩) (w.alloc (.cells #[.int .u8 ((n : Int) / 16777216 % 256), .int .u8 ((n : Int) / 65536 % 256), .int .u8 ((n : Int) / 256 % 256), .int .u8 ((n : Int) % 256), .int .u8 ((z : Int) % 256), .int .u8 ((z : Int) / 256 % 256), .int .u8 ((z : Int) / 65536 % 256), .int .u8 ((z : Int) / 16777216 % 256)] 5)) :=
    conv_new w 8 [b8 (n / 16777216), b8 (n / 65536), b8 (n / 256), b8 n, b8 z, b8 (z / 256), b8 (z / 65536), b8 (z / 16777216)] 8 rfl _ (by simp [b8_val])
  have HN : Hid (n = s.size) := hn
  have HZ : Hid (z = crcP s) := hz
  clear hn hz hE hzl
  go_enter Try.func44, Try.ntmps44
  go_wp2_with fail
  refine (crcOf_any s w hs2).mono ?_
  rintro e w1 ⟨rfl, rfl⟩
  rw [← HZ.out, ← HN.out]
  go_wp2
  go_ret
  exact ⟨ret_str HE.out.symm, (Below.refl _ _).alloc (Nat.le_refl _) _⟩

set_option maxRecDepth 100000 in
set_option maxHeartbeats 1000000 in
theorem implFrame_any (s : ByteArray) (w : World) (hs : s.size ≤ 1048576) :
    Calls Try.prog 20 #[.string s] w fun e w' => e = .returned (.string (frameT s)) ∧ Below w.heap.size w w' := by
  by_cases hbig : 100000 < s.size
  · have HE : Hid (frameT s = ⟨#[]⟩) := frameT_no hbig
    go_enter Try.func20, Try.ntmps20
    go_wp2
    go_ret
    exact ⟨ret_str HE.out.symm, Below.refl _ _⟩
  · have HE : Hid (frameT s = headT s ++ s) := frameT_yes hbig
    have h8 := headT_size s
    have hov : (9223372036854775807 < (headT s).size + s.size) = False := by simp only [h8, eq_iff_iff, iff_false]; omega
    clear h8
    go_enter Try.func20, Try.ntmps20
    go_wp2_with fail
    refine (frameHead_any s w hs).mono ?_
    rintro e w1 ⟨rfl, hb1⟩
    go_wp2
    go_ret
    exact ⟨ret_str HE.out.symm, hb1⟩
end Go.Proofs.Ytcecoddgmifgkaa
