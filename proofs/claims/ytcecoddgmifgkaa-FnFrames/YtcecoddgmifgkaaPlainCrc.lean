/- Plain functions on numbers and bytes: the sum of a text as in zip, and a frame. Nothing of the program is read here. -/
import Derived.Test.YtcecoddgmifgkaaPlainCut
namespace Go.Proofs.Ytcecoddgmifgkaa.Pl

def crc1 (c : Nat) : Nat := if c % 2 = 1 then (c / 2) ^^^ 3988292384 else c / 2
def crcN : Nat → Nat → Nat
  | 0, c => c
  | n + 1, c => crc1 (crcN n c)
def crcB (c : Nat) (b : UInt8) : Nat := crcN 8 (c ^^^ b.toNat)
def crcUp (s : ByteArray) (k : Nat) : Nat := (s.data.toList.take k).foldl crcB 4294967295
def crcP (s : ByteArray) : Nat := 4294967295 ^^^ crcUp s s.size

theorem lt32 {a b : Nat} (ha : a < 4294967296) (hb : b < 4294967296) : a ^^^ b < 4294967296 := Nat.xor_lt_two_pow (n := 32) ha hb
theorem crc1_lt {c : Nat} (h : c < 4294967296) : crc1 c < 4294967296 := by
  unfold crc1; split
  · exact lt32 (by omega) (by omega)
  · omega
theorem crcN_lt {c : Nat} (h : c < 4294967296) : ∀ n, crcN n c < 4294967296
  | 0 => h
  | n + 1 => crc1_lt (crcN_lt h n)
theorem byte_lt (b : UInt8) : b.toNat < 256 := b.toNat_lt
theorem crcB_lt {c : Nat} (h : c < 4294967296) (b : UInt8) : crcB c b < 4294967296 := crcN_lt (lt32 h (by have := byte_lt b; omega)) 8
theorem crcUp_zero (s : ByteArray) : crcUp s 0 = 4294967295 := by simp [crcUp]
theorem crcUp_succ (s : ByteArray) (k : Nat) (h : k < s.size) : crcUp s (k + 1) = crcB (crcUp s k) s[k] := by
  simp [crcUp, take_snoc s k h, List.foldl_append]
theorem foldB_lt : ∀ (l : List UInt8) (c : Nat), c < 4294967296 → l.foldl crcB c < 4294967296
  | [], _, h => h
  | b :: l, _, h => foldB_lt l _ (crcB_lt h b)
theorem crcUp_lt (s : ByteArray) (k : Nat) : crcUp s k < 4294967296 := foldB_lt _ _ (by omega)
theorem crcP_lt (s : ByteArray) : crcP s < 4294967296 := lt32 (by omega) (crcUp_lt s _)

/-- how the machine says 'exclusive or', 'and' of two numbers of 32 bits -/
theorem xor32 {a b : Nat} (ha : a < 4294967296) (hb : b < 4294967296) : (BitVec.ofInt 32 (a : Int) ^^^ BitVec.ofInt 32 (b : Int)).toNat = a ^^^ b := by
  rw [BitVec.toNat_xor]
  simp only [BitVec.ofInt_natCast, BitVec.toNat_ofNat]
  rw [Nat.mod_eq_of_lt (by omega), Nat.mod_eq_of_lt (by omega)]
theorem and32 {a : Nat} (ha : a < 4294967296) : (BitVec.ofInt 32 (a : Int) &&& BitVec.ofInt 32 (1 : Int)).toNat = a % 2 := by
  rw [BitVec.toNat_and]
  have e : (BitVec.ofInt 32 (1 : Int)).toNat = 1 := rfl
  simp only [BitVec.ofInt_natCast, BitVec.toNat_ofNat, e]
  rw [Nat.mod_eq_of_lt (by omega), Nat.and_one_is_mod]

def b8 (n : Nat) : UInt8 := UInt8.ofNat n
/-- the four bytes of a sum, the lowest first; of a length, the highest first -/
def sumT (c : Nat) : ByteArray := ⟨#[b8 c, b8 (c / 256), b8 (c / 65536), b8 (c / 16777216)]⟩
def lenT (n : Nat) : ByteArray := ⟨#[b8 (n / 16777216), b8 (n / 65536), b8 (n / 256), b8 n]⟩
def headT (s : ByteArray) : ByteArray := lenT s.size ++ sumT (crcP s)
def frameT (s : ByteArray) : ByteArray := if 100000 < s.size then ⟨#[]⟩ else headT s ++ s
theorem frameT_yes {s : ByteArray} (h : ¬ 100000 < s.size) : frameT s = headT s ++ s := by rw [frameT, if_neg h]
theorem frameT_no {s : ByteArray} (h : 100000 < s.size) : frameT s = ⟨#[]⟩ := by rw [frameT, if_pos h]
theorem sumT_size (c : Nat) : (sumT c).size = 4 := rfl
theorem lenT_size (c : Nat) : (lenT c).size = 4 := rfl
theorem headT_size (s : ByteArray) : (headT s).size = 8 := by rw [headT, ByteArray.size_append, sumT_size, lenT_size]
end Go.Proofs.Ytcecoddgmifgkaa.Pl
