/- Plain functions on bytes that the contracts of this seat's texts are stated by: which names and ids are right. Nothing of the program is read here. -/
import Derived.WalkKit
namespace Go.Proofs.Ytjmbgpdbnffkpaa.Pl

def letB (c : UInt8) : Bool := decide (97 ≤ c.toNat) && decide (c.toNat ≤ 122)
def idB (c : UInt8) : Bool := letB c || (decide (48 ≤ c.toNat) && decide (c.toNat ≤ 57)) || decide (c.toNat = 95)
def lenB (s : ByteArray) : Bool := decide (1 ≤ s.size) && decide (s.size ≤ 12)
def allB (p : UInt8 → Bool) (s : ByteArray) : Bool := s.data.toList.all p
def signsB (p : UInt8 → Bool) (s : ByteArray) : Bool := lenB s && allB p s
def notThis (s : ByteArray) : Bool := !(s.toList == [116, 104, 105, 115])
def nameB (s : ByteArray) : Bool := signsB letB s && notThis s
def isIdB (s : ByteArray) : Bool := signsB idB s

theorem ret_bool {a b : Bool} (h : a = b) : Ending.returned (.bool a) = .returned (.bool b) := by rw [h]

theorem take_snoc (s : ByteArray) (k : Nat) (h : k < s.size) : s.data.toList.take (k + 1) = s.data.toList.take k ++ [s[k]] := by
  rw [List.take_succ_eq_append_getElem (by simpa using h)]; rfl

/-- all of the first k -/
def upB (p : UInt8 → Bool) (s : ByteArray) (k : Nat) : Bool := (s.data.toList.take k).all p
theorem upB_zero (p : UInt8 → Bool) (s : ByteArray) : upB p s 0 = true := by simp [upB]
theorem upB_succ (p : UInt8 → Bool) (s : ByteArray) (k : Nat) (h : k < s.size) : upB p s (k + 1) = (upB p s k && p s[k]) := by
  unfold upB; rw [take_snoc s k h]; simp
theorem upB_end (p : UInt8 → Bool) (s : ByteArray) (k : Nat) (h : s.size ≤ k) : upB p s k = allB p s := by
  unfold upB allB; rw [List.take_of_length_le (by simpa using h)]
theorem upB_bad (p : UInt8 → Bool) (s : ByteArray) (k : Nat) (h : k < s.size) (hb : p s[k] = false) : allB p s = false := by
  unfold allB
  rw [List.all_eq_false]
  exact ⟨s[k], by simp [ByteArray.getElem_eq_getElem_data], by simp [hb]⟩

/-- an object's type and id are right -/
def objB (t i : ByteArray) : Bool := nameB t && isIdB i

end Go.Proofs.Ytjmbgpdbnffkpaa.Pl
