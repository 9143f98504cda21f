/- Plain functions on bytes: a text cut at the first such byte. Nothing of the program is read here. -/
import Derived.Test.YtgifbgcnlijjiaaPlain3
import Derived.Lib.IndexMore
import Derived.Lib.IndexBytes
import Derived.Lib.Strings
namespace Go.Proofs.Ytgifbgcnlijjiaa.Pl

def cutL (c : UInt8) : List UInt8 → List UInt8 × List UInt8 × Bool
  | [] => ([], [], false)
  | b :: l => if b = c then ([], l, true) else (b :: (cutL c l).1, (cutL c l).2.1, (cutL c l).2.2)

theorem cutL_index (c : UInt8) (l : List UInt8) : cutL c l = if 0 ≤ Lib.indexByte l c then (l.take (Lib.indexByte l c).toNat, l.drop ((Lib.indexByte l c).toNat + 1), true) else (l, [], false) := by
  induction l with
  | nil => simp [cutL, Lib.indexByte]
  | cons b l ih =>
    unfold cutL Lib.indexByte
    by_cases h : b = c
    · simp [h]
    · have hb : (b == c) = false := by simpa using h
      have hge := Lib.indexByte_ge l c
      rw [if_neg h, ih, hb]
      by_cases h0 : 0 ≤ Lib.indexByte l c
      · have hne : (Lib.indexByte l c == -1) = false := by simp; omega
        have e1 : (Lib.indexByte l c + 1).toNat = (Lib.indexByte l c).toNat + 1 := by omega
        rw [if_pos h0]
        simp only [hne]
        rw [if_pos (by simp; omega)]
        simp [e1]
      · have he : Lib.indexByte l c = -1 := by omega
        rw [if_neg h0]
        simp [he]

theorem cut_one (l : List UInt8) (c : UInt8) : Lib.cut l [c] = cutL c l := by
  rw [cutL_index, Lib.cut, Lib.index_one]
  simp

theorem cutL_at {c : UInt8} {l : List UInt8} {k : Nat} (hk : k < l.length) (hn : ∀ x ∈ l.take k, x ≠ c) (hc : l[k] = c) : cutL c l = (l.take k, l.drop (k + 1), true) := by
  induction l generalizing k with
  | nil => simp at hk
  | cons b l ih =>
    cases k with
    | zero => simp at hc; simp [cutL, hc]
    | succ k =>
      have hb : b ≠ c := hn b (by simp)
      have := ih (k := k) (by simpa using hk) (fun x hx => hn x (by simp [hx])) (by simpa using hc)
      simp [cutL, hb, this]
theorem cutL_none {c : UInt8} {l : List UInt8} (hn : ∀ x ∈ l, x ≠ c) : cutL c l = (l, [], false) := by
  induction l with
  | nil => rfl
  | cons b l ih =>
    have hb : b ≠ c := hn b (by simp)
    have := ih (fun x hx => hn x (by simp [hx]))
    simp [cutL, hb, this]
theorem cutL_len (c : UInt8) (l : List UInt8) : (cutL c l).1.length ≤ l.length ∧ (cutL c l).2.1.length ≤ l.length := by
  induction l with
  | nil => simp [cutL]
  | cons b l ih =>
    unfold cutL
    split
    · simp
    · simp; omega

/-- ahead of the first such byte; behind it; is it there -/
def cutA (c : UInt8) (s : ByteArray) : ByteArray := ⟨(cutL c s.data.toList).1.toArray⟩
def cutZ (c : UInt8) (s : ByteArray) : ByteArray := ⟨(cutL c s.data.toList).2.1.toArray⟩
def cutF (c : UInt8) (s : ByteArray) : Bool := (cutL c s.data.toList).2.2
theorem size_list (l : List UInt8) : (ByteArray.mk l.toArray).size = l.length := rfl
theorem cutA_le (c : UInt8) (s : ByteArray) : (cutA c s).size ≤ s.size := by
  unfold cutA; rw [size_list]; exact (cutL_len c s.data.toList).1
theorem cutZ_le (c : UInt8) (s : ByteArray) : (cutZ c s).size ≤ s.size := by
  unfold cutZ; rw [size_list]; exact (cutL_len c s.data.toList).2

theorem ext_data {a b : ByteArray} (h : a.data.toList = b.data.toList) : a = b := by
  cases a; cases b; simp at h; simp [h]

/-- none of the first k is that byte -/
def noB (c : UInt8) (s : ByteArray) (k : Nat) : Prop := ∀ x ∈ s.data.toList.take k, x ≠ c
theorem noB_zero (c : UInt8) (s : ByteArray) : noB c s 0 := by intro x hx; simp at hx
theorem noB_succ {c : UInt8} {s : ByteArray} {k : Nat} (h : k < s.size) (hn : noB c s k) (hc : s[k] ≠ c) : noB c s (k + 1) := by
  intro x hx
  rw [take_snoc s k h] at hx
  simp at hx
  rcases hx with hx | hx
  · exact hn x (by simpa using hx)
  · subst hx; exact hc
theorem cut_at {c : UInt8} {s : ByteArray} {k : Nat} (h : k < s.size) (hn : noB c s k) (hc : s[k] = c) : cutL c s.data.toList = (s.data.toList.take k, s.data.toList.drop (k + 1), true) :=
  cutL_at (by simpa using h) hn (by simpa [ByteArray.getElem_eq_getElem_data] using hc)
theorem cut_none {c : UInt8} {s : ByteArray} {k : Nat} (h : s.size ≤ k) (hn : noB c s k) : cutL c s.data.toList = (s.data.toList, [], false) :=
  cutL_none (fun x hx => hn x (by rw [List.take_of_length_le (by simpa using h)]; exact hx))


/-- a text is an object's; its type; its id -/
def rdB (s : ByteArray) : Bool := objB (cutA 58 s) (cutZ 58 s)
def rdT (s : ByteArray) : ByteArray := if rdB s then cutA 58 s else ⟨#[]⟩
def rdI (s : ByteArray) : ByteArray := if rdB s then cutZ 58 s else ⟨#[]⟩

theorem cutL_miss {c : UInt8} {l : List UInt8} (h : (cutL c l).2.2 = false) : (cutL c l).2.1 = [] := by
  induction l with
  | nil => rfl
  | cons b l ih =>
    unfold cutL at h ⊢
    split
    · rename_i hb; simp [hb] at h
    · rename_i hb; simp [hb] at h; simpa [hb] using ih h
theorem cut_miss {c : UInt8} {s : ByteArray} (h : cutF c s = false) : cutZ c s = ⟨#[]⟩ := by
  unfold cutF at h; unfold cutZ; rw [cutL_miss h]
theorem isIdB_empty : isIdB ⟨#[]⟩ = false := by decide
theorem rdB_miss {s : ByteArray} (h : cutF 58 s = false) : rdB s = false := by
  simp [rdB, objB, cut_miss h, isIdB_empty]
theorem rd_no {s : ByteArray} (h : rdB s = false) : rdT s = ⟨#[]⟩ ∧ rdI s = ⟨#[]⟩ := by simp [rdT, rdI, h]
theorem rd_yes {s : ByteArray} (h : rdB s = true) : rdT s = cutA 58 s ∧ rdI s = cutZ 58 s := by simp [rdT, rdI, h]
theorem rdT_le (s : ByteArray) : (rdT s).size ≤ s.size := by
  unfold rdT; split
  · exact cutA_le _ _
  · exact Nat.zero_le _
theorem rdI_le (s : ByteArray) : (rdI s).size ≤ s.size := by
  unfold rdI; split
  · exact cutZ_le _ _
  · exact Nat.zero_le _

end Go.Proofs.Ytgifbgcnlijjiaa.Pl
