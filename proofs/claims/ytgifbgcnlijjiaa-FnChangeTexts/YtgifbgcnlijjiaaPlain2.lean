/- Plain functions on bytes: the texts of objects and tuples, and what their sizes are. Nothing of the program is read here. -/
import Derived.Test.YtgifbgcnlijjiaaPlain
namespace Go.Proofs.Ytgifbgcnlijjiaa.Pl

theorem ret_str {a b : ByteArray} (h : a = b) : Ending.returned (.string a) = .returned (.string b) := by rw [h]

theorem lenB_le {s : ByteArray} (h : lenB s = true) : 1 ≤ s.size ∧ s.size ≤ 12 := by simpa [lenB] using h
theorem nameB_le {s : ByteArray} (h : nameB s = true) : 1 ≤ s.size ∧ s.size ≤ 12 := by
  simp [nameB, signsB] at h; exact lenB_le h.1.1
theorem isIdB_le {s : ByteArray} (h : isIdB s = true) : 1 ≤ s.size ∧ s.size ≤ 12 := by
  simp [isIdB, signsB] at h; exact lenB_le h.1
theorem objB_le {t i : ByteArray} (h : objB t i = true) : t.size ≤ 12 ∧ i.size ≤ 12 := by
  simp [objB] at h; exact ⟨(nameB_le h.1).2, (isIdB_le h.2).2⟩

/-- an object's text: its type, a colon, its id; nothing where it is not right -/
def objText (t i : ByteArray) : ByteArray := if objB t i then t ++ ⟨#[58]⟩ ++ i else ⟨#[]⟩
theorem objText_yes {t i : ByteArray} (h : objB t i = true) : objText t i = t ++ ⟨#[58]⟩ ++ i := by simp [objText, h]
theorem objText_no {t i : ByteArray} (h : objB t i = false) : objText t i = ⟨#[]⟩ := by simp [objText, h]
theorem objText_size (t i : ByteArray) : (objText t i).size ≤ 25 := by
  unfold objText; split
  · rename_i h
    have h2 := objB_le h
    have e1 : (ByteArray.mk #[58]).size = 1 := rfl
    rw [ByteArray.size_append, ByteArray.size_append, e1]
    omega
  · exact Nat.zero_le _

end Go.Proofs.Ytgifbgcnlijjiaa.Pl
