/- Plain functions on bytes: which tuples are right, and their texts. Nothing of the program is read here. -/
import Derived.Test.YtgifbgcnlijjiaaPlain2
namespace Go.Proofs.Ytgifbgcnlijjiaa.Pl

def setB (s : ByteArray) : Bool := s.toList.isEmpty || nameB s
/-- a tuple is right: its object (a, b), its relation r, its subject (c, d), its set s -/
def tupB (a b r c d s : ByteArray) : Bool := objB a b && nameB r && objB c d && setB s

/-- a tuple's text; nothing where it is not right -/
def tupText (a b r c d s : ByteArray) : ByteArray :=
  if tupB a b r c d s then
    (if s.toList.isEmpty then objText a b ++ ⟨#[35]⟩ ++ r ++ ⟨#[64]⟩ ++ objText c d else objText a b ++ ⟨#[35]⟩ ++ r ++ ⟨#[64]⟩ ++ objText c d ++ ⟨#[35]⟩ ++ s)
  else ⟨#[]⟩
theorem tupText_no {a b r c d s : ByteArray} (h : tupB a b r c d s = false) : tupText a b r c d s = ⟨#[]⟩ := by simp [tupText, h]
theorem tupText_one {a b r c d s : ByteArray} (h : tupB a b r c d s = true) (hs : s.toList.isEmpty = true) : tupText a b r c d s = objText a b ++ ⟨#[35]⟩ ++ r ++ ⟨#[64]⟩ ++ objText c d := by simp [tupText, h, hs]
theorem tupText_two {a b r c d s : ByteArray} (h : tupB a b r c d s = true) (hs : s.toList.isEmpty = false) : tupText a b r c d s = objText a b ++ ⟨#[35]⟩ ++ r ++ ⟨#[64]⟩ ++ objText c d ++ ⟨#[35]⟩ ++ s := by simp [tupText, h, hs]
theorem tupB_no1 {a b r c d s : ByteArray} (h : objB a b = false) : tupB a b r c d s = false := by simp [tupB, h]
theorem tupB_no2 {a b r c d s : ByteArray} (h : nameB r = false) : tupB a b r c d s = false := by simp [tupB, h]
theorem tupB_no3 {a b r c d s : ByteArray} (h : objB c d = false) : tupB a b r c d s = false := by simp [tupB, h]
theorem tupB_yes {a b r c d s : ByteArray} (h1 : objB a b = true) (h2 : nameB r = true) (h3 : objB c d = true) : tupB a b r c d s = setB s := by simp [tupB, h1, h2, h3]
theorem tupB_parts {a b r c d s : ByteArray} (h : tupB a b r c d s = true) : objB a b = true ∧ nameB r = true ∧ objB c d = true ∧ setB s = true := by
  simp [tupB] at h; exact ⟨h.1.1.1, h.1.1.2, h.1.2, h.2⟩
theorem toList_isEmpty {s : ByteArray} (h : s.toList.isEmpty = true) : s.size = 0 := by
  rw [Go.ByteArray.toList_eq] at h
  have h2 : s.data.toList = [] := by simpa using h
  have h3 : s.data.toList.length = 0 := by rw [h2]; rfl
  simpa using h3
theorem setB_le {s : ByteArray} (h : setB s = true) : s.size ≤ 12 := by
  simp only [setB, Bool.or_eq_true] at h
  rcases h with h | h
  · have := toList_isEmpty h; omega
  · exact (nameB_le h).2

end Go.Proofs.Ytgifbgcnlijjiaa.Pl
