/- Plain functions on bytes: the text of a change; what a text is read as. Nothing of the program is read here. -/
import Derived.Test.YtgifbgcnlijjiaaPlainRead
namespace Go.Proofs.Ytgifbgcnlijjiaa.Pl

def wAdd : ByteArray := ⟨#[97, 100, 100]⟩
def wDrop : ByteArray := ⟨#[100, 114, 111, 112]⟩
/-- the word of a kind -/
def chgW (k : Int) : ByteArray := if k = 1 then wAdd else if k = 2 then wDrop else ⟨#[]⟩
def chgB (k : Int) : Bool := decide (k = 1) || decide (k = 2)
/-- the text of a change of kind k; nothing where it is not right -/
def chgText (k : Int) (a b r c d s : ByteArray) : ByteArray :=
  if chgB k && tupB a b r c d s then (chgW k ++ ⟨#[32]⟩) ++ tupText a b r c d s else ⟨#[]⟩

theorem chgB_of {k : Int} (h : chgB k = true) : k = 1 ∨ k = 2 := by simpa [chgB] using h
theorem chgText_no1 {k : Int} {a b r c d s : ByteArray} (h : tupB a b r c d s = false) : chgText k a b r c d s = ⟨#[]⟩ := by simp [chgText, h]
theorem chgText_no2 {k : Int} {a b r c d s : ByteArray} (h : chgB k = false) : chgText k a b r c d s = ⟨#[]⟩ := by simp [chgText, h]
theorem chgText_yes {k : Int} {a b r c d s : ByteArray} (h : chgB k = true) (ht : tupB a b r c d s = true) : chgText k a b r c d s = (chgW k ++ ⟨#[32]⟩) ++ tupText a b r c d s := by simp [chgText, h, ht]
theorem chgText_add {a b r c d s : ByteArray} (ht : tupB a b r c d s = true) : chgText 1 a b r c d s = (⟨#[97, 100, 100, 32]⟩ : ByteArray) ++ tupText a b r c d s := by
  rw [chgText_yes (by decide) ht]; rfl
theorem chgText_drop {a b r c d s : ByteArray} (ht : tupB a b r c d s = true) : chgText 2 a b r c d s = (⟨#[100, 114, 111, 112, 32]⟩ : ByteArray) ++ tupText a b r c d s := by
  rw [chgText_yes (by decide) ht]; rfl

theorem some_size {s : ByteArray} (h : 0 < s.size) : s.toList.isEmpty = false := by
  cases k : s.toList.isEmpty with
  | false => rfl
  | true => have := toList_isEmpty k; omega
theorem tupText_some {a b r c d s : ByteArray} (h : tupB a b r c d s = true) : (tupText a b r c d s).toList.isEmpty = false := by
  apply some_size
  have e1 : (⟨#[35]⟩ : ByteArray).size = 1 := rfl
  cases hs : s.toList.isEmpty with
  | true => rw [tupText_one h hs]; simp only [ByteArray.size_append]; omega
  | false => rw [tupText_two h hs]; simp only [ByteArray.size_append]; omega
theorem tupText_none {a b r c d s : ByteArray} (h : tupB a b r c d s = false) : (tupText a b r c d s).toList.isEmpty = true := by
  rw [tupText_no h, Go.ByteArray.toList_eq]; rfl
theorem chgText_some {k : Int} {a b r c d s : ByteArray} (h : chgB k = true) (ht : tupB a b r c d s = true) : (chgText k a b r c d s).toList.isEmpty = false := by
  apply some_size
  have e1 : (⟨#[32]⟩ : ByteArray).size = 1 := rfl
  rw [chgText_yes h ht]; simp only [ByteArray.size_append]; omega

/-- a right tuple's text holds no blank -/
theorem idB_32 {x : UInt8} (h : idB x = true) : x ≠ 32 := by rintro rfl; revert h; decide
theorem letB_32 {x : UInt8} (h : letB x = true) : x ≠ 32 := idB_32 (by simp [idB, h])
theorem nameB_32 {s : ByteArray} (h : nameB s = true) : ∀ x ∈ s.data.toList, x ≠ 32 := by
  simp only [nameB, signsB, allB, Bool.and_eq_true, List.all_eq_true] at h
  exact fun x hx => letB_32 (h.1.2 x hx)

/-- the word and the text of a right change, cut at the first blank -/
theorem chgW_32 {k : Int} (h : chgB k = true) : ∀ x ∈ (chgW k).data.toList, x ≠ 32 := by
  rcases chgB_of h with rfl | rfl <;> decide
theorem chg_cut {k : Int} {a b r c d t s : ByteArray} (h : chgB k = true) (ht : tupB a b r c d t = true) (hs : chgText k a b r c d t = s) :
    cutA 32 s = chgW k ∧ cutZ 32 s = tupText a b r c d t ∧ cutF 32 s = true := by
  have hl : s.data.toList = (chgW k).data.toList ++ 32 :: (tupText a b r c d t).data.toList := by
    rw [← hs, chgText_yes h ht, app_list, app_list]; simp
  obtain ⟨h1, h2, h3⟩ := cut_mid hl (chgW_32 h)
  exact ⟨ext_data h1, ext_data h2, h3⟩

/-- what a text is read as: a right change with that text; or nothing, and there is none -/
def ChgAs (s : ByteArray) (k : Int) (a b r c d t : ByteArray) (f : Bool) : Prop :=
  (f = true ∧ chgB k = true ∧ tupB a b r c d t = true ∧ chgText k a b r c d t = s) ∨
  (f = false ∧ k = 0 ∧ (a = ⟨#[]⟩ ∧ b = ⟨#[]⟩ ∧ r = ⟨#[]⟩ ∧ c = ⟨#[]⟩ ∧ d = ⟨#[]⟩ ∧ t = ⟨#[]⟩) ∧ ∀ k a b r c d t, chgB k = true → tupB a b r c d t = true → chgText k a b r c d t ≠ s)

theorem chgW_inj {k k' : Int} (h : chgB k = true) (h' : chgB k' = true) (e : chgW k = chgW k') : k = k' := by
  rcases chgB_of h with rfl | rfl <;> rcases chgB_of h' with rfl | rfl
  · rfl
  · exact absurd e (by decide)
  · exact absurd e (by decide)
  · rfl
theorem chgText_inj {k k' : Int} {a b r c d t a' b' r' c' d' t' : ByteArray} (h : chgB k = true) (h' : chgB k' = true) (ht : tupB a b r c d t = true) (ht' : tupB a' b' r' c' d' t' = true) (e : chgText k a b r c d t = chgText k' a' b' r' c' d' t') :
    k = k' ∧ a = a' ∧ b = b' ∧ r = r' ∧ c = c' ∧ d = d' ∧ t = t' := by
  obtain ⟨x1, x2, -⟩ := chg_cut h ht e
  obtain ⟨y1, y2, -⟩ := chg_cut h' ht' rfl
  exact ⟨chgW_inj h h' (x1.symm.trans y1), tupText_inj ht ht' (x2.symm.trans y2)⟩
theorem ChgAs.one {s : ByteArray} {k k' : Int} {a b r c d t a' b' r' c' d' t' : ByteArray} {f f' : Bool} (h : ChgAs s k a b r c d t f) (h' : ChgAs s k' a' b' r' c' d' t' f') :
    (k = k' ∧ a = a' ∧ b = b' ∧ r = r' ∧ c = c' ∧ d = d' ∧ t = t') ∧ f = f' := by
  rcases h with ⟨rfl, h0, h1, h2⟩ | ⟨rfl, h0, h1, h2⟩
  · rcases h' with ⟨rfl, k0, k1, k2⟩ | ⟨rfl, k0, k1, k2⟩
    · exact ⟨chgText_inj h0 k0 h1 k1 (h2.trans k2.symm), rfl⟩
    · exact absurd h2 (k2 _ _ _ _ _ _ _ h0 h1)
  · rcases h' with ⟨rfl, k0, k1, k2⟩ | ⟨rfl, k0, k1, k2⟩
    · exact absurd k2 (h2 _ _ _ _ _ _ _ k0 k1)
    · obtain ⟨rfl, rfl, rfl, rfl, rfl, rfl⟩ := h1
      obtain ⟨rfl, rfl, rfl, rfl, rfl, rfl⟩ := k1
      exact ⟨⟨h0.trans k0.symm, rfl, rfl, rfl, rfl, rfl, rfl⟩, rfl⟩

/-- nothing is read where behind the blank no tuple stands -/
theorem chg_none {s : ByteArray} {a b r c d t : ByteArray} (h : ReadAs (cutZ 32 s) a b r c d t false) : ChgAs s 0 ⟨#[]⟩ ⟨#[]⟩ ⟨#[]⟩ ⟨#[]⟩ ⟨#[]⟩ ⟨#[]⟩ false := by
  refine .inr ⟨rfl, rfl, ⟨rfl, rfl, rfl, rfl, rfl, rfl⟩, fun k a b r c d t hk ht hs => ?_⟩
  rcases h with ⟨h, -⟩ | ⟨-, -, h⟩
  · cases h
  · exact h _ _ _ _ _ _ ht (chg_cut hk ht hs).2.1.symm
/-- nothing is read where the word is none -/
theorem chg_word {s : ByteArray} (h1 : cutA 32 s ≠ wAdd) (h2 : cutA 32 s ≠ wDrop) : ChgAs s 0 ⟨#[]⟩ ⟨#[]⟩ ⟨#[]⟩ ⟨#[]⟩ ⟨#[]⟩ ⟨#[]⟩ false := by
  refine .inr ⟨rfl, rfl, ⟨rfl, rfl, rfl, rfl, rfl, rfl⟩, fun k a b r c d t hk ht hs => ?_⟩
  have h := (chg_cut hk ht hs).1
  rcases chgB_of hk with rfl | rfl
  · exact h1 h
  · exact h2 h
theorem readAs_tup {x a b r c d t : ByteArray} (h : ReadAs x a b r c d t true) : tupB a b r c d t = true ∧ tupText a b r c d t = x := by
  rcases h with ⟨-, h1, h2⟩ | ⟨h, -⟩
  · exact ⟨h1, h2⟩
  · cases h
theorem tup_ne {a b r c d t : ByteArray} (h : tupB a b r c d t = true) : tupText a b r c d t ≠ ⟨#[]⟩ := fun e => by
  have := tupText_some h
  rw [e, Go.ByteArray.toList_eq] at this
  simp at this
/-- a tuple behind the blank, and the word of a kind ahead of it -/
theorem chg_some {s : ByteArray} {k : Int} {a b r c d t : ByteArray} (h : ReadAs (cutZ 32 s) a b r c d t true) (hk : chgB k = true) (hw : cutA 32 s = chgW k) : ChgAs s k a b r c d t true := by
  obtain ⟨h1, h2⟩ := readAs_tup h
  refine .inl ⟨rfl, hk, h1, ext_data ?_⟩
  have hf : cutF 32 s = true := by
    cases hc : cutF 32 s with
    | true => rfl
    | false => rw [cut_miss hc] at h2; exact absurd h2 (tup_ne h1)
  have hl := cut_found hf
  rw [hw, ← h2] at hl
  rw [chgText_yes hk h1, app_list, app_list, hl]; simp
/-- the document's way: the kind by the word drop, then the text held against it -/
theorem chg_spec_yes {s : ByteArray} {k : Int} {a b r c d t : ByteArray} (h : ReadAs (cutZ 32 s) a b r c d t true) (hk : chgB k = true) (e : chgText k a b r c d t = s) : ChgAs s k a b r c d t true :=
  .inl ⟨rfl, hk, (readAs_tup h).1, e⟩
theorem chg_spec_no {s : ByteArray} {k : Int} {a b r c d t : ByteArray} (h : ReadAs (cutZ 32 s) a b r c d t true) (hk : chgB k = true) (hw : k = 2 ↔ cutA 32 s = wDrop) (e : chgText k a b r c d t ≠ s) : ChgAs s 0 ⟨#[]⟩ ⟨#[]⟩ ⟨#[]⟩ ⟨#[]⟩ ⟨#[]⟩ ⟨#[]⟩ false := by
  refine .inr ⟨rfl, rfl, ⟨rfl, rfl, rfl, rfl, rfl, rfl⟩, fun k' a' b' r' c' d' t' hk' ht' hs => ?_⟩
  obtain ⟨x1, x2, -⟩ := chg_cut hk' ht' hs
  obtain ⟨h1, h2⟩ := readAs_tup h
  obtain ⟨rfl, rfl, rfl, rfl, rfl, rfl⟩ := tupText_inj h1 ht' (h2.trans x2)
  have hkk : k = k' := by
    rcases chgB_of hk' with rfl | rfl
    · rcases chgB_of hk with rfl | rfl
      · rfl
      · have := hw.1 rfl; rw [x1] at this; exact absurd this (by decide)
    · exact hw.2 x1
  subst hkk
  exact e hs
end Go.Proofs.Ytgifbgcnlijjiaa.Pl
