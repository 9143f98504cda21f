/- Contracts of the functions on ids, beside those on names. -/
import Derived.Test.YthicofnjehpalaaGreatJ1
import Derived.Below
namespace Go.Proofs.YthicofnjehpalaaGreat
open Go.ChangeShapes Go.WideShapes Go.ChangeAt Go.RowKit
open Pl

theorem isIdSign_any (c : UInt8) (w : World) :
    Calls Tryz.prog 97 #[.int .u8 c.toNat] w fun e w' => e = .returned (.bool (idB c)) ∧ w' = w := by
  by_cases hl : letB c = true
  · go_enter Tryz.func97, Tryz.ntmps97
    go_wp2_with (go_at_call 87; refine (isLetter_any _ _).mono ?_; rintro e w' ⟨rfl, rfl⟩)
    go_ret
    exact ⟨ret_bool (by simp [idB, hl]), rfl⟩
  · have hf : letB c = false := by simpa using hl
    clear hl
    go_enter Tryz.func97, Tryz.ntmps97
    go_wp2_with (go_at_call 87; refine (isLetter_any _ _).mono ?_; rintro e w' ⟨rfl, rfl⟩)
    all_goals go_ret
    all_goals refine ⟨ret_bool ?_, rfl⟩
    all_goals (rw [Bool.eq_iff_iff]; simp [idB, hf]; omega)

set_option maxHeartbeats 1000000 in
theorem specId_any (s : ByteArray) (w : World) (hs : s.size ≤ maxLen) :
    Calls Tryz.prog 75 #[.string s] w fun e w' => e = .returned (.bool (isIdB s)) ∧ w' = w := by
  unfold maxLen at hs
  by_cases h1 : 1 ≤ s.size ∧ s.size ≤ 12
  · obtain ⟨ha, hb⟩ := h1
    go_enter Tryz.func75, Tryz.ntmps75
    go_wp2
    go_loop [3] (fun i => ∃ k : Nat, k ≤ s.size ∧ i = .int .i64 k ∧ Hid (upB idB s k = true)) (fun i => s.size - (intOf i).toNat)
    case atStart => exact ⟨0, Nat.zero_le _, rfl, upB_zero _ _⟩
    case round =>
      obtain ⟨k, hk, rfl, hu⟩ := hrel
      by_cases hlt : k < s.size
      · by_cases hc : idB s[k] = true
        · have hd : (97 ≤ s[k].toNat ∧ s[k].toNat ≤ 122) ∨ (48 ≤ s[k].toNat ∧ s[k].toNat ≤ 57) ∨ s[k].toNat = 95 := by simp [idB, letB] at hc; omega
          have HU : Hid (upB idB s (k + 1) = true) := by show _ = _; rw [upB_succ _ _ _ hlt, hc, hu.out]; rfl
          clear hc
          rcases hd with ⟨hd1, hd2⟩ | ⟨hd1, hd2⟩ | hd1
          all_goals
            go_wp2
            go_round
            case rel => exact ⟨k + 1, by omega, by go_num, HU⟩
            case measure => simp [intOf]; omega
        · have hc' : idB s[k] = false := by simpa using hc
          have HB : Hid (allB idB s = false) := upB_bad _ _ _ hlt hc'
          have hd : s[k].toNat < 48 ∨ (57 < s[k].toNat ∧ s[k].toNat < 95) ∨ (95 < s[k].toNat ∧ s[k].toNat < 97) ∨ 122 < s[k].toNat := by simp [idB, letB] at hc'; omega
          clear hc hc'
          rcases hd with hd | ⟨hd, hd2⟩ | ⟨hd, hd2⟩ | hd
          all_goals
            have h95 : ((s[k].toNat : Int) != 95) = true := by simp; omega
            go_wp2
            go_ret
            exact ⟨ret_bool (by simp [isIdB, signsB, HB.out]), rfl⟩
      · go_wp2
        go_ret
        refine ⟨ret_bool ?_, rfl⟩
        have hall : allB idB s = true := by rw [← upB_end idB s k (by omega)]; exact hu.out
        have hl : lenB s = true := by simp [lenB]; omega
        simp [isIdB, signsB, hall, hl]
  · have hn : lenB s = false := by simp [lenB]; omega
    have HN : Hid (isIdB s = false) := by show _ = _; simp [isIdB, signsB, hn]
    clear hn
    by_cases ha : 1 ≤ s.size
    · have hb : 12 < s.size := by omega
      clear h1
      go_enter Tryz.func75, Tryz.ntmps75
      go_wp2
      go_ret
      exact ⟨ret_bool HN.out.symm, rfl⟩
    · have ha' : s.size < 1 := by omega
      clear h1
      go_enter Tryz.func75, Tryz.ntmps75
      go_wp2
      go_ret
      exact ⟨ret_bool HN.out.symm, rfl⟩

theorem signs_isIdSign (s : ByteArray) (w : World) (hs : s.size ≤ maxLen) :
    Calls Tryz.prog 86 #[.string s, .func (Fn.func 97) #[] #[]] w fun e w' => e = .returned (.bool (signsB idB s)) ∧ w' = w := by
  unfold maxLen at hs
  by_cases h1 : 1 ≤ s.size ∧ s.size ≤ 12
  · obtain ⟨ha, hb⟩ := h1
    go_enter Tryz.func86, Tryz.ntmps86
    go_wp2
    go_loop [16] (fun i => ∃ k : Nat, k ≤ s.size ∧ i = .int .i64 k ∧ Hid (upB idB s k = true)) (fun i => s.size - (intOf i).toNat)
    case atStart => exact ⟨0, Nat.zero_le _, rfl, upB_zero _ _⟩
    case round =>
      obtain ⟨k, hk, rfl, hu⟩ := hrel
      by_cases hlt : k < s.size
      · by_cases hc : idB s[k] = true
        · have HU : Hid (upB idB s (k + 1) = true) := by show _ = _; rw [upB_succ _ _ _ hlt, hc, hu.out]; rfl
          go_wp2_with (go_at_call 97; refine (isIdSign_any _ _).mono ?_; rintro e w' ⟨rfl, rfl⟩)
          go_round
          case rel => exact ⟨k + 1, by omega, by go_num, HU⟩
          case measure => simp [intOf]; omega
        · have hc' : idB s[k] = false := by simpa using hc
          have HB : Hid (allB idB s = false) := upB_bad _ _ _ hlt hc'
          clear hc
          go_wp2_with (go_at_call 97; refine (isIdSign_any _ _).mono ?_; rintro e w' ⟨rfl, rfl⟩)
          go_ret
          exact ⟨ret_bool (by simp [signsB, HB.out]), rfl⟩
      · go_wp2
        go_ret
        refine ⟨ret_bool ?_, rfl⟩
        have hall : allB idB s = true := by rw [← upB_end idB s k (by omega)]; exact hu.out
        have hl : lenB s = true := by simp [lenB]; omega
        simp [signsB, hall, hl]
  · have hn : lenB s = false := by simp [lenB]; omega
    have HN : Hid (signsB idB s = false) := by show _ = _; simp [signsB, hn]
    clear hn
    by_cases ha : 1 ≤ s.size
    · have hb : 12 < s.size := by omega
      clear h1
      go_enter Tryz.func86, Tryz.ntmps86
      go_wp2
      go_ret
      exact ⟨ret_bool HN.out.symm, rfl⟩
    · have ha' : s.size < 1 := by omega
      clear h1
      go_enter Tryz.func86, Tryz.ntmps86
      go_wp2
      go_ret
      exact ⟨ret_bool HN.out.symm, rfl⟩

theorem implId_any (s : ByteArray) (w : World) (hs : s.size ≤ maxLen) :
    Calls Tryz.prog 85 #[.string s] w fun e w' => e = .returned (.bool (isIdB s)) ∧ w' = w := by
  go_enter Tryz.func85, Tryz.ntmps85
  go_wp2_with (go_at_call 86; refine (signs_isIdSign _ _ hs).mono ?_; rintro e w' ⟨rfl, rfl⟩)
  go_ret
  exact ⟨rfl, rfl⟩

end Go.Proofs.YthicofnjehpalaaGreat

/- Contracts of the functions that look at objects and write their texts: each returns what the plain function says, and nothing that was in memory has changed. -/
namespace Go.Proofs.YthicofnjehpalaaGreat
open Go.ChangeShapes Go.WideShapes Go.ChangeAt Go.RowKit
open Pl

theorem bcell {W w1 : World} (hb : Below W.heap.size W w1) : (∀ b o, b < W.heap.size → w1.cell? ⟨b, o, none⟩ = W.cell? ⟨b, o, none⟩) ∧ (∀ b o, b < W.heap.size → w1.frozen? ⟨b, o, none⟩ = W.frozen? ⟨b, o, none⟩) :=
  ⟨fun b o h => hb.cell (p := ⟨b, o, none⟩) h, fun b o h => hb.frozen (p := ⟨b, o, none⟩) h⟩

theorem specObj_any (t i : ByteArray) (w : World) (ht : t.size ≤ maxLen) (hi : i.size ≤ maxLen) :
    Calls Tryz.prog 58 #[.agg #[.string t, .string i]] w fun e w' => e = .returned (.bool (objB t i)) ∧ Below w.heap.size w w' := by
  by_cases hn : nameB t = true
  all_goals
    go_enter Tryz.func58, Tryz.ntmps58
    go_wp2_with (first | (go_at_call 32; refine (specName_any _ _ ht).mono ?_; rintro e w' ⟨rfl, rfl⟩) | (go_at_call 75; refine (specId_any _ _ hi).mono ?_; rintro e w' ⟨rfl, rfl⟩))
    go_ret
    exact ⟨ret_bool (by simp [objB, hn]), (Below.refl _ _).alloc (Nat.le_refl _) _⟩

theorem implObj_any (t i : ByteArray) (w : World) (ht : t.size ≤ maxLen) (hi : i.size ≤ maxLen) :
    Calls Tryz.prog 65 #[.agg #[.string t, .string i]] w fun e w' => e = .returned (.bool (objB t i)) ∧ Below w.heap.size w w' := by
  by_cases hn : nameB t = true
  all_goals
    go_enter Tryz.func65, Tryz.ntmps65
    go_wp2_with (first | (go_at_call 66; refine (implName_any _ _ ht).mono ?_; rintro e w' ⟨rfl, rfl⟩) | (go_at_call 85; refine (implId_any _ _ hi).mono ?_; rintro e w' ⟨rfl, rfl⟩))
    go_ret
    exact ⟨ret_bool (by simp [objB, hn]), (Below.refl _ _).alloc (Nat.le_refl _) _⟩

end Go.Proofs.YthicofnjehpalaaGreat

/- Plain functions on bytes: the texts of objects and tuples, and what their sizes are. Nothing of the program is read here. -/
namespace Go.Proofs.YthicofnjehpalaaGreat.Pl

theorem ret_str {a b : ByteArray} (h : a = b) : Ending.returned (.string a) = .returned (.string b) := by rw [h]

theorem lenB_le {s : ByteArray} (h : lenB s = true) : 1 ≤ s.size ∧ s.size ≤ 12 := by simpa [lenB] using h
theorem nameB_le {s : ByteArray} (h : nameB s = true) : 1 ≤ s.size ∧ s.size ≤ 12 := by
  simp [nameB, signsB] at h; exact lenB_le h.1.1
theorem isIdB_le {s : ByteArray} (h : isIdB s = true) : 1 ≤ s.size ∧ s.size ≤ 12 := by
  simp [isIdB, signsB] at h; exact lenB_le h.1
theorem objB_le {t i : ByteArray} (h : objB t i = true) : t.size ≤ 12 ∧ i.size ≤ 12 := by
  simp [objB] at h; exact ⟨(nameB_le h.1).2, (isIdB_le h.2).2⟩

/-- an object's text: its type, a colon, its id; nothing where it is not right -/
def objText (t i : ByteArray) : ByteArray := if objB t i then t ++ ⟨#[58]⟩ ++ i else ⟨#[]⟩
theorem objText_yes {t i : ByteArray} (h : objB t i = true) : objText t i = t ++ ⟨#[58]⟩ ++ i := by simp [objText, h]
theorem objText_no {t i : ByteArray} (h : objB t i = false) : objText t i = ⟨#[]⟩ := by simp [objText, h]
theorem objText_size (t i : ByteArray) : (objText t i).size ≤ 25 := by
  unfold objText; split
  · rename_i h
    have h2 := objB_le h
    have e1 : (ByteArray.mk #[58]).size = 1 := rfl
    rw [ByteArray.size_append, ByteArray.size_append, e1]
    omega
  · exact Nat.zero_le _

end Go.Proofs.YthicofnjehpalaaGreat.Pl

/- Contracts of the two functions that write an object's text. -/
namespace Go.Proofs.YthicofnjehpalaaGreat
open Go.ChangeShapes Go.WideShapes Go.ChangeAt Go.RowKit
open Pl

theorem specObjText_any (t i : ByteArray) (w : World) (ht : t.size ≤ maxLen) (hi : i.size ≤ maxLen) :
    Calls Tryz.prog 76 #[.agg #[.string t, .string i]] w fun e w' => e = .returned (.string (objText t i)) ∧ Below w.heap.size w w' := by
  by_cases hn : objB t i = true
  · obtain ⟨h1, h2⟩ := objB_le hn
    have HT : Hid (objText t i = t ++ ⟨#[58]⟩ ++ i) := objText_yes hn
    go_enter Tryz.func76, Tryz.ntmps76
    go_wp2_with (go_at_call 58; refine (specObj_any _ _ _ ht hi).mono ?_; rintro e w' ⟨rfl, hb⟩; obtain ⟨hc, hf⟩ := bcell hb)
    go_ret
    exact ⟨ret_str HT.out.symm, ((Below.refl _ _).alloc (Nat.le_refl _) _).trans (hb.mono (by simp))⟩
  · have hn' : objB t i = false := by simpa using hn
    have HT : Hid (objText t i = ⟨#[]⟩) := objText_no hn'
    clear hn
    go_enter Tryz.func76, Tryz.ntmps76
    go_wp2_with (go_at_call 58; refine (specObj_any _ _ _ ht hi).mono ?_; rintro e w' ⟨rfl, hb⟩; obtain ⟨hc, hf⟩ := bcell hb)
    go_ret
    exact ⟨ret_str HT.out.symm, ((Below.refl _ _).alloc (Nat.le_refl _) _).trans (hb.mono (by simp))⟩

theorem implObjText_any (t i : ByteArray) (w : World) (ht : t.size ≤ maxLen) (hi : i.size ≤ maxLen) :
    Calls Tryz.prog 99 #[.agg #[.string t, .string i]] w fun e w' => e = .returned (.string (objText t i)) ∧ Below w.heap.size w w' := by
  by_cases hn : objB t i = true
  · obtain ⟨h1, h2⟩ := objB_le hn
    have HT : Hid (objText t i = t ++ ⟨#[58]⟩ ++ i) := objText_yes hn
    go_enter Tryz.func99, Tryz.ntmps99
    go_wp2_with (go_at_call 65; refine (implObj_any _ _ _ ht hi).mono ?_; rintro e w' ⟨rfl, hb⟩; obtain ⟨hc, hf⟩ := bcell hb)
    go_ret
    exact ⟨ret_str HT.out.symm, ((Below.refl _ _).alloc (Nat.le_refl _) _).trans (hb.mono (by simp))⟩
  · have hn' : objB t i = false := by simpa using hn
    have HT : Hid (objText t i = ⟨#[]⟩) := objText_no hn'
    clear hn
    go_enter Tryz.func99, Tryz.ntmps99
    go_wp2_with (go_at_call 65; refine (implObj_any _ _ _ ht hi).mono ?_; rintro e w' ⟨rfl, hb⟩; obtain ⟨hc, hf⟩ := bcell hb)
    go_ret
    exact ⟨ret_str HT.out.symm, ((Below.refl _ _).alloc (Nat.le_refl _) _).trans (hb.mono (by simp))⟩

end Go.Proofs.YthicofnjehpalaaGreat

/- Plain functions on bytes: which tuples are right, and their texts. Nothing of the program is read here. -/
namespace Go.Proofs.YthicofnjehpalaaGreat.Pl

def setB (s : ByteArray) : Bool := s.toList.isEmpty || nameB s
/-- a tuple is right: its object (a, b), its relation r, its subject (c, d), its set s -/
def tupB (a b r c d s : ByteArray) : Bool := objB a b && nameB r && objB c d && setB s

/-- a tuple's text; nothing where it is not right -/
def tupText (a b r c d s : ByteArray) : ByteArray :=
  if tupB a b r c d s then
    (if s.toList.isEmpty then objText a b ++ ⟨#[35]⟩ ++ r ++ ⟨#[64]⟩ ++ objText c d else objText a b ++ ⟨#[35]⟩ ++ r ++ ⟨#[64]⟩ ++ objText c d ++ ⟨#[35]⟩ ++ s)
  else ⟨#[]⟩
theorem tupText_no {a b r c d s : ByteArray} (h : tupB a b r c d s = false) : tupText a b r c d s = ⟨#[]⟩ := by simp [tupText, h]
theorem tupText_one {a b r c d s : ByteArray} (h : tupB a b r c d s = true) (hs : s.toList.isEmpty = true) : tupText a b r c d s = objText a b ++ ⟨#[35]⟩ ++ r ++ ⟨#[64]⟩ ++ objText c d := by simp [tupText, h, hs]
theorem tupText_two {a b r c d s : ByteArray} (h : tupB a b r c d s = true) (hs : s.toList.isEmpty = false) : tupText a b r c d s = objText a b ++ ⟨#[35]⟩ ++ r ++ ⟨#[64]⟩ ++ objText c d ++ ⟨#[35]⟩ ++ s := by simp [tupText, h, hs]
theorem tupB_no1 {a b r c d s : ByteArray} (h : objB a b = false) : tupB a b r c d s = false := by simp [tupB, h]
theorem tupB_no2 {a b r c d s : ByteArray} (h : nameB r = false) : tupB a b r c d s = false := by simp [tupB, h]
theorem tupB_no3 {a b r c d s : ByteArray} (h : objB c d = false) : tupB a b r c d s = false := by simp [tupB, h]
theorem tupB_yes {a b r c d s : ByteArray} (h1 : objB a b = true) (h2 : nameB r = true) (h3 : objB c d = true) : tupB a b r c d s = setB s := by simp [tupB, h1, h2, h3]
theorem tupB_parts {a b r c d s : ByteArray} (h : tupB a b r c d s = true) : objB a b = true ∧ nameB r = true ∧ objB c d = true ∧ setB s = true := by
  simp [tupB] at h; exact ⟨h.1.1.1, h.1.1.2, h.1.2, h.2⟩
theorem toList_isEmpty {s : ByteArray} (h : s.toList.isEmpty = true) : s.size = 0 := by
  rw [Go.ByteArray.toList_eq] at h
  have h2 : s.data.toList = [] := by simpa using h
  have h3 : s.data.toList.length = 0 := by rw [h2]; rfl
  simpa using h3
theorem setB_le {s : ByteArray} (h : setB s = true) : s.size ≤ 12 := by
  simp only [setB, Bool.or_eq_true] at h
  rcases h with h | h
  · have := toList_isEmpty h; omega
  · exact (nameB_le h).2

end Go.Proofs.YthicofnjehpalaaGreat.Pl

/- Contracts of the functions that look at tuples: each returns what the plain function says, and nothing that was in memory has changed. -/
namespace Go.Proofs.YthicofnjehpalaaGreat
open Go.ChangeShapes Go.WideShapes Go.ChangeAt Go.RowKit
open Pl

theorem setOk_any (s : ByteArray) (w : World) (hs : s.size ≤ maxLen) :
    Calls Tryz.prog 67 #[.string s] w fun e w' => e = .returned (.bool (setB s)) ∧ w' = w := by
  go_enter Tryz.func67, Tryz.ntmps67
  go_wp2_with (go_at_call 66; refine (implName_any _ _ hs).mono ?_; rintro e w' ⟨rfl, rfl⟩)
  all_goals go_ret
  all_goals exact ⟨ret_bool (by simp [setB, *]), rfl⟩

theorem specTup_any (a b r c d s : ByteArray) (w : World) (ha : a.size ≤ maxLen) (hb : b.size ≤ maxLen) (hr : r.size ≤ maxLen) (hc : c.size ≤ maxLen) (hd : d.size ≤ maxLen) (hs : s.size ≤ maxLen) :
    Calls Tryz.prog 36 #[.agg #[.string a, .string b, .string r, .string c, .string d, .string s]] w fun e w' => e = .returned (.bool (tupB a b r c d s)) ∧ Below w.heap.size w w' := by
  by_cases h1 : objB a b = true
  · by_cases h2 : nameB r = true
    · by_cases h3 : objB c d = true
      · have HT : Hid (tupB a b r c d s = setB s) := tupB_yes h1 h2 h3
        go_enter Tryz.func36, Tryz.ntmps36
        go_wp2_with fail
        refine (specObj_any _ _ _ ha hb).mono ?_
        rintro e w1 ⟨rfl, hb1⟩
        obtain ⟨hc1, hf1⟩ := bcell hb1
        have hz1 : w.heap.size < w1.heap.size := by have := hb1.size; simp at this; omega
        go_wp2_with fail
        refine (specName_any _ _ hr).mono ?_
        rintro e w1' ⟨rfl, rfl⟩
        go_wp2_with fail
        refine (specObj_any _ _ _ hc hd).mono ?_
        rintro e w2 ⟨rfl, hb2⟩
        obtain ⟨hc2, hf2⟩ := bcell hb2
        have hz2 : w.heap.size < w2.heap.size := by have := hb2.size; omega
        go_wp2_with (go_at_call 32; refine (specName_any _ _ hs).mono ?_; rintro e w3 ⟨rfl, rfl⟩)
        all_goals go_ret
        all_goals exact ⟨ret_bool (HT.out.trans (by simp [setB, *])).symm, ((Below.refl _ _).alloc (Nat.le_refl _) _).trans ((hb1.mono (by simp)).trans (hb2.mono (by omega)))⟩
      · have h3' : objB c d = false := by simpa using h3
        have HT : Hid (tupB a b r c d s = false) := tupB_no3 h3'
        clear h3
        go_enter Tryz.func36, Tryz.ntmps36
        go_wp2_with fail
        refine (specObj_any _ _ _ ha hb).mono ?_
        rintro e w1 ⟨rfl, hb1⟩
        obtain ⟨hc1, hf1⟩ := bcell hb1
        have hz1 : w.heap.size < w1.heap.size := by have := hb1.size; simp at this; omega
        go_wp2_with fail
        refine (specName_any _ _ hr).mono ?_
        rintro e w1' ⟨rfl, rfl⟩
        go_wp2_with fail
        refine (specObj_any _ _ _ hc hd).mono ?_
        rintro e w2 ⟨rfl, hb2⟩
        go_wp2
        go_ret
        exact ⟨ret_bool HT.out.symm, ((Below.refl _ _).alloc (Nat.le_refl _) _).trans ((hb1.mono (by simp)).trans (hb2.mono (by omega)))⟩
    · have h2' : nameB r = false := by simpa using h2
      have HT : Hid (tupB a b r c d s = false) := tupB_no2 h2'
      clear h2
      go_enter Tryz.func36, Tryz.ntmps36
      go_wp2_with fail
      refine (specObj_any _ _ _ ha hb).mono ?_
      rintro e w1 ⟨rfl, hb1⟩
      obtain ⟨hc1, hf1⟩ := bcell hb1
      go_wp2_with fail
      refine (specName_any _ _ hr).mono ?_
      rintro e w1' ⟨rfl, rfl⟩
      go_wp2
      go_ret
      exact ⟨ret_bool HT.out.symm, ((Below.refl _ _).alloc (Nat.le_refl _) _).trans (hb1.mono (by simp))⟩
  · have h1' : objB a b = false := by simpa using h1
    have HT : Hid (tupB a b r c d s = false) := tupB_no1 h1'
    clear h1
    go_enter Tryz.func36, Tryz.ntmps36
    go_wp2_with fail
    refine (specObj_any _ _ _ ha hb).mono ?_
    rintro e w1 ⟨rfl, hb1⟩
    go_wp2
    go_ret
    exact ⟨ret_bool HT.out.symm, ((Below.refl _ _).alloc (Nat.le_refl _) _).trans (hb1.mono (by simp))⟩

theorem implTup_any (a b r c d s : ByteArray) (w : World) (ha : a.size ≤ maxLen) (hb : b.size ≤ maxLen) (hr : r.size ≤ maxLen) (hc : c.size ≤ maxLen) (hd : d.size ≤ maxLen) (hs : s.size ≤ maxLen) :
    Calls Tryz.prog 43 #[.agg #[.string a, .string b, .string r, .string c, .string d, .string s]] w fun e w' => e = .returned (.bool (tupB a b r c d s)) ∧ Below w.heap.size w w' := by
  by_cases h1 : objB a b = true
  · by_cases h2 : nameB r = true
    · by_cases h3 : objB c d = true
      · have HT : Hid (tupB a b r c d s = setB s) := tupB_yes h1 h2 h3
        go_enter Tryz.func43, Tryz.ntmps43
        go_wp2_with fail
        refine (implObj_any _ _ _ ha hb).mono ?_
        rintro e w1 ⟨rfl, hb1⟩
        obtain ⟨hc1, hf1⟩ := bcell hb1
        have hz1 : w.heap.size < w1.heap.size := by have := hb1.size; simp at this; omega
        go_wp2_with fail
        refine (implName_any _ _ hr).mono ?_
        rintro e w1' ⟨rfl, rfl⟩
        go_wp2_with fail
        refine (implObj_any _ _ _ hc hd).mono ?_
        rintro e w2 ⟨rfl, hb2⟩
        obtain ⟨hc2, hf2⟩ := bcell hb2
        have hz2 : w.heap.size < w2.heap.size := by have := hb2.size; omega
        go_wp2_with (go_at_call 67; refine (setOk_any _ _ hs).mono ?_; rintro e w3 ⟨rfl, rfl⟩)
        all_goals go_ret
        all_goals exact ⟨ret_bool (HT.out.trans (by simp [setB, *])).symm, ((Below.refl _ _).alloc (Nat.le_refl _) _).trans ((hb1.mono (by simp)).trans (hb2.mono (by omega)))⟩
      · have h3' : objB c d = false := by simpa using h3
        have HT : Hid (tupB a b r c d s = false) := tupB_no3 h3'
        clear h3
        go_enter Tryz.func43, Tryz.ntmps43
        go_wp2_with fail
        refine (implObj_any _ _ _ ha hb).mono ?_
        rintro e w1 ⟨rfl, hb1⟩
        obtain ⟨hc1, hf1⟩ := bcell hb1
        have hz1 : w.heap.size < w1.heap.size := by have := hb1.size; simp at this; omega
        go_wp2_with fail
        refine (implName_any _ _ hr).mono ?_
        rintro e w1' ⟨rfl, rfl⟩
        go_wp2_with fail
        refine (implObj_any _ _ _ hc hd).mono ?_
        rintro e w2 ⟨rfl, hb2⟩
        go_wp2
        go_ret
        exact ⟨ret_bool HT.out.symm, ((Below.refl _ _).alloc (Nat.le_refl _) _).trans ((hb1.mono (by simp)).trans (hb2.mono (by omega)))⟩
    · have h2' : nameB r = false := by simpa using h2
      have HT : Hid (tupB a b r c d s = false) := tupB_no2 h2'
      clear h2
      go_enter Tryz.func43, Tryz.ntmps43
      go_wp2_with fail
      refine (implObj_any _ _ _ ha hb).mono ?_
      rintro e w1 ⟨rfl, hb1⟩
      obtain ⟨hc1, hf1⟩ := bcell hb1
      go_wp2_with fail
      refine (implName_any _ _ hr).mono ?_
      rintro e w1' ⟨rfl, rfl⟩
      go_wp2
      go_ret
      exact ⟨ret_bool HT.out.symm, ((Below.refl _ _).alloc (Nat.le_refl _) _).trans (hb1.mono (by simp))⟩
  · have h1' : objB a b = false := by simpa using h1
    have HT : Hid (tupB a b r c d s = false) := tupB_no1 h1'
    clear h1
    go_enter Tryz.func43, Tryz.ntmps43
    go_wp2_with fail
    refine (implObj_any _ _ _ ha hb).mono ?_
    rintro e w1 ⟨rfl, hb1⟩
    go_wp2
    go_ret
    exact ⟨ret_bool HT.out.symm, ((Below.refl _ _).alloc (Nat.le_refl _) _).trans (hb1.mono (by simp))⟩

end Go.Proofs.YthicofnjehpalaaGreat
