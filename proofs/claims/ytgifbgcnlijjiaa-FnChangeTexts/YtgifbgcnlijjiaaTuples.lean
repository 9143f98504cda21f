/- Contracts of the functions that look at tuples: each returns what the plain function says, and nothing that was in memory has changed. -/
import Derived.Test.YtgifbgcnlijjiaaObjText
import Derived.Test.YtgifbgcnlijjiaaPlain3
namespace Go.Proofs.Ytgifbgcnlijjiaa
open Go.ChangeShapes Go.WideShapes Go.ChangeAt Go.RowKit
open Pl

theorem setOk_any (s : ByteArray) (w : World) (hs : s.size ≤ maxLen) :
    Calls Try.prog 72 #[.string s] w fun e w' => e = .returned (.bool (setB s)) ∧ w' = w := by
  go_enter Try.func72, Try.ntmps72
  go_wp2_with (go_at_call 71; refine (implName_any _ _ hs).mono ?_; rintro e w' ⟨rfl, rfl⟩)
  all_goals go_ret
  all_goals exact ⟨ret_bool (by simp [setB, *]), rfl⟩

theorem specTup_any (a b r c d s : ByteArray) (w : World) (ha : a.size ≤ maxLen) (hb : b.size ≤ maxLen) (hr : r.size ≤ maxLen) (hc : c.size ≤ maxLen) (hd : d.size ≤ maxLen) (hs : s.size ≤ maxLen) :
    Calls Try.prog 52 #[.agg #[.string a, .string b, .string r, .string c, .string d, .string s]] w fun e w' => e = .returned (.bool (tupB a b r c d s)) ∧ Below w.heap.size w w' := by
  by_cases h1 : objB a b = true
  · by_cases h2 : nameB r = true
    · by_cases h3 : objB c d = true
      · have HT : Hid (tupB a b r c d s = setB s) := tupB_yes h1 h2 h3
        go_enter Try.func52, Try.ntmps52
        go_wp2_with fail
        refine (specObj_any _ _ _ ha hb).mono ?_
        rintro e w1 ⟨rfl, hb1⟩
        obtain ⟨hc1, hf1⟩ := bcell hb1
        have hz1 : w.heap.size < w1.heap.size := by have := hb1.size; simp at this; omega
        go_wp2_with fail
        refine (specName_any _ _ hr).mono ?_
        rintro e w1' ⟨rfl, rfl⟩
        go_wp2_with fail
        refine (specObj_any _ _ _ hc hd).mono ?_
        rintro e w2 ⟨rfl, hb2⟩
        obtain ⟨hc2, hf2⟩ := bcell hb2
        have hz2 : w.heap.size < w2.heap.size := by have := hb2.size; omega
        go_wp2_with (go_at_call 76; refine (specName_any _ _ hs).mono ?_; rintro e w3 ⟨rfl, rfl⟩)
        all_goals go_ret
        all_goals exact ⟨ret_bool (HT.out.trans (by simp [setB, *])).symm, ((Below.refl _ _).alloc (Nat.le_refl _) _).trans ((hb1.mono (by simp)).trans (hb2.mono (by omega)))⟩
      · have h3' : objB c d = false := by simpa using h3
        have HT : Hid (tupB a b r c d s = false) := tupB_no3 h3'
        clear h3
        go_enter Try.func52, Try.ntmps52
        go_wp2_with fail
        refine (specObj_any _ _ _ ha hb).mono ?_
        rintro e w1 ⟨rfl, hb1⟩
        obtain ⟨hc1, hf1⟩ := bcell hb1
        have hz1 : w.heap.size < w1.heap.size := by have := hb1.size; simp at this; omega
        go_wp2_with fail
        refine (specName_any _ _ hr).mono ?_
        rintro e w1' ⟨rfl, rfl⟩
        go_wp2_with fail
        refine (specObj_any _ _ _ hc hd).mono ?_
        rintro e w2 ⟨rfl, hb2⟩
        go_wp2
        go_ret
        exact ⟨ret_bool HT.out.symm, ((Below.refl _ _).alloc (Nat.le_refl _) _).trans ((hb1.mono (by simp)).trans (hb2.mono (by omega)))⟩
    · have h2' : nameB r = false := by simpa using h2
      have HT : Hid (tupB a b r c d s = false) := tupB_no2 h2'
      clear h2
      go_enter Try.func52, Try.ntmps52
      go_wp2_with fail
      refine (specObj_any _ _ _ ha hb).mono ?_
      rintro e w1 ⟨rfl, hb1⟩
      obtain ⟨hc1, hf1⟩ := bcell hb1
      go_wp2_with fail
      refine (specName_any _ _ hr).mono ?_
      rintro e w1' ⟨rfl, rfl⟩
      go_wp2
      go_ret
      exact ⟨ret_bool HT.out.symm, ((Below.refl _ _).alloc (Nat.le_refl _) _).trans (hb1.mono (by simp))⟩
  · have h1' : objB a b = false := by simpa using h1
    have HT : Hid (tupB a b r c d s = false) := tupB_no1 h1'
    clear h1
    go_enter Try.func52, Try.ntmps52
    go_wp2_with fail
    refine (specObj_any _ _ _ ha hb).mono ?_
    rintro e w1 ⟨rfl, hb1⟩
    go_wp2
    go_ret
    exact ⟨ret_bool HT.out.symm, ((Below.refl _ _).alloc (Nat.le_refl _) _).trans (hb1.mono (by simp))⟩

theorem implTup_any (a b r c d s : ByteArray) (w : World) (ha : a.size ≤ maxLen) (hb : b.size ≤ maxLen) (hr : r.size ≤ maxLen) (hc : c.size ≤ maxLen) (hd : d.size ≤ maxLen) (hs : s.size ≤ maxLen) :
    Calls Try.prog 48 #[.agg #[.string a, .string b, .string r, .string c, .string d, .string s]] w fun e w' => e = .returned (.bool (tupB a b r c d s)) ∧ Below w.heap.size w w' := by
  by_cases h1 : objB a b = true
  · by_cases h2 : nameB r = true
    · by_cases h3 : objB c d = true
      · have HT : Hid (tupB a b r c d s = setB s) := tupB_yes h1 h2 h3
        go_enter Try.func48, Try.ntmps48
        go_wp2_with fail
        refine (implObj_any _ _ _ ha hb).mono ?_
        rintro e w1 ⟨rfl, hb1⟩
        obtain ⟨hc1, hf1⟩ := bcell hb1
        have hz1 : w.heap.size < w1.heap.size := by have := hb1.size; simp at this; omega
        go_wp2_with fail
        refine (implName_any _ _ hr).mono ?_
        rintro e w1' ⟨rfl, rfl⟩
        go_wp2_with fail
        refine (implObj_any _ _ _ hc hd).mono ?_
        rintro e w2 ⟨rfl, hb2⟩
        obtain ⟨hc2, hf2⟩ := bcell hb2
        have hz2 : w.heap.size < w2.heap.size := by have := hb2.size; omega
        go_wp2_with (go_at_call 72; refine (setOk_any _ _ hs).mono ?_; rintro e w3 ⟨rfl, rfl⟩)
        all_goals go_ret
        all_goals exact ⟨ret_bool (HT.out.trans (by simp [setB, *])).symm, ((Below.refl _ _).alloc (Nat.le_refl _) _).trans ((hb1.mono (by simp)).trans (hb2.mono (by omega)))⟩
      · have h3' : objB c d = false := by simpa using h3
        have HT : Hid (tupB a b r c d s = false) := tupB_no3 h3'
        clear h3
        go_enter Try.func48, Try.ntmps48
        go_wp2_with fail
        refine (implObj_any _ _ _ ha hb).mono ?_
        rintro e w1 ⟨rfl, hb1⟩
        obtain ⟨hc1, hf1⟩ := bcell hb1
        have hz1 : w.heap.size < w1.heap.size := by have := hb1.size; simp at this; omega
        go_wp2_with fail
        refine (implName_any _ _ hr).mono ?_
        rintro e w1' ⟨rfl, rfl⟩
        go_wp2_with fail
        refine (implObj_any _ _ _ hc hd).mono ?_
        rintro e w2 ⟨rfl, hb2⟩
        go_wp2
        go_ret
        exact ⟨ret_bool HT.out.symm, ((Below.refl _ _).alloc (Nat.le_refl _) _).trans ((hb1.mono (by simp)).trans (hb2.mono (by omega)))⟩
    · have h2' : nameB r = false := by simpa using h2
      have HT : Hid (tupB a b r c d s = false) := tupB_no2 h2'
      clear h2
      go_enter Try.func48, Try.ntmps48
      go_wp2_with fail
      refine (implObj_any _ _ _ ha hb).mono ?_
      rintro e w1 ⟨rfl, hb1⟩
      obtain ⟨hc1, hf1⟩ := bcell hb1
      go_wp2_with fail
      refine (implName_any _ _ hr).mono ?_
      rintro e w1' ⟨rfl, rfl⟩
      go_wp2
      go_ret
      exact ⟨ret_bool HT.out.symm, ((Below.refl _ _).alloc (Nat.le_refl _) _).trans (hb1.mono (by simp))⟩
  · have h1' : objB a b = false := by simpa using h1
    have HT : Hid (tupB a b r c d s = false) := tupB_no1 h1'
    clear h1
    go_enter Try.func48, Try.ntmps48
    go_wp2_with fail
    refine (implObj_any _ _ _ ha hb).mono ?_
    rintro e w1 ⟨rfl, hb1⟩
    go_wp2
    go_ret
    exact ⟨ret_bool HT.out.symm, ((Below.refl _ _).alloc (Nat.le_refl _) _).trans (hb1.mono (by simp))⟩

end Go.Proofs.Ytgifbgcnlijjiaa
