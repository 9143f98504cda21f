/- Contracts of the two functions that write a tuple's text. -/
import Derived.Test.YtgifbgcnlijjiaaTuples
import Derived.Deep.RegionHeld3
import Derived.Deep.DrawnRows
namespace Go.Proofs.Ytgifbgcnlijjiaa
open Go.ChangeShapes Go.WideShapes Go.ChangeAt Go.RowKit
open Pl
attribute [local go_sem ↓] Go.wp_at_zero Go.wp_at_succ

/-- six cells of a block, that the block is there, and that nothing below it has changed: what a call that only makes memory leaves of them -/
theorem keep6 {w W w' : World} {n : Nat} {x0 x1 x2 x3 x4 x5 : Value} (h : W.cell? ⟨n, 0, none⟩ = some x0 ∧ W.cell? ⟨n, 1, none⟩ = some x1 ∧ W.cell? ⟨n, 2, none⟩ = some x2 ∧ W.cell? ⟨n, 3, none⟩ = some x3 ∧ W.cell? ⟨n, 4, none⟩ = some x4 ∧ W.cell? ⟨n, 5, none⟩ = some x5 ∧ n < W.heap.size ∧ Below n w W) (hb : Below W.heap.size W w') : w'.cell? ⟨n, 0, none⟩ = some x0 ∧ w'.cell? ⟨n, 1, none⟩ = some x1 ∧ w'.cell? ⟨n, 2, none⟩ = some x2 ∧ w'.cell? ⟨n, 3, none⟩ = some x3 ∧ w'.cell? ⟨n, 4, none⟩ = some x4 ∧ w'.cell? ⟨n, 5, none⟩ = some x5 ∧ n < w'.heap.size ∧ Below n w w' := by
  obtain ⟨h0, h1, h2, h3, h4, h5, hn, hB⟩ := h
  have hc : ∀ o, w'.cell? ⟨n, o, none⟩ = W.cell? ⟨n, o, none⟩ := fun o => hb.cell (p := ⟨n, o, none⟩) hn
  refine ⟨by rw [hc]; exact h0, by rw [hc]; exact h1, by rw [hc]; exact h2, by rw [hc]; exact h3, by rw [hc]; exact h4, by rw [hc]; exact h5, Nat.lt_of_lt_of_le hn hb.size, hB.trans (hb.mono (Nat.le_of_lt hn))⟩

theorem specTupText_any (a b r c d s : ByteArray) (w : World) (ha : a.size ≤ maxLen) (hb : b.size ≤ maxLen) (hr : r.size ≤ maxLen) (hc : c.size ≤ maxLen) (hd : d.size ≤ maxLen) (hs : s.size ≤ maxLen) :
    Calls Try.prog 41 #[.agg #[.string a, .string b, .string r, .string c, .string d, .string s]] w fun e w' => e = .returned (.string (tupText a b r c d s)) ∧ Below w.heap.size w w' := by
  by_cases hn : tupB a b r c d s = true
  · obtain ⟨h1, h2, h3, h4⟩ := tupB_parts hn
    have hx := objText_size a b
    have hy := objText_size c d
    have hr12 := (nameB_le h2).2
    have hs12 := setB_le h4
    clear h1 h2 h3 h4
    go_enter Try.func41, Try.ntmps41
    go_wp2_with fail
    refine (specTup_any _ _ _ _ _ _ _ ha hb hr hc hd hs).mono ?_
    rintro e w1 ⟨rfl, hb1⟩
    obtain ⟨hc1, hf1⟩ := bcell hb1
    have hz1 : w.heap.size < w1.heap.size := by have := hb1.size; simp at this; omega
    have k : ∀ o v, (w.alloc (.cells #[.string a, .string b, .string r, .string c, .string d, .string s] 27)).cell? ⟨w.heap.size, o, none⟩ = some v → w1.cell? ⟨w.heap.size, o, none⟩ = some v := fun o v h => by rw [hc1 _ _ (by simp)]; exact h
    have k0 := k 0 (.string a) (by simp)
    have k1 := k 1 (.string b) (by simp)
    have k2 := k 2 (.string r) (by simp)
    have k3 := k 3 (.string c) (by simp)
    have k4 := k 4 (.string d) (by simp)
    have k5 := k 5 (.string s) (by simp)
    have HB1 : Below w.heap.size w w1 := ((Below.refl _ _).alloc (Nat.le_refl _) _).trans (hb1.mono (by simp))
    clear k hb1 hc1 hf1
    have q1 : (9223372036854775807 < (objText a b).size + 1) = False := by simp; omega
    have q2 : (9223372036854775807 < (objText a b).size + 1 + r.size) = False := by simp; omega
    have q3 : (9223372036854775807 < (objText a b).size + 1 + r.size + 1) = False := by simp; omega
    have q4 : (9223372036854775807 < (objText a b).size + 1 + r.size + 1 + (objText c d).size) = False := by simp; omega
    go_wp2_with fail
    go_region_held3 (fun w' => w'.cell? ⟨w.heap.size, 0, none⟩ = some (.string a) ∧ w'.cell? ⟨w.heap.size, 1, none⟩ = some (.string b) ∧ w'.cell? ⟨w.heap.size, 2, none⟩ = some (.string r) ∧ w'.cell? ⟨w.heap.size, 3, none⟩ = some (.string c) ∧ w'.cell? ⟨w.heap.size, 4, none⟩ = some (.string d) ∧ w'.cell? ⟨w.heap.size, 5, none⟩ = some (.string s) ∧ w.heap.size < w'.heap.size ∧ Below w.heap.size w w')
      (first | exact keep6 (by assumption) hbx | exact ⟨k0, k1, k2, k3, k4, k5, hz1, HB1.drew⟩)
      (first | (go_at_call 65; refine (specObjText_any _ _ _ (by assumption) (by assumption)).mono ?_; rintro e w' ⟨rfl, hbx⟩))
    rename_i hH
    obtain ⟨g0, g1, g2, g3, g4, g5, gz, gB⟩ := hH
    clear k0 k1 k2 k3 k4 k5 hbx q1 q2 q3 q4 HB1
    by_cases he : s.toList.isEmpty = true
    · have HT : Hid (tupText a b r c d s = _) := tupText_one hn he
      go_wp2
      go_ret
      exact ⟨ret_str HT.out.symm, gB⟩
    · have he' : s.toList.isEmpty = false := by simpa using he
      have HT : Hid (tupText a b r c d s = _) := tupText_two hn he'
      clear he
      go_wp2
      go_ret
      exact ⟨ret_str HT.out.symm, gB⟩
  · have hn' : tupB a b r c d s = false := by simpa using hn
    have HT : Hid (tupText a b r c d s = ⟨#[]⟩) := tupText_no hn'
    clear hn
    go_enter Try.func41, Try.ntmps41
    go_wp2_with fail
    refine (specTup_any _ _ _ _ _ _ _ ha hb hr hc hd hs).mono ?_
    rintro e w1 ⟨rfl, hb1⟩
    go_wp2
    go_ret
    exact ⟨ret_str HT.out.symm, ((Below.refl _ _).alloc (Nat.le_refl _) _).trans (hb1.mono (by simp))⟩

theorem implTupText_any (a b r c d s : ByteArray) (w : World) (ha : a.size ≤ maxLen) (hb : b.size ≤ maxLen) (hr : r.size ≤ maxLen) (hc : c.size ≤ maxLen) (hd : d.size ≤ maxLen) (hs : s.size ≤ maxLen) :
    Calls Try.prog 34 #[.agg #[.string a, .string b, .string r, .string c, .string d, .string s]] w fun e w' => e = .returned (.string (tupText a b r c d s)) ∧ Below w.heap.size w w' := by
  by_cases hn : tupB a b r c d s = true
  · obtain ⟨h1, h2, h3, h4⟩ := tupB_parts hn
    have hx := objText_size a b
    have hy := objText_size c d
    have hr12 := (nameB_le h2).2
    have hs12 := setB_le h4
    clear h1 h2 h3 h4
    go_enter Try.func34, Try.ntmps34
    go_wp2_with fail
    refine (implTup_any _ _ _ _ _ _ _ ha hb hr hc hd hs).mono ?_
    rintro e w1 ⟨rfl, hb1⟩
    obtain ⟨hc1, hf1⟩ := bcell hb1
    have hz1 : w.heap.size < w1.heap.size := by have := hb1.size; simp at this; omega
    have k : ∀ o v, (w.alloc (.cells #[.string a, .string b, .string r, .string c, .string d, .string s] 27)).cell? ⟨w.heap.size, o, none⟩ = some v → w1.cell? ⟨w.heap.size, o, none⟩ = some v := fun o v h => by rw [hc1 _ _ (by simp)]; exact h
    have k0 := k 0 (.string a) (by simp)
    have k1 := k 1 (.string b) (by simp)
    have k2 := k 2 (.string r) (by simp)
    have k3 := k 3 (.string c) (by simp)
    have k4 := k 4 (.string d) (by simp)
    have k5 := k 5 (.string s) (by simp)
    have HB1 : Below w.heap.size w w1 := ((Below.refl _ _).alloc (Nat.le_refl _) _).trans (hb1.mono (by simp))
    clear k hb1 hc1 hf1
    have q1 : (9223372036854775807 < (objText a b).size + 1) = False := by simp; omega
    have q2 : (9223372036854775807 < (objText a b).size + 1 + r.size) = False := by simp; omega
    have q3 : (9223372036854775807 < (objText a b).size + 1 + r.size + 1) = False := by simp; omega
    have q4 : (9223372036854775807 < (objText a b).size + 1 + r.size + 1 + (objText c d).size) = False := by simp; omega
    go_wp2_with fail
    go_region_held3 (fun w' => w'.cell? ⟨w.heap.size, 0, none⟩ = some (.string a) ∧ w'.cell? ⟨w.heap.size, 1, none⟩ = some (.string b) ∧ w'.cell? ⟨w.heap.size, 2, none⟩ = some (.string r) ∧ w'.cell? ⟨w.heap.size, 3, none⟩ = some (.string c) ∧ w'.cell? ⟨w.heap.size, 4, none⟩ = some (.string d) ∧ w'.cell? ⟨w.heap.size, 5, none⟩ = some (.string s) ∧ w.heap.size < w'.heap.size ∧ Below w.heap.size w w')
      (first | exact keep6 (by assumption) hbx | exact ⟨k0, k1, k2, k3, k4, k5, hz1, HB1.drew⟩)
      (first | (go_at_call 61; refine (implObjText_any _ _ _ (by assumption) (by assumption)).mono ?_; rintro e w' ⟨rfl, hbx⟩))
    rename_i hH
    obtain ⟨g0, g1, g2, g3, g4, g5, gz, gB⟩ := hH
    clear k0 k1 k2 k3 k4 k5 hbx q1 q2 q3 q4 HB1
    by_cases he : s.toList.isEmpty = true
    · have HT : Hid (tupText a b r c d s = _) := tupText_one hn he
      go_wp2
      go_ret
      exact ⟨ret_str HT.out.symm, gB⟩
    · have he' : s.toList.isEmpty = false := by simpa using he
      have HT : Hid (tupText a b r c d s = _) := tupText_two hn he'
      clear he
      go_wp2
      go_ret
      exact ⟨ret_str (HT.out.trans (by simp only [ByteArray.append_assoc])).symm, gB⟩
  · have hn' : tupB a b r c d s = false := by simpa using hn
    have HT : Hid (tupText a b r c d s = ⟨#[]⟩) := tupText_no hn'
    clear hn
    go_enter Try.func34, Try.ntmps34
    go_wp2_with fail
    refine (implTup_any _ _ _ _ _ _ _ ha hb hr hc hd hs).mono ?_
    rintro e w1 ⟨rfl, hb1⟩
    go_wp2
    go_ret
    exact ⟨ret_str HT.out.symm, ((Below.refl _ _).alloc (Nat.le_refl _) _).trans (hb1.mono (by simp))⟩

end Go.Proofs.Ytgifbgcnlijjiaa
