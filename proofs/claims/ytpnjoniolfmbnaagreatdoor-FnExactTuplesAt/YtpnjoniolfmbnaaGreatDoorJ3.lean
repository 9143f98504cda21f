/- The contract of the law's helper that copies a slice of tuples into the program's type: a new row. -/
import Derived.Test.YtpnjoniolfmbnaaGreatDoorJ2
import Derived.Deep.RegionHeld3
import Derived.Deep.DrawnRows
namespace Go.Proofs.YtpnjoniolfmbnaaGreatDoor
open Go.ChangeShapes Go.WideShapes Go.ChangeAt Go.RowKit
open Pl

/-- a new row of tuples, the first k of which are filled in -/
structure Filling (w wr : World) (g : Nat) (ts : List Tp) (k : Nat) : Prop where
  below : Below w.heap.size w wr
  ge : w.heap.size ≤ g
  lt : g < wr.heap.size
  done : ∀ (i : Nat) (h : i < ts.length), i < k → At6 wr g (0 + i * 6) ts[i]
  there : ∀ j, j < ts.length * 6 → (wr.cell? ⟨g, j, none⟩).isSome = true
  free : ∀ j, wr.frozen? ⟨g, j, none⟩ = false

theorem Filling.later {w wr w1 : World} {g : Nat} {ts : List Tp} {k : Nat} (h : Filling w wr g ts k) (hb : Below wr.heap.size wr w1) : Filling w w1 g ts k where
  below := h.below.trans (hb.mono h.below.size)
  ge := h.ge
  lt := Nat.lt_of_lt_of_le h.lt hb.size
  done i hi hk := (h.done i hi hk).same fun o => hb.cell (p := ⟨g, o, none⟩) h.lt
  there j hj := by rw [hb.cell (p := ⟨g, j, none⟩) h.lt]; exact h.there j hj
  free j := by rw [hb.frozen (p := ⟨g, j, none⟩) h.lt]; exact h.free j

theorem Filling.put {w wr : World} {g : Nat} {ts : List Tp} {k : Nat} (h : Filling w wr g ts k) (hk : k < ts.length) : Filling w (put6 wr g (k * 6) ts[k]) g ts (k + 1) where
  below := put6_below h.below h.ge
  ge := h.ge
  lt := by rw [put6_size]; exact h.lt
  done i hi hik := by
    by_cases e : i = k
    · subst e
      rw [Nat.zero_add]
      exact put6_at _ (fun j hj => h.there _ (by omega))
    · obtain ⟨a0, a1, a2, a3, a4, a5⟩ := h.done i hi (by omega)
      refine ⟨?_, ?_, ?_, ?_, ?_, ?_⟩ <;> (rw [put6_far _ _ _ _ _ (by omega)]; assumption)
  there j hj := by
    by_cases hin : j < k * 6 ∨ k * 6 + 6 ≤ j
    · rw [put6_far _ _ _ _ _ hin]; exact h.there j hj
    · obtain ⟨a0, a1, a2, a3, a4, a5⟩ := put6_at (w := wr) (g := g) (o := k * 6) ts[k] (fun j hj => h.there _ (by omega))
      have hj6 : j = k * 6 ∨ j = k * 6 + 1 ∨ j = k * 6 + 2 ∨ j = k * 6 + 3 ∨ j = k * 6 + 4 ∨ j = k * 6 + 5 := by omega
      rcases hj6 with e | e | e | e | e | e
      · rw [e, a0]; rfl
      · rw [e, a1]; rfl
      · rw [e, a2]; rfl
      · rw [e, a3]; rfl
      · rw [e, a4]; rfl
      · rw [e, a5]; rfl
  free j := by rw [put6_frozen]; exact h.free j

theorem Filling.row {w w' : World} {g : Nat} {ts : List Tp} (h : Filling w w' g ts ts.length) : Row6 w' g 0 ts := fun i hi => h.done i hi hi
theorem Filling.sl {w w' : World} {g : Nat} {ts : List Tp} (h : Filling w w' g ts ts.length) : Sl w' (some ⟨g, 0, none⟩) ts := .inr ⟨g, 0, rfl, h.lt, h.row⟩

end Go.Proofs.YtpnjoniolfmbnaaGreatDoor

/- Contracts of the two functions that write a tuple's text. -/
namespace Go.Proofs.YtpnjoniolfmbnaaGreatDoor
open Go.ChangeShapes Go.WideShapes Go.ChangeAt Go.RowKit
open Pl
attribute [local go_sem ↓] Go.wp_at_zero Go.wp_at_succ

/-- six cells of a block, that the block is there, and that nothing below it has changed: what a call that only makes memory leaves of them -/
theorem keep6 {w W w' : World} {n : Nat} {x0 x1 x2 x3 x4 x5 : Value} (h : W.cell? ⟨n, 0, none⟩ = some x0 ∧ W.cell? ⟨n, 1, none⟩ = some x1 ∧ W.cell? ⟨n, 2, none⟩ = some x2 ∧ W.cell? ⟨n, 3, none⟩ = some x3 ∧ W.cell? ⟨n, 4, none⟩ = some x4 ∧ W.cell? ⟨n, 5, none⟩ = some x5 ∧ n < W.heap.size ∧ Below n w W) (hb : Below W.heap.size W w') : w'.cell? ⟨n, 0, none⟩ = some x0 ∧ w'.cell? ⟨n, 1, none⟩ = some x1 ∧ w'.cell? ⟨n, 2, none⟩ = some x2 ∧ w'.cell? ⟨n, 3, none⟩ = some x3 ∧ w'.cell? ⟨n, 4, none⟩ = some x4 ∧ w'.cell? ⟨n, 5, none⟩ = some x5 ∧ n < w'.heap.size ∧ Below n w w' := by
  obtain ⟨h0, h1, h2, h3, h4, h5, hn, hB⟩ := h
  have hc : ∀ o, w'.cell? ⟨n, o, none⟩ = W.cell? ⟨n, o, none⟩ := fun o => hb.cell (p := ⟨n, o, none⟩) hn
  refine ⟨by rw [hc]; exact h0, by rw [hc]; exact h1, by rw [hc]; exact h2, by rw [hc]; exact h3, by rw [hc]; exact h4, by rw [hc]; exact h5, Nat.lt_of_lt_of_le hn hb.size, hB.trans (hb.mono (Nat.le_of_lt hn))⟩

theorem specTupText_any (a b r c d s : ByteArray) (w : World) (ha : a.size ≤ maxLen) (hb : b.size ≤ maxLen) (hr : r.size ≤ maxLen) (hc : c.size ≤ maxLen) (hd : d.size ≤ maxLen) (hs : s.size ≤ maxLen) :
    Calls Tryz.prog 136 #[.agg #[.string a, .string b, .string r, .string c, .string d, .string s]] w fun e w' => e = .returned (.string (tupText a b r c d s)) ∧ Below w.heap.size w w' := by
  by_cases hn : tupB a b r c d s = true
  · obtain ⟨h1, h2, h3, h4⟩ := tupB_parts hn
    have hx := objText_size a b
    have hy := objText_size c d
    have hr12 := (nameB_le h2).2
    have hs12 := setB_le h4
    clear h1 h2 h3 h4
    go_enter Tryz.func136, Tryz.ntmps136
    go_wp2_with fail
    refine (specTup_any _ _ _ _ _ _ _ ha hb hr hc hd hs).mono ?_
    rintro e w1 ⟨rfl, hb1⟩
    obtain ⟨hc1, hf1⟩ := bcell hb1
    have hz1 : w.heap.size < w1.heap.size := by have := hb1.size; simp at this; omega
    have k : ∀ o v, (w.alloc (.cells #[.string a, .string b, .string r, .string c, .string d, .string s] 29)).cell? ⟨w.heap.size, o, none⟩ = some v → w1.cell? ⟨w.heap.size, o, none⟩ = some v := fun o v h => by rw [hc1 _ _ (by simp)]; exact h
    have k0 := k 0 (.string a) (by simp)
    have k1 := k 1 (.string b) (by simp)
    have k2 := k 2 (.string r) (by simp)
    have k3 := k 3 (.string c) (by simp)
    have k4 := k 4 (.string d) (by simp)
    have k5 := k 5 (.string s) (by simp)
    have HB1 : Below w.heap.size w w1 := ((Below.refl _ _).alloc (Nat.le_refl _) _).trans (hb1.mono (by simp))
    clear k hb1 hc1 hf1
    have q1 : (9223372036854775807 < (objText a b).size + 1) = False := by simp; omega
    have q2 : (9223372036854775807 < (objText a b).size + 1 + r.size) = False := by simp; omega
    have q3 : (9223372036854775807 < (objText a b).size + 1 + r.size + 1) = False := by simp; omega
    have q4 : (9223372036854775807 < (objText a b).size + 1 + r.size + 1 + (objText c d).size) = False := by simp; omega
    go_wp2_with fail
    go_region_held3 (fun w' => w'.cell? ⟨w.heap.size, 0, none⟩ = some (.string a) ∧ w'.cell? ⟨w.heap.size, 1, none⟩ = some (.string b) ∧ w'.cell? ⟨w.heap.size, 2, none⟩ = some (.string r) ∧ w'.cell? ⟨w.heap.size, 3, none⟩ = some (.string c) ∧ w'.cell? ⟨w.heap.size, 4, none⟩ = some (.string d) ∧ w'.cell? ⟨w.heap.size, 5, none⟩ = some (.string s) ∧ w.heap.size < w'.heap.size ∧ Below w.heap.size w w')
      (first | exact keep6 (by assumption) hbx | exact ⟨k0, k1, k2, k3, k4, k5, hz1, HB1.drew⟩)
      (first | (go_at_call 158; refine (specObjText_any _ _ _ (by assumption) (by assumption)).mono ?_; rintro e w' ⟨rfl, hbx⟩))
    rename_i hH
    obtain ⟨g0, g1, g2, g3, g4, g5, gz, gB⟩ := hH
    clear k0 k1 k2 k3 k4 k5 hbx q1 q2 q3 q4 HB1
    by_cases he : s.toList.isEmpty = true
    · have HT : Hid (tupText a b r c d s = _) := tupText_one hn he
      go_wp2
      go_ret
      exact ⟨ret_str HT.out.symm, gB⟩
    · have he' : s.toList.isEmpty = false := by simpa using he
      have HT : Hid (tupText a b r c d s = _) := tupText_two hn he'
      clear he
      go_wp2
      go_ret
      exact ⟨ret_str HT.out.symm, gB⟩
  · have hn' : tupB a b r c d s = false := by simpa using hn
    have HT : Hid (tupText a b r c d s = ⟨#[]⟩) := tupText_no hn'
    clear hn
    go_enter Tryz.func136, Tryz.ntmps136
    go_wp2_with fail
    refine (specTup_any _ _ _ _ _ _ _ ha hb hr hc hd hs).mono ?_
    rintro e w1 ⟨rfl, hb1⟩
    go_wp2
    go_ret
    exact ⟨ret_str HT.out.symm, ((Below.refl _ _).alloc (Nat.le_refl _) _).trans (hb1.mono (by simp))⟩

theorem implTupText_any (a b r c d s : ByteArray) (w : World) (ha : a.size ≤ maxLen) (hb : b.size ≤ maxLen) (hr : r.size ≤ maxLen) (hc : c.size ≤ maxLen) (hd : d.size ≤ maxLen) (hs : s.size ≤ maxLen) :
    Calls Tryz.prog 129 #[.agg #[.string a, .string b, .string r, .string c, .string d, .string s]] w fun e w' => e = .returned (.string (tupText a b r c d s)) ∧ Below w.heap.size w w' := by
  by_cases hn : tupB a b r c d s = true
  · obtain ⟨h1, h2, h3, h4⟩ := tupB_parts hn
    have hx := objText_size a b
    have hy := objText_size c d
    have hr12 := (nameB_le h2).2
    have hs12 := setB_le h4
    clear h1 h2 h3 h4
    go_enter Tryz.func129, Tryz.ntmps129
    go_wp2_with fail
    refine (implTup_any _ _ _ _ _ _ _ ha hb hr hc hd hs).mono ?_
    rintro e w1 ⟨rfl, hb1⟩
    obtain ⟨hc1, hf1⟩ := bcell hb1
    have hz1 : w.heap.size < w1.heap.size := by have := hb1.size; simp at this; omega
    have k : ∀ o v, (w.alloc (.cells #[.string a, .string b, .string r, .string c, .string d, .string s] 29)).cell? ⟨w.heap.size, o, none⟩ = some v → w1.cell? ⟨w.heap.size, o, none⟩ = some v := fun o v h => by rw [hc1 _ _ (by simp)]; exact h
    have k0 := k 0 (.string a) (by simp)
    have k1 := k 1 (.string b) (by simp)
    have k2 := k 2 (.string r) (by simp)
    have k3 := k 3 (.string c) (by simp)
    have k4 := k 4 (.string d) (by simp)
    have k5 := k 5 (.string s) (by simp)
    have HB1 : Below w.heap.size w w1 := ((Below.refl _ _).alloc (Nat.le_refl _) _).trans (hb1.mono (by simp))
    clear k hb1 hc1 hf1
    have q1 : (9223372036854775807 < (objText a b).size + 1) = False := by simp; omega
    have q2 : (9223372036854775807 < (objText a b).size + 1 + r.size) = False := by simp; omega
    have q3 : (9223372036854775807 < (objText a b).size + 1 + r.size + 1) = False := by simp; omega
    have q4 : (9223372036854775807 < (objText a b).size + 1 + r.size + 1 + (objText c d).size) = False := by simp; omega
    go_wp2_with fail
    go_region_held3 (fun w' => w'.cell? ⟨w.heap.size, 0, none⟩ = some (.string a) ∧ w'.cell? ⟨w.heap.size, 1, none⟩ = some (.string b) ∧ w'.cell? ⟨w.heap.size, 2, none⟩ = some (.string r) ∧ w'.cell? ⟨w.heap.size, 3, none⟩ = some (.string c) ∧ w'.cell? ⟨w.heap.size, 4, none⟩ = some (.string d) ∧ w'.cell? ⟨w.heap.size, 5, none⟩ = some (.string s) ∧ w.heap.size < w'.heap.size ∧ Below w.heap.size w w')
      (first | exact keep6 (by assumption) hbx | exact ⟨k0, k1, k2, k3, k4, k5, hz1, HB1.drew⟩)
      (first | (go_at_call 154; refine (implObjText_any _ _ _ (by assumption) (by assumption)).mono ?_; rintro e w' ⟨rfl, hbx⟩))
    rename_i hH
    obtain ⟨g0, g1, g2, g3, g4, g5, gz, gB⟩ := hH
    clear k0 k1 k2 k3 k4 k5 hbx q1 q2 q3 q4 HB1
    by_cases he : s.toList.isEmpty = true
    · have HT : Hid (tupText a b r c d s = _) := tupText_one hn he
      go_wp2
      go_ret
      exact ⟨ret_str HT.out.symm, gB⟩
    · have he' : s.toList.isEmpty = false := by simpa using he
      have HT : Hid (tupText a b r c d s = _) := tupText_two hn he'
      clear he
      go_wp2
      go_ret
      exact ⟨ret_str (HT.out.trans (by simp only [ByteArray.append_assoc])).symm, gB⟩
  · have hn' : tupB a b r c d s = false := by simpa using hn
    have HT : Hid (tupText a b r c d s = ⟨#[]⟩) := tupText_no hn'
    clear hn
    go_enter Tryz.func129, Tryz.ntmps129
    go_wp2_with fail
    refine (implTup_any _ _ _ _ _ _ _ ha hb hr hc hd hs).mono ?_
    rintro e w1 ⟨rfl, hb1⟩
    go_wp2
    go_ret
    exact ⟨ret_str HT.out.symm, ((Below.refl _ _).alloc (Nat.le_refl _) _).trans (hb1.mono (by simp))⟩

end Go.Proofs.YtpnjoniolfmbnaaGreatDoor
