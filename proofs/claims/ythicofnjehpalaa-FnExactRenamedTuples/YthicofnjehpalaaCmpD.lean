/- The program's comparison of two tuples makes memory and draws, and takes neither back. -/
import Derived.Test.YthicofnjehpalaaAhead
import Derived.Sort.Grow
import Derived.Deep.RegionHeld3
import Derived.Deep.DrawnRows
namespace Go.Proofs.Ythicofnjehpalaa
open Go.ChangeShapes Go.WideShapes Go.ChangeAt Go.RowKit
open Pl
attribute [local go_sem ↓] Go.wp_at_zero Go.wp_at_succ

/-- nothing below B has changed, and no draw is taken back -/
structure BelowD (B : Nat) (w w' : World) : Prop where
  b : Below B w w'
  d : w.drawn ≤ w'.drawn
theorem BelowD.size {B : Nat} {w w' : World} (h : BelowD B w w') : w.heap.size ≤ w'.heap.size := h.b.size
theorem BelowD.refl (B : Nat) (w : World) : BelowD B w w := ⟨Below.refl B w, Nat.le_refl _⟩
theorem BelowD.trans {B : Nat} {a b c : World} (h : BelowD B a b) (k : BelowD B b c) : BelowD B a c := ⟨h.b.trans k.b, Nat.le_trans h.d k.d⟩
theorem BelowD.mono {B B' : Nat} {w w' : World} (h : BelowD B w w') (hB : B' ≤ B) : BelowD B' w w' := ⟨h.b.mono hB, h.d⟩
theorem BelowD.drew {B : Nat} {a w : World} (h : BelowD B a w) : BelowD B a w.drew := ⟨h.b.drew, Nat.le_trans h.d (Nat.le_succ _)⟩
theorem BelowD.alloc {B : Nat} {a w : World} (h : BelowD B a w) (hB : B ≤ w.heap.size) (o : Obj) : BelowD B a (w.alloc o) := ⟨h.b.alloc hB o, h.d⟩
theorem BelowD.cell {B : Nat} {w w' : World} (h : BelowD B w w') {p : Addr} (hp : p.block < B) : w'.cell? p = w.cell? p := h.b.cell hp
theorem BelowD.frozen {B : Nat} {w w' : World} (h : BelowD B w w') {p : Addr} (hp : p.block < B) : w'.frozen? p = w.frozen? p := h.b.frozen hp
/-- such a world is the old one, so many draws on, with blocks behind it -/
theorem BelowD.grew {w w' : World} (h : BelowD w.heap.size w w') : ∃ q os, w' = Go.Sort.grow (w.drewN q) os := by
  obtain ⟨⟨h1, h2, h3, h4, h5⟩, h6⟩ := h
  refine ⟨w'.drawn - w.drawn, w'.heap.extract w.heap.size w'.heap.size, ?_⟩
  obtain ⟨hp, tp, dr, os, ou⟩ := w'
  simp only at h1 h2 h3 h4 h5 h6
  subst h1 h2 h3
  simp only [Go.Sort.grow, World.drewN, World.mk.injEq, true_and, and_true]
  refine ⟨?_, by omega⟩
  apply Array.ext
  · simp; omega
  · intro i hi hj
    by_cases hlt : i < w.heap.size
    · have := h5 i hlt
      rw [Array.getElem?_eq_getElem hi, Array.getElem?_eq_getElem hlt] at this
      injection this with this
      rw [this, Array.getElem_append_left hlt]
    · rw [Array.getElem_append_right (by omega)]
      simp
      congr 1
      omega

theorem bcellD {W w1 : World} (hb : BelowD W.heap.size W w1) : (∀ b o, b < W.heap.size → w1.cell? ⟨b, o, none⟩ = W.cell? ⟨b, o, none⟩) ∧ (∀ b o, b < W.heap.size → w1.frozen? ⟨b, o, none⟩ = W.frozen? ⟨b, o, none⟩) :=
  ⟨fun b o h => hb.cell (p := ⟨b, o, none⟩) h, fun b o h => hb.frozen (p := ⟨b, o, none⟩) h⟩
theorem implObj_anyD (t i : ByteArray) (w : World) (ht : t.size ≤ maxLen) (hi : i.size ≤ maxLen) :
    Calls Try.prog 37 #[.agg #[.string t, .string i]] w fun e w' => e = .returned (.bool (objB t i)) ∧ BelowD w.heap.size w w' := by
  by_cases hn : nameB t = true
  all_goals
    go_enter Try.func37, Try.ntmps37
    go_wp2_with (first | (go_at_call 18; refine (implName_any _ _ ht).mono ?_; rintro e w' ⟨rfl, rfl⟩) | (go_at_call 46; refine (implId_any _ _ hi).mono ?_; rintro e w' ⟨rfl, rfl⟩))
    go_ret
    exact ⟨ret_bool (by simp [objB, hn]), (BelowD.refl _ _).alloc (Nat.le_refl _) _⟩
theorem implObjText_anyD (t i : ByteArray) (w : World) (ht : t.size ≤ maxLen) (hi : i.size ≤ maxLen) :
    Calls Try.prog 51 #[.agg #[.string t, .string i]] w fun e w' => e = .returned (.string (objText t i)) ∧ BelowD w.heap.size w w' := by
  by_cases hn : objB t i = true
  · obtain ⟨h1, h2⟩ := objB_le hn
    have HT : Hid (objText t i = t ++ ⟨#[58]⟩ ++ i) := objText_yes hn
    go_enter Try.func51, Try.ntmps51
    go_wp2_with (go_at_call 37; refine (implObj_anyD _ _ _ ht hi).mono ?_; rintro e w' ⟨rfl, hb⟩; obtain ⟨hc, hf⟩ := bcellD hb)
    go_ret
    exact ⟨ret_str HT.out.symm, ((BelowD.refl _ _).alloc (Nat.le_refl _) _).trans (hb.mono (by simp))⟩
  · have hn' : objB t i = false := by simpa using hn
    have HT : Hid (objText t i = ⟨#[]⟩) := objText_no hn'
    clear hn
    go_enter Try.func51, Try.ntmps51
    go_wp2_with (go_at_call 37; refine (implObj_anyD _ _ _ ht hi).mono ?_; rintro e w' ⟨rfl, hb⟩; obtain ⟨hc, hf⟩ := bcellD hb)
    go_ret
    exact ⟨ret_str HT.out.symm, ((BelowD.refl _ _).alloc (Nat.le_refl _) _).trans (hb.mono (by simp))⟩
theorem implTup_anyD (a b r c d s : ByteArray) (w : World) (ha : a.size ≤ maxLen) (hb : b.size ≤ maxLen) (hr : r.size ≤ maxLen) (hc : c.size ≤ maxLen) (hd : d.size ≤ maxLen) (hs : s.size ≤ maxLen) :
    Calls Try.prog 27 #[.agg #[.string a, .string b, .string r, .string c, .string d, .string s]] w fun e w' => e = .returned (.bool (tupB a b r c d s)) ∧ BelowD w.heap.size w w' := by
  by_cases h1 : objB a b = true
  · by_cases h2 : nameB r = true
    · by_cases h3 : objB c d = true
      · have HT : Hid (tupB a b r c d s = setB s) := tupB_yes h1 h2 h3
        go_enter Try.func27, Try.ntmps27
        go_wp2_with fail
        refine (implObj_anyD _ _ _ ha hb).mono ?_
        rintro e w1 ⟨rfl, hb1⟩
        obtain ⟨hc1, hf1⟩ := bcellD hb1
        have hz1 : w.heap.size < w1.heap.size := by have := hb1.size; simp at this; omega
        go_wp2_with fail
        refine (implName_any _ _ hr).mono ?_
        rintro e w1' ⟨rfl, rfl⟩
        go_wp2_with fail
        refine (implObj_anyD _ _ _ hc hd).mono ?_
        rintro e w2 ⟨rfl, hb2⟩
        obtain ⟨hc2, hf2⟩ := bcellD hb2
        have hz2 : w.heap.size < w2.heap.size := by have := hb2.size; omega
        go_wp2_with (go_at_call 38; refine (setOk_any _ _ hs).mono ?_; rintro e w3 ⟨rfl, rfl⟩)
        all_goals go_ret
        all_goals exact ⟨ret_bool (HT.out.trans (by simp [setB, *])).symm, ((BelowD.refl _ _).alloc (Nat.le_refl _) _).trans ((hb1.mono (by simp)).trans (hb2.mono (by omega)))⟩
      · have h3' : objB c d = false := by simpa using h3
        have HT : Hid (tupB a b r c d s = false) := tupB_no3 h3'
        clear h3
        go_enter Try.func27, Try.ntmps27
        go_wp2_with fail
        refine (implObj_anyD _ _ _ ha hb).mono ?_
        rintro e w1 ⟨rfl, hb1⟩
        obtain ⟨hc1, hf1⟩ := bcellD hb1
        have hz1 : w.heap.size < w1.heap.size := by have := hb1.size; simp at this; omega
        go_wp2_with fail
        refine (implName_any _ _ hr).mono ?_
        rintro e w1' ⟨rfl, rfl⟩
        go_wp2_with fail
        refine (implObj_anyD _ _ _ hc hd).mono ?_
        rintro e w2 ⟨rfl, hb2⟩
        go_wp2
        go_ret
        exact ⟨ret_bool HT.out.symm, ((BelowD.refl _ _).alloc (Nat.le_refl _) _).trans ((hb1.mono (by simp)).trans (hb2.mono (by omega)))⟩
    · have h2' : nameB r = false := by simpa using h2
      have HT : Hid (tupB a b r c d s = false) := tupB_no2 h2'
      clear h2
      go_enter Try.func27, Try.ntmps27
      go_wp2_with fail
      refine (implObj_anyD _ _ _ ha hb).mono ?_
      rintro e w1 ⟨rfl, hb1⟩
      obtain ⟨hc1, hf1⟩ := bcellD hb1
      go_wp2_with fail
      refine (implName_any _ _ hr).mono ?_
      rintro e w1' ⟨rfl, rfl⟩
      go_wp2
      go_ret
      exact ⟨ret_bool HT.out.symm, ((BelowD.refl _ _).alloc (Nat.le_refl _) _).trans (hb1.mono (by simp))⟩
  · have h1' : objB a b = false := by simpa using h1
    have HT : Hid (tupB a b r c d s = false) := tupB_no1 h1'
    clear h1
    go_enter Try.func27, Try.ntmps27
    go_wp2_with fail
    refine (implObj_anyD _ _ _ ha hb).mono ?_
    rintro e w1 ⟨rfl, hb1⟩
    go_wp2
    go_ret
    exact ⟨ret_bool HT.out.symm, ((BelowD.refl _ _).alloc (Nat.le_refl _) _).trans (hb1.mono (by simp))⟩
theorem keep6D {w W w' : World} {n : Nat} {x0 x1 x2 x3 x4 x5 : Value} (h : W.cell? ⟨n, 0, none⟩ = some x0 ∧ W.cell? ⟨n, 1, none⟩ = some x1 ∧ W.cell? ⟨n, 2, none⟩ = some x2 ∧ W.cell? ⟨n, 3, none⟩ = some x3 ∧ W.cell? ⟨n, 4, none⟩ = some x4 ∧ W.cell? ⟨n, 5, none⟩ = some x5 ∧ n < W.heap.size ∧ BelowD n w W) (hb : BelowD W.heap.size W w') : w'.cell? ⟨n, 0, none⟩ = some x0 ∧ w'.cell? ⟨n, 1, none⟩ = some x1 ∧ w'.cell? ⟨n, 2, none⟩ = some x2 ∧ w'.cell? ⟨n, 3, none⟩ = some x3 ∧ w'.cell? ⟨n, 4, none⟩ = some x4 ∧ w'.cell? ⟨n, 5, none⟩ = some x5 ∧ n < w'.heap.size ∧ BelowD n w w' := by
  obtain ⟨h0, h1, h2, h3, h4, h5, hn, hB⟩ := h
  have hc : ∀ o, w'.cell? ⟨n, o, none⟩ = W.cell? ⟨n, o, none⟩ := fun o => hb.cell (p := ⟨n, o, none⟩) hn
  refine ⟨by rw [hc]; exact h0, by rw [hc]; exact h1, by rw [hc]; exact h2, by rw [hc]; exact h3, by rw [hc]; exact h4, by rw [hc]; exact h5, Nat.lt_of_lt_of_le hn hb.size, hB.trans (hb.mono (Nat.le_of_lt hn))⟩
theorem implTupText_anyD (a b r c d s : ByteArray) (w : World) (ha : a.size ≤ maxLen) (hb : b.size ≤ maxLen) (hr : r.size ≤ maxLen) (hc : c.size ≤ maxLen) (hd : d.size ≤ maxLen) (hs : s.size ≤ maxLen) :
    Calls Try.prog 43 #[.agg #[.string a, .string b, .string r, .string c, .string d, .string s]] w fun e w' => e = .returned (.string (tupText a b r c d s)) ∧ BelowD w.heap.size w w' := by
  by_cases hn : tupB a b r c d s = true
  · obtain ⟨h1, h2, h3, h4⟩ := tupB_parts hn
    have hx := objText_size a b
    have hy := objText_size c d
    have hr12 := (nameB_le h2).2
    have hs12 := setB_le h4
    clear h1 h2 h3 h4
    go_enter Try.func43, Try.ntmps43
    go_wp2_with fail
    refine (implTup_anyD _ _ _ _ _ _ _ ha hb hr hc hd hs).mono ?_
    rintro e w1 ⟨rfl, hb1⟩
    obtain ⟨hc1, hf1⟩ := bcellD hb1
    have hz1 : w.heap.size < w1.heap.size := by have := hb1.size; simp at this; omega
    have k : ∀ o v, (w.alloc (.cells #[.string a, .string b, .string r, .string c, .string d, .string s] 39)).cell? ⟨w.heap.size, o, none⟩ = some v → w1.cell? ⟨w.heap.size, o, none⟩ = some v := fun o v h => by rw [hc1 _ _ (by simp)]; exact h
    have k0 := k 0 (.string a) (by simp)
    have k1 := k 1 (.string b) (by simp)
    have k2 := k 2 (.string r) (by simp)
    have k3 := k 3 (.string c) (by simp)
    have k4 := k 4 (.string d) (by simp)
    have k5 := k 5 (.string s) (by simp)
    have HB1 : BelowD w.heap.size w w1 := ((BelowD.refl _ _).alloc (Nat.le_refl _) _).trans (hb1.mono (by simp))
    clear k hb1 hc1 hf1
    have q1 : (9223372036854775807 < (objText a b).size + 1) = False := by simp; omega
    have q2 : (9223372036854775807 < (objText a b).size + 1 + r.size) = False := by simp; omega
    have q3 : (9223372036854775807 < (objText a b).size + 1 + r.size + 1) = False := by simp; omega
    have q4 : (9223372036854775807 < (objText a b).size + 1 + r.size + 1 + (objText c d).size) = False := by simp; omega
    go_wp2_with fail
    go_region_held3 (fun w' => w'.cell? ⟨w.heap.size, 0, none⟩ = some (.string a) ∧ w'.cell? ⟨w.heap.size, 1, none⟩ = some (.string b) ∧ w'.cell? ⟨w.heap.size, 2, none⟩ = some (.string r) ∧ w'.cell? ⟨w.heap.size, 3, none⟩ = some (.string c) ∧ w'.cell? ⟨w.heap.size, 4, none⟩ = some (.string d) ∧ w'.cell? ⟨w.heap.size, 5, none⟩ = some (.string s) ∧ w.heap.size < w'.heap.size ∧ BelowD w.heap.size w w')
      (first | exact keep6D (by assumption) hbx | exact ⟨k0, k1, k2, k3, k4, k5, hz1, HB1.drew⟩)
      (first | (go_at_call 51; refine (implObjText_anyD _ _ _ (by assumption) (by assumption)).mono ?_; rintro e w' ⟨rfl, hbx⟩))
    rename_i hH
    obtain ⟨g0, g1, g2, g3, g4, g5, gz, gB⟩ := hH
    clear k0 k1 k2 k3 k4 k5 hbx q1 q2 q3 q4 HB1
    by_cases he : s.toList.isEmpty = true
    · have HT : Hid (tupText a b r c d s = _) := tupText_one hn he
      go_wp2
      go_ret
      exact ⟨ret_str HT.out.symm, gB⟩
    · have he' : s.toList.isEmpty = false := by simpa using he
      have HT : Hid (tupText a b r c d s = _) := tupText_two hn he'
      clear he
      go_wp2
      go_ret
      exact ⟨ret_str (HT.out.trans (by simp only [ByteArray.append_assoc])).symm, gB⟩
  · have hn' : tupB a b r c d s = false := by simpa using hn
    have HT : Hid (tupText a b r c d s = ⟨#[]⟩) := tupText_no hn'
    clear hn
    go_enter Try.func43, Try.ntmps43
    go_wp2_with fail
    refine (implTup_anyD _ _ _ _ _ _ _ ha hb hr hc hd hs).mono ?_
    rintro e w1 ⟨rfl, hb1⟩
    go_wp2
    go_ret
    exact ⟨ret_str HT.out.symm, ((BelowD.refl _ _).alloc (Nat.le_refl _) _).trans (hb1.mono (by simp))⟩
theorem keep12D {w W w' : World} {n m k : Nat} {x0 x1 x2 x3 x4 x5 y0 y1 y2 y3 y4 y5 : Value} (hk : k ≤ n) (h : W.cell? ⟨n, 0, none⟩ = some x0 ∧ W.cell? ⟨n, 1, none⟩ = some x1 ∧ W.cell? ⟨n, 2, none⟩ = some x2 ∧ W.cell? ⟨n, 3, none⟩ = some x3 ∧ W.cell? ⟨n, 4, none⟩ = some x4 ∧ W.cell? ⟨n, 5, none⟩ = some x5 ∧ W.cell? ⟨m, 0, none⟩ = some y0 ∧ W.cell? ⟨m, 1, none⟩ = some y1 ∧ W.cell? ⟨m, 2, none⟩ = some y2 ∧ W.cell? ⟨m, 3, none⟩ = some y3 ∧ W.cell? ⟨m, 4, none⟩ = some y4 ∧ W.cell? ⟨m, 5, none⟩ = some y5 ∧ n < W.heap.size ∧ m < W.heap.size ∧ BelowD k w W) (hb : BelowD W.heap.size W w') : w'.cell? ⟨n, 0, none⟩ = some x0 ∧ w'.cell? ⟨n, 1, none⟩ = some x1 ∧ w'.cell? ⟨n, 2, none⟩ = some x2 ∧ w'.cell? ⟨n, 3, none⟩ = some x3 ∧ w'.cell? ⟨n, 4, none⟩ = some x4 ∧ w'.cell? ⟨n, 5, none⟩ = some x5 ∧ w'.cell? ⟨m, 0, none⟩ = some y0 ∧ w'.cell? ⟨m, 1, none⟩ = some y1 ∧ w'.cell? ⟨m, 2, none⟩ = some y2 ∧ w'.cell? ⟨m, 3, none⟩ = some y3 ∧ w'.cell? ⟨m, 4, none⟩ = some y4 ∧ w'.cell? ⟨m, 5, none⟩ = some y5 ∧ n < w'.heap.size ∧ m < w'.heap.size ∧ BelowD k w w' := by
  obtain ⟨h0, h1, h2, h3, h4, h5, h6, h7, h8, h9, h10, h11, hn, hm, hB⟩ := h
  have hc : ∀ o, w'.cell? ⟨n, o, none⟩ = W.cell? ⟨n, o, none⟩ := fun o => hb.cell (p := ⟨n, o, none⟩) hn
  have hd : ∀ o, w'.cell? ⟨m, o, none⟩ = W.cell? ⟨m, o, none⟩ := fun o => hb.cell (p := ⟨m, o, none⟩) hm
  exact ⟨by rw [hc]; exact h0, by rw [hc]; exact h1, by rw [hc]; exact h2, by rw [hc]; exact h3, by rw [hc]; exact h4, by rw [hc]; exact h5, by rw [hd]; exact h6, by rw [hd]; exact h7, by rw [hd]; exact h8, by rw [hd]; exact h9, by rw [hd]; exact h10, by rw [hd]; exact h11, Nat.lt_of_lt_of_le hn hb.size, Nat.lt_of_lt_of_le hm hb.size, hB.trans (hb.mono (by omega))⟩
theorem below2D (w : World) (o1 o2 : Obj) : BelowD w.heap.size w ((w.alloc o1).alloc o2) :=
  ((BelowD.refl _ _).alloc (Nat.le_refl _) _).alloc (by simp) _
theorem compareTuples_anyD (a b r c d s a' b' r' c' d' s' : ByteArray) (w : World) (ha : a.size ≤ maxLen) (hb : b.size ≤ maxLen) (hr : r.size ≤ maxLen) (hc : c.size ≤ maxLen) (hd : d.size ≤ maxLen) (hs : s.size ≤ maxLen) (ga : a'.size ≤ maxLen) (gb : b'.size ≤ maxLen) (gr : r'.size ≤ maxLen) (gc : c'.size ≤ maxLen) (gd : d'.size ≤ maxLen) (gs : s'.size ≤ maxLen) :
    Calls Try.prog 33 #[.agg #[.string a, .string b, .string r, .string c, .string d, .string s], .agg #[.string a', .string b', .string r', .string c', .string d', .string s']] w fun e w' => e = .returned (.int .i64 (cmpT a b r c d s a' b' r' c' d' s')) ∧ BelowD w.heap.size w w' := by
  have H0 : ((w.alloc (.cells #[.string a, .string b, .string r, .string c, .string d, .string s] 39)).alloc (.cells #[.string a', .string b', .string r', .string c', .string d', .string s'] 39)).drew.cell? ⟨w.heap.size, 0, none⟩ = some (.string a) ∧ ((w.alloc (.cells #[.string a, .string b, .string r, .string c, .string d, .string s] 39)).alloc (.cells #[.string a', .string b', .string r', .string c', .string d', .string s'] 39)).drew.cell? ⟨w.heap.size, 1, none⟩ = some (.string b) ∧ ((w.alloc (.cells #[.string a, .string b, .string r, .string c, .string d, .string s] 39)).alloc (.cells #[.string a', .string b', .string r', .string c', .string d', .string s'] 39)).drew.cell? ⟨w.heap.size, 2, none⟩ = some (.string r) ∧ ((w.alloc (.cells #[.string a, .string b, .string r, .string c, .string d, .string s] 39)).alloc (.cells #[.string a', .string b', .string r', .string c', .string d', .string s'] 39)).drew.cell? ⟨w.heap.size, 3, none⟩ = some (.string c) ∧ ((w.alloc (.cells #[.string a, .string b, .string r, .string c, .string d, .string s] 39)).alloc (.cells #[.string a', .string b', .string r', .string c', .string d', .string s'] 39)).drew.cell? ⟨w.heap.size, 4, none⟩ = some (.string d) ∧ ((w.alloc (.cells #[.string a, .string b, .string r, .string c, .string d, .string s] 39)).alloc (.cells #[.string a', .string b', .string r', .string c', .string d', .string s'] 39)).drew.cell? ⟨w.heap.size, 5, none⟩ = some (.string s) ∧ ((w.alloc (.cells #[.string a, .string b, .string r, .string c, .string d, .string s] 39)).alloc (.cells #[.string a', .string b', .string r', .string c', .string d', .string s'] 39)).drew.cell? ⟨w.heap.size + 1, 0, none⟩ = some (.string a') ∧ ((w.alloc (.cells #[.string a, .string b, .string r, .string c, .string d, .string s] 39)).alloc (.cells #[.string a', .string b', .string r', .string c', .string d', .string s'] 39)).drew.cell? ⟨w.heap.size + 1, 1, none⟩ = some (.string b') ∧ ((w.alloc (.cells #[.string a, .string b, .string r, .string c, .string d, .string s] 39)).alloc (.cells #[.string a', .string b', .string r', .string c', .string d', .string s'] 39)).drew.cell? ⟨w.heap.size + 1, 2, none⟩ = some (.string r') ∧ ((w.alloc (.cells #[.string a, .string b, .string r, .string c, .string d, .string s] 39)).alloc (.cells #[.string a', .string b', .string r', .string c', .string d', .string s'] 39)).drew.cell? ⟨w.heap.size + 1, 3, none⟩ = some (.string c') ∧ ((w.alloc (.cells #[.string a, .string b, .string r, .string c, .string d, .string s] 39)).alloc (.cells #[.string a', .string b', .string r', .string c', .string d', .string s'] 39)).drew.cell? ⟨w.heap.size + 1, 4, none⟩ = some (.string d') ∧ ((w.alloc (.cells #[.string a, .string b, .string r, .string c, .string d, .string s] 39)).alloc (.cells #[.string a', .string b', .string r', .string c', .string d', .string s'] 39)).drew.cell? ⟨w.heap.size + 1, 5, none⟩ = some (.string s') ∧ w.heap.size < ((w.alloc (.cells #[.string a, .string b, .string r, .string c, .string d, .string s] 39)).alloc (.cells #[.string a', .string b', .string r', .string c', .string d', .string s'] 39)).drew.heap.size ∧ w.heap.size + 1 < ((w.alloc (.cells #[.string a, .string b, .string r, .string c, .string d, .string s] 39)).alloc (.cells #[.string a', .string b', .string r', .string c', .string d', .string s'] 39)).drew.heap.size ∧ BelowD w.heap.size w (((w.alloc (.cells #[.string a, .string b, .string r, .string c, .string d, .string s] 39)).alloc (.cells #[.string a', .string b', .string r', .string c', .string d', .string s'] 39)).drew) := by
    refine ⟨?_, ?_, ?_, ?_, ?_, ?_, ?_, ?_, ?_, ?_, ?_, ?_, ?_, ?_, ?_⟩
    all_goals first | exact (below2D _ _ _).drew | (simp; done) | (simp; omega)
  go_enter Try.func33, Try.ntmps33
  go_wp2_with fail
  go_region_held3 (fun w' => w'.cell? ⟨w.heap.size, 0, none⟩ = some (.string a) ∧ w'.cell? ⟨w.heap.size, 1, none⟩ = some (.string b) ∧ w'.cell? ⟨w.heap.size, 2, none⟩ = some (.string r) ∧ w'.cell? ⟨w.heap.size, 3, none⟩ = some (.string c) ∧ w'.cell? ⟨w.heap.size, 4, none⟩ = some (.string d) ∧ w'.cell? ⟨w.heap.size, 5, none⟩ = some (.string s) ∧ w'.cell? ⟨w.heap.size + 1, 0, none⟩ = some (.string a') ∧ w'.cell? ⟨w.heap.size + 1, 1, none⟩ = some (.string b') ∧ w'.cell? ⟨w.heap.size + 1, 2, none⟩ = some (.string r') ∧ w'.cell? ⟨w.heap.size + 1, 3, none⟩ = some (.string c') ∧ w'.cell? ⟨w.heap.size + 1, 4, none⟩ = some (.string d') ∧ w'.cell? ⟨w.heap.size + 1, 5, none⟩ = some (.string s') ∧ w.heap.size < w'.heap.size ∧ w.heap.size + 1 < w'.heap.size ∧ BelowD w.heap.size w w')
    (first | assumption | exact keep12D (Nat.le_refl _) (by assumption) hbx | exact H0)
    (first | (go_at_call 43; refine (implTupText_anyD _ _ _ _ _ _ _ (by assumption) (by assumption) (by assumption) (by assumption) (by assumption) (by assumption)).mono ?_; rintro e w' ⟨rfl, hbx⟩) | (go_at_call 42; refine (Try.strings_Compare _ _ _).mono ?_; rintro e w' ⟨rfl, rfl⟩))
  rename_i hH
  obtain ⟨-, -, -, -, -, -, -, -, -, -, -, -, -, -, gB⟩ := hH
  go_wp2
  go_ret
  exact ⟨rfl, gB⟩
end Go.Proofs.Ythicofnjehpalaa
