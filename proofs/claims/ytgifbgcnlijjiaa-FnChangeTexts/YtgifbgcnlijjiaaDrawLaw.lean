/- What the drawings of tuples answer: some tuples of short strings; nothing that was there is touched. -/
import Derived.Test.YtgifbgcnlijjiaaOpenB
import Derived.ChangeSlices
import Derived.Deep.Slices
namespace Go.Proofs.Ytgifbgcnlijjiaa
open Go.ChangeShapes Go.WideShapes Go.ChangeAt Go.RowKit
open Pl


theorem drawTuple_any (ad : Option Addr) (len cap : Nat) (w : World) (h : Bytes w ad len) :
    Calls Try.prog 31 #[.slice ad len cap] w fun e w' => (∃ a b r c d s : ByteArray, e = .returned (.agg #[.string a, .string b, .string r, .string c, .string d, .string s]) ∧ a.size ≤ 20 ∧ b.size ≤ 20 ∧ r.size ≤ 20 ∧ c.size ≤ 20 ∧ d.size ≤ 20 ∧ s.size ≤ 20) ∧ Below w.heap.size w w' := by
  have H : Hid (Bytes w ad len) := h
  clear h
  go_enter Try.func31, Try.ntmps31
  go_wp2_with fail
  refine (open_any ad len cap _ (H.out.below ((Below.refl _ _).alloc (Nat.le_refl _) _))).mono ?_
  rintro e w1 ⟨rfl, hR1, hb1⟩
  have hn : Res w1 (w.heap.size + 1) w.heap.size := (res_new' (w := w) (R := w.heap.size + 1) (by omega) _).only (Only.of_below hb1)
  simp only [World.size_alloc] at hR1
  have HB1 : Hid (Below w.heap.size w w1) := ((Below.refl w.heap.size w).alloc (Nat.le_refl _) _).trans (hb1.mono (by simp))
  have HR1 : Hid (Rd w1 (w.heap.size + 1) ad len cap) := hR1
  have HN1 : Hid (Res w1 (w.heap.size + 1) w.heap.size) := hn
  clear hn hR1 hb1
  go_wp2_with fail
  refine (tuple_any (w.heap.size + 1) ad len cap _ HR1.out).mono ?_
  rintro e w2 ⟨⟨a, b, r, c, d, s, rfl, ha, hb, hr, hc, hd, hs⟩, hR2, hO2⟩
  obtain ⟨hnR, hnl, hnf, hnc⟩ := HN1.out.only hO2
  have HB2 : Hid (Below w.heap.size w w2) := Only.toBelow HB1.out hO2 HB1.out.size (by omega)
  have n0 := hnc 0 (by omega)
  have n1 := hnc 1 (by omega)
  have n2 := hnc 2 (by omega)
  have n3 := hnc 3 (by omega)
  have n4 := hnc 4 (by omega)
  have n5 := hnc 5 (by omega)
  clear hnc hR2 hO2 HN1 HR1
  go_wp2
  exact bodyPost_ret (v := .agg #[.string a, .string b, .string r, .string c, .string d, .string s]) (by simp [results, Try.results31, go_sem, *]) rfl ⟨⟨_, _, _, _, _, _, rfl, ha, hb, hr, hc, hd, hs⟩, below_set6 HB2.out (Nat.le_refl _) _ _ _ _ _ _⟩

theorem new6 {w : World} (t : TypeId) (a b r c d s : ByteArray) : ∀ o, o < 6 → (w.alloc (.cells #[.string a, .string b, .string r, .string c, .string d, .string s] t)).cell? ⟨w.heap.size, o, none⟩ = some (.string ([a, b, r, c, d, s].getD o ⟨#[]⟩)) := by
  intro o ho
  have h6 : o = 0 ∨ o = 1 ∨ o = 2 ∨ o = 3 ∨ o = 4 ∨ o = 5 := by omega
  rcases h6 with rfl | rfl | rfl | rfl | rfl | rfl <;> simp

set_option maxHeartbeats 2000000 in
theorem drawAhead_any (ad : Option Addr) (len cap : Nat) (w : World) (h : Bytes w ad len) :
    Calls Try.prog 30 #[.slice ad len cap] w fun e w' => (∃ a b r c d s a' b' r' c' d' s' : ByteArray, e = .returned (.tuple #[.agg #[.string a, .string b, .string r, .string c, .string d, .string s], .agg #[.string a', .string b', .string r', .string c', .string d', .string s']]) ∧ (a.size ≤ 20 ∧ b.size ≤ 20 ∧ r.size ≤ 20 ∧ c.size ≤ 20 ∧ d.size ≤ 20 ∧ s.size ≤ 20) ∧ (a'.size ≤ 20 ∧ b'.size ≤ 20 ∧ r'.size ≤ 20 ∧ c'.size ≤ 20 ∧ d'.size ≤ 20 ∧ s'.size ≤ 20)) ∧ Below w.heap.size w w' := by
  have H : Hid (Bytes w ad len) := h
  clear h
  go_enter Try.func30, Try.ntmps30
  go_wp2_with fail
  refine (open_any ad len cap _ (H.out.below (((Below.refl _ _).alloc (Nat.le_refl _) _).alloc (by simp) _))).mono ?_
  rintro e w1 ⟨rfl, hR1, hb1⟩
  simp only [World.size_alloc] at hR1
  have hn : Res w1 (w.heap.size + 1 + 1) w.heap.size := ((res_new' (w := w) (R := w.heap.size + 1 + 1) (by omega) _).only ((Only.refl _ _).alloc _)).only (Only.of_below hb1)
  have hm : Res w1 (w.heap.size + 1 + 1) (w.heap.size + 1) := by
    have := (res_new' (w := w.alloc (.cells #[.string ⟨#[]⟩, .string ⟨#[]⟩, .string ⟨#[]⟩, .string ⟨#[]⟩, .string ⟨#[]⟩, .string ⟨#[]⟩] 27)) (R := w.heap.size + 1 + 1) (by simp) 27).only (Only.of_below hb1)
    simpa using this
  have HB1 : Hid (Below w.heap.size w w1) := (((Below.refl w.heap.size w).alloc (Nat.le_refl _) _).alloc (by simp) _).trans (hb1.mono (by simp; omega))
  have HR1 : Hid (Rd w1 (w.heap.size + 1 + 1) ad len cap) := hR1
  have HN1 : Hid (Res w1 (w.heap.size + 1 + 1) w.heap.size) := hn
  have HM1 : Hid (Res w1 (w.heap.size + 1 + 1) (w.heap.size + 1)) := hm
  clear hn hm hR1 hb1
  go_wp2_with fail
  refine (tuple_any (w.heap.size + 1 + 1) ad len cap _ HR1.out).mono ?_
  rintro e w2 ⟨⟨a, b, r, c, d, s, rfl, ha, hb, hr, hc, hd, hs⟩, hR2, hO2⟩
  have HB2 : Hid (Below w.heap.size w w2) := Only.toBelow HB1.out hO2 HB1.out.size (by omega)
  have HR2 : Hid (Rd w2 (w.heap.size + 1 + 1) ad len cap) := hR2
  have HN2 : Hid (Res w2 (w.heap.size + 1 + 1) w.heap.size) := HN1.out.only hO2
  have HM2 : Hid (Res w2 (w.heap.size + 1 + 1) (w.heap.size + 1)) := HM1.out.only hO2
  have hl2 := hR2.lt
  clear hR2 hO2 HN1 HM1 HR1 HB1
  go_wp2_with fail
  obtain ⟨w3, hw3⟩ : ∃ w3, w3 = w2.alloc (.cells #[.string a, .string b, .string r, .string c, .string d, .string s] 27) := ⟨_, rfl⟩
  rw [← hw3]
  have hq3 : w2.heap.size < w3.heap.size := by rw [hw3]; simp
  have hq := new6 (w := w2) 27 a b r c d s
  rw [← hw3] at hq
  have q0 := hq 0 (by omega)
  have q1 := hq 1 (by omega)
  have q2 := hq 2 (by omega)
  have q3 := hq 3 (by omega)
  have q4 := hq 4 (by omega)
  have q5 := hq 5 (by omega)
  simp only [List.getD_cons_zero, List.getD_cons_succ] at q0 q1 q2 q3 q4 q5
  have HB3 : Hid (Below w.heap.size w w3) := by rw [hw3]; exact HB2.out.alloc HB2.out.size _
  have HR3 : Hid (Rd w3 (w.heap.size + 1 + 1) ad len cap) := by rw [hw3]; exact HR2.out.alloc _
  have HN3 : Hid (Res w3 (w.heap.size + 1 + 1) w.heap.size) := by rw [hw3]; exact HN2.out.only ((Only.refl _ _).alloc _)
  have HM3 : Hid (Res w3 (w.heap.size + 1 + 1) (w.heap.size + 1)) := by rw [hw3]; exact HM2.out.only ((Only.refl _ _).alloc _)
  have hqR : w2.heap.size ≠ w.heap.size + 1 + 1 := by omega
  clear hw3 hq HB2 HR2 HN2 HM2 H
  go_region_with (go_at_call 47; refine (tuple_any (w.heap.size + 1 + 1) ad len cap _ (HR3.out.below (Below.refl _ _).drew)).mono ?_; rintro e w4 ⟨⟨a', b', r', c', d', s', rfl, ha', hb', hr', hc', hd', hs'⟩, hR4, hO4⟩; (have hO3 : Only (w.heap.size + 1 + 1) w3 w4 := ((Only.refl _ w3).drewN 1).trans hO4); obtain ⟨-, hnl, hnf, hnc⟩ := HN3.out.only hO3; obtain ⟨-, hml, hmf, hmc⟩ := HM3.out.only hO3; (have HB4 : Hid (Below w.heap.size w w4) := Only.toBelow HB3.out hO3 HB3.out.size (by omega)); (have n0 := hnc 0 (by omega)); (have n1 := hnc 1 (by omega)); (have n2 := hnc 2 (by omega)); (have n3 := hnc 3 (by omega)); (have n4 := hnc 4 (by omega)); (have n5 := hnc 5 (by omega)); (have m0 := hmc 0 (by omega)); (have m1 := hmc 1 (by omega)); (have m2 := hmc 2 (by omega)); (have m3 := hmc 3 (by omega)); (have m4 := hmc 4 (by omega)); (have m5 := hmc 5 (by omega)); (have p0 := (hO3.cell (o := 0) hq3 hqR).trans q0); (have p1 := (hO3.cell (o := 1) hq3 hqR).trans q1); (have p2 := (hO3.cell (o := 2) hq3 hqR).trans q2); (have p3 := (hO3.cell (o := 3) hq3 hqR).trans q3); (have p4 := (hO3.cell (o := 4) hq3 hqR).trans q4); (have p5 := (hO3.cell (o := 5) hq3 hqR).trans q5); clear hnc hmc hR4 hO4 hO3)
  all_goals
    have hmn : w.heap.size + 1 ≠ w.heap.size := by omega
    go_wp2
    exact bodyPost_ret (v := .tuple #[.agg #[.string a, .string b, .string r, .string c, .string d, .string s], .agg #[.string a', .string b', .string r', .string c', .string d', .string s']]) (by simp [results, Try.results30, go_sem, *]) rfl ⟨⟨_, _, _, _, _, _, _, _, _, _, _, _, rfl, ⟨ha, hb, hr, hc, hd, hs⟩, ⟨ha', hb', hr', hc', hd', hs'⟩⟩, below_set6 (below_set6 HB4.out (Nat.le_refl _) _ _ _ _ _ _) (by omega) _ _ _ _ _ _⟩

end Go.Proofs.Ytgifbgcnlijjiaa
