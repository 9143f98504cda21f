/- Contracts of the functions that read a change out of a text. -/
import Derived.Test.YtgifbgcnlijjiaaReadTup
import Derived.Test.YtgifbgcnlijjiaaChgText
namespace Go.Proofs.Ytgifbgcnlijjiaa
open Go.ChangeShapes Go.WideShapes Go.ChangeAt Go.RowKit
open Pl

theorem ret_chg {k : Int} {a b r c d t : ByteArray} {f : Bool} {s : ByteArray} {w w' : World} (h : ChgAs s k a b r c d t f) (hB : Below w.heap.size w w') :
    ∃ k' a' b' r' c' d' t' f', Ending.returned (.tuple #[.agg #[.int .i64 k, .string a, .string b, .string r, .string c, .string d, .string t], .bool f]) = .returned (.tuple #[.agg #[.int .i64 k', .string a', .string b', .string r', .string c', .string d', .string t'], .bool f']) ∧ ChgAs s k' a' b' r' c' d' t' f' ∧ Below w.heap.size w w' :=
  ⟨_, _, _, _, _, _, _, _, rfl, h, hB⟩

theorem readAs_fit {x a b r c d t : ByteArray} {f : Bool} (h : ReadAs x a b r c d t f) : a.size ≤ maxLen ∧ b.size ≤ maxLen ∧ r.size ≤ maxLen ∧ c.size ≤ maxLen ∧ d.size ≤ maxLen ∧ t.size ≤ maxLen := by
  rcases h with ⟨-, h1, -⟩ | ⟨-, ⟨rfl, rfl, rfl, rfl, rfl, rfl⟩, -⟩
  · obtain ⟨p1, p2, p3, p4⟩ := tupB_parts h1
    have q1 := objB_le p1
    have q2 := nameB_le p2
    have q3 := objB_le p3
    have q4 := setB_le p4
    unfold maxLen
    omega
  · have e : (⟨#[]⟩ : ByteArray).size = 0 := rfl
    rw [e]
    exact ⟨Nat.zero_le _, Nat.zero_le _, Nat.zero_le _, Nat.zero_le _, Nat.zero_le _, Nat.zero_le _⟩

theorem list_is {a : ByteArray} {l : List UInt8} : (a.toList == l) = true ↔ a = ⟨l.toArray⟩ := by
  rw [beq_iff_eq, Go.ByteArray.toList_eq]
  exact ⟨fun h => ext_data (by simpa using h), fun h => by rw [h]⟩
theorem list_not {a : ByteArray} {l : List UInt8} (h : (a.toList == l) = false) : a ≠ ⟨l.toArray⟩ := fun e => by
  rw [list_is.2 e] at h; cases h
theorem word_is {a : ByteArray} (h : (a.toList == [100, 114, 111, 112]) = true) : a = wDrop := list_is.1 h
theorem word_not {a : ByteArray} (h : (a.toList == [100, 114, 111, 112]) = false) : a ≠ wDrop := list_not h
theorem word_isA {a : ByteArray} (h : (a.toList == [97, 100, 100]) = true) : a = wAdd := list_is.1 h
theorem word_notA {a : ByteArray} (h : (a.toList == [97, 100, 100]) = false) : a ≠ wAdd := list_not h
theorem text_is {a b : ByteArray} (h : (a.toList == b.toList) = true) : a = b := by
  rw [beq_iff_eq, Go.ByteArray.toList_eq, Go.ByteArray.toList_eq] at h; exact ext_data h
theorem text_not {a b : ByteArray} (h : (a.toList == b.toList) = false) : a ≠ b := fun e => by
  subst e; simp at h

set_option maxHeartbeats 2000000 in
theorem specRdChg_any (s : ByteArray) (w : World) (hs : s.size ≤ maxLen) :
    Calls Try.prog 14 #[.string s] w fun e w' => ∃ k a b r c d t f, e = .returned (.tuple #[.agg #[.int .i64 k, .string a, .string b, .string r, .string c, .string d, .string t], .bool f]) ∧ ChgAs s k a b r c d t f ∧ Below w.heap.size w w' := by
  have bZ : (cutZ 32 s).size ≤ maxLen := Nat.le_trans (cutZ_le _ _) hs
  go_enter Try.func14, Try.ntmps14
  go_wp2_with fail
  refine (l1Cut_any s 32 _ hs).mono ?_
  rintro e w1 ⟨rfl, n1, rfl⟩
  go_wp2_with fail
  refine (specReadTup_any _ _ bZ).mono ?_
  rintro e w2 ⟨a, b, r, c, d, t, f, rfl, hR, hb2⟩
  obtain ⟨hc2, hf2⟩ := bcell hb2
  have hz2 : w.heap.size < w2.heap.size := by have := hb2.size; simp at this; omega
  have HB2 : Below w.heap.size w w2 := (below_drewN ((Below.refl _ _).alloc (Nat.le_refl _) _) _).trans (hb2.mono (by simp))
  have g2 : ∀ o, w2.frozen? ⟨w.heap.size, o, none⟩ = false := fun o => by rw [hf2 _ _ (by simp)]; exact frozen_drawn0 _ _ _ _ _ (by simp)
  have c0 : w2.cell? ⟨w.heap.size, 0, none⟩ = some (.int .i64 0) := by rw [hc2 _ _ (by simp)]; exact cell_drawn0 _ _ _ _ _ _ (by simp)
  have c1 : w2.cell? ⟨w.heap.size, 1, none⟩ = some (.string ⟨#[]⟩) := by rw [hc2 _ _ (by simp)]; exact cell_drawn0 _ _ _ _ _ _ (by simp)
  have c2 : w2.cell? ⟨w.heap.size, 2, none⟩ = some (.string ⟨#[]⟩) := by rw [hc2 _ _ (by simp)]; exact cell_drawn0 _ _ _ _ _ _ (by simp)
  have c3 : w2.cell? ⟨w.heap.size, 3, none⟩ = some (.string ⟨#[]⟩) := by rw [hc2 _ _ (by simp)]; exact cell_drawn0 _ _ _ _ _ _ (by simp)
  have c4 : w2.cell? ⟨w.heap.size, 4, none⟩ = some (.string ⟨#[]⟩) := by rw [hc2 _ _ (by simp)]; exact cell_drawn0 _ _ _ _ _ _ (by simp)
  have c5 : w2.cell? ⟨w.heap.size, 5, none⟩ = some (.string ⟨#[]⟩) := by rw [hc2 _ _ (by simp)]; exact cell_drawn0 _ _ _ _ _ _ (by simp)
  have c6 : w2.cell? ⟨w.heap.size, 6, none⟩ = some (.string ⟨#[]⟩) := by rw [hc2 _ _ (by simp)]; exact cell_drawn0 _ _ _ _ _ _ (by simp)
  clear hc2 hf2 hb2
  have hRb : Below w.heap.size w w2 := HB2
  by_cases hw : ((cutA 32 s).toList == [100, 114, 111, 112]) = true
  · have hD : cutA 32 s = wDrop := word_is hw
    cases f with
    | false =>
      have HH : Hid (ChgAs s 0 ⟨#[]⟩ ⟨#[]⟩ ⟨#[]⟩ ⟨#[]⟩ ⟨#[]⟩ ⟨#[]⟩ false) := chg_none hR
      clear hR hD hRb
      go_wp2
      exact bodyPost_ret (v := .tuple #[.agg #[.int .i64 0, .string ⟨#[]⟩, .string ⟨#[]⟩, .string ⟨#[]⟩, .string ⟨#[]⟩, .string ⟨#[]⟩, .string ⟨#[]⟩], .bool false]) (by simp [results, Try.results14, go_sem, *]) rfl (ret_chg HH.out (by
        repeat' (first | with_reducible exact HB2 | (with_reducible refine Below.setCell ?_ ?_ _) | (with_reducible refine Below.alloc ?_ ?_ _) | omega | (simp; done) | (simp; omega))))
    | true =>
      obtain ⟨fa, fb, fr, fc, fd, ft⟩ := readAs_fit hR
      have HR : Hid (ReadAs (cutZ 32 s) a b r c d t true) := hR
      have HD : Hid (cutA 32 s = wDrop) := hD
      clear hR hD hRb
      go_wp2_with fail
      refine (specChg_any _ _ _ _ _ _ _ _ fa fb fr fc fd ft).mono ?_
      rintro e w3 ⟨rfl, hb3⟩
      obtain ⟨hc3, hf3⟩ := bcell hb3
      have hz3 : w2.heap.size + 1 < w3.heap.size := by have := hb3.size; simp at this; omega
      have hx3 : w.heap.size < w3.heap.size := by omega
      have HB3 : Below w.heap.size w w3 := Below.trans (by
        repeat' (first | with_reducible exact HB2 | (with_reducible refine Below.setCell ?_ ?_ _) | (with_reducible refine Below.alloc ?_ ?_ _) | omega | (simp; done) | (simp; omega))) (hb3.mono (by simp; omega))
      have g3 : ∀ o, w3.frozen? ⟨w.heap.size, o, none⟩ = false := fun o => by rw [hf3 _ _ (by simp; omega)]; go_simp
      have d0 : w3.cell? ⟨w2.heap.size + 1, 0, none⟩ = some (.int .i64 2) := by rw [hc3 _ _ (by simp)]; go_simp
      have d1 : w3.cell? ⟨w2.heap.size + 1, 1, none⟩ = some (.string a) := by rw [hc3 _ _ (by simp)]; go_simp
      have d2 : w3.cell? ⟨w2.heap.size + 1, 2, none⟩ = some (.string b) := by rw [hc3 _ _ (by simp)]; go_simp
      have d3 : w3.cell? ⟨w2.heap.size + 1, 3, none⟩ = some (.string r) := by rw [hc3 _ _ (by simp)]; go_simp
      have d4 : w3.cell? ⟨w2.heap.size + 1, 4, none⟩ = some (.string c) := by rw [hc3 _ _ (by simp)]; go_simp
      have d5 : w3.cell? ⟨w2.heap.size + 1, 5, none⟩ = some (.string d) := by rw [hc3 _ _ (by simp)]; go_simp
      have d6 : w3.cell? ⟨w2.heap.size + 1, 6, none⟩ = some (.string t) := by rw [hc3 _ _ (by simp)]; go_simp
      have e0 : w3.cell? ⟨w.heap.size, 0, none⟩ = some (.int .i64 0) := by rw [hc3 _ _ (by simp; omega)]; go_simp
      have e1 : w3.cell? ⟨w.heap.size, 1, none⟩ = some (.string ⟨#[]⟩) := by rw [hc3 _ _ (by simp; omega)]; go_simp
      have e2 : w3.cell? ⟨w.heap.size, 2, none⟩ = some (.string ⟨#[]⟩) := by rw [hc3 _ _ (by simp; omega)]; go_simp
      have e3 : w3.cell? ⟨w.heap.size, 3, none⟩ = some (.string ⟨#[]⟩) := by rw [hc3 _ _ (by simp; omega)]; go_simp
      have e4 : w3.cell? ⟨w.heap.size, 4, none⟩ = some (.string ⟨#[]⟩) := by rw [hc3 _ _ (by simp; omega)]; go_simp
      have e5 : w3.cell? ⟨w.heap.size, 5, none⟩ = some (.string ⟨#[]⟩) := by rw [hc3 _ _ (by simp; omega)]; go_simp
      have e6 : w3.cell? ⟨w.heap.size, 6, none⟩ = some (.string ⟨#[]⟩) := by rw [hc3 _ _ (by simp; omega)]; go_simp
      clear hc3 hf3 hb3 g2 c0 c1 c2 c3 c4 c5 c6 HB2
      by_cases p5 : ((chgText 2 a b r c d t).toList == s.toList) = true
      · have HH : Hid (ChgAs s 2 a b r c d t true) := chg_spec_yes HR.out (by decide) (text_is p5)
        go_wp2
        exact bodyPost_ret (v := .tuple #[.agg #[.int .i64 2, .string a, .string b, .string r, .string c, .string d, .string t], .bool true]) (by simp [results, Try.results14, go_sem, *]) rfl (ret_chg HH.out (by
          repeat' (first | with_reducible exact HB3 | (with_reducible refine Below.setCell ?_ ?_ _) | (with_reducible refine Below.alloc ?_ ?_ _) | omega | (simp; done) | (simp; omega))))
      · have p5' : ((chgText 2 a b r c d t).toList == s.toList) = false := by simpa using p5
        have HH : Hid (ChgAs s 0 ⟨#[]⟩ ⟨#[]⟩ ⟨#[]⟩ ⟨#[]⟩ ⟨#[]⟩ ⟨#[]⟩ false) := chg_spec_no HR.out (k := 2) (by decide) ⟨fun _ => HD.out, fun _ => rfl⟩ (text_not p5')
        clear p5
        go_wp2
        exact bodyPost_ret (v := .tuple #[.agg #[.int .i64 0, .string ⟨#[]⟩, .string ⟨#[]⟩, .string ⟨#[]⟩, .string ⟨#[]⟩, .string ⟨#[]⟩, .string ⟨#[]⟩], .bool false]) (by simp [results, Try.results14, go_sem, *]) rfl (ret_chg HH.out (by
          repeat' (first | with_reducible exact HB3 | (with_reducible refine Below.setCell ?_ ?_ _) | (with_reducible refine Below.alloc ?_ ?_ _) | omega | (simp; done) | (simp; omega))))
  · have hw' : ((cutA 32 s).toList == [100, 114, 111, 112]) = false := by simpa using hw
    have hD : cutA 32 s ≠ wDrop := word_not hw'
    clear hw
    cases f with
    | false =>
      have HH : Hid (ChgAs s 0 ⟨#[]⟩ ⟨#[]⟩ ⟨#[]⟩ ⟨#[]⟩ ⟨#[]⟩ ⟨#[]⟩ false) := chg_none hR
      clear hR hD hRb
      go_wp2
      exact bodyPost_ret (v := .tuple #[.agg #[.int .i64 0, .string ⟨#[]⟩, .string ⟨#[]⟩, .string ⟨#[]⟩, .string ⟨#[]⟩, .string ⟨#[]⟩, .string ⟨#[]⟩], .bool false]) (by simp [results, Try.results14, go_sem, *]) rfl (ret_chg HH.out (by
        repeat' (first | with_reducible exact HB2 | (with_reducible refine Below.setCell ?_ ?_ _) | (with_reducible refine Below.alloc ?_ ?_ _) | omega | (simp; done) | (simp; omega))))
    | true =>
      obtain ⟨fa, fb, fr, fc, fd, ft⟩ := readAs_fit hR
      have HR : Hid (ReadAs (cutZ 32 s) a b r c d t true) := hR
      have HD : Hid (cutA 32 s ≠ wDrop) := hD
      clear hR hD hRb
      go_wp2_with fail
      refine (specChg_any _ _ _ _ _ _ _ _ fa fb fr fc fd ft).mono ?_
      rintro e w3 ⟨rfl, hb3⟩
      obtain ⟨hc3, hf3⟩ := bcell hb3
      have hz3 : w2.heap.size + 1 < w3.heap.size := by have := hb3.size; simp at this; omega
      have hx3 : w.heap.size < w3.heap.size := by omega
      have HB3 : Below w.heap.size w w3 := Below.trans (by
        repeat' (first | with_reducible exact HB2 | (with_reducible refine Below.setCell ?_ ?_ _) | (with_reducible refine Below.alloc ?_ ?_ _) | omega | (simp; done) | (simp; omega))) (hb3.mono (by simp; omega))
      have g3 : ∀ o, w3.frozen? ⟨w.heap.size, o, none⟩ = false := fun o => by rw [hf3 _ _ (by simp; omega)]; go_simp
      have d0 : w3.cell? ⟨w2.heap.size + 1, 0, none⟩ = some (.int .i64 1) := by rw [hc3 _ _ (by simp)]; go_simp
      have d1 : w3.cell? ⟨w2.heap.size + 1, 1, none⟩ = some (.string a) := by rw [hc3 _ _ (by simp)]; go_simp
      have d2 : w3.cell? ⟨w2.heap.size + 1, 2, none⟩ = some (.string b) := by rw [hc3 _ _ (by simp)]; go_simp
      have d3 : w3.cell? ⟨w2.heap.size + 1, 3, none⟩ = some (.string r) := by rw [hc3 _ _ (by simp)]; go_simp
      have d4 : w3.cell? ⟨w2.heap.size + 1, 4, none⟩ = some (.string c) := by rw [hc3 _ _ (by simp)]; go_simp
      have d5 : w3.cell? ⟨w2.heap.size + 1, 5, none⟩ = some (.string d) := by rw [hc3 _ _ (by simp)]; go_simp
      have d6 : w3.cell? ⟨w2.heap.size + 1, 6, none⟩ = some (.string t) := by rw [hc3 _ _ (by simp)]; go_simp
      have e0 : w3.cell? ⟨w.heap.size, 0, none⟩ = some (.int .i64 0) := by rw [hc3 _ _ (by simp; omega)]; go_simp
      have e1 : w3.cell? ⟨w.heap.size, 1, none⟩ = some (.string ⟨#[]⟩) := by rw [hc3 _ _ (by simp; omega)]; go_simp
      have e2 : w3.cell? ⟨w.heap.size, 2, none⟩ = some (.string ⟨#[]⟩) := by rw [hc3 _ _ (by simp; omega)]; go_simp
      have e3 : w3.cell? ⟨w.heap.size, 3, none⟩ = some (.string ⟨#[]⟩) := by rw [hc3 _ _ (by simp; omega)]; go_simp
      have e4 : w3.cell? ⟨w.heap.size, 4, none⟩ = some (.string ⟨#[]⟩) := by rw [hc3 _ _ (by simp; omega)]; go_simp
      have e5 : w3.cell? ⟨w.heap.size, 5, none⟩ = some (.string ⟨#[]⟩) := by rw [hc3 _ _ (by simp; omega)]; go_simp
      have e6 : w3.cell? ⟨w.heap.size, 6, none⟩ = some (.string ⟨#[]⟩) := by rw [hc3 _ _ (by simp; omega)]; go_simp
      clear hc3 hf3 hb3 g2 c0 c1 c2 c3 c4 c5 c6 HB2
      by_cases p5 : ((chgText 1 a b r c d t).toList == s.toList) = true
      · have HH : Hid (ChgAs s 1 a b r c d t true) := chg_spec_yes HR.out (by decide) (text_is p5)
        go_wp2
        exact bodyPost_ret (v := .tuple #[.agg #[.int .i64 1, .string a, .string b, .string r, .string c, .string d, .string t], .bool true]) (by simp [results, Try.results14, go_sem, *]) rfl (ret_chg HH.out (by
          repeat' (first | with_reducible exact HB3 | (with_reducible refine Below.setCell ?_ ?_ _) | (with_reducible refine Below.alloc ?_ ?_ _) | omega | (simp; done) | (simp; omega))))
      · have p5' : ((chgText 1 a b r c d t).toList == s.toList) = false := by simpa using p5
        have HH : Hid (ChgAs s 0 ⟨#[]⟩ ⟨#[]⟩ ⟨#[]⟩ ⟨#[]⟩ ⟨#[]⟩ ⟨#[]⟩ false) := chg_spec_no HR.out (k := 1) (by decide) ⟨fun h => absurd h (by decide), fun h => absurd h HD.out⟩ (text_not p5')
        clear p5
        go_wp2
        exact bodyPost_ret (v := .tuple #[.agg #[.int .i64 0, .string ⟨#[]⟩, .string ⟨#[]⟩, .string ⟨#[]⟩, .string ⟨#[]⟩, .string ⟨#[]⟩, .string ⟨#[]⟩], .bool false]) (by simp [results, Try.results14, go_sem, *]) rfl (ret_chg HH.out (by
          repeat' (first | with_reducible exact HB3 | (with_reducible refine Below.setCell ?_ ?_ _) | (with_reducible refine Below.alloc ?_ ?_ _) | omega | (simp; done) | (simp; omega))))

set_option maxHeartbeats 2000000 in
theorem implRdChg_any (s : ByteArray) (m : Int) (w : World) (hs2 : s.size ≤ 1048576) (hm : w.cell? ⟨0, 0, none⟩ = some (.int .i64 m)) :
    Calls Try.prog 11 #[.string s] w fun e w' => ∃ k a b r c d t f, e = .returned (.tuple #[.agg #[.int .i64 k, .string a, .string b, .string r, .string c, .string d, .string t], .bool f]) ∧ ChgAs s k a b r c d t f ∧ Below w.heap.size w w' := by
  have bZ : (cutZ 32 s).size ≤ 1048576 := Nat.le_trans (cutZ_le _ _) hs2
  go_enter Try.func11, Try.ntmps11
  go_wp2_with fail
  refine (implCut s 32 m _ hs2 (cell_alloc_old hm _)).mono ?_
  rintro e w1 ⟨rfl, n1, rfl⟩
  go_wp2_with fail
  refine (implReadTup_any _ m _ bZ (cell_old_drawn hm _ _)).mono ?_
  rintro e w2 ⟨a, b, r, c, d, t, f, rfl, hR, hb2⟩
  obtain ⟨hc2, hf2⟩ := bcell hb2
  have hz2 : w.heap.size < w2.heap.size := by have := hb2.size; simp at this; omega
  have HB2 : Below w.heap.size w w2 := (below_drewN ((Below.refl _ _).alloc (Nat.le_refl _) _) _).trans (hb2.mono (by simp))
  have g2 : ∀ o, w2.frozen? ⟨w.heap.size, o, none⟩ = false := fun o => by rw [hf2 _ _ (by simp)]; exact frozen_drawn0 _ _ _ _ _ (by simp)
  have c0 : w2.cell? ⟨w.heap.size, 0, none⟩ = some (.int .i64 0) := by rw [hc2 _ _ (by simp)]; exact cell_drawn0 _ _ _ _ _ _ (by simp)
  have c1 : w2.cell? ⟨w.heap.size, 1, none⟩ = some (.string ⟨#[]⟩) := by rw [hc2 _ _ (by simp)]; exact cell_drawn0 _ _ _ _ _ _ (by simp)
  have c2 : w2.cell? ⟨w.heap.size, 2, none⟩ = some (.string ⟨#[]⟩) := by rw [hc2 _ _ (by simp)]; exact cell_drawn0 _ _ _ _ _ _ (by simp)
  have c3 : w2.cell? ⟨w.heap.size, 3, none⟩ = some (.string ⟨#[]⟩) := by rw [hc2 _ _ (by simp)]; exact cell_drawn0 _ _ _ _ _ _ (by simp)
  have c4 : w2.cell? ⟨w.heap.size, 4, none⟩ = some (.string ⟨#[]⟩) := by rw [hc2 _ _ (by simp)]; exact cell_drawn0 _ _ _ _ _ _ (by simp)
  have c5 : w2.cell? ⟨w.heap.size, 5, none⟩ = some (.string ⟨#[]⟩) := by rw [hc2 _ _ (by simp)]; exact cell_drawn0 _ _ _ _ _ _ (by simp)
  have c6 : w2.cell? ⟨w.heap.size, 6, none⟩ = some (.string ⟨#[]⟩) := by rw [hc2 _ _ (by simp)]; exact cell_drawn0 _ _ _ _ _ _ (by simp)
  clear hc2 hf2 hb2 hm
  cases f with
  | false =>
    have HH : Hid (ChgAs s 0 ⟨#[]⟩ ⟨#[]⟩ ⟨#[]⟩ ⟨#[]⟩ ⟨#[]⟩ ⟨#[]⟩ false) := chg_none hR
    clear hR
    go_wp2
    exact bodyPost_ret (v := .tuple #[.agg #[.int .i64 0, .string ⟨#[]⟩, .string ⟨#[]⟩, .string ⟨#[]⟩, .string ⟨#[]⟩, .string ⟨#[]⟩, .string ⟨#[]⟩], .bool false]) (by simp [results, Try.results11, go_sem, *]) rfl (ret_chg HH.out (by
      repeat' (first | with_reducible exact HB2 | (with_reducible refine Below.setCell ?_ ?_ _) | (with_reducible refine Below.alloc ?_ ?_ _) | omega | (simp; done) | (simp; omega))))
  | true =>
    by_cases hA : ((cutA 32 s).toList == [97, 100, 100]) = true
    · have HH : Hid (ChgAs s 1 a b r c d t true) := chg_some hR (by decide) (word_isA hA)
      clear hR
      go_wp2
      exact bodyPost_ret (v := .tuple #[.agg #[.int .i64 1, .string a, .string b, .string r, .string c, .string d, .string t], .bool true]) (by simp [results, Try.results11, go_sem, *]) rfl (ret_chg HH.out (by
        repeat' (first | with_reducible exact HB2 | (with_reducible refine Below.setCell ?_ ?_ _) | (with_reducible refine Below.alloc ?_ ?_ _) | omega | (simp; done) | (simp; omega))))
    · have hA' : ((cutA 32 s).toList == [97, 100, 100]) = false := by simpa using hA
      by_cases hw : ((cutA 32 s).toList == [100, 114, 111, 112]) = true
      · have HH : Hid (ChgAs s 2 a b r c d t true) := chg_some hR (by decide) (word_is hw)
        clear hR hA
        go_wp2
        exact bodyPost_ret (v := .tuple #[.agg #[.int .i64 2, .string a, .string b, .string r, .string c, .string d, .string t], .bool true]) (by simp [results, Try.results11, go_sem, *]) rfl (ret_chg HH.out (by
          repeat' (first | with_reducible exact HB2 | (with_reducible refine Below.setCell ?_ ?_ _) | (with_reducible refine Below.alloc ?_ ?_ _) | omega | (simp; done) | (simp; omega))))
      · have hw' : ((cutA 32 s).toList == [100, 114, 111, 112]) = false := by simpa using hw
        have HH : Hid (ChgAs s 0 ⟨#[]⟩ ⟨#[]⟩ ⟨#[]⟩ ⟨#[]⟩ ⟨#[]⟩ ⟨#[]⟩ false) := chg_word (word_notA hA') (word_not hw')
        clear hR hA hw
        go_wp2
        exact bodyPost_ret (v := .tuple #[.agg #[.int .i64 0, .string ⟨#[]⟩, .string ⟨#[]⟩, .string ⟨#[]⟩, .string ⟨#[]⟩, .string ⟨#[]⟩, .string ⟨#[]⟩], .bool false]) (by simp [results, Try.results11, go_sem, *]) rfl (ret_chg HH.out (by
          repeat' (first | with_reducible exact HB2 | (with_reducible refine Below.setCell ?_ ?_ _) | (with_reducible refine Below.alloc ?_ ?_ _) | omega | (simp; done) | (simp; omega))))

end Go.Proofs.Ytgifbgcnlijjiaa
