/- Contracts of the functions that read a tuple out of a text. -/
import Derived.Test.YtgifbgcnlijjiaaReadObj
import Derived.Test.YtgifbgcnlijjiaaPlainRead
import Derived.Test.YtgifbgcnlijjiaaTupText
namespace Go.Proofs.Ytgifbgcnlijjiaa
open Go.ChangeShapes Go.WideShapes Go.ChangeAt Go.RowKit
open Pl

theorem size_drawn (w : World) (o : Obj) (n : Nat) : ((w.alloc o).drewN n).heap.size = w.heap.size + 1 := by
  show (w.alloc o).heap.size = _; simp
theorem cell_new2 (w : World) (o : Obj) (n : Nat) (xs : Array Value) (t : TypeId) (i : Nat) (v : Value) (h : ∀ W : World, (W.alloc (.cells xs t)).cell? ⟨W.heap.size, i, none⟩ = some v) :
    (((w.alloc o).drewN n).alloc (.cells xs t)).cell? ⟨w.heap.size + 1, i, none⟩ = some v := by
  have := h ((w.alloc o).drewN n); rwa [size_drawn] at this
theorem frozen_new2 (w : World) (o : Obj) (n : Nat) (xs : Array Value) (t : TypeId) (i : Nat) (h : ∀ W : World, (W.alloc (.cells xs t)).frozen? ⟨W.heap.size, i, none⟩ = false) :
    (((w.alloc o).drewN n).alloc (.cells xs t)).frozen? ⟨w.heap.size + 1, i, none⟩ = false := by
  have := h ((w.alloc o).drewN n); rwa [size_drawn] at this
theorem frozen_drawn (w : World) (xs : Array Value) (t : TypeId) (n : Nat) (o : Obj) (i : Nat) (h : (w.alloc (.cells xs t)).frozen? ⟨w.heap.size, i, none⟩ = false) :
    (((w.alloc (.cells xs t)).drewN n).alloc o).frozen? ⟨w.heap.size, i, none⟩ = false := by
  have hb : Below ((w.alloc (.cells xs t)).drewN n).heap.size ((w.alloc (.cells xs t)).drewN n) (((w.alloc (.cells xs t)).drewN n).alloc o) := (Below.refl _ _).alloc (Nat.le_refl _) _
  rw [hb.frozen (p := ⟨w.heap.size, i, none⟩) (by rw [size_drawn]; exact Nat.lt_succ_self _)]
  exact h

theorem cell_old_drawn {w : World} {a : Addr} {v : Value} (h : w.cell? a = some v) (o : Obj) (n : Nat) : ((w.alloc o).drewN n).cell? a = some v := cell_alloc_old h o
theorem cell_drawn0 (w : World) (xs : Array Value) (t : TypeId) (n : Nat) (i : Nat) (v : Value) (h : (w.alloc (.cells xs t)).cell? ⟨w.heap.size, i, none⟩ = some v) : ((w.alloc (.cells xs t)).drewN n).cell? ⟨w.heap.size, i, none⟩ = some v := h
theorem frozen_drawn0 (w : World) (xs : Array Value) (t : TypeId) (n : Nat) (i : Nat) (h : (w.alloc (.cells xs t)).frozen? ⟨w.heap.size, i, none⟩ = false) : ((w.alloc (.cells xs t)).drewN n).frozen? ⟨w.heap.size, i, none⟩ = false := h
theorem frozen_alloc_old {w : World} {b i : Nat} (hb : b < w.heap.size) (h : w.frozen? ⟨b, i, none⟩ = false) (o : Obj) : (w.alloc o).frozen? ⟨b, i, none⟩ = false := by
  rw [Below.frozen (B := w.heap.size) (w := w) ((Below.refl _ _).alloc (Nat.le_refl _) _) (p := ⟨b, i, none⟩) hb]; exact h

theorem ret_tup {a b r c d t : ByteArray} {f : Bool} {s : ByteArray} {w w' : World} (h : ReadAs s a b r c d t f) (hB : Below w.heap.size w w') :
    ∃ a' b' r' c' d' t' f', Ending.returned (.tuple #[.agg #[.string a, .string b, .string r, .string c, .string d, .string t], .bool f]) = .returned (.tuple #[.agg #[.string a', .string b', .string r', .string c', .string d', .string t'], .bool f']) ∧ ReadAs s a' b' r' c' d' t' f' ∧ Below w.heap.size w w' :=
  ⟨_, _, _, _, _, _, _, rfl, h, hB⟩

set_option maxHeartbeats 2000000 in
theorem specReadTup_any (s : ByteArray) (w : World) (hs : s.size ≤ maxLen) :
    Calls Try.prog 44 #[.string s] w fun e w' => ∃ a b r c d t f, e = .returned (.tuple #[.agg #[.string a, .string b, .string r, .string c, .string d, .string t], .bool f]) ∧ ReadAs s a b r c d t f ∧ Below w.heap.size w w' := by
  have bL : (cutA 64 s).size ≤ maxLen := Nat.le_trans (cutA_le _ _) hs
  have bR : (cutZ 64 s).size ≤ maxLen := Nat.le_trans (cutZ_le _ _) hs
  have bA : (cutA 35 (cutA 64 s)).size ≤ maxLen := Nat.le_trans (cutA_le _ _) bL
  have bB : (cutA 35 (cutZ 64 s)).size ≤ maxLen := Nat.le_trans (cutA_le _ _) bR
  go_enter Try.func44, Try.ntmps44
  go_wp2_with fail
  refine (l1Cut_any s 64 _ hs).mono ?_
  rintro e w1 ⟨rfl, n1, rfl⟩
  go_wp2_with fail
  refine (l1Cut_any _ 35 _ bL).mono ?_
  rintro e w1 ⟨rfl, n2, rfl⟩
  go_wp2_with fail
  refine (l1Cut_any _ 35 _ bR).mono ?_
  rintro e w1 ⟨rfl, n3, rfl⟩
  go_wp2_with fail
  refine (specReadObj_any _ _ bA).mono ?_
  rintro e w4 ⟨rfl, hb4⟩
  obtain ⟨hc4, hf4⟩ := bcell hb4
  have hz4 : w.heap.size + 1 < w4.heap.size := by have := hb4.size; simp at this; omega
  have hy4 : w.heap.size < w4.heap.size := by omega
  have c0 : w4.cell? ⟨w.heap.size, 0, none⟩ = some (.string ⟨#[]⟩) := by rw [hc4 _ _ (by simp; omega)]; exact cell_drawn _ _ _ _ _ _ _ (by simp)
  have c1 : w4.cell? ⟨w.heap.size, 1, none⟩ = some (.string ⟨#[]⟩) := by rw [hc4 _ _ (by simp; omega)]; exact cell_drawn _ _ _ _ _ _ _ (by simp)
  have c2 : w4.cell? ⟨w.heap.size, 2, none⟩ = some (.string ⟨#[]⟩) := by rw [hc4 _ _ (by simp; omega)]; exact cell_drawn _ _ _ _ _ _ _ (by simp)
  have c3 : w4.cell? ⟨w.heap.size, 3, none⟩ = some (.string ⟨#[]⟩) := by rw [hc4 _ _ (by simp; omega)]; exact cell_drawn _ _ _ _ _ _ _ (by simp)
  have c4 : w4.cell? ⟨w.heap.size, 4, none⟩ = some (.string ⟨#[]⟩) := by rw [hc4 _ _ (by simp; omega)]; exact cell_drawn _ _ _ _ _ _ _ (by simp)
  have c5 : w4.cell? ⟨w.heap.size, 5, none⟩ = some (.string ⟨#[]⟩) := by rw [hc4 _ _ (by simp; omega)]; exact cell_drawn _ _ _ _ _ _ _ (by simp)
  have d0 : w4.cell? ⟨w.heap.size + 1, 0, none⟩ = some (.string ⟨#[]⟩) := by rw [hc4 _ _ (by simp)]; exact cell_new2 _ _ _ _ _ _ _ (fun W => by simp)
  have d1 : w4.cell? ⟨w.heap.size + 1, 1, none⟩ = some (.string ⟨#[]⟩) := by rw [hc4 _ _ (by simp)]; exact cell_new2 _ _ _ _ _ _ _ (fun W => by simp)
  have d2 : w4.cell? ⟨w.heap.size + 1, 2, none⟩ = some (.string (cutZ 35 (cutA 64 s))) := by rw [hc4 _ _ (by simp)]; exact cell_new2 _ _ _ _ _ _ _ (fun W => by simp)
  have d3 : w4.cell? ⟨w.heap.size + 1, 3, none⟩ = some (.string ⟨#[]⟩) := by rw [hc4 _ _ (by simp)]; exact cell_new2 _ _ _ _ _ _ _ (fun W => by simp)
  have d4 : w4.cell? ⟨w.heap.size + 1, 4, none⟩ = some (.string ⟨#[]⟩) := by rw [hc4 _ _ (by simp)]; exact cell_new2 _ _ _ _ _ _ _ (fun W => by simp)
  have d5 : w4.cell? ⟨w.heap.size + 1, 5, none⟩ = some (.string (cutZ 35 (cutZ 64 s))) := by rw [hc4 _ _ (by simp)]; exact cell_new2 _ _ _ _ _ _ _ (fun W => by simp)
  have f4 : ∀ o, w4.frozen? ⟨w.heap.size + 1, o, none⟩ = false := fun o => by rw [hf4 _ _ (by simp)]; exact frozen_new2 _ _ _ _ _ _ (fun W => by simp)
  have g4 : ∀ o, w4.frozen? ⟨w.heap.size, o, none⟩ = false := fun o => by rw [hf4 _ _ (by simp; omega)]; exact frozen_drawn _ _ _ _ _ _ (by simp)
  have HB4 : Below w.heap.size w w4 := ((below_drewN ((Below.refl _ _).alloc (Nat.le_refl _) _) _).alloc (by simp) _).trans (hb4.mono (by simp; omega))
  clear hc4 hf4 hb4
  go_wp2_with fail
  refine (specReadObj_any _ _ bB).mono ?_
  rintro e w6 ⟨rfl, hb6⟩
  obtain ⟨hc6, hf6⟩ := bcell hb6
  have hz6 : w.heap.size + 1 < w6.heap.size := by have := hb6.size; simp at this; omega
  have hy6 : w.heap.size < w6.heap.size := by omega
  have x0 : w6.cell? ⟨w.heap.size, 0, none⟩ = some (.string ⟨#[]⟩) := by rw [hc6 _ _ (by simp; omega)]; go_simp
  have x1 : w6.cell? ⟨w.heap.size, 1, none⟩ = some (.string ⟨#[]⟩) := by rw [hc6 _ _ (by simp; omega)]; go_simp
  have x2 : w6.cell? ⟨w.heap.size, 2, none⟩ = some (.string ⟨#[]⟩) := by rw [hc6 _ _ (by simp; omega)]; go_simp
  have x3 : w6.cell? ⟨w.heap.size, 3, none⟩ = some (.string ⟨#[]⟩) := by rw [hc6 _ _ (by simp; omega)]; go_simp
  have x4 : w6.cell? ⟨w.heap.size, 4, none⟩ = some (.string ⟨#[]⟩) := by rw [hc6 _ _ (by simp; omega)]; go_simp
  have x5 : w6.cell? ⟨w.heap.size, 5, none⟩ = some (.string ⟨#[]⟩) := by rw [hc6 _ _ (by simp; omega)]; go_simp
  have y0 : w6.cell? ⟨w.heap.size + 1, 0, none⟩ = some (.string (rdT (cutA 35 (cutA 64 s)))) := by rw [hc6 _ _ (by simp; omega)]; go_simp
  have y1 : w6.cell? ⟨w.heap.size + 1, 1, none⟩ = some (.string (rdI (cutA 35 (cutA 64 s)))) := by rw [hc6 _ _ (by simp; omega)]; go_simp
  have y2 : w6.cell? ⟨w.heap.size + 1, 2, none⟩ = some (.string (cutZ 35 (cutA 64 s))) := by rw [hc6 _ _ (by simp; omega)]; go_simp
  have y3 : w6.cell? ⟨w.heap.size + 1, 3, none⟩ = some (.string ⟨#[]⟩) := by rw [hc6 _ _ (by simp; omega)]; go_simp
  have y4 : w6.cell? ⟨w.heap.size + 1, 4, none⟩ = some (.string ⟨#[]⟩) := by rw [hc6 _ _ (by simp; omega)]; go_simp
  have y5 : w6.cell? ⟨w.heap.size + 1, 5, none⟩ = some (.string (cutZ 35 (cutZ 64 s))) := by rw [hc6 _ _ (by simp; omega)]; go_simp
  have f6 : ∀ o, w6.frozen? ⟨w.heap.size + 1, o, none⟩ = false := fun o => by rw [hf6 _ _ (by simp; omega)]; go_simp
  have g6 : ∀ o, w6.frozen? ⟨w.heap.size, o, none⟩ = false := fun o => by rw [hf6 _ _ (by simp; omega)]; go_simp
  have HB6 : Below w.heap.size w w6 := ((HB4.setCell (by simp) _).setCell (by simp) _).trans (hb6.mono (by simp; omega))
  clear hc6 hf6 hb6 c0 c1 c2 c3 c4 c5 d0 d1 d2 d3 d4 d5 f4 g4 HB4 hz4 hy4
  have bT : (rdT (cutA 35 (cutA 64 s))).size ≤ maxLen := Nat.le_trans (rdT_le _) bA
  have bI : (rdI (cutA 35 (cutA 64 s))).size ≤ maxLen := Nat.le_trans (rdI_le _) bA
  have bT' : (rdT (cutA 35 (cutZ 64 s))).size ≤ maxLen := Nat.le_trans (rdT_le _) bB
  have bI' : (rdI (cutA 35 (cutZ 64 s))).size ≤ maxLen := Nat.le_trans (rdI_le _) bB
  have bRel : (cutZ 35 (cutA 64 s)).size ≤ maxLen := Nat.le_trans (cutZ_le _ _) bL
  have bSet : (cutZ 35 (cutZ 64 s)).size ≤ maxLen := Nat.le_trans (cutZ_le _ _) bR
  by_cases p1 : cutF 64 s = true
  case neg =>
    have p1' : cutF 64 s = false := by simpa using p1
    have HR := spec_no (s := s) (by simp [sAcc, p1'])
    clear p1
    go_wp2
    exact bodyPost_ret (v := .tuple #[.agg #[.string ⟨#[]⟩, .string ⟨#[]⟩, .string ⟨#[]⟩, .string ⟨#[]⟩, .string ⟨#[]⟩, .string ⟨#[]⟩], .bool false]) (by simp [results, Try.results44, go_sem, *]) rfl (ret_tup HR (by
      repeat (first | refine Below.setCell ?_ (by first | (simp; done) | (simp; omega)) _ | with_reducible exact HB6)))
  by_cases p2 : rdB (cutA 35 (cutA 64 s)) = true
  case neg =>
    have p2' : rdB (cutA 35 (cutA 64 s)) = false := by simpa using p2
    have HR := spec_no (s := s) (by simp [sAcc, sL, p2'])
    clear p2
    go_wp2
    exact bodyPost_ret (v := .tuple #[.agg #[.string ⟨#[]⟩, .string ⟨#[]⟩, .string ⟨#[]⟩, .string ⟨#[]⟩, .string ⟨#[]⟩, .string ⟨#[]⟩], .bool false]) (by simp [results, Try.results44, go_sem, *]) rfl (ret_tup HR (by
      repeat (first | refine Below.setCell ?_ (by first | (simp; done) | (simp; omega)) _ | with_reducible exact HB6)))
  by_cases p3 : rdB (cutA 35 (cutZ 64 s)) = true
  case neg =>
    have p3' : rdB (cutA 35 (cutZ 64 s)) = false := by simpa using p3
    have HR := spec_no (s := s) (by simp [sAcc, sR, p3'])
    clear p3
    go_wp2
    exact bodyPost_ret (v := .tuple #[.agg #[.string ⟨#[]⟩, .string ⟨#[]⟩, .string ⟨#[]⟩, .string ⟨#[]⟩, .string ⟨#[]⟩, .string ⟨#[]⟩], .bool false]) (by simp [results, Try.results44, go_sem, *]) rfl (ret_tup HR (by
      repeat (first | refine Below.setCell ?_ (by first | (simp; done) | (simp; omega)) _ | with_reducible exact HB6)))
  go_wp2_with fail
  refine (specTup_any _ _ _ _ _ _ _ bT bI bRel bT' bI' bSet).mono ?_
  rintro e w8 ⟨rfl, hb8⟩
  obtain ⟨hc8, hf8⟩ := bcell hb8
  have hz8 : w.heap.size + 1 < w8.heap.size := by have := hb8.size; simp at this; omega
  have hy8 : w.heap.size < w8.heap.size := by omega
  have u0 : w8.cell? ⟨w.heap.size, 0, none⟩ = some (.string ⟨#[]⟩) := by rw [hc8 _ _ (by simp; omega)]; go_simp
  have u1 : w8.cell? ⟨w.heap.size, 1, none⟩ = some (.string ⟨#[]⟩) := by rw [hc8 _ _ (by simp; omega)]; go_simp
  have u2 : w8.cell? ⟨w.heap.size, 2, none⟩ = some (.string ⟨#[]⟩) := by rw [hc8 _ _ (by simp; omega)]; go_simp
  have u3 : w8.cell? ⟨w.heap.size, 3, none⟩ = some (.string ⟨#[]⟩) := by rw [hc8 _ _ (by simp; omega)]; go_simp
  have u4 : w8.cell? ⟨w.heap.size, 4, none⟩ = some (.string ⟨#[]⟩) := by rw [hc8 _ _ (by simp; omega)]; go_simp
  have u5 : w8.cell? ⟨w.heap.size, 5, none⟩ = some (.string ⟨#[]⟩) := by rw [hc8 _ _ (by simp; omega)]; go_simp
  have v0 : w8.cell? ⟨w.heap.size + 1, 0, none⟩ = some (.string (rdT (cutA 35 (cutA 64 s)))) := by rw [hc8 _ _ (by simp; omega)]; go_simp
  have v1 : w8.cell? ⟨w.heap.size + 1, 1, none⟩ = some (.string (rdI (cutA 35 (cutA 64 s)))) := by rw [hc8 _ _ (by simp; omega)]; go_simp
  have v2 : w8.cell? ⟨w.heap.size + 1, 2, none⟩ = some (.string (cutZ 35 (cutA 64 s))) := by rw [hc8 _ _ (by simp; omega)]; go_simp
  have v3 : w8.cell? ⟨w.heap.size + 1, 3, none⟩ = some (.string (rdT (cutA 35 (cutZ 64 s)))) := by rw [hc8 _ _ (by simp; omega)]; go_simp
  have v4 : w8.cell? ⟨w.heap.size + 1, 4, none⟩ = some (.string (rdI (cutA 35 (cutZ 64 s)))) := by rw [hc8 _ _ (by simp; omega)]; go_simp
  have v5 : w8.cell? ⟨w.heap.size + 1, 5, none⟩ = some (.string (cutZ 35 (cutZ 64 s))) := by rw [hc8 _ _ (by simp; omega)]; go_simp
  have g8 : ∀ o, w8.frozen? ⟨w.heap.size, o, none⟩ = false := fun o => by rw [hf8 _ _ (by simp; omega)]; go_simp
  have HB8 : Below w.heap.size w w8 := ((HB6.setCell (by simp) _).setCell (by simp) _).trans (hb8.mono (by simp; omega))
  clear hc8 hf8 hb8 x0 x1 x2 x3 x4 x5 y0 y1 y2 y3 y4 y5 f6 g6 HB6 hz6 hy6 bT bI bT' bI' bRel bSet bL bR bA bB
  by_cases p4 : tupB (rdT (cutA 35 (cutA 64 s))) (rdI (cutA 35 (cutA 64 s))) (cutZ 35 (cutA 64 s)) (rdT (cutA 35 (cutZ 64 s))) (rdI (cutA 35 (cutZ 64 s))) (cutZ 35 (cutZ 64 s)) = true
  case neg =>
    have p4' : tupB (rdT (cutA 35 (cutA 64 s))) (rdI (cutA 35 (cutA 64 s))) (cutZ 35 (cutA 64 s)) (rdT (cutA 35 (cutZ 64 s))) (rdI (cutA 35 (cutZ 64 s))) (cutZ 35 (cutZ 64 s)) = false := by simpa using p4
    have HR := spec_no (s := s) (by simp [sAcc, sL, sR, p4'])
    clear p4
    go_wp2
    exact bodyPost_ret (v := .tuple #[.agg #[.string ⟨#[]⟩, .string ⟨#[]⟩, .string ⟨#[]⟩, .string ⟨#[]⟩, .string ⟨#[]⟩, .string ⟨#[]⟩], .bool false]) (by simp [results, Try.results44, go_sem, *]) rfl (ret_tup HR (by
      repeat (first | refine Below.setCell ?_ (by first | (simp; done) | (simp; omega)) _ | with_reducible exact HB8)))
  by_cases p5 : cutF 35 (cutZ 64 s) = true
  · by_cases p6 : (cutZ 35 (cutZ 64 s)).toList.isEmpty = true
    · have HR := spec_no (s := s) (by simp [sAcc, sR, p5, p6])
      go_wp2
      exact bodyPost_ret (v := .tuple #[.agg #[.string ⟨#[]⟩, .string ⟨#[]⟩, .string ⟨#[]⟩, .string ⟨#[]⟩, .string ⟨#[]⟩, .string ⟨#[]⟩], .bool false]) (by simp [results, Try.results44, go_sem, *]) rfl (ret_tup HR (by
        repeat (first | refine Below.setCell ?_ (by first | (simp; done) | (simp; omega)) _ | with_reducible exact HB8)))
    · have p6' : (cutZ 35 (cutZ 64 s)).toList.isEmpty = false := by simpa using p6
      have HR := spec_yes (s := s) (by simp [sAcc, sL, sR, p1, p2, p3, p4, p6'])
      clear p6
      go_wp2
      exact bodyPost_ret (v := .tuple #[.agg #[.string (rdT (cutA 35 (cutA 64 s))), .string (rdI (cutA 35 (cutA 64 s))), .string (cutZ 35 (cutA 64 s)), .string (rdT (cutA 35 (cutZ 64 s))), .string (rdI (cutA 35 (cutZ 64 s))), .string (cutZ 35 (cutZ 64 s))], .bool true]) (by simp [results, Try.results44, go_sem, *]) rfl (ret_tup HR (by
        repeat (first | refine Below.setCell ?_ (by first | (simp; done) | (simp; omega)) _ | with_reducible exact HB8)))
  · have p5' : cutF 35 (cutZ 64 s) = false := by simpa using p5
    have HR := spec_yes (s := s) (by simp [sAcc, sL, sR, p1, p2, p3, p4, p5'])
    clear p5
    go_wp2
    exact bodyPost_ret (v := .tuple #[.agg #[.string (rdT (cutA 35 (cutA 64 s))), .string (rdI (cutA 35 (cutA 64 s))), .string (cutZ 35 (cutA 64 s)), .string (rdT (cutA 35 (cutZ 64 s))), .string (rdI (cutA 35 (cutZ 64 s))), .string (cutZ 35 (cutZ 64 s))], .bool true]) (by simp [results, Try.results44, go_sem, *]) rfl (ret_tup HR (by
      repeat (first | refine Below.setCell ?_ (by first | (simp; done) | (simp; omega)) _ | with_reducible exact HB8)))

set_option maxHeartbeats 2000000 in
theorem implReadTup_any (s : ByteArray) (m : Int) (w : World) (hs2 : s.size ≤ 1048576) (hm : w.cell? ⟨0, 0, none⟩ = some (.int .i64 m)) :
    Calls Try.prog 40 #[.string s] w fun e w' => ∃ a b r c d t f, e = .returned (.tuple #[.agg #[.string a, .string b, .string r, .string c, .string d, .string t], .bool f]) ∧ ReadAs s a b r c d t f ∧ Below w.heap.size w w' := by
  have sL : (cutA 35 s).size ≤ 1048576 := Nat.le_trans (cutA_le _ _) hs2
  have sR1 : (cutZ 35 s).size ≤ 1048576 := Nat.le_trans (cutZ_le _ _) hs2
  have sREL : (cutA 64 (cutZ 35 s)).size ≤ 1048576 := Nat.le_trans (cutA_le _ _) sR1
  have sR2 : (cutZ 64 (cutZ 35 s)).size ≤ 1048576 := Nat.le_trans (cutZ_le _ _) sR1
  have sB : (cutA 35 (cutZ 64 (cutZ 35 s))).size ≤ 1048576 := Nat.le_trans (cutA_le _ _) sR2
  have sT : (cutZ 35 (cutZ 64 (cutZ 35 s))).size ≤ 1048576 := Nat.le_trans (cutZ_le _ _) sR2
  have up : ∀ x : ByteArray, x.size ≤ 1048576 → x.size ≤ maxLen := fun x h => by unfold maxLen; omega
  go_enter Try.func40, Try.ntmps40
  go_wp2_with fail
  refine (implCut s 35 m _ hs2 (cell_alloc_old hm _)).mono ?_
  rintro e w1 ⟨rfl, n1, rfl⟩
  go_wp2_with fail
  refine (implCut _ 64 m _ sR1 (cell_old_drawn hm _ _)).mono ?_
  rintro e w1 ⟨rfl, n2, rfl⟩
  go_wp2_with fail
  refine (implCut _ 35 m _ sR2 (cell_old_drawn hm _ _)).mono ?_
  rintro e w1 ⟨rfl, n3, rfl⟩
  go_wp2_with fail
  refine (implReadObj_any _ m _ (up _ sL) sL (cell_old_drawn hm _ _)).mono ?_
  rintro e w4 ⟨rfl, hb4⟩
  obtain ⟨hc4, hf4⟩ := bcell hb4
  have hm4 : w4.cell? ⟨0, 0, none⟩ = some (.int .i64 m) := cell_later hb4 (cell_old_drawn hm _ _)
  have hz4 : w.heap.size < w4.heap.size := by have := hb4.size; simp at this; omega
  have c0 : w4.cell? ⟨w.heap.size, 0, none⟩ = some (.string ⟨#[]⟩) := by rw [hc4 _ _ (by simp)]; exact cell_drawn0 _ _ _ _ _ _ (by simp)
  have c1 : w4.cell? ⟨w.heap.size, 1, none⟩ = some (.string ⟨#[]⟩) := by rw [hc4 _ _ (by simp)]; exact cell_drawn0 _ _ _ _ _ _ (by simp)
  have c2 : w4.cell? ⟨w.heap.size, 2, none⟩ = some (.string ⟨#[]⟩) := by rw [hc4 _ _ (by simp)]; exact cell_drawn0 _ _ _ _ _ _ (by simp)
  have c3 : w4.cell? ⟨w.heap.size, 3, none⟩ = some (.string ⟨#[]⟩) := by rw [hc4 _ _ (by simp)]; exact cell_drawn0 _ _ _ _ _ _ (by simp)
  have c4 : w4.cell? ⟨w.heap.size, 4, none⟩ = some (.string ⟨#[]⟩) := by rw [hc4 _ _ (by simp)]; exact cell_drawn0 _ _ _ _ _ _ (by simp)
  have c5 : w4.cell? ⟨w.heap.size, 5, none⟩ = some (.string ⟨#[]⟩) := by rw [hc4 _ _ (by simp)]; exact cell_drawn0 _ _ _ _ _ _ (by simp)
  have g4 : ∀ o, w4.frozen? ⟨w.heap.size, o, none⟩ = false := fun o => by rw [hf4 _ _ (by simp)]; exact frozen_drawn0 _ _ _ _ _ (by simp)
  have HB4 : Below w.heap.size w w4 := (below_drewN ((Below.refl _ _).alloc (Nat.le_refl _) _) _).trans (hb4.mono (by simp))
  clear hc4 hf4 hb4 hm
  go_wp2_with fail
  refine (implReadObj_any _ m _ (up _ sB) sB (cell_alloc_old hm4 _)).mono ?_
  rintro e w5 ⟨rfl, hb5⟩
  obtain ⟨hc5, hf5⟩ := bcell hb5
  have hz5 : w4.heap.size < w5.heap.size := by have := hb5.size; simp at this; omega
  have hy5 : w.heap.size < w5.heap.size := by omega
  have hne : ¬ w.heap.size = w4.heap.size := by omega
  have x0 : w5.cell? ⟨w.heap.size, 0, none⟩ = some (.string ⟨#[]⟩) := by rw [hc5 _ _ (by simp; omega)]; exact cell_alloc_old c0 _
  have x1 : w5.cell? ⟨w.heap.size, 1, none⟩ = some (.string ⟨#[]⟩) := by rw [hc5 _ _ (by simp; omega)]; exact cell_alloc_old c1 _
  have x2 : w5.cell? ⟨w.heap.size, 2, none⟩ = some (.string ⟨#[]⟩) := by rw [hc5 _ _ (by simp; omega)]; exact cell_alloc_old c2 _
  have x3 : w5.cell? ⟨w.heap.size, 3, none⟩ = some (.string ⟨#[]⟩) := by rw [hc5 _ _ (by simp; omega)]; exact cell_alloc_old c3 _
  have x4 : w5.cell? ⟨w.heap.size, 4, none⟩ = some (.string ⟨#[]⟩) := by rw [hc5 _ _ (by simp; omega)]; exact cell_alloc_old c4 _
  have x5 : w5.cell? ⟨w.heap.size, 5, none⟩ = some (.string ⟨#[]⟩) := by rw [hc5 _ _ (by simp; omega)]; exact cell_alloc_old c5 _
  have y0 : w5.cell? ⟨w4.heap.size, 0, none⟩ = some (.string (rdT (cutA 35 s))) := by rw [hc5 _ _ (by simp)]; simp
  have y1 : w5.cell? ⟨w4.heap.size, 1, none⟩ = some (.string (rdI (cutA 35 s))) := by rw [hc5 _ _ (by simp)]; simp
  have g5 : ∀ o, w5.frozen? ⟨w.heap.size, o, none⟩ = false := fun o => by rw [hf5 _ _ (by simp; omega)]; exact frozen_alloc_old hz4 (g4 o) _
  have HB5 : Below w.heap.size w w5 := (HB4.alloc (Nat.le_of_lt hz4) _).trans (hb5.mono (by simp; omega))
  clear hc5 hf5 hb5 c0 c1 c2 c3 c4 c5 g4 HB4 hm4
  have bT : (rdT (cutA 35 s)).size ≤ maxLen := Nat.le_trans (rdT_le _) (up _ sL)
  have bI : (rdI (cutA 35 s)).size ≤ maxLen := Nat.le_trans (rdI_le _) (up _ sL)
  have bT' : (rdT (cutA 35 (cutZ 64 (cutZ 35 s)))).size ≤ maxLen := Nat.le_trans (rdT_le _) (up _ sB)
  have bI' : (rdI (cutA 35 (cutZ 64 (cutZ 35 s)))).size ≤ maxLen := Nat.le_trans (rdI_le _) (up _ sB)
  have bRel := up _ sREL
  have bSet := up _ sT
  clear up
  go_wp2_with fail
  refine (implTup_any _ _ _ _ _ _ _ bT bI bRel bT' bI' bSet).mono ?_
  rintro e w7 ⟨rfl, hb7⟩
  obtain ⟨hc7, hf7⟩ := bcell hb7
  have hz7 : w5.heap.size + 1 < w7.heap.size := by have := hb7.size; simp at this; omega
  have hy7 : w.heap.size < w7.heap.size := by omega
  have u0 : w7.cell? ⟨w.heap.size, 0, none⟩ = some (.string ⟨#[]⟩) := by rw [hc7 _ _ (by simp; omega)]; exact cell_alloc_old (cell_alloc_old x0 _) _
  have u1 : w7.cell? ⟨w.heap.size, 1, none⟩ = some (.string ⟨#[]⟩) := by rw [hc7 _ _ (by simp; omega)]; exact cell_alloc_old (cell_alloc_old x1 _) _
  have u2 : w7.cell? ⟨w.heap.size, 2, none⟩ = some (.string ⟨#[]⟩) := by rw [hc7 _ _ (by simp; omega)]; exact cell_alloc_old (cell_alloc_old x2 _) _
  have u3 : w7.cell? ⟨w.heap.size, 3, none⟩ = some (.string ⟨#[]⟩) := by rw [hc7 _ _ (by simp; omega)]; exact cell_alloc_old (cell_alloc_old x3 _) _
  have u4 : w7.cell? ⟨w.heap.size, 4, none⟩ = some (.string ⟨#[]⟩) := by rw [hc7 _ _ (by simp; omega)]; exact cell_alloc_old (cell_alloc_old x4 _) _
  have u5 : w7.cell? ⟨w.heap.size, 5, none⟩ = some (.string ⟨#[]⟩) := by rw [hc7 _ _ (by simp; omega)]; exact cell_alloc_old (cell_alloc_old x5 _) _
  have v0 : w7.cell? ⟨w5.heap.size + 1, 0, none⟩ = some (.string (rdT (cutA 35 s))) := by rw [hc7 _ _ (by simp)]; simp
  have v1 : w7.cell? ⟨w5.heap.size + 1, 1, none⟩ = some (.string (rdI (cutA 35 s))) := by rw [hc7 _ _ (by simp)]; simp
  have v2 : w7.cell? ⟨w5.heap.size + 1, 2, none⟩ = some (.string (cutA 64 (cutZ 35 s))) := by rw [hc7 _ _ (by simp)]; simp
  have v3 : w7.cell? ⟨w5.heap.size + 1, 3, none⟩ = some (.string (rdT (cutA 35 (cutZ 64 (cutZ 35 s))))) := by rw [hc7 _ _ (by simp)]; simp
  have v4 : w7.cell? ⟨w5.heap.size + 1, 4, none⟩ = some (.string (rdI (cutA 35 (cutZ 64 (cutZ 35 s))))) := by rw [hc7 _ _ (by simp)]; simp
  have v5 : w7.cell? ⟨w5.heap.size + 1, 5, none⟩ = some (.string (cutZ 35 (cutZ 64 (cutZ 35 s)))) := by rw [hc7 _ _ (by simp)]; simp
  have g7 : ∀ o, w7.frozen? ⟨w.heap.size, o, none⟩ = false := fun o => by rw [hf7 _ _ (by simp; omega)]; exact frozen_alloc_old (by simp; omega) (frozen_alloc_old hy5 (g5 o) _) _
  have HB7 : Below w.heap.size w w7 := ((HB5.alloc (Nat.le_of_lt hy5) _).alloc (by simp; omega) _).trans (hb7.mono (by simp; omega))
  clear hc7 hf7 hb7 x0 x1 x2 x3 x4 x5 y0 y1 g5 HB5 sL sR1 sREL sR2 sB sT
  by_cases p4 : tupB (rdT (cutA 35 s)) (rdI (cutA 35 s)) (cutA 64 (cutZ 35 s)) (rdT (cutA 35 (cutZ 64 (cutZ 35 s)))) (rdI (cutA 35 (cutZ 64 (cutZ 35 s)))) (cutZ 35 (cutZ 64 (cutZ 35 s))) = true
  case neg =>
    have p4' : tupB (rdT (cutA 35 s)) (rdI (cutA 35 s)) (cutA 64 (cutZ 35 s)) (rdT (cutA 35 (cutZ 64 (cutZ 35 s)))) (rdI (cutA 35 (cutZ 64 (cutZ 35 s)))) (cutZ 35 (cutZ 64 (cutZ 35 s))) = false := by simpa using p4
    have HR := impl_no (s := s) (by simp [iAcc, i1, i2, p4'])
    clear p4
    go_wp2
    exact bodyPost_ret (v := .tuple #[.agg #[.string ⟨#[]⟩, .string ⟨#[]⟩, .string ⟨#[]⟩, .string ⟨#[]⟩, .string ⟨#[]⟩, .string ⟨#[]⟩], .bool false]) (by simp [results, Try.results40, go_sem, *]) rfl (ret_tup HR (by
      repeat (first | refine Below.setCell ?_ (by first | (simp; done) | (simp; omega)) _ | with_reducible exact HB7)))
  go_wp2_with fail
  refine (implTupText_any _ _ _ _ _ _ _ bT bI bRel bT' bI' bSet).mono ?_
  rintro e w8 ⟨rfl, hb8⟩
  obtain ⟨hc8, hf8⟩ := bcell hb8
  have hz8 : w5.heap.size + 1 < w8.heap.size := by have := hb8.size; omega
  have hy8 : w.heap.size < w8.heap.size := by omega
  have e0 : w8.cell? ⟨w.heap.size, 0, none⟩ = some (.string ⟨#[]⟩) := by rw [hc8 _ _ hy7]; exact u0
  have e1 : w8.cell? ⟨w.heap.size, 1, none⟩ = some (.string ⟨#[]⟩) := by rw [hc8 _ _ hy7]; exact u1
  have e2 : w8.cell? ⟨w.heap.size, 2, none⟩ = some (.string ⟨#[]⟩) := by rw [hc8 _ _ hy7]; exact u2
  have e3 : w8.cell? ⟨w.heap.size, 3, none⟩ = some (.string ⟨#[]⟩) := by rw [hc8 _ _ hy7]; exact u3
  have e4 : w8.cell? ⟨w.heap.size, 4, none⟩ = some (.string ⟨#[]⟩) := by rw [hc8 _ _ hy7]; exact u4
  have e5 : w8.cell? ⟨w.heap.size, 5, none⟩ = some (.string ⟨#[]⟩) := by rw [hc8 _ _ hy7]; exact u5
  have k0 : w8.cell? ⟨w5.heap.size + 1, 0, none⟩ = some (.string (rdT (cutA 35 s))) := by rw [hc8 _ _ hz7]; exact v0
  have k1 : w8.cell? ⟨w5.heap.size + 1, 1, none⟩ = some (.string (rdI (cutA 35 s))) := by rw [hc8 _ _ hz7]; exact v1
  have k2 : w8.cell? ⟨w5.heap.size + 1, 2, none⟩ = some (.string (cutA 64 (cutZ 35 s))) := by rw [hc8 _ _ hz7]; exact v2
  have k3 : w8.cell? ⟨w5.heap.size + 1, 3, none⟩ = some (.string (rdT (cutA 35 (cutZ 64 (cutZ 35 s))))) := by rw [hc8 _ _ hz7]; exact v3
  have k4 : w8.cell? ⟨w5.heap.size + 1, 4, none⟩ = some (.string (rdI (cutA 35 (cutZ 64 (cutZ 35 s))))) := by rw [hc8 _ _ hz7]; exact v4
  have k5 : w8.cell? ⟨w5.heap.size + 1, 5, none⟩ = some (.string (cutZ 35 (cutZ 64 (cutZ 35 s)))) := by rw [hc8 _ _ hz7]; exact v5
  have g8 : ∀ o, w8.frozen? ⟨w.heap.size, o, none⟩ = false := fun o => by rw [hf8 _ _ hy7]; exact g7 o
  have HB8 : Below w.heap.size w w8 := HB7.trans (hb8.mono (by omega))
  clear hc8 hf8 hb8 u0 u1 u2 u3 u4 u5 v0 v1 v2 v3 v4 v5 g7 HB7 bT bI bT' bI' bRel bSet
  have hne2 : ¬ w.heap.size = w5.heap.size + 1 := by omega
  by_cases p5 : ((tupText (rdT (cutA 35 s)) (rdI (cutA 35 s)) (cutA 64 (cutZ 35 s)) (rdT (cutA 35 (cutZ 64 (cutZ 35 s)))) (rdI (cutA 35 (cutZ 64 (cutZ 35 s)))) (cutZ 35 (cutZ 64 (cutZ 35 s)))).toList == s.toList) = true
  · have HR := impl_yes (s := s) (by simp only [iAcc, i1, i2, p4, p5]; rfl)
    go_wp2
    exact bodyPost_ret (v := .tuple #[.agg #[.string (rdT (cutA 35 s)), .string (rdI (cutA 35 s)), .string (cutA 64 (cutZ 35 s)), .string (rdT (cutA 35 (cutZ 64 (cutZ 35 s)))), .string (rdI (cutA 35 (cutZ 64 (cutZ 35 s)))), .string (cutZ 35 (cutZ 64 (cutZ 35 s)))], .bool true]) (by simp [results, Try.results40, go_sem, *]) rfl (ret_tup HR (by
      repeat (first | refine Below.setCell ?_ (by first | (simp; done) | (simp; omega)) _ | with_reducible exact HB8)))
  · have p5' : ((tupText (rdT (cutA 35 s)) (rdI (cutA 35 s)) (cutA 64 (cutZ 35 s)) (rdT (cutA 35 (cutZ 64 (cutZ 35 s)))) (rdI (cutA 35 (cutZ 64 (cutZ 35 s)))) (cutZ 35 (cutZ 64 (cutZ 35 s)))).toList == s.toList) = false := by simpa using p5
    have HR := impl_no (s := s) (by simp only [iAcc, i1, i2, p4, p5']; rfl)
    clear p5
    go_wp2
    exact bodyPost_ret (v := .tuple #[.agg #[.string ⟨#[]⟩, .string ⟨#[]⟩, .string ⟨#[]⟩, .string ⟨#[]⟩, .string ⟨#[]⟩, .string ⟨#[]⟩], .bool false]) (by simp [results, Try.results40, go_sem, *]) rfl (ret_tup HR (by
      repeat (first | refine Below.setCell ?_ (by first | (simp; done) | (simp; omega)) _ | with_reducible exact HB8)))


end Go.Proofs.Ytgifbgcnlijjiaa
