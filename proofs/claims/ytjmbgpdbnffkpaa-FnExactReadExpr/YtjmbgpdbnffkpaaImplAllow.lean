/- Contracts of the library's search in a slice of allowed pairs, as the program calls it. -/
import Derived.Test.YtjmbgpdbnffkpaaSpecExpr
namespace Go.Proofs.Ytjmbgpdbnffkpaa
open Go.ChangeShapes Go.WideShapes Go.ChangeAt Go.RowKit
open Pl

theorem alEq_comm (x y : Al) : alEq x y = alEq y x := by
  unfold alEq
  rw [Bool.eq_iff_iff]
  simp only [Bool.and_eq_true, beq_iff_eq]
  exact ⟨fun h => ⟨h.1.symm, h.2.symm⟩, fun h => ⟨h.1.symm, h.2.symm⟩⟩

set_option maxHeartbeats 1000000 in
theorem index_any (ad : Option Addr) (n cap : Nat) (xs : List Al) (v : Al) (w : World) (hn : n ≤ xs.length) (hlen : xs.length ≤ 1048576) (hs : SlA w ad xs) :
    Calls Try.prog 127 #[.slice ad n cap, .agg #[.string v.t, .string v.s]] w fun e w' => (∃ r : Int, e = .returned (.int .i64 r) ∧ decide (0 ≤ r) = inPre xs n v) ∧ Below w.heap.size w w' := by
  obtain ⟨W, hW⟩ : ∃ W, W = w.alloc (.cells #[.string v.t, .string v.s] 102) := ⟨_, rfl⟩
  have HB0 : Hid (Below w.heap.size w W) := by show Below _ _ _; rw [hW]; exact (Below.refl w.heap.size w).alloc (Nat.le_refl _) _
  have hz : w.heap.size < W.heap.size := by rw [hW]; simp
  have b0 : W.cell? ⟨w.heap.size, 0, none⟩ = some (.string v.t) := by rw [hW]; simp
  have b1 : W.cell? ⟨w.heap.size, 1, none⟩ = some (.string v.s) := by rw [hW]; simp
  have HS : Hid (SlA W ad xs) := hs.below HB0.out
  clear hs
  go_enter Try.func127, Try.ntmps127
  go_wp2_with fail
  rw [← hW]
  clear hW
  go_loopw [8] (fun i wr => ∃ k : Nat, k ≤ n ∧ i = .int .i64 k ∧ Hid (inPre xs k v = false) ∧ Below W.heap.size W wr) (fun i _ => n - (intOf i).toNat)
  case atStart => exact ⟨0, Nat.zero_le _, rfl, inPre_zero _ _, Below.refl _ _⟩
  case round =>
    obtain ⟨k, hk, rfl, HP, hB⟩ := hrel
    have a0 := kept hB hz b0
    have a1 := kept hB hz b1
    by_cases hlt : k < n
    · have hltx : k < xs.length := by omega
      rcases HS.out.below hB with rfl | ⟨b, off, rfl, hb, hr⟩
      · simp at hltx
      obtain ⟨t0, t1⟩ := hr k hltx
      have hk1 : (0 : Int) ≤ (k : Int) := by omega
      have hk2 : (k : Int) < (n : Int) := by omega
      clear hr
      cases hq : alEq v xs[k] with
      | true =>
        have HE := al_eql v xs[k] hq
        have HN : Hid (inPre xs n v = true) := inPre_hit hlt hltx (by rw [alEq_comm]; exact hq)
        go_wp2_with fail
        go_quiet (fail)
        go_wp2
        go_ret
        exact ⟨⟨_, rfl, by rw [HN.out]; simp⟩, HB0.out.trans (below_drewN (hB.mono HB0.out.size) _)⟩
      | false =>
        have HE := al_eql v xs[k] hq
        have HP2 : Hid (inPre xs (k + 1) v = false) := by show _ = _; rw [inPre_succ _ _ _ hltx, HP.out, alEq_comm, hq]; rfl
        go_wp2_with fail
        go_quiet (fail)
        go_wp2
        go_roundw
        case rel => exact ⟨k + 1, by omega, by go_num, HP2, below_drewN hB _⟩
        case measure => first | (simp [intOf]; done) | (simp [intOf]; omega)
    · obtain rfl : k = n := by omega
      go_wp2
      go_ret
      exact ⟨⟨-1, rfl, by rw [HP.out]; rfl⟩, HB0.out.trans (hB.mono HB0.out.size)⟩

theorem contains_any (ad : Option Addr) (n cap : Nat) (xs : List Al) (v : Al) (w : World) (hn : n ≤ xs.length) (hlen : xs.length ≤ 1048576) (hs : SlA w ad xs) :
    Calls Try.prog 103 #[.slice ad n cap, .agg #[.string v.t, .string v.s]] w fun e w' => e = .returned (.bool (inPre xs n v)) ∧ Below w.heap.size w w' := by
  have HB0 : Hid (Below w.heap.size w (w.alloc (.cells #[.string v.t, .string v.s] 102))) := (Below.refl w.heap.size w).alloc (Nat.le_refl _) _
  have HS : Hid (SlA w ad xs) := hs
  clear hs
  go_enter Try.func103, Try.ntmps103
  go_wp2_with fail
  refine (index_any ad n cap xs v _ hn hlen (HS.out.below HB0.out)).mono ?_
  rintro e w1 ⟨⟨r, rfl, hr⟩, hb1⟩
  have HR : Hid (decide (0 ≤ r) = inPre xs n v) := hr
  have HB1 : Hid (Below w.heap.size w w1) := HB0.out.trans (hb1.mono HB0.out.size)
  clear hr hb1
  go_wp2
  go_ret
  exact ⟨ret_bool HR.out, HB1.out⟩

set_option maxRecDepth 8000 in
set_option maxHeartbeats 4000000 in
theorem nodeOk_plain (r : ER) (w : World) (hf : r.e.fits) (h1 : r.e.kind ≠ 1) :
    Calls Try.prog 40 #[r.val] w fun e w' => e = .returned (.bool (nodeB r.e)) ∧ Below w.heap.size w w' := by
  obtain ⟨⟨kind, allow, over, name, kids⟩, adA, capA, adK, capK⟩ := r
  obtain ⟨f1, f2, f3, f4, f5⟩ := hf
  simp only at f1 f2 f3 f4 f5 h1
  simp only [ER.val]
  unfold maxLen at f4 f5
  by_cases h2 : kind = 2
  · subst h2
    clear h1
    go_enter Try.func40, Try.ntmps40
    go_wp2_with fail
    go_quiet (fail)
    go_wp2_with (go_at_call 77; refine (implName_any _ _ (by assumption)).mono ?_; rintro e w' ⟨rfl, rfl⟩)
    all_goals go_ret
    all_goals exact ⟨ret_bool (by first | (simp [nodeB, *]; done) | (simp [nodeB, *]; omega) | (simp [nodeB, *]; rw [Bool.eq_iff_iff]; simp; done) | (simp [nodeB, *]; rw [Bool.eq_iff_iff]; simp; omega)), below_drewN ((Below.refl w.heap.size w).alloc (Nat.le_refl _) _) _⟩
  by_cases h3 : kind = 3
  · subst h3
    clear h1
    go_enter Try.func40, Try.ntmps40
    go_wp2_with fail
    go_quiet (fail)
    go_wp2_with (go_at_call 77; refine (implName_any _ _ (by assumption)).mono ?_; rintro e w' ⟨rfl, rfl⟩)
    all_goals go_ret
    all_goals exact ⟨ret_bool (by first | (simp [nodeB, *]; done) | (simp [nodeB, *]; omega) | (simp [nodeB, *]; rw [Bool.eq_iff_iff]; simp; done) | (simp [nodeB, *]; rw [Bool.eq_iff_iff]; simp; omega)), below_drewN ((Below.refl w.heap.size w).alloc (Nat.le_refl _) _) _⟩
  by_cases h4 : kind = 4
  · subst h4
    clear h1
    go_enter Try.func40, Try.ntmps40
    go_wp2_with fail
    go_quiet (fail)
    go_wp2_with (go_at_call 77; refine (implName_any _ _ (by assumption)).mono ?_; rintro e w' ⟨rfl, rfl⟩)
    all_goals go_ret
    all_goals exact ⟨ret_bool (by first | (simp [nodeB, *]; done) | (simp [nodeB, *]; omega) | (simp [nodeB, *]; rw [Bool.eq_iff_iff]; simp; done) | (simp [nodeB, *]; rw [Bool.eq_iff_iff]; simp; omega)), below_drewN ((Below.refl w.heap.size w).alloc (Nat.le_refl _) _) _⟩
  by_cases h5 : kind = 5
  · subst h5
    clear h1
    go_enter Try.func40, Try.ntmps40
    go_wp2_with fail
    go_quiet (fail)
    go_wp2_with (go_at_call 77; refine (implName_any _ _ (by assumption)).mono ?_; rintro e w' ⟨rfl, rfl⟩)
    all_goals go_ret
    all_goals exact ⟨ret_bool (by first | (simp [nodeB, *]; done) | (simp [nodeB, *]; omega) | (simp [nodeB, *]; rw [Bool.eq_iff_iff]; simp; done) | (simp [nodeB, *]; rw [Bool.eq_iff_iff]; simp; omega)), below_drewN ((Below.refl w.heap.size w).alloc (Nat.le_refl _) _) _⟩
  by_cases h6 : kind = 6
  · subst h6
    clear h1
    go_enter Try.func40, Try.ntmps40
    go_wp2_with fail
    go_quiet (fail)
    go_wp2_with (go_at_call 77; refine (implName_any _ _ (by assumption)).mono ?_; rintro e w' ⟨rfl, rfl⟩)
    all_goals go_ret
    all_goals exact ⟨ret_bool (by first | (simp [nodeB, *]; done) | (simp [nodeB, *]; omega) | (simp [nodeB, *]; rw [Bool.eq_iff_iff]; simp; done) | (simp [nodeB, *]; rw [Bool.eq_iff_iff]; simp; omega)), below_drewN ((Below.refl w.heap.size w).alloc (Nat.le_refl _) _) _⟩
  · go_enter Try.func40, Try.ntmps40
    go_wp2_with fail
    go_quiet (fail)
    go_wp2_with (go_at_call 77; refine (implName_any _ _ (by assumption)).mono ?_; rintro e w' ⟨rfl, rfl⟩)
    all_goals go_ret
    all_goals exact ⟨ret_bool (by first | (simp [nodeB, *]; done) | (simp [nodeB, *]; omega) | (simp [nodeB, *]; rw [Bool.eq_iff_iff]; simp; done) | (simp [nodeB, *]; rw [Bool.eq_iff_iff]; simp; omega)), below_drewN ((Below.refl w.heap.size w).alloc (Nat.le_refl _) _) _⟩

end Go.Proofs.Ytjmbgpdbnffkpaa
