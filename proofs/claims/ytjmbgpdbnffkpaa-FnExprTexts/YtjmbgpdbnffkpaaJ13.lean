/- The program's reader in memory: its block, its nodes, each node's lists in blocks of their own; one more node. -/
import Derived.Test.YtjmbgpdbnffkpaaIRdPut
import Derived.Test.YtjmbgpdbnffkpaaSpecExpr
namespace Go.Proofs.Ytjmbgpdbnffkpaa
set_option maxRecDepth 100000
set_option linter.unusedVariables false
open Go.ChangeShapes Go.WideShapes Go.ChangeAt Go.RowKit
open Pl

/-- the reader with its nodes -/
structure RdG (w : World) (R : Nat) (s : ByteArray) (st : IS) (base : Nat) (v : Value) (qs : List ER) : Prop where
  rd : RdI w R s st.p v
  own : w.ownsRow base 56 5 v qs.length (rows5 qs)
  out : exs qs = st.out
  zA : ∀ q ∈ qs, q.e.allow ≠ [] → ∃ g, q.adA = some ⟨g, 0, none⟩
  zK : ∀ q ∈ qs, q.e.kids ≠ [] → ∃ g, q.adK = some ⟨g, 0, none⟩
  ok : ∀ q ∈ qs, q.ok w
  lie : ∀ q ∈ qs, ∀ g, inR q g → base ≤ g ∧ g < w.heap.size ∧ Free w g ∧ v.ownBlock ≠ some g
  one : ∀ q ∈ qs, ∀ g, bA q g → ¬ bK q g
  two : ∀ (x y : Nat) (hx : x < qs.length) (hy : y < qs.length), x ≠ y → ∀ g, inR qs[x] g → ¬ inR qs[y] g
  cA : ∀ q ∈ qs, q.e.allow.length ≤ q.capA
/-- where nothing but the reader's own block has changed -/
theorem RdG.over {w w' : World} {R : Nat} {s : ByteArray} {st : IS} {base : Nat} {v : Value} {qs : List ER} (h : RdG w R s st base v qs) (hR : R < base) (ho : Onl R nilV w w') {p : Nat} (hr : RdI w' R s p v) : RdG w' R s ⟨p, st.out⟩ base v qs where
  rd := hr
  own := own_heap h.own fun g hg => ho.block g (h.own.lt g hg).2 (by have := (h.own.lt g hg).1; omega) (by simp [Value.ownBlock])
  out := h.out
  zA := h.zA
  zK := h.zK
  ok q hq := ok_heap (h.ok q hq) ho.size (h.zA q hq) (h.zK q hq) fun g hg => ho.block g (h.lie q hq g hg).2.1 (by have := (h.lie q hq g hg).1; omega) (by simp [Value.ownBlock])
  lie q hq g hg := by
    obtain ⟨h1, h2, h3, h4⟩ := h.lie q hq g hg
    exact ⟨h1, Nat.lt_of_lt_of_le h2 ho.size, free_heap h3 (ho.block g h2 (by omega) (by simp [Value.ownBlock])), h4⟩
  one := h.one
  two := h.two
  cA := h.cA
/-- one more node -/
theorem putF (R : Nat) (s : ByteArray) (st : IS) (base : Nat) (v : Value) (qs : List ER) (q : ER) (w : World) (h : RdG w R s st base v qs) (hR : R < base) (hB : base ≤ w.heap.size) (hn : qs.length ≤ 100000)
    (hq : NewQ base w q) (ha : ∀ g, inR q g → v.ownBlock ≠ some g ∧ ∀ q' ∈ qs, ¬ inR q' g) :
    Calls Try.prog 96 #[.pointer (some ⟨R, 0, none⟩), q.val] w fun e w' => ∃ v', e = .returned (.int .i64 (st.out.length : Int)) ∧ RdG w' R s ⟨st.p, st.out ++ [q.e]⟩ base v' (qs ++ [q]) ∧ Went R v w v' w' := by
  have hlen : qs.length = st.out.length := by rw [← h.out]; simp [exs]
  refine (put_any R s st.p v base qs.length (rows5 qs) q w h.rd h.own hR hB hn).mono ?_
  rintro e w' ⟨g, cap, rfl, hrd, hown, honl, hat⟩
  have hW : Went R v w (.slice (some ⟨g, 0, none⟩) (qs.length + 1) cap) w' := ⟨honl, by
    rcases hat with e | e
    · exact .inl (by rw [e]; rfl)
    · exact .inr ⟨g, rfl, e⟩⟩
  have keep : ∀ k, k < w.heap.size → base ≤ k → v.ownBlock ≠ some k → w'.heap[k]? = w.heap[k]? := fun k h1 h2 h3 => honl.block k h1 (by omega) h3
  refine ⟨.slice (some ⟨g, 0, none⟩) (qs.length + 1) cap, by rw [hlen], ?_, hW⟩
  refine ⟨hrd, ?_, ?_, ?_, ?_, ?_, ?_, ?_, ?_, ?_⟩
  · rw [List.length_append, List.length_singleton, rows5_snoc]; exact hown
  · simp [exs, ← h.out]
  · intro q' hq'
    rcases List.mem_append.1 hq' with h1 | h1
    · exact h.zA q' h1
    · rw [List.mem_singleton] at h1; subst h1; exact hq.zA
  · intro q' hq'
    rcases List.mem_append.1 hq' with h1 | h1
    · exact h.zK q' h1
    · rw [List.mem_singleton] at h1; subst h1; exact hq.zK
  · intro q' hq'
    rcases List.mem_append.1 hq' with h1 | h1
    · exact ok_heap (h.ok q' h1) honl.size (h.zA q' h1) (h.zK q' h1) fun k hk => keep k (h.lie q' h1 k hk).2.1 (h.lie q' h1 k hk).1 (h.lie q' h1 k hk).2.2.2
    · rw [List.mem_singleton] at h1; subst h1
      exact ok_heap hq.ok honl.size hq.zA hq.zK fun k hk => keep k (hq.lie k hk).2.1 (hq.lie k hk).1 (ha k hk).1
  · intro q' hq' k hk
    rcases List.mem_append.1 hq' with h1 | h1
    · obtain ⟨a1, a2, a3, a4⟩ := h.lie q' h1 k hk
      exact ⟨a1, Nat.lt_of_lt_of_le a2 honl.size, free_heap a3 (keep k a2 a1 a4), hW.apart a2 a4⟩
    · rw [List.mem_singleton] at h1; subst h1
      obtain ⟨a1, a2, a3⟩ := hq.lie k hk
      exact ⟨a1, Nat.lt_of_lt_of_le a2 honl.size, free_heap a3 (keep k a2 a1 (ha k hk).1), hW.apart a2 (ha k hk).1⟩
  · intro q' hq'
    rcases List.mem_append.1 hq' with h1 | h1
    · exact h.one q' h1
    · rw [List.mem_singleton] at h1; subst h1; exact hq.one
  · intro x y hx hy hxy k hkx hky
    rw [List.length_append, List.length_singleton] at hx hy
    by_cases ex : x < qs.length
    · rw [List.getElem_append_left ex] at hkx
      by_cases ey : y < qs.length
      · rw [List.getElem_append_left ey] at hky
        exact h.two x y ex ey hxy k hkx hky
      · have : y = qs.length := by omega
        subst this
        rw [List.getElem_append_right (Nat.le_refl _)] at hky
        simp at hky
        exact (ha k hky).2 _ (List.getElem_mem ex) hkx
    · have : x = qs.length := by omega
      subst this
      rw [List.getElem_append_right (Nat.le_refl _)] at hkx
      simp at hkx
      have ey : y < qs.length := by omega
      rw [List.getElem_append_left ey] at hky
      exact (ha k hkx).2 _ (List.getElem_mem ey) hky
  · intro q' hq'
    rcases List.mem_append.1 hq' with h1 | h1
    · exact h.cA q' h1
    · rw [List.mem_singleton] at h1; subst h1; exact hq.cA
end Go.Proofs.Ytjmbgpdbnffkpaa

/- Contracts of the library's search in a slice of allowed pairs, as the program calls it. -/
namespace Go.Proofs.Ytjmbgpdbnffkpaa
open Go.ChangeShapes Go.WideShapes Go.ChangeAt Go.RowKit
open Pl

theorem alEq_comm (x y : Al) : alEq x y = alEq y x := by
  unfold alEq
  rw [Bool.eq_iff_iff]
  simp only [Bool.and_eq_true, beq_iff_eq]
  exact ⟨fun h => ⟨h.1.symm, h.2.symm⟩, fun h => ⟨h.1.symm, h.2.symm⟩⟩

set_option maxHeartbeats 1000000 in
theorem index_any (ad : Option Addr) (n cap : Nat) (xs : List Al) (v : Al) (w : World) (hn : n ≤ xs.length) (hlen : xs.length ≤ 1048576) (hs : SlA w ad xs) :
    Calls Try.prog 127 #[.slice ad n cap, .agg #[.string v.t, .string v.s]] w fun e w' => (∃ r : Int, e = .returned (.int .i64 r) ∧ decide (0 ≤ r) = inPre xs n v) ∧ Below w.heap.size w w' := by
  obtain ⟨W, hW⟩ : ∃ W, W = w.alloc (.cells #[.string v.t, .string v.s] 102) := ⟨_, rfl⟩
  have HB0 : Hid (Below w.heap.size w W) := by show Below _ _ _; rw [hW]; exact (Below.refl w.heap.size w).alloc (Nat.le_refl _) _
  have hz : w.heap.size < W.heap.size := by rw [hW]; simp
  have b0 : W.cell? ⟨w.heap.size, 0, none⟩ = some (.string v.t) := by rw [hW]; simp
  have b1 : W.cell? ⟨w.heap.size, 1, none⟩ = some (.string v.s) := by rw [hW]; simp
  have HS : Hid (SlA W ad xs) := hs.below HB0.out
  clear hs
  go_enter Try.func127, Try.ntmps127
  go_wp2_with fail
  rw [← hW]
  clear hW
  go_loopw [8] (fun i wr => ∃ k : Nat, k ≤ n ∧ i = .int .i64 k ∧ Hid (inPre xs k v = false) ∧ Below W.heap.size W wr) (fun i _ => n - (intOf i).toNat)
  case atStart => exact ⟨0, Nat.zero_le _, rfl, inPre_zero _ _, Below.refl _ _⟩
  case round =>
    obtain ⟨k, hk, rfl, HP, hB⟩ := hrel
    have a0 := kept hB hz b0
    have a1 := kept hB hz b1
    by_cases hlt : k < n
    · have hltx : k < xs.length := by omega
      rcases HS.out.below hB with rfl | ⟨b, off, rfl, hb, hr⟩
      · simp at hltx
      obtain ⟨t0, t1⟩ := hr k hltx
      have hk1 : (0 : Int) ≤ (k : Int) := by omega
      have hk2 : (k : Int) < (n : Int) := by omega
      clear hr
      cases hq : alEq v xs[k] with
      | true =>
        have HE := al_eql v xs[k] hq
        have HN : Hid (inPre xs n v = true) := inPre_hit hlt hltx (by rw [alEq_comm]; exact hq)
        go_wp2_with fail
        go_quiet (fail)
        go_wp2
        go_ret
        exact ⟨⟨_, rfl, by rw [HN.out]; simp⟩, HB0.out.trans (below_drewN (hB.mono HB0.out.size) _)⟩
      | false =>
        have HE := al_eql v xs[k] hq
        have HP2 : Hid (inPre xs (k + 1) v = false) := by show _ = _; rw [inPre_succ _ _ _ hltx, HP.out, alEq_comm, hq]; rfl
        go_wp2_with fail
        go_quiet (fail)
        go_wp2
        go_roundw
        case rel => exact ⟨k + 1, by omega, by go_num, HP2, below_drewN hB _⟩
        case measure => first | (simp [intOf]; done) | (simp [intOf]; omega)
    · obtain rfl : k = n := by omega
      go_wp2
      go_ret
      exact ⟨⟨-1, rfl, by rw [HP.out]; rfl⟩, HB0.out.trans (hB.mono HB0.out.size)⟩

theorem contains_any (ad : Option Addr) (n cap : Nat) (xs : List Al) (v : Al) (w : World) (hn : n ≤ xs.length) (hlen : xs.length ≤ 1048576) (hs : SlA w ad xs) :
    Calls Try.prog 103 #[.slice ad n cap, .agg #[.string v.t, .string v.s]] w fun e w' => e = .returned (.bool (inPre xs n v)) ∧ Below w.heap.size w w' := by
  have HB0 : Hid (Below w.heap.size w (w.alloc (.cells #[.string v.t, .string v.s] 102))) := (Below.refl w.heap.size w).alloc (Nat.le_refl _) _
  have HS : Hid (SlA w ad xs) := hs
  clear hs
  go_enter Try.func103, Try.ntmps103
  go_wp2_with fail
  refine (index_any ad n cap xs v _ hn hlen (HS.out.below HB0.out)).mono ?_
  rintro e w1 ⟨⟨r, rfl, hr⟩, hb1⟩
  have HR : Hid (decide (0 ≤ r) = inPre xs n v) := hr
  have HB1 : Hid (Below w.heap.size w w1) := HB0.out.trans (hb1.mono HB0.out.size)
  clear hr hb1
  go_wp2
  go_ret
  exact ⟨ret_bool HR.out, HB1.out⟩

set_option maxRecDepth 8000 in
set_option maxHeartbeats 4000000 in
theorem nodeOk_plain (r : ER) (w : World) (hf : r.e.fits) (h1 : r.e.kind ≠ 1) :
    Calls Try.prog 40 #[r.val] w fun e w' => e = .returned (.bool (nodeB r.e)) ∧ Below w.heap.size w w' := by
  obtain ⟨⟨kind, allow, over, name, kids⟩, adA, capA, adK, capK⟩ := r
  obtain ⟨f1, f2, f3, f4, f5⟩ := hf
  simp only at f1 f2 f3 f4 f5 h1
  simp only [ER.val]
  unfold maxLen at f4 f5
  by_cases h2 : kind = 2
  · subst h2
    clear h1
    go_enter Try.func40, Try.ntmps40
    go_wp2_with fail
    go_quiet (fail)
    go_wp2_with (go_at_call 77; refine (implName_any _ _ (by assumption)).mono ?_; rintro e w' ⟨rfl, rfl⟩)
    all_goals go_ret
    all_goals exact ⟨ret_bool (by first | (simp [nodeB, *]; done) | (simp [nodeB, *]; omega) | (simp [nodeB, *]; rw [Bool.eq_iff_iff]; simp; done) | (simp [nodeB, *]; rw [Bool.eq_iff_iff]; simp; omega)), below_drewN ((Below.refl w.heap.size w).alloc (Nat.le_refl _) _) _⟩
  by_cases h3 : kind = 3
  · subst h3
    clear h1
    go_enter Try.func40, Try.ntmps40
    go_wp2_with fail
    go_quiet (fail)
    go_wp2_with (go_at_call 77; refine (implName_any _ _ (by assumption)).mono ?_; rintro e w' ⟨rfl, rfl⟩)
    all_goals go_ret
    all_goals exact ⟨ret_bool (by first | (simp [nodeB, *]; done) | (simp [nodeB, *]; omega) | (simp [nodeB, *]; rw [Bool.eq_iff_iff]; simp; done) | (simp [nodeB, *]; rw [Bool.eq_iff_iff]; simp; omega)), below_drewN ((Below.refl w.heap.size w).alloc (Nat.le_refl _) _) _⟩
  by_cases h4 : kind = 4
  · subst h4
    clear h1
    go_enter Try.func40, Try.ntmps40
    go_wp2_with fail
    go_quiet (fail)
    go_wp2_with (go_at_call 77; refine (implName_any _ _ (by assumption)).mono ?_; rintro e w' ⟨rfl, rfl⟩)
    all_goals go_ret
    all_goals exact ⟨ret_bool (by first | (simp [nodeB, *]; done) | (simp [nodeB, *]; omega) | (simp [nodeB, *]; rw [Bool.eq_iff_iff]; simp; done) | (simp [nodeB, *]; rw [Bool.eq_iff_iff]; simp; omega)), below_drewN ((Below.refl w.heap.size w).alloc (Nat.le_refl _) _) _⟩
  by_cases h5 : kind = 5
  · subst h5
    clear h1
    go_enter Try.func40, Try.ntmps40
    go_wp2_with fail
    go_quiet (fail)
    go_wp2_with (go_at_call 77; refine (implName_any _ _ (by assumption)).mono ?_; rintro e w' ⟨rfl, rfl⟩)
    all_goals go_ret
    all_goals exact ⟨ret_bool (by first | (simp [nodeB, *]; done) | (simp [nodeB, *]; omega) | (simp [nodeB, *]; rw [Bool.eq_iff_iff]; simp; done) | (simp [nodeB, *]; rw [Bool.eq_iff_iff]; simp; omega)), below_drewN ((Below.refl w.heap.size w).alloc (Nat.le_refl _) _) _⟩
  by_cases h6 : kind = 6
  · subst h6
    clear h1
    go_enter Try.func40, Try.ntmps40
    go_wp2_with fail
    go_quiet (fail)
    go_wp2_with (go_at_call 77; refine (implName_any _ _ (by assumption)).mono ?_; rintro e w' ⟨rfl, rfl⟩)
    all_goals go_ret
    all_goals exact ⟨ret_bool (by first | (simp [nodeB, *]; done) | (simp [nodeB, *]; omega) | (simp [nodeB, *]; rw [Bool.eq_iff_iff]; simp; done) | (simp [nodeB, *]; rw [Bool.eq_iff_iff]; simp; omega)), below_drewN ((Below.refl w.heap.size w).alloc (Nat.le_refl _) _) _⟩
  · go_enter Try.func40, Try.ntmps40
    go_wp2_with fail
    go_quiet (fail)
    go_wp2_with (go_at_call 77; refine (implName_any _ _ (by assumption)).mono ?_; rintro e w' ⟨rfl, rfl⟩)
    all_goals go_ret
    all_goals exact ⟨ret_bool (by first | (simp [nodeB, *]; done) | (simp [nodeB, *]; omega) | (simp [nodeB, *]; rw [Bool.eq_iff_iff]; simp; done) | (simp [nodeB, *]; rw [Bool.eq_iff_iff]; simp; omega)), below_drewN ((Below.refl w.heap.size w).alloc (Nat.le_refl _) _) _⟩

end Go.Proofs.Ytjmbgpdbnffkpaa
