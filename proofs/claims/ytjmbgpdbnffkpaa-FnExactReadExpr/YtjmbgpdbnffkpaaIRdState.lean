/- The program's reader in memory: its block, its nodes, each node's lists in blocks of their own; one more node. -/
import Derived.Test.YtjmbgpdbnffkpaaIRdPut
namespace Go.Proofs.Ytjmbgpdbnffkpaa
set_option maxRecDepth 100000
set_option linter.unusedVariables false
open Go.ChangeShapes Go.WideShapes Go.ChangeAt Go.RowKit
open Pl

/-- the reader with its nodes -/
structure RdG (w : World) (R : Nat) (s : ByteArray) (st : IS) (base : Nat) (v : Value) (qs : List ER) : Prop where
  rd : RdI w R s st.p v
  own : w.ownsRow base 56 5 v qs.length (rows5 qs)
  out : exs qs = st.out
  zA : ∀ q ∈ qs, q.e.allow ≠ [] → ∃ g, q.adA = some ⟨g, 0, none⟩
  zK : ∀ q ∈ qs, q.e.kids ≠ [] → ∃ g, q.adK = some ⟨g, 0, none⟩
  ok : ∀ q ∈ qs, q.ok w
  lie : ∀ q ∈ qs, ∀ g, inR q g → base ≤ g ∧ g < w.heap.size ∧ Free w g ∧ v.ownBlock ≠ some g
  one : ∀ q ∈ qs, ∀ g, bA q g → ¬ bK q g
  two : ∀ (x y : Nat) (hx : x < qs.length) (hy : y < qs.length), x ≠ y → ∀ g, inR qs[x] g → ¬ inR qs[y] g
  cA : ∀ q ∈ qs, q.e.allow.length ≤ q.capA
/-- where nothing but the reader's own block has changed -/
theorem RdG.over {w w' : World} {R : Nat} {s : ByteArray} {st : IS} {base : Nat} {v : Value} {qs : List ER} (h : RdG w R s st base v qs) (hR : R < base) (ho : Onl R nilV w w') {p : Nat} (hr : RdI w' R s p v) : RdG w' R s ⟨p, st.out⟩ base v qs where
  rd := hr
  own := own_heap h.own fun g hg => ho.block g (h.own.lt g hg).2 (by have := (h.own.lt g hg).1; omega) (by simp [Value.ownBlock])
  out := h.out
  zA := h.zA
  zK := h.zK
  ok q hq := ok_heap (h.ok q hq) ho.size (h.zA q hq) (h.zK q hq) fun g hg => ho.block g (h.lie q hq g hg).2.1 (by have := (h.lie q hq g hg).1; omega) (by simp [Value.ownBlock])
  lie q hq g hg := by
    obtain ⟨h1, h2, h3, h4⟩ := h.lie q hq g hg
    exact ⟨h1, Nat.lt_of_lt_of_le h2 ho.size, free_heap h3 (ho.block g h2 (by omega) (by simp [Value.ownBlock])), h4⟩
  one := h.one
  two := h.two
  cA := h.cA
/-- one more node -/
theorem putF (R : Nat) (s : ByteArray) (st : IS) (base : Nat) (v : Value) (qs : List ER) (q : ER) (w : World) (h : RdG w R s st base v qs) (hR : R < base) (hB : base ≤ w.heap.size) (hn : qs.length ≤ 100000)
    (hq : NewQ base w q) (ha : ∀ g, inR q g → v.ownBlock ≠ some g ∧ ∀ q' ∈ qs, ¬ inR q' g) :
    Calls Try.prog 96 #[.pointer (some ⟨R, 0, none⟩), q.val] w fun e w' => ∃ v', e = .returned (.int .i64 (st.out.length : Int)) ∧ RdG w' R s ⟨st.p, st.out ++ [q.e]⟩ base v' (qs ++ [q]) ∧ Went R v w v' w' := by
  have hlen : qs.length = st.out.length := by rw [← h.out]; simp [exs]
  refine (put_any R s st.p v base qs.length (rows5 qs) q w h.rd h.own hR hB hn).mono ?_
  rintro e w' ⟨g, cap, rfl, hrd, hown, honl, hat⟩
  have hW : Went R v w (.slice (some ⟨g, 0, none⟩) (qs.length + 1) cap) w' := ⟨honl, by
    rcases hat with e | e
    · exact .inl (by rw [e]; rfl)
    · exact .inr ⟨g, rfl, e⟩⟩
  have keep : ∀ k, k < w.heap.size → base ≤ k → v.ownBlock ≠ some k → w'.heap[k]? = w.heap[k]? := fun k h1 h2 h3 => honl.block k h1 (by omega) h3
  refine ⟨.slice (some ⟨g, 0, none⟩) (qs.length + 1) cap, by rw [hlen], ?_, hW⟩
  refine ⟨hrd, ?_, ?_, ?_, ?_, ?_, ?_, ?_, ?_, ?_⟩
  · rw [List.length_append, List.length_singleton, rows5_snoc]; exact hown
  · simp [exs, ← h.out]
  · intro q' hq'
    rcases List.mem_append.1 hq' with h1 | h1
    · exact h.zA q' h1
    · rw [List.mem_singleton] at h1; subst h1; exact hq.zA
  · intro q' hq'
    rcases List.mem_append.1 hq' with h1 | h1
    · exact h.zK q' h1
    · rw [List.mem_singleton] at h1; subst h1; exact hq.zK
  · intro q' hq'
    rcases List.mem_append.1 hq' with h1 | h1
    · exact ok_heap (h.ok q' h1) honl.size (h.zA q' h1) (h.zK q' h1) fun k hk => keep k (h.lie q' h1 k hk).2.1 (h.lie q' h1 k hk).1 (h.lie q' h1 k hk).2.2.2
    · rw [List.mem_singleton] at h1; subst h1
      exact ok_heap hq.ok honl.size hq.zA hq.zK fun k hk => keep k (hq.lie k hk).2.1 (hq.lie k hk).1 (ha k hk).1
  · intro q' hq' k hk
    rcases List.mem_append.1 hq' with h1 | h1
    · obtain ⟨a1, a2, a3, a4⟩ := h.lie q' h1 k hk
      exact ⟨a1, Nat.lt_of_lt_of_le a2 honl.size, free_heap a3 (keep k a2 a1 a4), hW.apart a2 a4⟩
    · rw [List.mem_singleton] at h1; subst h1
      obtain ⟨a1, a2, a3⟩ := hq.lie k hk
      exact ⟨a1, Nat.lt_of_lt_of_le a2 honl.size, free_heap a3 (keep k a2 a1 (ha k hk).1), hW.apart a2 (ha k hk).1⟩
  · intro q' hq'
    rcases List.mem_append.1 hq' with h1 | h1
    · exact h.one q' h1
    · rw [List.mem_singleton] at h1; subst h1; exact hq.one
  · intro x y hx hy hxy k hkx hky
    rw [List.length_append, List.length_singleton] at hx hy
    by_cases ex : x < qs.length
    · rw [List.getElem_append_left ex] at hkx
      by_cases ey : y < qs.length
      · rw [List.getElem_append_left ey] at hky
        exact h.two x y ex ey hxy k hkx hky
      · have : y = qs.length := by omega
        subst this
        rw [List.getElem_append_right (Nat.le_refl _)] at hky
        simp at hky
        exact (ha k hky).2 _ (List.getElem_mem ex) hkx
    · have : x = qs.length := by omega
      subst this
      rw [List.getElem_append_right (Nat.le_refl _)] at hkx
      simp at hkx
      have ey : y < qs.length := by omega
      rw [List.getElem_append_left ey] at hky
      exact (ha k hkx).2 _ (List.getElem_mem ey) hky
  · intro q' hq'
    rcases List.mem_append.1 hq' with h1 | h1
    · exact h.cA q' h1
    · rw [List.mem_singleton] at h1; subst h1; exact hq.cA
end Go.Proofs.Ytjmbgpdbnffkpaa
