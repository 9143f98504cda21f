/- Tuples with another name for a relation, put in order one by one: what comes of it, as a list that rises. -/
import Derived.Test.YthicofnjehpalaaPlainSet
namespace Go.Proofs.Ythicofnjehpalaa
open Pl

/-- the name that a relation has behind the renaming -/
def relN (typ frm to ty name : ByteArray) : ByteArray := if ty.toList == typ.toList && name.toList == frm.toList && !name.toList.isEmpty then to else name
def ren (typ frm to : ByteArray) (t : Tp) : Tp := ⟨t.a, t.b, relN typ frm to t.a t.r, t.c, t.d, relN typ frm to t.c t.s⟩
def putN (L : List Tp) (t : Tp) : List Tp := if hasT L t then L else putT L t
def renL (typ frm to : ByteArray) (ts : List Tp) : List Tp := (ts.map (ren typ frm to)).foldl putN []

theorem putN_len (L : List Tp) (y : Tp) : (putT L y).length = L.length + 1 := by
  induction L with
  | nil => rfl
  | cons x xs ih =>
    unfold putT
    split
    · simp [ih]
    · simp
theorem foldl_up : ∀ (xs L : List Tp), Up L → (∀ x ∈ L, x.ok = true) → (∀ x ∈ xs, x.ok = true) → Up (xs.foldl putN L) ∧ (∀ x ∈ xs.foldl putN L, x.ok = true) ∧ (∀ x, x ∈ xs.foldl putN L ↔ x ∈ L ∨ x ∈ xs) ∧ (xs.foldl putN L).length ≤ L.length + xs.length
  | [], L, hu, hk, _ => ⟨hu, hk, fun x => by simp, by simp⟩
  | y :: ys, L, hu, hk, hy => by
    have hyk := hy y List.mem_cons_self
    have key : Up (putN L y) ∧ (∀ x ∈ putN L y, x.ok = true) ∧ (∀ x, x ∈ putN L y ↔ x ∈ L ∨ x = y) ∧ (putN L y).length ≤ L.length + 1 := by
      unfold putN
      cases e : hasT L y with
      | true =>
        have hm := hasT_iff.1 e
        refine ⟨hu, hk, fun x => ⟨.inl, ?_⟩, by simp⟩
        rintro (h | rfl)
        · exact h
        · exact hm
      | false =>
        have hn : y ∉ L := fun hm => by rw [hasT_iff.2 hm] at e; cases e
        simp only [Bool.false_eq_true, if_false]
        refine ⟨putT_up hu hk hyk hn, fun x hx => ?_, fun x => ?_, ?_⟩
        · rcases (putT_mem L y x).1 hx with rfl | h
          · exact hyk
          · exact hk x h
        · rw [putT_mem]; exact ⟨fun h => h.symm, fun h => h.symm⟩
        · exact Nat.le_of_eq (putN_len L y)
    obtain ⟨k1, k2, k3, k4⟩ := key
    obtain ⟨i1, i2, i3, i4⟩ := foldl_up ys (putN L y) k1 k2 (fun x hx => hy x (List.mem_cons_of_mem _ hx))
    refine ⟨i1, i2, fun x => ?_, ?_⟩
    · rw [List.foldl_cons, i3, k3]
      simp only [List.mem_cons]
      constructor
      · rintro ((h | h) | h)
        · exact .inl h
        · exact .inr (.inl h)
        · exact .inr (.inr h)
      · rintro (h | h | h)
        · exact .inl (.inl h)
        · exact .inl (.inr h)
        · exact .inr h
    · rw [List.foldl_cons, List.length_cons]; omega
theorem renL_up {typ frm to : ByteArray} {ts : List Tp} (h : ∀ t ∈ ts, (ren typ frm to t).ok = true) : Up (renL typ frm to ts) ∧ (∀ x ∈ renL typ frm to ts, x.ok = true) ∧ (∀ x, x ∈ renL typ frm to ts ↔ x ∈ ts.map (ren typ frm to)) ∧ (renL typ frm to ts).length ≤ ts.length := by
  obtain ⟨h1, h2, h3, h4⟩ := foldl_up (ts.map (ren typ frm to)) [] List.Pairwise.nil (fun x hx => by cases hx) (fun x hx => by obtain ⟨t, ht, rfl⟩ := List.mem_map.1 hx; exact h t ht)
  exact ⟨h1, h2, fun x => by unfold renL; rw [h3]; simp, by unfold renL; simpa using h4⟩
theorem renL_take {typ frm to : ByteArray} {ts : List Tp} {k : Nat} (h : k < ts.length) : renL typ frm to (ts.take (k + 1)) = putN (renL typ frm to (ts.take k)) (ren typ frm to ts[k]) := by
  unfold renL
  rw [List.take_succ_eq_append_getElem h, List.map_append, List.foldl_append]
  rfl
end Go.Proofs.Ythicofnjehpalaa
