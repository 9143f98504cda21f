/- The document's reader of expressions: items and rows, whatever they hold. -/
import Derived.Test.YtjmbgpdbnffkpaaRdxRow
namespace Go.Proofs.Ytjmbgpdbnffkpaa
set_option maxRecDepth 100000
open Go.ChangeShapes Go.WideShapes Go.ChangeAt Go.RowKit
open Pl

theorem pairAt_le {s : ByteArray} {st : RS} (h : st.p ≤ s.size) : st.p ≤ (pairAt s st).p ∧ (pairAt s st).p ≤ s.size := ⟨Nat.le_add_right _ _, wordN_le s st.p h⟩
theorem behindSet_le {s : ByteArray} {st : RS} (h : st.p ≤ s.size) : st.p ≤ (behindSet s st).p ∧ (behindSet s st).p ≤ s.size ∧ (behindSet s st).out = st.out := by
  unfold behindSet
  cases e : isP s tHash st with
  | false => exact ⟨Nat.le_refl _, h, rfl⟩
  | true =>
    have h1 : st.p + 1 ≤ s.size := isP_le e
    have := wordN_le s (st.p + 1) h1
    exact ⟨by show st.p ≤ st.p + 1 + wordN s (st.p + 1); omega, this, rfl⟩
theorem pairsP_le {s : ByteArray} : ∀ (n : Nat) (xs : List Al) (st : RS), st.p ≤ s.size → st.p ≤ (pairsP s n xs st).2.p ∧ (pairsP s n xs st).2.p ≤ s.size ∧ (pairsP s n xs st).2.out = st.out := by
  intro n
  induction n with
  | zero => intro xs st h; exact ⟨Nat.le_refl _, h, rfl⟩
  | succ n ih =>
    intro xs st h
    have h1 := pairAt_le h
    have h2 := behindSet_le h1.2
    have h3 : (behindSet s (pairAt s st)).out = st.out := h2.2.2
    unfold pairsP
    by_cases hb : st.bad = true
    · rw [if_pos hb]; exact ⟨Nat.le_refl _, h, rfl⟩
    · rw [if_neg hb]
      by_cases hc : isP s tClose (behindSet s (pairAt s st)) = true
      · rw [if_pos hc]
        have h4 : (behindSet s (pairAt s st)).p + 1 ≤ s.size := isP_le hc
        exact ⟨by show st.p ≤ (behindSet s (pairAt s st)).p + 1; omega, h4, h3⟩
      · rw [if_neg hc]
        by_cases hm : isP s tComma (behindSet s (pairAt s st)) = true
        · rw [if_pos hm]
          have h4 : (behindSet s (pairAt s st)).p + 1 ≤ s.size := isP_le hm
          obtain ⟨a, b, c⟩ := ih (xs ++ [⟨wordP s st.p, setP s (pairAt s st)⟩]) (onP tComma (behindSet s (pairAt s st))) h4
          have a' : (behindSet s (pairAt s st)).p + 1 ≤ _ := a
          exact ⟨by omega, b, c.trans h3⟩
        · rw [if_neg hm]
          obtain ⟨a, b, c⟩ := ih (xs ++ [⟨wordP s st.p, setP s (pairAt s st)⟩]) (endP (behindSet s (pairAt s st))) h2.2.1
          have a' : (behindSet s (pairAt s st)).p ≤ _ := a
          exact ⟨by omega, b, c.trans h3⟩
/-- it goes on, and leaves few nodes -/
def Few (s : ByteArray) (k : Nat) (st st' : RS) : Prop := st.p ≤ st'.p ∧ st'.p ≤ s.size ∧ st'.out.length + st.p ≤ st.out.length + k + st'.p
theorem thisP_few {s : ByteArray} {st : RS} (h : isP s tThis st = true) : Few s 1 st (thisP s st).2 := by
  have h1 : (onP tThis st).p ≤ s.size := isP_le h
  obtain ⟨a, b, c⟩ := pairsP_le (s := s) (s.size + 1) [] (onP tThis st) h1
  have a' : st.p + 5 ≤ _ := a
  have c' : _ = st.out := c
  unfold thisP Few
  cases e : pairsP s (s.size + 1) [] (onP tThis st) with
  | mk o st' =>
    rw [e] at a' b c'
    replace a' : st.p + 5 ≤ st'.p := a'
    replace b : st'.p ≤ s.size := b
    replace c' : st'.out = st.out := c'
    cases o with
    | none => exact ⟨by show st.p ≤ st'.p; omega, b, by show st'.out.length + _ ≤ _ + _ + st'.p; rw [c']; omega⟩
    | some xs => exact ⟨by show st.p ≤ st'.p; omega, b, by show (st'.out ++ _).length + _ ≤ _ + _ + st'.p; rw [c', List.length_append, List.length_singleton]; omega⟩
theorem name_few {s : ByteArray} {st : RS} (h : st.p ≤ s.size) : Few s 1 st (addP (nameP s st) (judged (nameP s st) (behindName s st))) := by
  have h1 := pairAt_le h
  have key : st.p ≤ (behindName s st).p ∧ (behindName s st).p ≤ s.size ∧ (behindName s st).out = st.out := by
    unfold behindName
    cases e : isP s tArrow (pairAt s st) with
    | false => exact ⟨h1.1, h1.2, rfl⟩
    | true =>
      have h2 : st.p + wordN s st.p + 2 ≤ s.size := isP_le e
      have := wordN_le s _ h2
      exact ⟨by show st.p ≤ st.p + wordN s st.p + 2 + wordN s (st.p + wordN s st.p + 2); omega, this, rfl⟩
  have key2 : (judged (nameP s st) (behindName s st)).p = (behindName s st).p ∧ (judged (nameP s st) (behindName s st)).out = st.out := by
    unfold judged
    split
    · exact ⟨rfl, key.2.2⟩
    · exact ⟨rfl, key.2.2⟩
  refine ⟨?_, ?_, ?_⟩
  · show st.p ≤ (judged (nameP s st) (behindName s st)).p
    rw [key2.1]; exact key.1
  · show (judged (nameP s st) (behindName s st)).p ≤ _
    rw [key2.1]; exact key.2.1
  · show ((judged (nameP s st) (behindName s st)).out ++ _).length + _ ≤ _ + 1 + (judged (nameP s st) (behindName s st)).p
    rw [key2.1, key2.2, List.length_append, List.length_singleton]
    have := key.1
    omega
theorem close_few {s : ByteArray} {st : RS} {x : Int × RS} (h : Few s 1 (onP tOpen st) x.2) : Few s 1 st (closeP s x).2 := by
  obtain ⟨a, b, c⟩ := h
  replace a : st.p + 1 ≤ x.2.p := a
  replace c : x.2.out.length + (st.p + 1) ≤ st.out.length + 1 + x.2.p := c
  unfold closeP
  cases e : isP s tClose x.2 with
  | false => exact ⟨by show st.p ≤ x.2.p; omega, b, by show x.2.out.length + st.p ≤ _ + 1 + x.2.p; omega⟩
  | true =>
    have h2 : x.2.p + 1 ≤ s.size := isP_le e
    exact ⟨by show st.p ≤ x.2.p + 1; omega, h2, by show x.2.out.length + st.p ≤ _ + 1 + (x.2.p + 1); omega⟩
theorem kidsP_few {s : ByteArray} {it : RS → Int × RS} {k : Int} (hit : ∀ st, st.p ≤ s.size → Few s 1 st (it st).2) : ∀ (n : Nat) (zs : List Int) (st : RS), st.p ≤ s.size → Few s 0 st (kidsP s it k n zs st).2 ∧ (0 < n → isP s (tSign k) st = true → (kidsP s it k n zs st).2.out.length + st.p + 2 ≤ st.out.length + (kidsP s it k n zs st).2.p) := by
  intro n
  induction n with
  | zero => intro zs st h; exact ⟨⟨Nat.le_refl _, h, Nat.le_refl _⟩, fun h => absurd h (by omega)⟩
  | succ n ih =>
    intro zs st h
    unfold kidsP
    cases e : isP s (tSign k) st with
    | false => exact ⟨⟨Nat.le_refl _, h, Nat.le_refl _⟩, fun _ h => by cases h⟩
    | true =>
      have h1 : st.p + 3 ≤ s.size := by have := isP_le e; rw [tSign_size] at this; exact this
      have eP : (onP (tSign k) st).p = st.p + 3 := by unfold onP; rw [tSign_size]
      have eO : (onP (tSign k) st).out = st.out := rfl
      obtain ⟨a, b, c⟩ := hit (onP (tSign k) st) (by rw [eP]; exact h1)
      rw [eP] at a c
      rw [eO] at c
      obtain ⟨⟨a2, b2, c2⟩, -⟩ := ih (zs ++ [(it (onP (tSign k) st)).1]) (it (onP (tSign k) st)).2 b
      simp only [if_true]
      exact ⟨⟨by omega, b2, by omega⟩, fun _ _ => by omega⟩
theorem signAt_lit {s : ByteArray} {p : Nat} (h : signAt s p ≠ 0) : litAt s (tSign (signAt s p)) p = true := by
  unfold signAt at h ⊢
  cases h1 : litAt s (tSign 4) p with
  | true => simpa using h1
  | false =>
    cases h2 : litAt s (tSign 5) p with
    | true => simpa [h1] using h2
    | false =>
      cases h3 : litAt s (tSign 6) p with
      | true => simpa [h1, h2] using h3
      | false => simp [h1, h2, h3] at h
theorem row_few {s : ByteArray} {it : RS → Int × RS} (hit : ∀ st, st.p ≤ s.size → Few s 1 st (it st).2) {st : RS} {x : Int × RS} (h : Few s 1 st x.2) : Few s 1 st (rowP s it x).2 := by
  unfold rowP
  by_cases hc : signAt s x.2.p = 0 ∨ x.2.bad = true
  · rw [if_pos hc]; exact h
  · rw [if_neg hc]
    have hsg : signAt s x.2.p ≠ 0 := fun e => hc (.inl e)
    have hbd : x.2.bad = false := by cases e : x.2.bad with
      | false => rfl
      | true => exact absurd (.inr e) hc
    have hyes : isP s (tSign (signAt s x.2.p)) x.2 = true := by unfold isP; rw [hbd, signAt_lit hsg]; rfl
    obtain ⟨⟨a, b, c⟩, d⟩ := kidsP_few hit (k := signAt s x.2.p) (s.size + 1) [x.1] x.2 h.2.1
    have d := d (by omega) hyes
    obtain ⟨a1, b1, c1⟩ := h
    refine ⟨?_, b, ?_⟩
    · show st.p ≤ (kidsP s it (signAt s x.2.p) (s.size + 1) [x.1] x.2).2.p
      omega
    · show ((kidsP s it (signAt s x.2.p) (s.size + 1) [x.1] x.2).2.out ++ _).length + _ ≤ _ + 1 + (kidsP s it (signAt s x.2.p) (s.size + 1) [x.1] x.2).2.p
      rw [List.length_append, List.length_singleton]
      omega
theorem rdP_this {s : ByteArray} {n : Nat} {st : RS} (h : isP s tThis st = true) : rdP s (n + 1) false st = thisP s st := by
  unfold rdP thisP
  rw [if_pos h]
  cases pairsP s (s.size + 1) [] (onP tThis st) with
  | mk o st' => cases o <;> rfl
theorem rdP_open {s : ByteArray} {n : Nat} {st : RS} (h : isP s tThis st = false) (h2 : isP s tOpen st = true) : rdP s (n + 1) false st = closeP s (rdP s n true (onP tOpen st)) := by
  conv => lhs; unfold rdP
  rw [if_neg (by rw [h]; decide), if_pos h2]
  rfl
theorem rdP_name {s : ByteArray} {n : Nat} {st : RS} (h : isP s tThis st = false) (h2 : isP s tOpen st = false) : rdP s (n + 1) false st = ((st.out.length : Int), addP (nameP s st) (judged (nameP s st) (behindName s st))) := by
  unfold rdP
  rw [if_neg (by rw [h]; decide), if_neg (by rw [h2]; decide)]
theorem rdP_row {s : ByteArray} {n : Nat} {st : RS} : rdP s (n + 1) true st = rowP s (rdP s n false) (rdP s n false st) := by
  conv => lhs; unfold rdP
  rfl
theorem rdP_few {s : ByteArray} : ∀ (n : Nat) (b : Bool) (st : RS), st.p ≤ s.size → Few s 1 st (rdP s n b st).2 := by
  intro n
  induction n with
  | zero => intro b st h; cases b <;> exact ⟨Nat.le_refl _, h, by show st.out.length + st.p ≤ st.out.length + 1 + st.p; omega⟩
  | succ n ih =>
    intro b st h
    cases b with
    | true => rw [rdP_row]; exact row_few (fun st' h' => ih false st' h') (ih false st h)
    | false =>
      cases h1 : isP s tThis st with
      | true => rw [rdP_this h1]; exact thisP_few h1
      | false =>
        cases h2 : isP s tOpen st with
        | true => rw [rdP_open h1 h2]; exact close_few (ih true (onP tOpen st) (isP_le h2))
        | false => rw [rdP_name h1 h2]; exact name_few h

/-- items and rows -/
theorem read_any (R : Nat) (s : ByteArray) (base : Nat) (hR : R < base) (hs : s.size ≤ 1000) : ∀ n : Nat,
    (∀ (st : RS) (v : Value) (qs : List ER) (w : World), RdF w R s st base v qs → base ≤ w.heap.size → st.p ≤ s.size → st.out.length + (s.size - st.p) ≤ 5000 → 2 * (s.size - st.p) < n →
      Calls Try.prog 58 #[.pointer (some ⟨R, 0, none⟩)] w (RPost R s base v qs w (rdP s n false st))) ∧
    (∀ (st : RS) (v : Value) (qs : List ER) (w : World), RdF w R s st base v qs → base ≤ w.heap.size → st.p ≤ s.size → st.out.length + (s.size - st.p) ≤ 5000 → 2 * (s.size - st.p) + 1 < n →
      Calls Try.prog 26 #[.pointer (some ⟨R, 0, none⟩)] w (RPost R s base v qs w (rdP s n true st))) := by
  intro n
  induction n with
  | zero => exact ⟨fun _ _ _ _ _ _ _ _ h => absurd h (by omega), fun _ _ _ _ _ _ _ _ h => absurd h (by omega)⟩
  | succ n ih =>
    refine ⟨fun st v qs w h hB hp hb hn => ?_, fun st v qs w h hB hp hb hn => ?_⟩
    · have hlen : qs.length = st.out.length := by rw [← h.out]; simp [exs]
      cases h1 : isP s tThis st with
      | true => rw [rdP_this h1]; exact item_this R s st base v qs w h hR hB hs hp (by omega) h1
      | false =>
        cases h2 : isP s tOpen st with
        | true =>
          rw [rdP_open h1 h2]
          have h3 : st.p + 1 ≤ s.size := isP_le h2
          have h4 : (onP tOpen st).p = st.p + 1 := rfl
          exact item_row R s st base v qs w h hR hs hp h1 h2 _ (rdP_few n true (onP tOpen st) h3).2.1 fun w1 hw1 hsz => ih.2 (onP tOpen st) v qs w1 hw1 (Nat.le_trans hB hsz) h3 (by rw [h4]; show st.out.length + _ ≤ _; omega) (by rw [h4]; omega)
        | false => rw [rdP_name h1 h2]; exact item_name R s st base v qs w h hR hB hs hp (by omega) h1 h2
    · rw [rdP_row]
      obtain ⟨a, b, c⟩ := rdP_few (s := s) n false st hp
      refine row_any R s st base v qs w h hR hB hs _ b (ih.1 st v qs w h hB hp hb (by omega)) _ (by omega) (fun st' v' qs' w' h' hB' h1 h2 h3 => ih.1 st' v' qs' w' h' hB' h2 h3 (by omega)) (fun st' h1 h2 => ?_)
      obtain ⟨a2, b2, c2⟩ := rdP_few (s := s) n false st' h2
      exact ⟨a2, b2, c2⟩
end Go.Proofs.Ytjmbgpdbnffkpaa
