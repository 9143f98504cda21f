/- The document's reader of expressions: items and rows, whatever they hold. -/
import Derived.Test.YtjmbgpdbnffkpaaRdxRow
namespace Go.Proofs.Ytjmbgpdbnffkpaa
set_option maxRecDepth 100000
open Go.ChangeShapes Go.WideShapes Go.ChangeAt Go.RowKit
open Pl

theorem pairAt_le {s : ByteArray} {st : RS} (h : st.p ≤ s.size) : st.p ≤ (pairAt s st).p ∧ (pairAt s st).p ≤ s.size := ⟨Nat.le_add_right _ _, wordN_le s st.p h⟩
theorem behindSet_le {s : ByteArray} {st : RS} (h : st.p ≤ s.size) : st.p ≤ (behindSet s st).p ∧ (behindSet s st).p ≤ s.size ∧ (behindSet s st).out = st.out := by
  unfold behindSet
  cases e : isP s tHash st with
  | false => exact ⟨Nat.le_refl _, h, rfl⟩
  | true =>
    have h1 : st.p + 1 ≤ s.size := isP_le e
    have := wordN_le s (st.p + 1) h1
    exact ⟨by show st.p ≤ st.p + 1 + wordN s (st.p + 1); omega, this, rfl⟩
theorem pairsP_le {s : ByteArray} : ∀ (n : Nat) (xs : List Al) (st : RS), st.p ≤ s.size → st.p ≤ (pairsP s n xs st).2.p ∧ (pairsP s n xs st).2.p ≤ s.size ∧ (pairsP s n xs st).2.out = st.out := by
  intro n
  induction n with
  | zero => intro xs st h; exact ⟨Nat.le_refl _, h, rfl⟩
  | succ n ih =>
    intro xs st h
    have h1 := pairAt_le h
    have h2 := behindSet_le h1.2
    have h3 : (behindSet s (pairAt s st)).out = st.out := h2.2.2
    unfold pairsP
    by_cases hb : st.bad = true
    · rw [if_pos hb]; exact ⟨Nat.le_refl _, h, rfl⟩
    · rw [if_neg hb]
      by_cases hc : isP s tClose (behindSet s (pairAt s st)) = true
      · rw [if_pos hc]
        have h4 : (behindSet s (pairAt s st)).p + 1 ≤ s.size := isP_le hc
        exact ⟨by show st.p ≤ (behindSet s (pairAt s st)).p + 1; omega, h4, h3⟩
      · rw [if_neg hc]
        by_cases hm : isP s tComma (behindSet s (pairAt s st)) = true
        · rw [if_pos hm]
          have h4 : (behindSet s (pairAt s st)).p + 1 ≤ s.size := isP_le hm
          obtain ⟨a, b, c⟩ := ih (xs ++ [⟨wordP s st.p, setP s (pairAt s st)⟩]) (onP tComma (behindSet s (pairAt s st))) h4
          have a' : (behindSet s (pairAt s st)).p + 1 ≤ _ := a
          exact ⟨by omega, b, c.trans h3⟩
        · rw [if_neg hm]
          obtain ⟨a, b, c⟩ := ih (xs ++ [⟨wordP s st.p, setP s (pairAt s st)⟩]) (endP (behindSet s (pairAt s st))) h2.2.1
          have a' : (behindSet s (pairAt s st)).p ≤ _ := a
          exact ⟨by omega, b, c.trans h3⟩
/-- it goes on, and leaves few nodes -/
def Few (s : ByteArray) (k : Nat) (st st' : RS) : Prop := st.p ≤ st'.p ∧ st'.p ≤ s.size ∧ st'.out.length + st.p ≤ st.out.length + k + st'.p
theorem thisP_few {s : ByteArray} {st : RS} (h : isP s tThis st = true) : Few s 1 st (thisP s st).2 := by
  have h1 : (onP tThis st).p ≤ s.size := isP_le h
  obtain ⟨a, b, c⟩ := pairsP_le (s := s) (s.size + 1) [] (onP tThis st) h1
  have a' : st.p + 5 ≤ _ := a
  have c' : _ = st.out := c
  unfold thisP Few
  cases e : pairsP s (s.size + 1) [] (onP tThis st) with
  | mk o st' =>
    rw [e] at a' b c'
    replace a' : st.p + 5 ≤ st'.p := a'
    replace b : st'.p ≤ s.size := b
    replace c' : st'.out = st.out := c'
    cases o with
    | none => exact ⟨by show st.p ≤ st'.p; omega, b, by show st'.out.length + _ ≤ _ + _ + st'.p; rw [c']; omega⟩
    | some xs => exact ⟨by show st.p ≤ st'.p; omega, b, by show (st'.out ++ _).length + _ ≤ _ + _ + st'.p; rw [c', List.length_append, List.length_singleton]; omega⟩
theorem name_few {s : ByteArray} {st : RS} (h : st.p ≤ s.size) : Few s 1 st (addP (nameP s st) (judged (nameP s st) (behindName s st))) := by
  have h1 := pairAt_le h
  have key : st.p ≤ (behindName s st).p ∧ (behindName s st).p ≤ s.size ∧ (behindName s st).out = st.out := by
    unfold behindName
    cases e : isP s tArrow (pairAt s st) with
    | false => exact ⟨h1.1, h1.2, rfl⟩
    | true =>
      have h2 : st.p + wordN s st.p + 2 ≤ s.size := isP_le e
      have := wordN_le s _ h2
      exact ⟨by show st.p ≤ st.p + wordN s st.p + 2 + wordN s (st.p + wordN s st.p + 2); omega, this, rfl⟩
  have key2 : (judged (nameP s st) (behindName s st)).p = (behindName s st).p ∧ (judged (nameP s st) (behindName s st)).out = st.out := by
    unfold judged
    split
    · exact ⟨rfl, key.2.2⟩
    · exact ⟨rfl, key.2.2⟩
  refine ⟨?_, ?_, ?_⟩
  · show st.p ≤ (judged (nameP s st) (behindName s st)).p
    rw [key2.1]; exact key.1
  · show (judged (nameP s st) (behindName s st)).p ≤ _
    rw [key2.1]; exact key.2.1
  · show ((judged (nameP s st) (behindName s st)).out ++ _).length + _ ≤ _ + 1 + (judged (nameP s st) (behindName s st)).p
    rw [key2.1, key2.2, List.length_append, List.length_singleton]
    have := key.1
    omega
theorem close_few {s : ByteArray} {st : RS} {x : Int × RS} (h : Few s 1 (onP tOpen st) x.2) : Few s 1 st (closeP s x).2 := by
  obtain ⟨a, b, c⟩ := h
  replace a : st.p + 1 ≤ x.2.p := a
  replace c : x.2.out.length + (st.p + 1) ≤ st.out.length + 1 + x.2.p := c
  unfold closeP
  cases e : isP s tClose x.2 with
  | false => exact ⟨by show st.p ≤ x.2.p; omega, b, by show x.2.out.length + st.p ≤ _ + 1 + x.2.p; omega⟩
  | true =>
    have h2 : x.2.p + 1 ≤ s.size := isP_le e
    exact ⟨by show st.p ≤ x.2.p + 1; omega, h2, by show x.2.out.length + st.p ≤ _ + 1 + (x.2.p + 1); omega⟩
theorem kidsP_few {s : ByteArray} {it : RS → Int × RS} {k : Int} (hit : ∀ st, st.p ≤ s.size → Few s 1 st (it st).2) : ∀ (n : Nat) (zs : List Int) (st : RS), st.p ≤ s.size → Few s 0 st (kidsP s it k n zs st).2 ∧ (0 < n → isP s (tSign k) st = true → (kidsP s it k n zs st).2.out.length + st.p + 2 ≤ st.out.length + (kidsP s it k n zs st).2.p) := by
  intro n
  induction n with
  | zero => intro zs st h; exact ⟨⟨Nat.le_refl _, h, Nat.le_refl _⟩, fun h => absurd h (by omega)⟩
  | succ n ih =>
    intro zs st h
    unfold kidsP
    cases e : isP s (tSign k) st with
    | false => exact ⟨⟨Nat.le_refl _, h, Nat.le_refl _⟩, fun _ h => by cases h⟩
    | true =>
      have h1 : st.p + 3 ≤ s.size := by have := isP_le e; rw [tSign_size] at this; exact this
      have eP : (onP (tSign k) st).p = st.p + 3 := by unfold onP; rw [tSign_size]
      have eO : (onP (tSign k) st).out = st.out := rfl
      obtain ⟨a, b, c⟩ := hit (onP (tSign k) st) (by rw [eP]; exact h1)
      rw [eP] at a c
      rw [eO] at c
      obtain ⟨⟨a2, b2, c2⟩, -⟩ := ih (zs ++ [(it (onP (tSign k) st)).1]) (it (onP (tSign k) st)).2 b
      simp only [if_true]
      exact ⟨⟨by omega, b2, by omega⟩, fun _ _ => by omega⟩
theorem signAt_lit {s : ByteArray} {p : Nat} (h : signAt s p ≠ 0) : litAt s (tSign (signAt s p)) p = true := by
  unfold signAt at h ⊢
  cases h1 : litAt s (tSign 4) p with
  | true => simpa using h1
  | false =>
    cases h2 : litAt s (tSign 5) p with
    | true => simpa [h1] using h2
    | false =>
      cases h3 : litAt s (tSign 6) p with
      | true => simpa [h1, h2] using h3
      | false => simp [h1, h2, h3] at h
theorem row_few {s : ByteArray} {it : RS → Int × RS} (hit : ∀ st, st.p ≤ s.size → Few s 1 st (it st).2) {st : RS} {x : Int × RS} (h : Few s 1 st x.2) : Few s 1 st (rowP s it x).2 := by
  unfold rowP
  by_cases hc : signAt s x.2.p = 0 ∨ x.2.bad = true
  · rw [if_pos hc]; exact h
  · rw [if_neg hc]
    have hsg : signAt s x.2.p ≠ 0 := fun e => hc (.inl e)
    have hbd : x.2.bad = false := by cases e : x.2.bad with
      | false => rfl
      | true => exact absurd (.inr e) hc
    have hyes : isP s (tSign (signAt s x.2.p)) x.2 = true := by unfold isP; rw [hbd, signAt_lit hsg]; rfl
    obtain ⟨⟨a, b, c⟩, d⟩ := kidsP_few hit (k := signAt s x.2.p) (s.size + 1) [x.1] x.2 h.2.1
    have d := d (by omega) hyes
    obtain ⟨a1, b1, c1⟩ := h
    refine ⟨?_, b, ?_⟩
    · show st.p ≤ (kidsP s it (signAt s x.2.p) (s.size + 1) [x.1] x.2).2.p
      omega
    · show ((kidsP s it (signAt s x.2.p) (s.size + 1) [x.1] x.2).2.out ++ _).length + _ ≤ _ + 1 + (kidsP s it (signAt s x.2.p) (s.size + 1) [x.1] x.2).2.p
      rw [List.length_append, List.length_singleton]
      omega
theorem rdP_this {s : ByteArray} {n : Nat} {st : RS} (h : isP s tThis st = true) : rdP s (n + 1) false st = thisP s st := by
  unfold rdP thisP
  rw [if_pos h]
  cases pairsP s (s.size + 1) [] (onP tThis st) with
  | mk o st' => cases o <;> rfl
theorem rdP_open {s : ByteArray} {n : Nat} {st : RS} (h : isP s tThis st = false) (h2 : isP s tOpen st = true) : rdP s (n + 1) false st = closeP s (rdP s n true (onP tOpen st)) := by
  conv => lhs; unfold rdP
  rw [if_neg (by rw [h]; decide), if_pos h2]
  rfl
theorem rdP_name {s : ByteArray} {n : Nat} {st : RS} (h : isP s tThis st = false) (h2 : isP s tOpen st = false) : rdP s (n + 1) false st = ((st.out.length : Int), addP (nameP s st) (judged (nameP s st) (behindName s st))) := by
  unfold rdP
  rw [if_neg (by rw [h]; decide), if_neg (by rw [h2]; decide)]
theorem rdP_row {s : ByteArray} {n : Nat} {st : RS} : rdP s (n + 1) true st = rowP s (rdP s n false) (rdP s n false st) := by
  conv => lhs; unfold rdP
  rfl
theorem rdP_few {s : ByteArray} : ∀ (n : Nat) (b : Bool) (st : RS), st.p ≤ s.size → Few s 1 st (rdP s n b st).2 := by
  intro n
  induction n with
  | zero => intro b st h; cases b <;> exact ⟨Nat.le_refl _, h, by show st.out.length + st.p ≤ st.out.length + 1 + st.p; omega⟩
  | succ n ih =>
    intro b st h
    cases b with
    | true => rw [rdP_row]; exact row_few (fun st' h' => ih false st' h') (ih false st h)
    | false =>
      cases h1 : isP s tThis st with
      | true => rw [rdP_this h1]; exact thisP_few h1
      | false =>
        cases h2 : isP s tOpen st with
        | true => rw [rdP_open h1 h2]; exact close_few (ih true (onP tOpen st) (isP_le h2))
        | false => rw [rdP_name h1 h2]; exact name_few h

/-- items and rows -/
theorem read_any (R : Nat) (s : ByteArray) (base : Nat) (hR : R < base) (hs : s.size ≤ 1000) : ∀ n : Nat,
    (∀ (st : RS) (v : Value) (qs : List ER) (w : World), RdF w R s st base v qs → base ≤ w.heap.size → st.p ≤ s.size → st.out.length + (s.size - st.p) ≤ 5000 → 2 * (s.size - st.p) < n →
      Calls Try.prog 58 #[.pointer (some ⟨R, 0, none⟩)] w (RPost R s base v qs w (rdP s n false st))) ∧
    (∀ (st : RS) (v : Value) (qs : List ER) (w : World), RdF w R s st base v qs → base ≤ w.heap.size → st.p ≤ s.size → st.out.length + (s.size - st.p) ≤ 5000 → 2 * (s.size - st.p) + 1 < n →
      Calls Try.prog 26 #[.pointer (some ⟨R, 0, none⟩)] w (RPost R s base v qs w (rdP s n true st))) := by
  intro n
  induction n with
  | zero => exact ⟨fun _ _ _ _ _ _ _ _ h => absurd h (by omega), fun _ _ _ _ _ _ _ _ h => absurd h (by omega)⟩
  | succ n ih =>
    refine ⟨fun st v qs w h hB hp hb hn => ?_, fun st v qs w h hB hp hb hn => ?_⟩
    · have hlen : qs.length = st.out.length := by rw [← h.out]; simp [exs]
      cases h1 : isP s tThis st with
      | true => rw [rdP_this h1]; exact item_this R s st base v qs w h hR hB hs hp (by omega) h1
      | false =>
        cases h2 : isP s tOpen st with
        | true =>
          rw [rdP_open h1 h2]
          have h3 : st.p + 1 ≤ s.size := isP_le h2
          have h4 : (onP tOpen st).p = st.p + 1 := rfl
          exact item_row R s st base v qs w h hR hs hp h1 h2 _ (rdP_few n true (onP tOpen st) h3).2.1 fun w1 hw1 hsz => ih.2 (onP tOpen st) v qs w1 hw1 (Nat.le_trans hB hsz) h3 (by rw [h4]; show st.out.length + _ ≤ _; omega) (by rw [h4]; omega)
        | false => rw [rdP_name h1 h2]; exact item_name R s st base v qs w h hR hB hs hp (by omega) h1 h2
    · rw [rdP_row]
      obtain ⟨a, b, c⟩ := rdP_few (s := s) n false st hp
      refine row_any R s st base v qs w h hR hB hs _ b (ih.1 st v qs w h hB hp hb (by omega)) _ (by omega) (fun st' v' qs' w' h' hB' h1 h2 h3 => ih.1 st' v' qs' w' h' hB' h2 h3 (by omega)) (fun st' h1 h2 => ?_)
      obtain ⟨a2, b2, c2⟩ := rdP_few (s := s) n false st' h2
      exact ⟨a2, b2, c2⟩
end Go.Proofs.Ytjmbgpdbnffkpaa

/- What the document's reader leaves is small. -/
namespace Go.Proofs.Ytjmbgpdbnffkpaa
set_option maxRecDepth 100000
open Go.ChangeShapes Go.WideShapes Go.ChangeAt Go.RowKit
open Pl

def SmA (s : ByteArray) (a : Al) : Prop := a.t.size ≤ s.size ∧ a.s.size ≤ s.size
def SmE (s : ByteArray) (e : Ex) : Prop := e.allow.length ≤ s.size + 1 ∧ (∀ a ∈ e.allow, SmA s a) ∧ e.over.size ≤ s.size ∧ e.name.size ≤ s.size ∧ e.kids.length ≤ s.size + 2
theorem wordP_sm (s : ByteArray) (p : Nat) : (wordP s p).size ≤ s.size := by
  unfold wordP
  rw [ByteArray.size_extract]
  omega
theorem setP_sm (s : ByteArray) (st : RS) : (setP s st).size ≤ s.size := by
  unfold setP
  split
  · exact wordP_sm s _
  · exact Nat.zero_le _
theorem pairsP_sm {s : ByteArray} : ∀ (n : Nat) (xs : List Al) (st : RS) (ys : List Al), (∀ a ∈ xs, SmA s a) → (pairsP s n xs st).1 = some ys → ys.length ≤ xs.length + n ∧ ∀ a ∈ ys, SmA s a := by
  intro n
  induction n with
  | zero => intro xs st ys _ h; cases h
  | succ n ih =>
    intro xs st ys hx h
    have hx2 : ∀ a ∈ xs ++ [(⟨wordP s st.p, setP s (pairAt s st)⟩ : Al)], SmA s a := by
      intro a ha
      rcases List.mem_append.1 ha with h1 | h1
      · exact hx a h1
      · rw [List.mem_singleton] at h1; subst h1; exact ⟨wordP_sm s _, setP_sm s _⟩
    unfold pairsP at h
    by_cases hb : st.bad = true
    · rw [if_pos hb] at h; cases h
    · rw [if_neg hb] at h
      by_cases hc : isP s tClose (behindSet s (pairAt s st)) = true
      · rw [if_pos hc] at h
        injection h with h
        subst h
        exact ⟨by rw [List.length_append, List.length_singleton]; omega, hx2⟩
      · rw [if_neg hc] at h
        have fin : ∀ st', (pairsP s n (xs ++ [⟨wordP s st.p, setP s (pairAt s st)⟩]) st').1 = some ys → ys.length ≤ xs.length + (n + 1) ∧ ∀ a ∈ ys, SmA s a := fun st' h' => by
          obtain ⟨a, b⟩ := ih _ st' ys hx2 h'
          rw [List.length_append, List.length_singleton] at a
          exact ⟨by omega, b⟩
        by_cases hm : isP s tComma (behindSet s (pairAt s st)) = true
        · rw [if_pos hm] at h; exact fin _ h
        · rw [if_neg hm] at h; exact fin _ h
theorem addP_sm {s : ByteArray} {x : Ex} {st : RS} (h : ∀ e ∈ st.out, SmE s e) (hx : SmE s x) : ∀ e ∈ (addP x st).out, SmE s e := by
  intro e he
  rcases List.mem_append.1 he with h1 | h1
  · exact h e h1
  · rw [List.mem_singleton] at h1; subst h1; exact hx
theorem thisP_sm {s : ByteArray} {st : RS} (hp : st.p + 5 ≤ s.size) (h : ∀ e ∈ st.out, SmE s e) : ∀ e ∈ (thisP s st).2.out, SmE s e := by
  have hc := (pairsP_le (s := s) (s.size + 1) [] (onP tThis st) hp).2.2
  have hs := pairsP_sm (s := s) (s.size + 1) [] (onP tThis st)
  unfold thisP
  cases e : pairsP s (s.size + 1) [] (onP tThis st) with
  | mk o st' =>
    rw [e] at hc hs
    have hc' : st'.out = st.out := hc
    cases o with
    | none => show ∀ e ∈ st'.out, SmE s e; rw [hc']; exact h
    | some xs =>
      obtain ⟨a, b⟩ := hs xs (fun a ha => by cases ha) rfl
      exact addP_sm (by rw [hc']; exact h) ⟨by simpa using a, b, Nat.zero_le _, Nat.zero_le _, Nat.zero_le _⟩
theorem name_sm {s : ByteArray} {st : RS} (h : ∀ e ∈ st.out, SmE s e) : ∀ e ∈ (addP (nameP s st) (judged (nameP s st) (behindName s st))).out, SmE s e := by
  have h1 : (judged (nameP s st) (behindName s st)).out = st.out := by
    have h2 : (behindName s st).out = st.out := by unfold behindName; split <;> rfl
    unfold judged; split <;> exact h2
  refine addP_sm (by rw [h1]; exact h) ?_
  unfold nameP
  split
  · exact ⟨Nat.zero_le _, fun a ha => (by cases ha), wordP_sm s _, wordP_sm s _, Nat.zero_le _⟩
  · exact ⟨Nat.zero_le _, fun a ha => (by cases ha), Nat.zero_le _, wordP_sm s _, Nat.zero_le _⟩
theorem kidsP_sm {s : ByteArray} {it : RS → Int × RS} {k : Int} (hit : ∀ st, (∀ e ∈ st.out, SmE s e) → st.p ≤ s.size → (∀ e ∈ (it st).2.out, SmE s e) ∧ (it st).2.p ≤ s.size) : ∀ (n : Nat) (zs : List Int) (st : RS), (∀ e ∈ st.out, SmE s e) → st.p ≤ s.size → (∀ e ∈ (kidsP s it k n zs st).2.out, SmE s e) ∧ (kidsP s it k n zs st).1.length ≤ zs.length + n := by
  intro n
  induction n with
  | zero => intro zs st h _; exact ⟨h, Nat.le_refl _⟩
  | succ n ih =>
    intro zs st h hp
    unfold kidsP
    cases e : isP s (tSign k) st with
    | false => exact ⟨h, Nat.le_add_right _ _⟩
    | true =>
      have h1 : (onP (tSign k) st).p ≤ s.size := isP_le e
      obtain ⟨a, b⟩ := hit (onP (tSign k) st) h h1
      obtain ⟨a2, b2⟩ := ih (zs ++ [(it (onP (tSign k) st)).1]) _ a b
      rw [List.length_append, List.length_singleton] at b2
      exact ⟨a2, by simp only [if_true]; omega⟩
theorem rdP_sm {s : ByteArray} : ∀ (n : Nat) (b : Bool) (st : RS), st.p ≤ s.size → (∀ e ∈ st.out, SmE s e) → ∀ e ∈ (rdP s n b st).2.out, SmE s e := by
  intro n
  induction n with
  | zero => intro b st _ h; cases b <;> exact h
  | succ n ih =>
    intro b st hp h
    cases b with
    | true =>
      rw [rdP_row]
      unfold rowP
      have hx := ih false st hp h
      have hxp := (rdP_few (s := s) n false st hp).2.1
      split
      · exact hx
      · obtain ⟨a, b⟩ := kidsP_sm (s := s) (it := rdP s n false) (k := signAt s (rdP s n false st).2.p) (fun st' h1 h2 => ⟨ih false st' h2 h1, (rdP_few (s := s) n false st' h2).2.1⟩) (s.size + 1) [(rdP s n false st).1] (rdP s n false st).2 hx hxp
        exact addP_sm a ⟨Nat.zero_le _, fun a ha => (by cases ha), Nat.zero_le _, Nat.zero_le _, Nat.le_trans b (by simp only [List.length_singleton]; omega)⟩
    | false =>
      cases h1 : isP s tThis st with
      | true => rw [rdP_this h1]; exact thisP_sm (isP_le h1) h
      | false =>
        cases h2 : isP s tOpen st with
        | true =>
          rw [rdP_open h1 h2]
          have hx := ih true (onP tOpen st) (isP_le h2) h
          unfold closeP
          split
          · exact hx
          · exact hx
        | false => rw [rdP_name h1 h2]; exact name_sm h
theorem SmE.light {s : ByteArray} {e : Ex} (h : SmE s e) (hs : s.size ≤ 1000) : e.light ∧ e.fits := by
  obtain ⟨h1, h2, h3, h4, h5⟩ := h
  refine ⟨⟨by omega, by omega⟩, ⟨fun a ha => ⟨?_, ?_⟩, ?_, ?_, ?_, ?_⟩⟩ <;> unfold maxLen
  · have := (h2 a ha).1; omega
  · have := (h2 a ha).2; omega
  all_goals omega
end Go.Proofs.Ytjmbgpdbnffkpaa

/- Contract of the document's reader of expressions: spec.ReadExpr. -/
namespace Go.Proofs.Ytjmbgpdbnffkpaa
set_option maxRecDepth 100000
open Go.ChangeShapes Go.WideShapes Go.ChangeAt Go.RowKit
open Pl

/-- where the reader ends -/
def endR (s : ByteArray) : RS := (rdP s (2 * s.size + 2) true ⟨0, false, []⟩).2
/-- it has read all, and what it has read is right and has this text -/
def readB (s : ByteArray) : Bool := decide (s.size ≤ 1000) && !(endR s).bad && !decide ((endR s).p < s.size) && specE (endR s).out && ((exText (endR s).out).toList == s.toList)
/-- what comes back -/
def XPost (s : ByteArray) (w : World) (e : Ending) (w' : World) : Prop :=
  Below w.heap.size w w' ∧ ((readB s = false ∧ e = .returned (.tuple #[.slice none 0 0, .bool false])) ∨ (readB s = true ∧ ∃ (v : Value) (R : Nat) (qs : List ER), e = .returned (.tuple #[v, .bool true]) ∧ RdF w' R s (endR s) (w.heap.size + 1) v qs))
theorem empty_rd (w : World) (s : ByteArray) : RdF (w.alloc (.cells #[.string s, .int .i64 0, .bool false, .slice none 0 0] 48)) w.heap.size s ⟨0, false, []⟩ (w.heap.size + 1) (.slice none 0 0) [] := by
  refine ⟨⟨by simp, by simp, by simp, by simp, by simp, fun j => by simp⟩, World.ownsRow_nil _ _ _ _, rfl, ?_, ?_, ?_, ?_, ?_, ?_, ?_⟩
  · intro q hq; cases hq
  · intro q hq; cases hq
  · intro q hq; cases hq
  · intro q hq; cases hq
  · intro q hq; cases hq
  · intro x y hx; exact absurd hx (by simp)
  · intro q hq; cases hq
theorem RdF.slE {w : World} {R : Nat} {s : ByteArray} {st : RS} {base : Nat} {v : Value} {qs : List ER} (h : RdF w R s st base v qs) : ∃ ad cap, v = .slice ad qs.length cap ∧ SlE w ad qs := ownsE h.own rfl h.ok
theorem RdF.later {w w' : World} {R : Nat} {s : ByteArray} {st : RS} {base : Nat} {v : Value} {qs : List ER} (h : RdF w R s st base v qs) (hb : Below w.heap.size w w') : RdF w' R s st base v qs :=
  h.heap hb.size (hb.block R h.rd.lt) (fun g hg => hb.block g (h.own.lt g hg).2) (fun q hq g hi => hb.block g (h.lie q hq g hi).2.1)

set_option maxHeartbeats 4000000 in
theorem specReadExpr_any (s : ByteArray) (w : World) : Calls Try.prog 7 #[.string s] w (XPost s w) := by
  by_cases hs : s.size ≤ 1000
  · have hd0 : decide ((1000 : Int) < (s.size : Int)) = false := by simp; omega
    have HRD := toHid (empty_rd w s)
    have HCALL := toHid ((read_any w.heap.size s (w.heap.size + 1) (by omega) hs (2 * s.size + 2)).2 ⟨0, false, []⟩ (.slice none 0 0) [] _ HRD.out (by simp) (Nat.zero_le _) (by simp; omega) (by simp))
    have HSM : Hid (∀ e ∈ (endR s).out, e.light ∧ e.fits) := fun e he => (rdP_sm (s := s) _ true ⟨0, false, []⟩ (Nat.zero_le _) (fun e he => by cases he) e he).light hs
    have HFEW := toHid (rdP_few (s := s) (2 * s.size + 2) true ⟨0, false, []⟩ (Nat.zero_le _))
    go_enter Try.func7, Try.ntmps7
    go_wp2_with fail
    refine HCALL.out.mono ?_
    rintro e w1 ⟨v1, qs, rfl, hF1, hW1, -⟩
    replace hF1 : RdF w1 w.heap.size s (endR s) (w.heap.size + 1) v1 qs := hF1
    have HF1 := toHid hF1
    have HB1 : Hid (Below w.heap.size w w1) := ⟨hW1.onl.os, hW1.onl.tape, hW1.onl.output, by have := hW1.onl.size; simp at this; omega, fun k hk => (hW1.onl.block k (by simp; omega) (by omega) (by simp [Value.ownBlock])).trans ((World.grownBy_alloc w _ none).block k hk (by simp))⟩
    obtain ⟨ad, cap, rfl, hsl⟩ := hF1.slE
    have HSL := toHid hsl
    have HOUT := toHid hF1.out
    have hql : qs.length ≤ 1048576 := by
      have h2 := congrArg List.length hF1.out
      simp only [exs, List.length_map] at h2
      have h3 : (endR s).out.length + 0 ≤ 0 + 1 + (endR s).p := HFEW.out.2.2
      have h4 : (endR s).p ≤ s.size := HFEW.out.2.1
      omega
    have HL : Hid (∀ r ∈ qs, r.e.light) := fun r hr => (HSM.out r.e (by rw [← HOUT.out]; exact List.mem_map.2 ⟨r, hr, rfl⟩)).1
    have HF : Hid (∀ r ∈ qs, r.e.fits) := fun r hr => (HSM.out r.e (by rw [← HOUT.out]; exact List.mem_map.2 ⟨r, hr, rfl⟩)).2
    have HRB : Hid (readB s = (!(endR s).bad && !decide ((endR s).p < s.size) && specE (endR s).out && ((exText (endR s).out).toList == s.toList))) := by show _ = _; unfold readB; simp [hs]
    have c1 := hF1.rd.c1
    have c2 := hF1.rd.c2
    have c3 := hF1.rd.c3
    clear hF1 hW1 hsl HCALL HRD HSM HFEW
    cases hb : (endR s).bad with
    | true =>
      rw [hb] at c2
      have EQ : Hid (readB s = false) := by show _ = _; rw [HRB.out, hb]; rfl
      go_wp2
      exact bodyPost_ret (v := .tuple #[.slice none 0 0, .bool false]) (by simp [results, Try.results7, go_sem]) rfl ⟨HB1.out, .inl ⟨EQ.out, rfl⟩⟩
    | false =>
      rw [hb] at c2
      by_cases hlt : (endR s).p < s.size
      · have hd1 : decide (((endR s).p : Int) < (s.size : Int)) = true := by simp; omega
        have EQ : Hid (readB s = false) := by show _ = _; rw [HRB.out, hb, decide_eq_true hlt]; rfl
        go_wp2
        exact bodyPost_ret (v := .tuple #[.slice none 0 0, .bool false]) (by simp [results, Try.results7, go_sem]) rfl ⟨HB1.out, .inl ⟨EQ.out, rfl⟩⟩
      · have hd1 : decide (((endR s).p : Int) < (s.size : Int)) = false := by simp; omega
        go_wp2_with fail
        refine (specExprOk_any ad cap qs w1 hql HL.out HF.out HSL.out).mono ?_
        rintro e w2 ⟨rfl, hB2⟩
        have HF2 := toHid (HF1.out.later hB2)
        have HB2 := toHid (HB1.out.trans (hB2.mono HB1.out.size))
        have HSL2 := toHid (HSL.out.below hB2)
        have k3 := HF2.out.rd.c3
        rw [HOUT.out]
        clear hB2
        cases he : specE (endR s).out with
        | false =>
          have EQ : Hid (readB s = false) := by show _ = _; rw [HRB.out, hb, decide_eq_false hlt, he]; rfl
          go_wp2
          exact bodyPost_ret (v := .tuple #[.slice none 0 0, .bool false]) (by simp [results, Try.results7, go_sem]) rfl ⟨HB2.out, .inl ⟨EQ.out, rfl⟩⟩
        | true =>
          go_wp2_with fail
          refine (specExprText_any ad cap qs w2 hql HL.out HF.out HSL2.out).mono ?_
          rintro e w3 ⟨rfl, hB3⟩
          have HF3 := toHid (HF2.out.later hB3)
          have HB3 := toHid (HB2.out.trans (hB3.mono HB2.out.size))
          have q3 := HF3.out.rd.c3
          rw [HOUT.out]
          clear hB3
          cases ht : (exText (endR s).out).toList == s.toList with
          | false =>
            have ht2 : (!(exText (endR s).out).toList == s.toList) = true := by rw [ht]; rfl
            have EQ : Hid (readB s = false) := by show _ = _; rw [HRB.out, ht, Bool.and_false]
            go_wp2
            exact bodyPost_ret (v := .tuple #[.slice none 0 0, .bool false]) (by simp [results, Try.results7, go_sem]) rfl ⟨HB3.out, .inl ⟨EQ.out, rfl⟩⟩
          | true =>
            have ht2 : (!(exText (endR s).out).toList == s.toList) = false := by rw [ht]; rfl
            have EQ : Hid (readB s = true) := by show _ = _; rw [HRB.out, hb, decide_eq_false hlt, he, ht]; rfl
            go_wp2
            exact bodyPost_ret (v := .tuple #[.slice ad qs.length cap, .bool true]) (by simp [results, Try.results7, go_sem]) rfl ⟨HB3.out, .inr ⟨EQ.out, _, _, qs, rfl, HF3.out⟩⟩
  · have hd0 : decide ((1000 : Int) < (s.size : Int)) = true := by simp; omega
    have EQ : Hid (readB s = false) := by show _ = _; unfold readB; rw [decide_eq_false hs]; rfl
    go_enter Try.func7, Try.ntmps7
    go_wp2
    exact bodyPost_ret (v := .tuple #[.slice none 0 0, .bool false]) (by simp [results, Try.results7, go_sem]) rfl ⟨Below.refl _ _, .inl ⟨EQ.out, rfl⟩⟩
end Go.Proofs.Ytjmbgpdbnffkpaa
