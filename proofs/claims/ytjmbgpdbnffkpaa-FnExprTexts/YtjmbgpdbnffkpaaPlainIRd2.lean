/- Both readers of expressions: where the document's reader has read right nodes, the program's has read the same, and their text is what was read; or it has given up, and their text is shorter. -/
import Derived.Test.YtjmbgpdbnffkpaaPlainIRd
namespace Go.Proofs.Ytjmbgpdbnffkpaa
open Pl

theorem exAt_app {es new : List Ex} {n : Nat} (h : n < es.length) : exAt (es ++ new) n = exAt es n := by
  unfold exAt; rw [List.getElem?_append_left h]
theorem txt_app (es new : List Ex) : ∀ (n : Nat), n < es.length → txt (es ++ new) n = txt es n := by
  intro n
  induction n using Nat.strongRecOn with
  | ind n ih =>
    intro h
    rw [txt, txt, exAt_app h]
    congr 2
    funext x
    by_cases hx : x.toNat < n
    · rw [dif_pos hx, dif_pos hx, ih _ hx (by omega)]
    · rw [dif_neg hx, dif_neg hx]
theorem exAt_last (es : List Ex) (x : Ex) : exAt (es ++ [x]) es.length = x := by simp [exAt]
theorem inT_leaf {e : Ex} (h : e.kind = 1 ∨ e.kind = 2 ∨ e.kind = 3) (b : Bool) (t : ByteArray) : inT e b t = t := by
  unfold inT
  rcases h with h | h | h <;> simp [h]
theorem inT_op {e : Ex} (h : 4 ≤ e.kind) (t : ByteArray) : inT e true t = ⟨#[40]⟩ ++ t ++ ⟨#[41]⟩ := by
  unfold inT
  have h1 : e.kind ≠ 1 := by omega
  have h2 : e.kind ≠ 2 := by omega
  have h3 : e.kind ≠ 3 := by omega
  simp [h1, h2, h3]
theorem inT_out (e : Ex) (t : ByteArray) : inT e false t = t := by simp [inT]
theorem txt_op {es : List Ex} {n : Nat} (h : 4 ≤ (exAt es n).kind) : txt es n = ⟨#[40]⟩ ++ txtAt es n false ++ ⟨#[41]⟩ := by
  rw [txt_eq, txtAt, txtAt, inT_op h, inT_out]
theorem txt_leaf {es : List Ex} {x : Ex} (h : x.kind = 1 ∨ x.kind = 2 ∨ x.kind = 3) (b : Bool) : txtAt (es ++ [x]) es.length b = nodeT (fun _ => ⟨#[]⟩) x := by
  rw [txtAt, exAt_last, inT_leaf h]
  unfold nodeT
  rcases h with h | h | h <;> simp [h]

/-- the name that stands at a place, by the document's reader -/
def nmX (s : ByteArray) (p : Nat) : Ex := if litAt s tArrow (p + wordN s p) then ⟨3, [], wordP s p, wordP s (p + wordN s p + 2), []⟩ else ⟨2, [], ⟨#[]⟩, wordP s p, []⟩
def nmQ (s : ByteArray) (p : Nat) : Nat := if litAt s tArrow (p + wordN s p) then p + wordN s p + 2 + wordN s (p + wordN s p + 2) else p + wordN s p
theorem nm_spec (s : ByteArray) (p : Nat) (out : List Ex) : nameP s ⟨p, false, out⟩ = nmX s p ∧ behindName s ⟨p, false, out⟩ = ⟨nmQ s p, false, out⟩ := by
  unfold nameP behindName pairAt nmX nmQ
  simp only [isP_ok]
  by_cases h : litAt s tArrow (p + wordN s p) = true
  · simp [h]
  · simp [h]
theorem nmQ_le (s : ByteArray) (p : Nat) (hp : p ≤ s.size) : p ≤ nmQ s p ∧ nmQ s p ≤ s.size := by
  have h1 := wordN_le s p hp
  unfold nmQ
  split
  · rename_i h
    have h2 := litAt_le h
    have e : tArrow.size = 2 := rfl
    have h3 := wordN_le s (p + wordN s p + 2) (by omega)
    omega
  · omega
theorem name_two {s : ByteArray} {p : Nat} (hp : p ≤ s.size) (hx : nodeB (nmX s p) = true) : nameI s p = some (nmX s p, nmQ s p) ∧ nodeT (fun _ => ⟨#[]⟩) (nmX s p) = s.extract p (nmQ s p) ∧ ((nmX s p).kind = 1 ∨ (nmX s p).kind = 2 ∨ (nmX s p).kind = 3) := by
  have h1 := wordN_le s p hp
  unfold nameI
  unfold nmX nmQ at *
  by_cases h : litAt s tArrow (p + wordN s p) = true
  · simp only [if_pos h] at hx ⊢
    have h2 := litAt_le h
    have e : tArrow.size = 2 := rfl
    have h3 := wordN_le s (p + wordN s p + 2) (by omega)
    have hl := lit_is h
    rw [e] at hl
    have hn : nameB (wordP s p) = true ∧ nameB (wordP s (p + wordN s p + 2)) = true := by
      simp [nodeB] at hx
      exact hx
    rw [if_pos hn.1, if_pos hn.2]
    refine ⟨rfl, ?_, by simp⟩
    have : nodeT (fun _ => ⟨#[]⟩) ⟨3, [], wordP s p, wordP s (p + wordN s p + 2), []⟩ = wordP s p ++ ⟨#[45, 62]⟩ ++ wordP s (p + wordN s p + 2) := by simp [nodeT]
    rw [this]
    have e2 : (⟨#[45, 62]⟩ : ByteArray) = s.extract (p + wordN s p) (p + wordN s p + 2) := hl.symm
    rw [e2]
    unfold wordP
    rw [ex_app s (by omega) (by omega), ex_app s (by omega) (by omega)]
  · simp only [if_neg h] at hx ⊢
    have hn : nameB (wordP s p) = true := by
      simp [nodeB] at hx
      exact hx
    rw [if_pos hn]
    refine ⟨rfl, ?_, by simp⟩
    simp [nodeT]
    rfl
theorem nameI_is {s : ByteArray} {p : Nat} {x : Ex} {q : Nat} (h : nameI s p = some (x, q)) : x = nmX s p ∧ q = nmQ s p ∧ nodeB (nmX s p) = true := by
  unfold nameI at h
  unfold nmX nmQ
  split at h
  · rename_i h1
    split at h
    · rename_i h2
      rw [if_pos h2, if_pos h2]
      split at h
      · rename_i h3
        injection h with h; injection h with e1 e2
        exact ⟨e1.symm, e2.symm, by simp [nodeB, h1, h3]⟩
      · cases h
    · rename_i h2
      rw [if_neg h2, if_neg h2]
      injection h with h; injection h with e1 e2
      exact ⟨e1.symm, e2.symm, by simp [nodeB, h1]⟩
  · cases h

/-- the document's reader goes on, and keeps what it has -/
def Up (s : ByteArray) (st st' : RS) : Prop := st.p ≤ st'.p ∧ st'.p ≤ s.size ∧ (∃ new, st'.out = st.out ++ new) ∧ (st.bad = true → st'.bad = true)
theorem Up.refl {s : ByteArray} {st : RS} (h : st.p ≤ s.size) : Up s st st := ⟨Nat.le_refl _, h, ⟨[], by simp⟩, fun h => h⟩
theorem Up.trans {s : ByteArray} {a b c : RS} (h : Up s a b) (k : Up s b c) : Up s a c := by
  obtain ⟨n1, e1⟩ := h.2.2.1
  obtain ⟨n2, e2⟩ := k.2.2.1
  exact ⟨Nat.le_trans h.1 k.1, k.2.1, ⟨n1 ++ n2, by rw [e2, e1, List.append_assoc]⟩, fun hb => k.2.2.2 (h.2.2.2 hb)⟩
theorem up_on {s w : ByteArray} {st : RS} (h : isP s w st = true) : Up s st (onP w st) := ⟨by show st.p ≤ st.p + _; omega, isP_le h, ⟨[], by simp [onP]⟩, fun h => h⟩
theorem up_end {s : ByteArray} {st : RS} (h : st.p ≤ s.size) : Up s st (endP st) := ⟨Nat.le_refl _, h, ⟨[], by simp [endP]⟩, fun _ => rfl⟩
theorem up_add {s : ByteArray} {st : RS} (h : st.p ≤ s.size) (x : Ex) : Up s st (addP x st) := ⟨Nat.le_refl _, h, ⟨[x], rfl⟩, fun hb => by simp [addP, hb]⟩
theorem up_pair {s : ByteArray} {st : RS} (h : st.p ≤ s.size) : Up s st (behindSet s (pairAt s st)) := by
  have h1 := wordN_le s st.p h
  unfold behindSet
  split
  · rename_i h2
    have h3 := isP_le h2
    have e : tHash.size = 1 := rfl
    have h4 : (pairAt s st).p = st.p + wordN s st.p := rfl
    have h5 := wordN_le s ((pairAt s st).p + 1) (by omega)
    exact ⟨by show st.p ≤ (pairAt s st).p + 1 + _; omega, h5, ⟨[], by simp [pairAt]⟩, fun h => h⟩
  · exact ⟨by show st.p ≤ st.p + _; omega, h1, ⟨[], by simp [pairAt]⟩, fun h => h⟩
theorem up_pairs {s : ByteArray} : ∀ (n : Nat) (xs : List Al) (st : RS), st.p ≤ s.size → Up s st (pairsP s n xs st).2
  | 0, _, st, h => Up.refl h
  | n + 1, xs, st, h => by
    have u := up_pair (s := s) h
    rw [pairsP]
    split
    · exact Up.refl h
    split
    · rename_i h2; exact u.trans (up_on h2)
    split
    · rename_i h2; exact (u.trans (up_on h2)).trans (up_pairs n _ _ (up_on h2).2.1)
    · exact (u.trans (up_end u.2.1)).trans (up_pairs n _ _ (up_end u.2.1).2.1)
theorem up_name {s : ByteArray} {st : RS} (h : st.p ≤ s.size) : Up s st (behindName s st) := by
  have h1 := wordN_le s st.p h
  unfold behindName
  split
  · rename_i h2
    have h3 := isP_le h2
    have e : tArrow.size = 2 := rfl
    have h4 : (pairAt s st).p = st.p + wordN s st.p := rfl
    have h5 := wordN_le s (st.p + wordN s st.p + 2) (by omega)
    exact ⟨by show st.p ≤ st.p + wordN s st.p + 2 + _; omega, h5, ⟨[], by simp⟩, fun h => h⟩
  · exact ⟨by show st.p ≤ st.p + _; omega, h1, ⟨[], by simp [pairAt]⟩, fun h => h⟩
theorem up_kids {s : ByteArray} {it : RS → Int × RS} {k : Int} (hit : ∀ st, st.p ≤ s.size → Up s st (it st).2) : ∀ (n : Nat) (zs : List Int) (st : RS), st.p ≤ s.size → Up s st (kidsP s it k n zs st).2
  | 0, _, st, h => Up.refl h
  | n + 1, zs, st, h => by
    rw [kidsP]
    split
    · rename_i h2
      have u := (up_on h2).trans (hit _ (up_on h2).2.1)
      exact u.trans (up_kids hit n _ _ u.2.1)
    · exact Up.refl h
theorem up_rd {s : ByteArray} : ∀ (n : Nat) (b : Bool) (st : RS), st.p ≤ s.size → Up s st (rdP s n b st).2
  | 0, _, st, h => Up.refl h
  | n + 1, false, st, h => by
    rw [rdP]
    split
    · rename_i h2
      have u := (up_on h2).trans (up_pairs (s.size + 1) [] _ (up_on h2).2.1)
      split
      · rename_i xs st' e
        rw [e] at u
        exact u.trans (up_add u.2.1 _)
      · rename_i st' e
        rw [e] at u
        exact u
    split
    · rename_i h2
      have u := (up_on h2).trans (up_rd n true _ (up_on h2).2.1)
      dsimp only
      split
      · rename_i h3; exact u.trans (up_on h3)
      · exact u.trans (up_end u.2.1)
    · have u := up_name (s := s) h
      have u2 : Up s st (judged (nameP s st) (behindName s st)) := by
        unfold judged
        split
        · exact u
        · exact u.trans (up_end u.2.1)
      exact u2.trans (up_add u2.2.1 _)
  | n + 1, true, st, h => by
    have u := up_rd n false st h
    rw [rdP]
    dsimp only
    split
    · exact u
    · have u2 := u.trans (up_kids (k := signAt s (rdP s n false st).2.p) (fun st h => up_rd n false st h) (s.size + 1) [(rdP s n false st).1] _ u.2.1)
      exact u2.trans (up_add u2.2.1 _)
end Go.Proofs.Ytjmbgpdbnffkpaa
