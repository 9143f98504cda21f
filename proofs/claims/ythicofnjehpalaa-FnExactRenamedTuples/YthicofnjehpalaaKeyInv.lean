/- What reads as a tuple's key is a tuple. -/
import Derived.Test.YthicofnjehpalaaTupKey
namespace Go.Proofs.Ythicofnjehpalaa
open Go.ChangeShapes Go.WideShapes Go.ChangeAt Go.RowKit Go.Maps

set_option maxRecDepth 100000 in
theorem strLit {d : Nat} {c : Value} {l : List Lit} (h : Try.prog.keyLits (d + 1) 9 [c] = some l) : ∃ s, c = .string s ∧ s.size ≤ maxLen := by
  unfold Program.keyLits at h
  rw [Try.underlying9] at h
  cases c <;> simp at h
  exact ⟨_, rfl, h.1⟩
set_option maxRecDepth 100000 in
theorem objLit {d : Nat} {c c' : Value} {l : List Lit} (h : Try.prog.keyLits (d + 2) 37 [c, c'] = some l) : (∃ s, c = .string s ∧ s.size ≤ maxLen) ∧ ∃ s, c' = .string s ∧ s.size ≤ maxLen := by
  unfold Program.keyLits at h
  rw [Try.underlying37] at h
  simp [objCells, strCells] at h
  cases e1 : Try.prog.keyLits (d + 1) 9 [c] with
  | none => simp [e1] at h
  | some l1 =>
    cases e2 : Try.prog.keyLits (d + 1) 9 [c'] with
    | none => simp [e1, e2] at h
    | some l2 => exact ⟨strLit e1, strLit e2⟩
set_option maxRecDepth 100000 in
theorem tupKeyInv {key : Value} {kl : Lit} (h : keyOf Try.prog 39 key = some kl) : ∃ x : Tp, key = encT x ∧ x.fits := by
  obtain ⟨n, hn⟩ := typesSize
  unfold keyOf at h
  rw [Try.underlying39] at h
  simp only [tupKeyT, hn] at h
  cases key with
  | agg cs =>
    simp only [Value.formed, Try.underlying39, tupCells] at h
    by_cases hs : cs.size = 6
    · obtain ⟨cs⟩ := cs
      simp only [List.size_toArray] at hs
      match cs, hs with
      | [c0, c1, c2, c3, c4, c5], _ =>
        unfold Program.keyLits at h
        rw [Try.underlying39] at h
        simp [tupCells, objCells, strCells, Value.cells] at h
        cases e1 : Try.prog.keyLits (n + 2) 37 [c0, c1] with
        | none => simp [e1] at h
        | some l1 =>
          cases e2 : Try.prog.keyLits (n + 2) 9 [c2] with
          | none => simp [e1, e2] at h
          | some l2 =>
            cases e3 : Try.prog.keyLits (n + 2) 37 [c3, c4] with
            | none => simp [e1, e2, e3] at h
            | some l3 =>
              cases e4 : Try.prog.keyLits (n + 2) 9 [c5] with
              | none => simp [e1, e2, e3, e4] at h
              | some l4 =>
                obtain ⟨⟨a, rfl, ha⟩, ⟨b, rfl, hb⟩⟩ := objLit e1
                obtain ⟨r, rfl, hr⟩ := strLit e2
                obtain ⟨⟨c, rfl, hc⟩, ⟨d, rfl, hd⟩⟩ := objLit e3
                obtain ⟨s, rfl, hs⟩ := strLit e4
                exact ⟨⟨a, b, r, c, d, s⟩, rfl, ha, hb, hr, hc, hd, hs⟩
    · simp [hs] at h
  | _ => simp [Value.formed, Try.underlying39] at h
end Go.Proofs.Ythicofnjehpalaa
