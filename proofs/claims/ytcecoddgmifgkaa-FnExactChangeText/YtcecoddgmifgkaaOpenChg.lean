/- What the cells of a change hold, when they can be read: a number and strings that fit. -/
import Derived.Test.YtcecoddgmifgkaaOpenTup
namespace Go.Proofs.Ytcecoddgmifgkaa
open Go.ChangeShapes Go.WideShapes Go.ChangeAt Go.RowKit Go.Joins

theorem list7 {α : Type} {l : List α} (h : l.length = 7) : ∃ x a b c d e f, l = [x, a, b, c, d, e, f] := by
  match l, h with
  | [x, a, b, c, d, e, f], _ => exact ⟨x, a, b, c, d, e, f, rfl⟩
theorem cellsChg : Try.prog.cellsOf 27 = 7 := by kernel_rfl
theorem cellsI64 : Try.prog.cellsOf 2 = 1 := by kernel_rfl

theorem read_chg {H : Type} {enc : TypeId × Value → H} {w : World} {base : Nat} {sp : Nat → Bool} {held : Bool} {fuel : Nat} {cs : List Value} {x : DataW H × List MemPlace}
    (h : DataW.trod enc Try.prog w base sp held fuel 27 cs = some x) : ∃ (k : Int) (a b r c d s : ByteArray), cs = [.int .i64 k, .string a, .string b, .string r, .string c, .string d, .string s] ∧
      a.size ≤ maxLen ∧ b.size ≤ maxLen ∧ r.size ≤ maxLen ∧ c.size ≤ maxLen ∧ d.size ≤ maxLen ∧ s.size ≤ maxLen := by
  obtain ⟨y0, y1, n, -, hl, h0, h1⟩ := trod_struct2 Try.underlying27 h
  rw [cellsChg] at hl
  obtain ⟨c0, c1, c2, c3, c4, c5, c6, rfl⟩ := list7 hl
  simp only [cellsI64, cellsTup, List.drop_zero, List.drop_succ_cons, List.take_succ_cons, List.take_zero] at h0 h1
  obtain ⟨k, e0, -, -⟩ := DataW.trod_int Try.underlying2 h0
  obtain ⟨a, b, r, c, d, s, e1, hh⟩ := read_tup h1
  simp at e0 e1
  subst e0
  obtain ⟨rfl, rfl, rfl, rfl, rfl, rfl⟩ := e1
  exact ⟨k, a, b, r, c, d, s, rfl, hh⟩

set_option maxRecDepth 100000 in
/-- a change by value: the value written out -/
theorem open_chg {H : Type} {enc : TypeId × Value → H} {W w : World} {r0 : Reach} {b0 base : Nat} {sp : Nat → Bool} {held : Bool} {v : Value} {d0 : DataW H} {p : List MemPlace}
    (hv : Value.okWide Try.prog W r0 b0 27 v) (h : DataW.Trod enc Try.prog w base sp held 27 v d0 p) : ∃ (k : Int) (a b r c d s : ByteArray), v = .agg #[.int .i64 k, .string a, .string b, .string r, .string c, .string d, .string s] ∧
      a.size ≤ maxLen ∧ b.size ≤ maxLen ∧ r.size ≤ maxLen ∧ c.size ≤ maxLen ∧ d.size ≤ maxLen ∧ s.size ≤ maxLen := by
  obtain ⟨cs, rfl, hsz⟩ := okWide_struct Try.underlying27 hv
  obtain ⟨fuel, hf⟩ := h
  obtain ⟨k, a, b, r, c, d, s, e, hh⟩ := read_chg hf
  refine ⟨k, a, b, r, c, d, s, ?_, hh⟩
  simp only [Value.cells] at e
  rw [← Array.toArray_toList (xs := cs), e]

end Go.Proofs.Ytcecoddgmifgkaa
