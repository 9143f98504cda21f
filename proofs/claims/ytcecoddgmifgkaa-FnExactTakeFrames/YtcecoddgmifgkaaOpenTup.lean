/- What the cells of an object and of a tuple hold, when they can be read: strings that fit. -/
import Derived.Test.YtcecoddgmifgkaaRows
import Derived.OpenShut
import Derived.ShutString
import Derived.ChangeOld
import Derived.Lib.SmallJoins
namespace Go.Proofs.Ytcecoddgmifgkaa
open Go.ChangeShapes Go.WideShapes Go.ChangeAt Go.RowKit Go.Joins

theorem list2 {α : Type} {l : List α} (h : l.length = 2) : ∃ a b, l = [a, b] := by
  match l, h with
  | [a, b], _ => exact ⟨a, b, rfl⟩
theorem list6 {α : Type} {l : List α} (h : l.length = 6) : ∃ a b c d e f, l = [a, b, c, d, e, f] := by
  match l, h with
  | [a, b, c, d, e, f], _ => exact ⟨a, b, c, d, e, f, rfl⟩

theorem cellsObj : Try.prog.cellsOf 23 = 2 := by kernel_rfl
theorem cellsTup : Try.prog.cellsOf 25 = 6 := by kernel_rfl
theorem cellsStr : Try.prog.cellsOf 9 = 1 := by kernel_rfl

theorem read_obj {H : Type} {enc : TypeId × Value → H} {w : World} {base : Nat} {sp : Nat → Bool} {held : Bool} {fuel : Nat} {cs : List Value} {x : DataW H × List MemPlace}
    (h : DataW.trod enc Try.prog w base sp held fuel 23 cs = some x) : ∃ a b : ByteArray, cs = [.string a, .string b] ∧ a.size ≤ maxLen ∧ b.size ≤ maxLen := by
  obtain ⟨y0, y1, n, -, hl, h0, h1⟩ := trod_struct2 Try.underlying23 h
  rw [cellsObj] at hl
  obtain ⟨c0, c1, rfl⟩ := list2 hl
  simp only [cellsStr, List.drop_zero, List.drop_succ_cons, List.take_succ_cons, List.take_zero] at h0 h1
  obtain ⟨a, e0, -, wa⟩ := DataW.trod_string Try.underlying9 h0
  obtain ⟨b, e1, -, wb⟩ := DataW.trod_string Try.underlying9 h1
  simp at e0 e1
  subst e0 e1
  exact ⟨a, b, rfl, wa, wb⟩

theorem read_tup {H : Type} {enc : TypeId × Value → H} {w : World} {base : Nat} {sp : Nat → Bool} {held : Bool} {fuel : Nat} {cs : List Value} {x : DataW H × List MemPlace}
    (h : DataW.trod enc Try.prog w base sp held fuel 25 cs = some x) : ∃ a b r c d s : ByteArray, cs = [.string a, .string b, .string r, .string c, .string d, .string s] ∧
      a.size ≤ maxLen ∧ b.size ≤ maxLen ∧ r.size ≤ maxLen ∧ c.size ≤ maxLen ∧ d.size ≤ maxLen ∧ s.size ≤ maxLen := by
  obtain ⟨y0, y1, y2, y3, n, -, hl, h0, h1, h2, h3⟩ := trod_struct4 Try.underlying25 h
  rw [cellsTup] at hl
  obtain ⟨c0, c1, c2, c3, c4, c5, rfl⟩ := list6 hl
  simp only [cellsStr, cellsObj, List.drop_zero, List.drop_succ_cons, List.take_succ_cons, List.take_zero] at h0 h1 h2 h3
  obtain ⟨a, b, e0, wa, wb⟩ := read_obj h0
  obtain ⟨r, e1, -, wr⟩ := DataW.trod_string Try.underlying9 h1
  obtain ⟨c, d, e2, wc, wd⟩ := read_obj h2
  obtain ⟨s, e3, -, ws⟩ := DataW.trod_string Try.underlying9 h3
  simp at e0 e1 e2 e3
  obtain ⟨rfl, rfl⟩ := e0
  obtain ⟨rfl, rfl⟩ := e2
  subst e1 e3
  exact ⟨a, b, r, c, d, s, rfl, wa, wb, wr, wc, wd, ws⟩

set_option maxRecDepth 100000 in
/-- a tuple by value: the value written out -/
theorem open_tup {H : Type} {enc : TypeId × Value → H} {W w : World} {r0 : Reach} {b0 base : Nat} {sp : Nat → Bool} {held : Bool} {v : Value} {d0 : DataW H} {p : List MemPlace}
    (hv : Value.okWide Try.prog W r0 b0 25 v) (h : DataW.Trod enc Try.prog w base sp held 25 v d0 p) : ∃ a b r c d s : ByteArray, v = .agg #[.string a, .string b, .string r, .string c, .string d, .string s] ∧
      a.size ≤ maxLen ∧ b.size ≤ maxLen ∧ r.size ≤ maxLen ∧ c.size ≤ maxLen ∧ d.size ≤ maxLen ∧ s.size ≤ maxLen := by
  obtain ⟨cs, rfl, hsz⟩ := okWide_struct Try.underlying25 hv
  obtain ⟨fuel, hf⟩ := h
  obtain ⟨a, b, r, c, d, s, e, hh⟩ := read_tup hf
  refine ⟨a, b, r, c, d, s, ?_, hh⟩
  simp only [Value.cells] at e
  rw [← Array.toArray_toList (xs := cs), e]

end Go.Proofs.Ytcecoddgmifgkaa
