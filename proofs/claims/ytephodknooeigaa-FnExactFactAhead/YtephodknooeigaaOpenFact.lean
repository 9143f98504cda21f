/- What the cells of an object and of a fact hold, when they can be read: strings that fit. -/
import Derived.Test.YtephodknooeigaaRows
import Derived.OpenShut
import Derived.ShutString
import Derived.ChangeOld
import Derived.Lib.SmallJoins
import Derived.Deep.Strs
namespace Go.Proofs.Ytephodknooeigaa
open Go.ChangeShapes Go.WideShapes Go.ChangeAt Go.RowKit Go.Joins

theorem listF2 {α : Type} {l : List α} (h : l.length = 2) : ∃ a b, l = [a, b] := by
  match l, h with
  | [a, b], _ => exact ⟨a, b, rfl⟩
theorem listF5 {α : Type} {l : List α} (h : l.length = 5) : ∃ a b c d e, l = [a, b, c, d, e] := by
  match l, h with
  | [a, b, c, d, e], _ => exact ⟨a, b, c, d, e, rfl⟩

theorem cellsObjF : Try.prog.cellsOf 23 = 2 := by kernel_rfl
theorem cellsFac : Try.prog.cellsOf 25 = 5 := by kernel_rfl
theorem cellsStrF : Try.prog.cellsOf 9 = 1 := by kernel_rfl

theorem read_objF {H : Type} {enc : TypeId × Value → H} {w : World} {base : Nat} {sp : Nat → Bool} {held : Bool} {fuel : Nat} {cs : List Value} {x : DataW H × List MemPlace}
    (h : DataW.trod enc Try.prog w base sp held fuel 23 cs = some x) : ∃ a b : ByteArray, cs = [.string a, .string b] ∧ a.size ≤ maxLen ∧ b.size ≤ maxLen := by
  obtain ⟨y0, y1, n, -, hl, h0, h1⟩ := trod_struct2 Try.underlying23 h
  rw [cellsObjF] at hl
  obtain ⟨c0, c1, rfl⟩ := listF2 hl
  simp only [cellsStrF, List.drop_zero, List.drop_succ_cons, List.take_succ_cons, List.take_zero] at h0 h1
  obtain ⟨a, e0, -, wa⟩ := DataW.trod_string Try.underlying9 h0
  obtain ⟨b, e1, -, wb⟩ := DataW.trod_string Try.underlying9 h1
  simp at e0 e1
  subst e0 e1
  exact ⟨a, b, rfl, wa, wb⟩

theorem read_fac {H : Type} {enc : TypeId × Value → H} {w : World} {base : Nat} {sp : Nat → Bool} {held : Bool} {fuel : Nat} {cs : List Value} {x : DataW H × List MemPlace}
    (h : DataW.trod enc Try.prog w base sp held fuel 25 cs = some x) : ∃ a b r c d : ByteArray, cs = [.string a, .string b, .string r, .string c, .string d] ∧
      a.size ≤ maxLen ∧ b.size ≤ maxLen ∧ r.size ≤ maxLen ∧ c.size ≤ maxLen ∧ d.size ≤ maxLen := by
  obtain ⟨y0, y1, y2, n, -, hl, h0, h1, h2⟩ := Go.Deep.trod_struct3 Try.underlying25 h
  rw [cellsFac] at hl
  obtain ⟨c0, c1, c2, c3, c4, rfl⟩ := listF5 hl
  simp only [cellsStrF, cellsObjF, List.drop_zero, List.drop_succ_cons, List.take_succ_cons, List.take_zero] at h0 h1 h2
  obtain ⟨a, b, e0, wa, wb⟩ := read_objF h0
  obtain ⟨r, e1, -, wr⟩ := DataW.trod_string Try.underlying9 h1
  obtain ⟨c, d, e2, wc, wd⟩ := read_objF h2
  simp at e0 e1 e2
  obtain ⟨rfl, rfl⟩ := e0
  obtain ⟨rfl, rfl⟩ := e2
  subst e1
  exact ⟨a, b, r, c, d, rfl, wa, wb, wr, wc, wd⟩

set_option maxRecDepth 100000 in
/-- a fact by value: the value written out -/
theorem open_fac {H : Type} {enc : TypeId × Value → H} {W w : World} {r0 : Reach} {b0 base : Nat} {sp : Nat → Bool} {held : Bool} {v : Value} {d0 : DataW H} {p : List MemPlace}
    (hv : Value.okWide Try.prog W r0 b0 25 v) (h : DataW.Trod enc Try.prog w base sp held 25 v d0 p) : ∃ a b r c d : ByteArray, v = .agg #[.string a, .string b, .string r, .string c, .string d] ∧
      a.size ≤ maxLen ∧ b.size ≤ maxLen ∧ r.size ≤ maxLen ∧ c.size ≤ maxLen ∧ d.size ≤ maxLen := by
  obtain ⟨cs, rfl, hsz⟩ := okWide_struct Try.underlying25 hv
  obtain ⟨fuel, hf⟩ := h
  obtain ⟨a, b, r, c, d, e, hh⟩ := read_fac hf
  refine ⟨a, b, r, c, d, ?_, hh⟩
  simp only [Value.cells] at e
  rw [← Array.toArray_toList (xs := cs), e]

end Go.Proofs.Ytephodknooeigaa
