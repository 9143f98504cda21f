/- The key of a tuple: six strings. -/
import Derived.Test.YthicofnjehpalaaMapV
import Derived.Test.YthicofnjehpalaaSlices
namespace Go.Proofs.Ythicofnjehpalaa
open Go.ChangeShapes Go.WideShapes Go.ChangeAt Go.RowKit Go.Maps

def encT (k : Tp) : Value := .agg #[.string k.a, .string k.b, .string k.r, .string k.c, .string k.d, .string k.s]
theorem encT_inj (x y : Tp) (h : encT x = encT y) : x = y := by
  unfold encT at h
  injection h with h
  have h1 := congrArg Array.toList h
  simp at h1
  obtain ⟨xa, xb, xr, xc, xd, xs⟩ := x
  obtain ⟨ya, yb, yr, yc, yd, ys⟩ := y
  simp only at h1
  obtain ⟨rfl, rfl, rfl, rfl, rfl, rfl⟩ := h1
  rfl
theorem laidOutM : laidOutB Try.prog = true := by kernel_rfl
theorem tupRow : (39 : TypeId) < Try.prog.types.size := of_decide_eq_true (by kernel_rfl)
theorem tupWide : (match Try.prog.underlying 39 with | some (.array _ _) | some (.struct _) => true | _ => false) = true := by rw [Try.underlying39]
set_option maxRecDepth 100000 in
theorem tupLaw0 : WideMaps.KeyLaw Try.prog 39 := deep_law_laid laidOutM (m := 3) (by omega) tupRow (by kernel_rfl) tupWide
theorem tupLaw : Keyed Try.prog 39 := Keyed.of_law tupLaw0
theorem tupKeyT : Try.prog.keyType 39 = true := by kernel_rfl
theorem tupCells : Try.prog.cellsOf 39 = 6 := by kernel_rfl
theorem objCells : Try.prog.cellsOf 37 = 2 := by kernel_rfl
theorem strCells : Try.prog.cellsOf 9 = 1 := by kernel_rfl
theorem typesTwo : 2 ≤ Try.prog.types.size := of_decide_eq_true (by kernel_rfl)
theorem typesSize : ∃ n, Try.prog.types.size = n + 2 := ⟨Try.prog.types.size - 2, by have := typesTwo; omega⟩
set_option maxRecDepth 100000 in
theorem tupKeyOf (k : Tp) (h : k.fits) : ∃ kl, keyOf Try.prog 39 (encT k) = some kl := by
  obtain ⟨n, hn⟩ := typesSize
  obtain ⟨h0, h1, h2, h3, h4, h5⟩ := h
  refine ⟨.string (keyBytes [.string k.a.data.toList, .string k.b.data.toList, .string k.r.data.toList, .string k.c.data.toList, .string k.d.data.toList, .string k.s.data.toList]), ?_⟩
  unfold keyOf
  rw [Try.underlying39]
  simp only [tupKeyT, encT, Value.formed, Try.underlying39, tupCells, hn, Value.cells]
  simp +decide [Program.keyLits, Try.underlying39, Try.underlying37, Try.underlying9, tupCells, objCells, strCells, h0, h1, h2, h3, h4, h5]
end Go.Proofs.Ythicofnjehpalaa
