/- The key of two strings. -/
import Derived.Test.YtpmgkkbkficgpaaMapV
namespace Go.Proofs.Ytpmgkkbkficgpaa
open Go.ChangeShapes Go.WideShapes Go.ChangeAt Go.RowKit Go.Maps

def encK (k : ByteArray × ByteArray) : Value := .agg #[.string k.1, .string k.2]
theorem encK_inj (x y : ByteArray × ByteArray) (h : encK x = encK y) : x = y := by
  unfold encK at h
  injection h with h
  have h1 := congrArg Array.toList h
  simp at h1
  exact Prod.ext h1.1 h1.2
theorem laidOutM : laidOutB Try.prog = true := by kernel_rfl
theorem relRow : (84 : TypeId) < Try.prog.types.size := of_decide_eq_true (by kernel_rfl)
theorem relWide : (match Try.prog.underlying 84 with | some (.array _ _) | some (.struct _) => true | _ => false) = true := by rw [Try.underlying84]
set_option maxRecDepth 100000 in
theorem relLaw0 : WideMaps.KeyLaw Try.prog 84 := deep_law_laid laidOutM (m := 2) (by omega) relRow (by kernel_rfl) relWide
theorem relLaw : Keyed Try.prog 84 := Keyed.of_law relLaw0
theorem relKeyT : Try.prog.keyType 84 = true := by kernel_rfl
theorem relCells : Try.prog.cellsOf 84 = 2 := by kernel_rfl
theorem strCells : Try.prog.cellsOf 9 = 1 := by kernel_rfl
theorem typesSize : ∃ n, Try.prog.types.size = n + 1 := Nat.exists_eq_succ_of_ne_zero (Nat.ne_of_gt (Nat.lt_of_le_of_lt (Nat.zero_le _) relRow))
theorem relKeyOf (k : ByteArray × ByteArray) (h1 : k.1.size ≤ maxLen) (h2 : k.2.size ≤ maxLen) : ∃ kl, keyOf Try.prog 84 (encK k) = some kl := by
  obtain ⟨n, hn⟩ := typesSize
  refine ⟨.string (keyBytes [.string k.1.data.toList, .string k.2.data.toList]), ?_⟩
  unfold keyOf
  rw [Try.underlying84]
  simp only [relKeyT, encK, Value.formed, Try.underlying84, relCells, hn, Value.cells]
  simp [Program.keyLits, Try.underlying84, Try.underlying9, relCells, strCells, h1, h2]
end Go.Proofs.Ytpmgkkbkficgpaa
