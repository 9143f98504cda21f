/- Contracts of the laws' own helpers on objects: the count of what is read, and the copy into the program's type. -/
import Derived.Test.YtgifbgcnlijjiaaObjText
namespace Go.Proofs.Ytgifbgcnlijjiaa
open Go.ChangeShapes Go.WideShapes Go.ChangeAt Go.RowKit
open Pl

/-- what is left of a purse when an object's letters are paid -/
def szObj (t i : ByteArray) (left : Int) : Int := if left - t.size < 0 then -1 else if left - t.size - i.size < 0 then -1 else left - t.size - i.size

theorem ret_int {k : IntKind} {a b : Int} (h : a = b) : Ending.returned (.int k a) = .returned (.int k b) := by rw [h]

theorem szObject_any (t i : ByteArray) (left : Int) (w : World) (ht : t.size ≤ maxLen) (hi : i.size ≤ maxLen) (h0 : 0 ≤ left) (h1 : left ≤ 1048576) :
    Calls Try.prog 56 #[.agg #[.string t, .string i], .int .i64 left] w fun e w' => e = .returned (.int .i64 (szObj t i left)) ∧ Below w.heap.size w w' := by
  unfold maxLen at ht hi
  go_enter Try.func56, Try.ntmps56
  go_wp2
  all_goals go_ret
  all_goals refine ⟨ret_int ?_, (Below.refl _ _).alloc (Nat.le_refl _) _⟩
  all_goals unfold szObj
  all_goals first | rw [if_pos (by omega)] | (rw [if_neg (by omega)]; first | rw [if_pos (by omega)] | rw [if_neg (by omega)])

theorem toObject_any (t i : ByteArray) (w : World) :
    Calls Try.prog 57 #[.agg #[.string t, .string i]] w fun e w' => e = .returned (.agg #[.string t, .string i]) ∧ Below w.heap.size w w' := by
  go_enter Try.func57, Try.ntmps57
  go_wp2
  exact bodyPost_ret (v := .agg #[.string t, .string i]) (by simp [results, Try.results57, go_sem]) rfl ⟨rfl, by
    repeat (first | exact Below.refl _ _ | refine Below.setCell ?_ (by first | (simp; done) | (simp; omega)) _ | refine Below.alloc ?_ (by first | (simp; done) | (simp; omega)) _)⟩

end Go.Proofs.Ytgifbgcnlijjiaa
