/- Contracts of the functions that look at objects and write their texts: each returns what the plain function says, and nothing that was in memory has changed. -/
import Derived.Test.YtgifbgcnlijjiaaNames
import Derived.Below
namespace Go.Proofs.Ytgifbgcnlijjiaa
open Go.ChangeShapes Go.WideShapes Go.ChangeAt Go.RowKit
open Pl

theorem bcell {W w1 : World} (hb : Below W.heap.size W w1) : (∀ b o, b < W.heap.size → w1.cell? ⟨b, o, none⟩ = W.cell? ⟨b, o, none⟩) ∧ (∀ b o, b < W.heap.size → w1.frozen? ⟨b, o, none⟩ = W.frozen? ⟨b, o, none⟩) :=
  ⟨fun b o h => hb.cell (p := ⟨b, o, none⟩) h, fun b o h => hb.frozen (p := ⟨b, o, none⟩) h⟩

theorem specObj_any (t i : ByteArray) (w : World) (ht : t.size ≤ maxLen) (hi : i.size ≤ maxLen) :
    Calls Try.prog 75 #[.agg #[.string t, .string i]] w fun e w' => e = .returned (.bool (objB t i)) ∧ Below w.heap.size w w' := by
  by_cases hn : nameB t = true
  all_goals
    go_enter Try.func75, Try.ntmps75
    go_wp2_with (first | (go_at_call 76; refine (specName_any _ _ ht).mono ?_; rintro e w' ⟨rfl, rfl⟩) | (go_at_call 87; refine (specId_any _ _ hi).mono ?_; rintro e w' ⟨rfl, rfl⟩))
    go_ret
    exact ⟨ret_bool (by simp [objB, hn]), (Below.refl _ _).alloc (Nat.le_refl _) _⟩

theorem implObj_any (t i : ByteArray) (w : World) (ht : t.size ≤ maxLen) (hi : i.size ≤ maxLen) :
    Calls Try.prog 70 #[.agg #[.string t, .string i]] w fun e w' => e = .returned (.bool (objB t i)) ∧ Below w.heap.size w w' := by
  by_cases hn : nameB t = true
  all_goals
    go_enter Try.func70, Try.ntmps70
    go_wp2_with (first | (go_at_call 71; refine (implName_any _ _ ht).mono ?_; rintro e w' ⟨rfl, rfl⟩) | (go_at_call 81; refine (implId_any _ _ hi).mono ?_; rintro e w' ⟨rfl, rfl⟩))
    go_ret
    exact ⟨ret_bool (by simp [objB, hn]), (Below.refl _ _).alloc (Nat.le_refl _) _⟩

end Go.Proofs.Ytgifbgcnlijjiaa
