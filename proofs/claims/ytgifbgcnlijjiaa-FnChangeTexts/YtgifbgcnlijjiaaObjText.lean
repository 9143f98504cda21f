/- Contracts of the two functions that write an object's text. -/
import Derived.Test.YtgifbgcnlijjiaaObjects
import Derived.Test.YtgifbgcnlijjiaaPlain2
namespace Go.Proofs.Ytgifbgcnlijjiaa
open Go.ChangeShapes Go.WideShapes Go.ChangeAt Go.RowKit
open Pl

theorem specObjText_any (t i : ByteArray) (w : World) (ht : t.size ≤ maxLen) (hi : i.size ≤ maxLen) :
    Calls Try.prog 65 #[.agg #[.string t, .string i]] w fun e w' => e = .returned (.string (objText t i)) ∧ Below w.heap.size w w' := by
  by_cases hn : objB t i = true
  · obtain ⟨h1, h2⟩ := objB_le hn
    have HT : Hid (objText t i = t ++ ⟨#[58]⟩ ++ i) := objText_yes hn
    go_enter Try.func65, Try.ntmps65
    go_wp2_with (go_at_call 75; refine (specObj_any _ _ _ ht hi).mono ?_; rintro e w' ⟨rfl, hb⟩; obtain ⟨hc, hf⟩ := bcell hb)
    go_ret
    exact ⟨ret_str HT.out.symm, ((Below.refl _ _).alloc (Nat.le_refl _) _).trans (hb.mono (by simp))⟩
  · have hn' : objB t i = false := by simpa using hn
    have HT : Hid (objText t i = ⟨#[]⟩) := objText_no hn'
    clear hn
    go_enter Try.func65, Try.ntmps65
    go_wp2_with (go_at_call 75; refine (specObj_any _ _ _ ht hi).mono ?_; rintro e w' ⟨rfl, hb⟩; obtain ⟨hc, hf⟩ := bcell hb)
    go_ret
    exact ⟨ret_str HT.out.symm, ((Below.refl _ _).alloc (Nat.le_refl _) _).trans (hb.mono (by simp))⟩

theorem implObjText_any (t i : ByteArray) (w : World) (ht : t.size ≤ maxLen) (hi : i.size ≤ maxLen) :
    Calls Try.prog 61 #[.agg #[.string t, .string i]] w fun e w' => e = .returned (.string (objText t i)) ∧ Below w.heap.size w w' := by
  by_cases hn : objB t i = true
  · obtain ⟨h1, h2⟩ := objB_le hn
    have HT : Hid (objText t i = t ++ ⟨#[58]⟩ ++ i) := objText_yes hn
    go_enter Try.func61, Try.ntmps61
    go_wp2_with (go_at_call 70; refine (implObj_any _ _ _ ht hi).mono ?_; rintro e w' ⟨rfl, hb⟩; obtain ⟨hc, hf⟩ := bcell hb)
    go_ret
    exact ⟨ret_str HT.out.symm, ((Below.refl _ _).alloc (Nat.le_refl _) _).trans (hb.mono (by simp))⟩
  · have hn' : objB t i = false := by simpa using hn
    have HT : Hid (objText t i = ⟨#[]⟩) := objText_no hn'
    clear hn
    go_enter Try.func61, Try.ntmps61
    go_wp2_with (go_at_call 70; refine (implObj_any _ _ _ ht hi).mono ?_; rintro e w' ⟨rfl, hb⟩; obtain ⟨hc, hf⟩ := bcell hb)
    go_ret
    exact ⟨ret_str HT.out.symm, ((Below.refl _ _).alloc (Nat.le_refl _) _).trans (hb.mono (by simp))⟩

end Go.Proofs.Ytgifbgcnlijjiaa
