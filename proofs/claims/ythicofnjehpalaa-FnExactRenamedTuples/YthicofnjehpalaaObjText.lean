/- Contracts of the two functions that write an object's text. -/
import Derived.Test.YthicofnjehpalaaObjects
import Derived.Test.YthicofnjehpalaaPlain2
namespace Go.Proofs.Ythicofnjehpalaa
open Go.ChangeShapes Go.WideShapes Go.ChangeAt Go.RowKit
open Pl

theorem specObjText_any (t i : ByteArray) (w : World) (ht : t.size ≤ maxLen) (hi : i.size ≤ maxLen) :
    Calls Try.prog 45 #[.agg #[.string t, .string i]] w fun e w' => e = .returned (.string (objText t i)) ∧ Below w.heap.size w w' := by
  by_cases hn : objB t i = true
  · obtain ⟨h1, h2⟩ := objB_le hn
    have HT : Hid (objText t i = t ++ ⟨#[58]⟩ ++ i) := objText_yes hn
    go_enter Try.func45, Try.ntmps45
    go_wp2_with (go_at_call 35; refine (specObj_any _ _ _ ht hi).mono ?_; rintro e w' ⟨rfl, hb⟩; obtain ⟨hc, hf⟩ := bcell hb)
    go_ret
    exact ⟨ret_str HT.out.symm, ((Below.refl _ _).alloc (Nat.le_refl _) _).trans (hb.mono (by simp))⟩
  · have hn' : objB t i = false := by simpa using hn
    have HT : Hid (objText t i = ⟨#[]⟩) := objText_no hn'
    clear hn
    go_enter Try.func45, Try.ntmps45
    go_wp2_with (go_at_call 35; refine (specObj_any _ _ _ ht hi).mono ?_; rintro e w' ⟨rfl, hb⟩; obtain ⟨hc, hf⟩ := bcell hb)
    go_ret
    exact ⟨ret_str HT.out.symm, ((Below.refl _ _).alloc (Nat.le_refl _) _).trans (hb.mono (by simp))⟩

theorem implObjText_any (t i : ByteArray) (w : World) (ht : t.size ≤ maxLen) (hi : i.size ≤ maxLen) :
    Calls Try.prog 51 #[.agg #[.string t, .string i]] w fun e w' => e = .returned (.string (objText t i)) ∧ Below w.heap.size w w' := by
  by_cases hn : objB t i = true
  · obtain ⟨h1, h2⟩ := objB_le hn
    have HT : Hid (objText t i = t ++ ⟨#[58]⟩ ++ i) := objText_yes hn
    go_enter Try.func51, Try.ntmps51
    go_wp2_with (go_at_call 37; refine (implObj_any _ _ _ ht hi).mono ?_; rintro e w' ⟨rfl, hb⟩; obtain ⟨hc, hf⟩ := bcell hb)
    go_ret
    exact ⟨ret_str HT.out.symm, ((Below.refl _ _).alloc (Nat.le_refl _) _).trans (hb.mono (by simp))⟩
  · have hn' : objB t i = false := by simpa using hn
    have HT : Hid (objText t i = ⟨#[]⟩) := objText_no hn'
    clear hn
    go_enter Try.func51, Try.ntmps51
    go_wp2_with (go_at_call 37; refine (implObj_any _ _ _ ht hi).mono ?_; rintro e w' ⟨rfl, hb⟩; obtain ⟨hc, hf⟩ := bcell hb)
    go_ret
    exact ⟨ret_str HT.out.symm, ((Below.refl _ _).alloc (Nat.le_refl _) _).trans (hb.mono (by simp))⟩

end Go.Proofs.Ythicofnjehpalaa
