/- Contract of the program's name that a relation has behind a renaming. -/
import Derived.Test.YthicofnjehpalaaPlainRen
import Derived.Test.YthicofnjehpalaaTupRow
namespace Go.Proofs.Ythicofnjehpalaa
set_option maxRecDepth 100000
open Go.ChangeShapes Go.WideShapes Go.ChangeAt Go.RowKit Go.Maps
open Pl

set_option maxHeartbeats 4000000 in
theorem relName_any (mv : Option Nat) (typ frm to ty name : ByteArray) (w : World) :
    Calls Try.prog 19 #[.agg #[.map mv, .string typ, .string frm, .string to], .string ty, .string name] w fun e w' => e = .returned (.string (relN typ frm to ty name)) ∧ Below w.heap.size w w' := by
  have HB0 : Hid (Below w.heap.size w (w.alloc (.cells #[.map mv, .string typ, .string frm, .string to] 46))) := (Below.refl _ _).alloc (Nat.le_refl _) _
  cases e1 : ty.toList == typ.toList <;> cases e2 : name.toList == frm.toList <;> cases e3 : name.toList.isEmpty
  all_goals (
    go_enter Try.func19, Try.ntmps19
    go_wp2
    go_ret
    exact ⟨by unfold relN; rw [e1, e2, e3]; rfl, HB0.out⟩)
end Go.Proofs.Ythicofnjehpalaa
