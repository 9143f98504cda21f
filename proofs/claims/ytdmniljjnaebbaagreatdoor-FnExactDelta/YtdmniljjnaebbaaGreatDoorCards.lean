/-
  DERIVED. GIVEN WITH THE SEED: THE CARDS: each row of YtdmniljjnaebbaaGreatDoorRows.lean that lists a variable, with what it lists TIED to the program's text (the seventh form; the later family's looks); each row that meets fmt, with fmt's text TOLD by the authors' own Lean function (tested against real Go, not proved from fmt's source: count such statements apart). THE CARD IS WHAT COUNTS. Prove the row's statement (the work); the ties are given (YtdmniljjnaebbaaGreatDoorTie.lean); close each card by the builder's one call (the guide's Derived/Test/ToyasCard.lean, 'card_holds'). Laid BY PROGRAM, IN A SANDBOX (cutbox-door.mjs). By AI agents, Wed Nov 11 2026. No macro, syntax, notation, axiom, sorry.
-/
import Derived.Test.YtdmniljjnaebbaaGreatDoorRows
import GoSem.ClaimSeven
namespace Go.Proofs.YtdmniljjnaebbaaGreatDoor
namespace Rows

/-- THE TIED CARD OF 'laws.FnExactDelta'. -/
def fnExactDeltaCard : Claim7 := { stood := { row := fnExactDeltaRow, standIns := [], harness := (true, "cbbf345af5b07fd08ab4eea481a9ac9d231102f8d24caf01cf1d10ec9bd5fc5a"), looks := true }, kinds := [], alts := [], laidByText := true, laidKinds := [.handle, .sentinel, .sentinel, .sentinel, .sentinel, .sentinel, .sentinel], laidTests := true, laidLooks := .later }
def FnExactDeltaCardSaid : Prop := Claim7.holds Tryz.pinned (.plain (OpenSpec.ofChange fnExactDeltaSpec)) fnExactDeltaCard

/-- THE TIED CARD OF 'laws.FnExactCheckAt'. -/
def fnExactCheckAtCard : Claim7 := { stood := { row := fnExactCheckAtRow, standIns := [], harness := (true, "cbbf345af5b07fd08ab4eea481a9ac9d231102f8d24caf01cf1d10ec9bd5fc5a"), looks := true }, kinds := [], alts := [], laidByText := true, laidKinds := [.sentinel, .sentinel, .sentinel, .sentinel, .sentinel], laidTests := true, laidLooks := .later }
def FnExactCheckAtCardSaid : Prop := Claim7.holds Tryz.pinned (.plain (OpenSpec.ofChange fnExactCheckAtSpec)) fnExactCheckAtCard

/-- THE SECOND FORM's CARD OF 'laws.FnExactDelta'. -/
def fnExactDeltaUptoCard : Claim7 := { stood := { row := fnExactDeltaUptoRow, standIns := [], harness := (true, "cbbf345af5b07fd08ab4eea481a9ac9d231102f8d24caf01cf1d10ec9bd5fc5a"), looks := true }, kinds := [], alts := [], laidByText := true, laidKinds := [.handle, .sentinel, .sentinel, .sentinel, .sentinel, .sentinel, .sentinel], laidTests := true, laidLooks := .later }
def FnExactDeltaUptoCardSaid : Prop := Claim7.holds Tryz.pinned (.plain (OpenSpec.upto fnExactDeltaSpec)) fnExactDeltaUptoCard

/-- THE SECOND FORM's CARD OF 'laws.FnExactCheckAt'. -/
def fnExactCheckAtUptoCard : Claim7 := { stood := { row := fnExactCheckAtUptoRow, standIns := [], harness := (true, "cbbf345af5b07fd08ab4eea481a9ac9d231102f8d24caf01cf1d10ec9bd5fc5a"), looks := true }, kinds := [], alts := [], laidByText := true, laidKinds := [.sentinel, .sentinel, .sentinel, .sentinel, .sentinel], laidTests := true, laidLooks := .later }
def FnExactCheckAtUptoCardSaid : Prop := Claim7.holds Tryz.pinned (.plain (OpenSpec.upto fnExactCheckAtSpec)) fnExactCheckAtUptoCard
end Rows
end Go.Proofs.YtdmniljjnaebbaaGreatDoor
