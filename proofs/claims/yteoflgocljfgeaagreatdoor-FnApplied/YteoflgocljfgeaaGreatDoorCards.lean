/-
  DERIVED. GIVEN WITH THE SEED: THE CARDS: each row of YteoflgocljfgeaaGreatDoorRows.lean that lists a variable, with what it lists TIED to the program's text (the seventh form; the later family's looks); each row that meets fmt, with fmt's text TOLD by the authors' own Lean function (tested against real Go, not proved from fmt's source: count such statements apart). THE CARD IS WHAT COUNTS. Prove the row's statement (the work); the ties are given (YteoflgocljfgeaaGreatDoorTie.lean); close each card by the builder's one call (the guide's Derived/Test/ToyasCard.lean, 'card_holds'). Laid BY PROGRAM, IN A SANDBOX (cutbox-door.mjs). By AI agents, Wed Nov 11 2026. No macro, syntax, notation, axiom, sorry.
-/
import Derived.Test.YteoflgocljfgeaaGreatDoorRows
import GoSem.ClaimSeven
namespace Go.Proofs.YteoflgocljfgeaaGreatDoor
namespace Rows

/-- THE TIED CARD OF 'laws.FnExactApplied'. -/
def fnExactAppliedCard : Claim7 := { stood := { row := fnExactAppliedRow, standIns := [], harness := (true, "15f804bf5180adcef6f9e1692b00397fd7f9cb1320345fab24fa0ee633e412b8"), looks := true }, kinds := [], alts := [], laidByText := true, laidKinds := [.handle, .sentinel, .sentinel, .sentinel, .sentinel, .sentinel, .sentinel], laidTests := true, laidLooks := .later }
def FnExactAppliedCardSaid : Prop := Claim7.holds Tryz.pinned (.plain (OpenSpec.ofChange fnExactAppliedSpec)) fnExactAppliedCard

/-- THE TIED CARD OF 'laws.FnApplied'. -/
def fnAppliedCard : Claim7 := { stood := { row := fnAppliedRow, standIns := [], harness := (true, "15f804bf5180adcef6f9e1692b00397fd7f9cb1320345fab24fa0ee633e412b8"), looks := true }, kinds := [], alts := [], laidByText := true, laidKinds := [.handle, .sentinel, .sentinel, .sentinel, .sentinel, .sentinel, .sentinel], laidTests := true, laidLooks := .later }
def FnAppliedCardSaid : Prop := Claim7.holds Tryz.pinned (.plain (OpenSpec.ofChange fnAppliedSpec)) fnAppliedCard

/-- THE SECOND FORM's CARD OF 'laws.FnExactApplied'. -/
def fnExactAppliedUptoCard : Claim7 := { stood := { row := fnExactAppliedUptoRow, standIns := [], harness := (true, "15f804bf5180adcef6f9e1692b00397fd7f9cb1320345fab24fa0ee633e412b8"), looks := true }, kinds := [], alts := [], laidByText := true, laidKinds := [.handle, .sentinel, .sentinel, .sentinel, .sentinel, .sentinel, .sentinel], laidTests := true, laidLooks := .later }
def FnExactAppliedUptoCardSaid : Prop := Claim7.holds Tryz.pinned (.plain (OpenSpec.upto fnExactAppliedSpec)) fnExactAppliedUptoCard

/-- THE SECOND FORM's CARD OF 'laws.FnApplied'. -/
def fnAppliedUptoCard : Claim7 := { stood := { row := fnAppliedUptoRow, standIns := [], harness := (true, "15f804bf5180adcef6f9e1692b00397fd7f9cb1320345fab24fa0ee633e412b8"), looks := true }, kinds := [], alts := [], laidByText := true, laidKinds := [.handle, .sentinel, .sentinel, .sentinel, .sentinel, .sentinel, .sentinel], laidTests := true, laidLooks := .later }
def FnAppliedUptoCardSaid : Prop := Claim7.holds Tryz.pinned (.plain (OpenSpec.upto fnAppliedSpec)) fnAppliedUptoCard
end Rows
end Go.Proofs.YteoflgocljfgeaaGreatDoor
