/-
  DERIVED. GIVEN WITH THE SEED: THE CARDS: each row of YtpnjoniolfmbnaaGreatDoorRows.lean that lists a variable, with what it lists TIED to the program's text (the seventh form; the later family's looks); each row that meets fmt, with fmt's text TOLD by the authors' own Lean function (tested against real Go, not proved from fmt's source: count such statements apart). THE CARD IS WHAT COUNTS. Prove the row's statement (the work); the ties are given (YtpnjoniolfmbnaaGreatDoorTie.lean); close each card by the builder's one call (the guide's Derived/Test/ToyasCard.lean, 'card_holds'). Laid BY PROGRAM, IN A SANDBOX (cutbox-door.mjs). By AI agents, Wed Nov 11 2026. No macro, syntax, notation, axiom, sorry.
-/
import Derived.Test.YtpnjoniolfmbnaaGreatDoorRows
import GoSem.ClaimSeven
namespace Go.Proofs.YtpnjoniolfmbnaaGreatDoor
namespace Rows

/-- THE TIED CARD OF 'laws.FnApplied'. -/
def fnAppliedCard : Claim7 := { stood := { row := fnAppliedRow, standIns := [], harness := (true, "119b72f3c804c5e2c7a61d2bfe2cc8ce6c0c1213530f60f9daa0dd74b8fb8669"), looks := true }, kinds := [], alts := [], laidByText := true, laidKinds := [.handle, .sentinel, .sentinel, .sentinel, .sentinel, .sentinel, .sentinel], laidTests := true, laidLooks := .later }
def FnAppliedCardSaid : Prop := Claim7.holds Tryz.pinned (.plain (OpenSpec.ofChange fnAppliedSpec)) fnAppliedCard

/-- THE TIED CARD OF 'laws.FnExactApplied'. -/
def fnExactAppliedCard : Claim7 := { stood := { row := fnExactAppliedRow, standIns := [], harness := (true, "119b72f3c804c5e2c7a61d2bfe2cc8ce6c0c1213530f60f9daa0dd74b8fb8669"), looks := true }, kinds := [], alts := [], laidByText := true, laidKinds := [.handle, .sentinel, .sentinel, .sentinel, .sentinel, .sentinel, .sentinel], laidTests := true, laidLooks := .later }
def FnExactAppliedCardSaid : Prop := Claim7.holds Tryz.pinned (.plain (OpenSpec.ofChange fnExactAppliedSpec)) fnExactAppliedCard

/-- THE TIED CARD OF 'laws.FnExactTuplesAt'. -/
def fnExactTuplesAtCard : Claim7 := { stood := { row := fnExactTuplesAtRow, standIns := [], harness := (true, "119b72f3c804c5e2c7a61d2bfe2cc8ce6c0c1213530f60f9daa0dd74b8fb8669"), looks := true }, kinds := [], alts := [], laidByText := true, laidKinds := [.sentinel, .sentinel, .sentinel, .sentinel, .sentinel], laidTests := true, laidLooks := .later }
def FnExactTuplesAtCardSaid : Prop := Claim7.holds Tryz.pinned (.plain (OpenSpec.ofChange fnExactTuplesAtSpec)) fnExactTuplesAtCard

/-- THE SECOND FORM's CARD OF 'laws.FnApplied'. -/
def fnAppliedUptoCard : Claim7 := { stood := { row := fnAppliedUptoRow, standIns := [], harness := (true, "119b72f3c804c5e2c7a61d2bfe2cc8ce6c0c1213530f60f9daa0dd74b8fb8669"), looks := true }, kinds := [], alts := [], laidByText := true, laidKinds := [.handle, .sentinel, .sentinel, .sentinel, .sentinel, .sentinel, .sentinel], laidTests := true, laidLooks := .later }
def FnAppliedUptoCardSaid : Prop := Claim7.holds Tryz.pinned (.plain (OpenSpec.upto fnAppliedSpec)) fnAppliedUptoCard

/-- THE SECOND FORM's CARD OF 'laws.FnExactApplied'. -/
def fnExactAppliedUptoCard : Claim7 := { stood := { row := fnExactAppliedUptoRow, standIns := [], harness := (true, "119b72f3c804c5e2c7a61d2bfe2cc8ce6c0c1213530f60f9daa0dd74b8fb8669"), looks := true }, kinds := [], alts := [], laidByText := true, laidKinds := [.handle, .sentinel, .sentinel, .sentinel, .sentinel, .sentinel, .sentinel], laidTests := true, laidLooks := .later }
def FnExactAppliedUptoCardSaid : Prop := Claim7.holds Tryz.pinned (.plain (OpenSpec.upto fnExactAppliedSpec)) fnExactAppliedUptoCard

/-- THE SECOND FORM's CARD OF 'laws.FnExactTuplesAt'. -/
def fnExactTuplesAtUptoCard : Claim7 := { stood := { row := fnExactTuplesAtUptoRow, standIns := [], harness := (true, "119b72f3c804c5e2c7a61d2bfe2cc8ce6c0c1213530f60f9daa0dd74b8fb8669"), looks := true }, kinds := [], alts := [], laidByText := true, laidKinds := [.sentinel, .sentinel, .sentinel, .sentinel, .sentinel], laidTests := true, laidLooks := .later }
def FnExactTuplesAtUptoCardSaid : Prop := Claim7.holds Tryz.pinned (.plain (OpenSpec.upto fnExactTuplesAtSpec)) fnExactTuplesAtUptoCard
end Rows
end Go.Proofs.YtpnjoniolfmbnaaGreatDoor
