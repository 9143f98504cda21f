/-
  No cell of these rows narrows 'for every input' (looked for: loops, veiled, ifaces, maps, wideKeys, modest, calm, conditions, laid).
  DERIVED. THE GIVEN ROWS OF THIS SEAT. 4 by the template 'for every input the law returns true; each argument reads behind the call as it read before'; 0 by the template 'total and deterministic' (their statements: YtogjfppkbkgaeaaGreatTotals.lean).
  GIVEN WITH THE SEED: the statements are not yours to turn. If you find one false, say at which input.
  Laid BY PROGRAM, IN A SANDBOX (cutbox-rows.mjs): the forced cells as the released guide's own fill.sh prints them over the translation ec86d2324eb86d76… (all of the seat's roots in one cut). By AI agents, Wed Nov 11 2026. No macro, syntax, notation, axiom, sorry.
-/
import Derived.Test.YtogjfppkbkgaeaaGreatChecked
import GoSem.Claim
import GoSem.ClaimJoined
import GoSem.ClaimMapViews
import Derived.JoinedTies
import Derived.KernelRfl
namespace Go.Proofs.YtogjfppkbkgaeaaGreat
/- THE CELL 'sum', in the pinned program and in every row, IS THE sha256 OF THE DUMP (.gsa) THAT YtogjfppkbkgaeaaGreatProg.lean LOADS. Nothing in Lean hashes anything: it is a label: what it is worth is what the hold of that sum in a sandbox is worth. -/
noncomputable def Tryz.pinned : Pinned := { name := "ytogjfppkbkgaeaagreat", sum := "ec86d2324eb86d7657126dcbec56ef94a43333d30cb665d41c870613140a1cf9", checked := Tryz.checked }
namespace Rows
def none {H : Type} : Left H := { results := [], args := [] }

/-- 'laws.FnExactFacts': WHATEVER THE INPUT: true; the input reads as it did. -/
def fnExactFactsSpec : ChangeSpec := { name := "fnExactFacts", fn := fun _ => fun
  | [d1, d2] => { results := [.lit (.bool true)], args := [d1, d2] }
  | _ => none }
def fnExactFactsRow : OpenClaim := { program := "ytogjfppkbkgaeaagreat", sum := "ec86d2324eb86d7657126dcbec56ef94a43333d30cb665d41c870613140a1cf9", func := "loop.example/g00297/laws.FnExactFacts", spec := "fnExactFacts", inPlace := ["internal/bytealg.abigen_runtime_cmpstring"], unfollowed := true, recurses := true, plainKeys := false, apart := false }
def FnExactFactsSaid : Prop := fnExactFactsRow.holds Tryz.pinned (OpenSpec.ofChange fnExactFactsSpec)

/-- ITS FALSE NEIGHBOUR: 'it returns false'. Refute it at one input. -/
def fnExactFactsWrong : ChangeSpec := { name := "fnExactFacts", fn := fun _ => fun
  | [d1, d2] => { results := [.lit (.bool false)], args := [d1, d2] }
  | _ => none }
def FnExactFactsWrongFalsely : Prop := fnExactFactsRow.holds Tryz.pinned (OpenSpec.ofChange fnExactFactsWrong)

/-- 'laws.FnExactCheck': WHATEVER THE INPUT: true; the input reads as it did. -/
def fnExactCheckSpec : ChangeSpec := { name := "fnExactCheck", fn := fun _ => fun
  | [d1, d2, d3] => { results := [.lit (.bool true)], args := [d1, d2, d3] }
  | _ => none }
def fnExactCheckRow : OpenClaim := { program := "ytogjfppkbkgaeaagreat", sum := "ec86d2324eb86d7657126dcbec56ef94a43333d30cb665d41c870613140a1cf9", func := "loop.example/g00297/laws.FnExactCheck", spec := "fnExactCheck", inPlace := ["internal/bytealg.abigen_runtime_cmpstring"], unfollowed := true, recurses := true, plainKeys := false, apart := false }
def FnExactCheckSaid : Prop := fnExactCheckRow.holds Tryz.pinned (OpenSpec.ofChange fnExactCheckSpec)

/-- ITS FALSE NEIGHBOUR: 'it returns false'. Refute it at one input. -/
def fnExactCheckWrong : ChangeSpec := { name := "fnExactCheck", fn := fun _ => fun
  | [d1, d2, d3] => { results := [.lit (.bool false)], args := [d1, d2, d3] }
  | _ => none }
def FnExactCheckWrongFalsely : Prop := fnExactCheckRow.holds Tryz.pinned (OpenSpec.ofChange fnExactCheckWrong)

/-- 'laws.FnExactUsersOf': WHATEVER THE INPUT: true; the input reads as it did. -/
def fnExactUsersOfSpec : ChangeSpec := { name := "fnExactUsersOf", fn := fun _ => fun
  | [d1, d2, d3, d4] => { results := [.lit (.bool true)], args := [d1, d2, d3, d4] }
  | _ => none }
def fnExactUsersOfRow : OpenClaim := { program := "ytogjfppkbkgaeaagreat", sum := "ec86d2324eb86d7657126dcbec56ef94a43333d30cb665d41c870613140a1cf9", func := "loop.example/g00297/laws.FnExactUsersOf", spec := "fnExactUsersOf", inPlace := ["internal/bytealg.abigen_runtime_cmpstring"], unfollowed := true, recurses := true, plainKeys := false, apart := false }
def FnExactUsersOfSaid : Prop := fnExactUsersOfRow.holds Tryz.pinned (OpenSpec.ofChange fnExactUsersOfSpec)

/-- ITS FALSE NEIGHBOUR: 'it returns false'. Refute it at one input. -/
def fnExactUsersOfWrong : ChangeSpec := { name := "fnExactUsersOf", fn := fun _ => fun
  | [d1, d2, d3, d4] => { results := [.lit (.bool false)], args := [d1, d2, d3, d4] }
  | _ => none }
def FnExactUsersOfWrongFalsely : Prop := fnExactUsersOfRow.holds Tryz.pinned (OpenSpec.ofChange fnExactUsersOfWrong)

/-- 'laws.FnExactObjectsOf': WHATEVER THE INPUT: true; the input reads as it did. -/
def fnExactObjectsOfSpec : ChangeSpec := { name := "fnExactObjectsOf", fn := fun _ => fun
  | [d1, d2, d3, d4, d5] => { results := [.lit (.bool true)], args := [d1, d2, d3, d4, d5] }
  | _ => none }
def fnExactObjectsOfRow : OpenClaim := { program := "ytogjfppkbkgaeaagreat", sum := "ec86d2324eb86d7657126dcbec56ef94a43333d30cb665d41c870613140a1cf9", func := "loop.example/g00297/laws.FnExactObjectsOf", spec := "fnExactObjectsOf", inPlace := ["internal/bytealg.abigen_runtime_cmpstring"], unfollowed := true, recurses := true, plainKeys := false, apart := false }
def FnExactObjectsOfSaid : Prop := fnExactObjectsOfRow.holds Tryz.pinned (OpenSpec.ofChange fnExactObjectsOfSpec)

/-- ITS FALSE NEIGHBOUR: 'it returns false'. Refute it at one input. -/
def fnExactObjectsOfWrong : ChangeSpec := { name := "fnExactObjectsOf", fn := fun _ => fun
  | [d1, d2, d3, d4, d5] => { results := [.lit (.bool false)], args := [d1, d2, d3, d4, d5] }
  | _ => none }
def FnExactObjectsOfWrongFalsely : Prop := fnExactObjectsOfRow.holds Tryz.pinned (OpenSpec.ofChange fnExactObjectsOfWrong)

/- THE SECOND FORM. 'bulk': how many values and letters a reading holds, each counted each time it is reached (what is shared counts as often as it is met; a slice's spare places count too). A statement '..UptoSaid' is the law's where the arguments, and the package variables that the reading takes, are together of bulk at most 1048576: NARROWER than '..Said'. Prove '..Said' where nothing that the law and all that it calls make is longer than what came in: it says more and counts as full. Else prove '..UptoSaid'. A law counts once. -/
mutual
def uptoBulk {H : Type} : DataW H → Nat
  | .lit (.string bytes) => bytes.length + 1
  | .lit _ => 1
  | .nil => 1
  | .ptr d => uptoBulk d + 1
  | .slice elems spare => uptoBulkAll elems + uptoBulkAll spare + 1
  | .agg parts => uptoBulkAll parts + 1
  | .iface _ d => uptoBulk d + 1
  | .map entries => uptoBulkEntries entries + 1
  | .held _ => 1
def uptoBulkAll {H : Type} : List (DataW H) → Nat
  | [] => 0
  | d :: r => uptoBulk d + uptoBulkAll r
def uptoBulkEntries {H : Type} : List (Lit × DataW H) → Nat
  | [] => 0
  | x :: r => uptoBulkEntry x + uptoBulkEntries r
def uptoBulkEntry {H : Type} : Lit × DataW H → Nat
  | (.string bytes, d) => bytes.length + uptoBulk d + 1
  | (_, d) => uptoBulk d + 1
 end
def uptoSmall : (H : Type) → List (DataW H) → Bool := fun _ ds => decide (uptoBulkAll ds ≤ 1048576)
def OpenSpec.upto (s : _root_.Go.ChangeSpec) : _root_.Go.OpenSpec := { _root_.Go.OpenSpec.ofChange s with cond := some uptoSmall }

/-- 'laws.FnExactFacts', WHERE WHAT IT READS IS OF BULK AT MOST 1048576: true; the input reads as it did. -/
def fnExactFactsUptoRow : OpenClaim := { program := "ytogjfppkbkgaeaagreat", sum := "ec86d2324eb86d7657126dcbec56ef94a43333d30cb665d41c870613140a1cf9", func := "loop.example/g00297/laws.FnExactFacts", spec := "fnExactFacts", inPlace := ["internal/bytealg.abigen_runtime_cmpstring"], unfollowed := true, recurses := true, plainKeys := false, apart := false, narrowed := true }
def FnExactFactsUptoSaid : Prop := fnExactFactsUptoRow.holds Tryz.pinned (OpenSpec.upto fnExactFactsSpec)

/-- 'laws.FnExactCheck', WHERE WHAT IT READS IS OF BULK AT MOST 1048576: true; the input reads as it did. -/
def fnExactCheckUptoRow : OpenClaim := { program := "ytogjfppkbkgaeaagreat", sum := "ec86d2324eb86d7657126dcbec56ef94a43333d30cb665d41c870613140a1cf9", func := "loop.example/g00297/laws.FnExactCheck", spec := "fnExactCheck", inPlace := ["internal/bytealg.abigen_runtime_cmpstring"], unfollowed := true, recurses := true, plainKeys := false, apart := false, narrowed := true }
def FnExactCheckUptoSaid : Prop := fnExactCheckUptoRow.holds Tryz.pinned (OpenSpec.upto fnExactCheckSpec)

/-- 'laws.FnExactUsersOf', WHERE WHAT IT READS IS OF BULK AT MOST 1048576: true; the input reads as it did. -/
def fnExactUsersOfUptoRow : OpenClaim := { program := "ytogjfppkbkgaeaagreat", sum := "ec86d2324eb86d7657126dcbec56ef94a43333d30cb665d41c870613140a1cf9", func := "loop.example/g00297/laws.FnExactUsersOf", spec := "fnExactUsersOf", inPlace := ["internal/bytealg.abigen_runtime_cmpstring"], unfollowed := true, recurses := true, plainKeys := false, apart := false, narrowed := true }
def FnExactUsersOfUptoSaid : Prop := fnExactUsersOfUptoRow.holds Tryz.pinned (OpenSpec.upto fnExactUsersOfSpec)

/-- 'laws.FnExactObjectsOf', WHERE WHAT IT READS IS OF BULK AT MOST 1048576: true; the input reads as it did. -/
def fnExactObjectsOfUptoRow : OpenClaim := { program := "ytogjfppkbkgaeaagreat", sum := "ec86d2324eb86d7657126dcbec56ef94a43333d30cb665d41c870613140a1cf9", func := "loop.example/g00297/laws.FnExactObjectsOf", spec := "fnExactObjectsOf", inPlace := ["internal/bytealg.abigen_runtime_cmpstring"], unfollowed := true, recurses := true, plainKeys := false, apart := false, narrowed := true }
def FnExactObjectsOfUptoSaid : Prop := fnExactObjectsOfUptoRow.holds Tryz.pinned (OpenSpec.upto fnExactObjectsOfSpec)

end Rows
end Go.Proofs.YtogjfppkbkgaeaaGreat
