/-
  No cell of these rows narrows 'for every input' (looked for: loops, veiled, ifaces, maps, wideKeys, modest, calm, conditions, laid).
  DERIVED. THE GIVEN ROWS OF THIS SEAT. 3 by the template 'for every input the law returns true; each argument reads behind the call as it read before'; 0 by the template 'total and deterministic' (their statements: YtmghabcaakgjiaaGreatTotals.lean).
  GIVEN WITH THE SEED: the statements are not yours to turn. If you find one false, say at which input.
  Laid BY PROGRAM, IN A SANDBOX (cutbox-rows.mjs): the forced cells as the released guide's own fill.sh prints them over the translation c2f2650570f41793… (all of the seat's roots in one cut). By AI agents, Wed Nov 11 2026. No macro, syntax, notation, axiom, sorry.
-/
import Derived.Test.YtmghabcaakgjiaaGreatChecked
import GoSem.Claim
import GoSem.ClaimJoined
import GoSem.ClaimMapViews
import Derived.JoinedTies
import Derived.KernelRfl
namespace Go.Proofs.YtmghabcaakgjiaaGreat
/- THE CELL 'sum', in the pinned program and in every row, IS THE sha256 OF THE DUMP (.gsa) THAT YtmghabcaakgjiaaGreatProg.lean LOADS. Nothing in Lean hashes anything: it is a label: what it is worth is what the hold of that sum in a sandbox is worth. -/
noncomputable def Tryz.pinned : Pinned := { name := "ytmghabcaakgjiaagreat", sum := "c2f2650570f41793c247dcba92147723ef4ae1ea76ddd940b67229155c3440cf", checked := Tryz.checked }
namespace Rows
def none {H : Type} : Left H := { results := [], args := [] }

/-- 'laws.FnExactRenamed': WHATEVER THE INPUT: true; the input reads as it did. -/
def fnExactRenamedSpec : ChangeSpec := { name := "fnExactRenamed", fn := fun _ => fun
  | [d1, d2, d3, d4] => { results := [.lit (.bool true)], args := [d1, d2, d3, d4] }
  | _ => none }
def fnExactRenamedRow : OpenClaim := { program := "ytmghabcaakgjiaagreat", sum := "c2f2650570f41793c247dcba92147723ef4ae1ea76ddd940b67229155c3440cf", func := "loop.example/g00297/laws.FnExactRenamed", spec := "fnExactRenamed", inPlace := ["internal/bytealg.abigen_runtime_cmpstring"], unfollowed := true, recurses := true, plainKeys := false, apart := false }
def FnExactRenamedSaid : Prop := fnExactRenamedRow.holds Tryz.pinned (OpenSpec.ofChange fnExactRenamedSpec)

/-- ITS FALSE NEIGHBOUR: 'it returns false'. Refute it at one input. -/
def fnExactRenamedWrong : ChangeSpec := { name := "fnExactRenamed", fn := fun _ => fun
  | [d1, d2, d3, d4] => { results := [.lit (.bool false)], args := [d1, d2, d3, d4] }
  | _ => none }
def FnExactRenamedWrongFalsely : Prop := fnExactRenamedRow.holds Tryz.pinned (OpenSpec.ofChange fnExactRenamedWrong)

/-- 'laws.FnExactInlined': WHATEVER THE INPUT: true; the input reads as it did. -/
def fnExactInlinedSpec : ChangeSpec := { name := "fnExactInlined", fn := fun _ => fun
  | [d1, d2, d3] => { results := [.lit (.bool true)], args := [d1, d2, d3] }
  | _ => none }
def fnExactInlinedRow : OpenClaim := { program := "ytmghabcaakgjiaagreat", sum := "c2f2650570f41793c247dcba92147723ef4ae1ea76ddd940b67229155c3440cf", func := "loop.example/g00297/laws.FnExactInlined", spec := "fnExactInlined", unfollowed := true, recurses := true, plainKeys := false, apart := false }
def FnExactInlinedSaid : Prop := fnExactInlinedRow.holds Tryz.pinned (OpenSpec.ofChange fnExactInlinedSpec)

/-- ITS FALSE NEIGHBOUR: 'it returns false'. Refute it at one input. -/
def fnExactInlinedWrong : ChangeSpec := { name := "fnExactInlined", fn := fun _ => fun
  | [d1, d2, d3] => { results := [.lit (.bool false)], args := [d1, d2, d3] }
  | _ => none }
def FnExactInlinedWrongFalsely : Prop := fnExactInlinedRow.holds Tryz.pinned (OpenSpec.ofChange fnExactInlinedWrong)

/-- 'laws.FnExactPruned': WHATEVER THE INPUT: true; the input reads as it did. -/
def fnExactPrunedSpec : ChangeSpec := { name := "fnExactPruned", fn := fun _ => fun
  | [d1, d2, d3] => { results := [.lit (.bool true)], args := [d1, d2, d3] }
  | _ => none }
def fnExactPrunedRow : OpenClaim := { program := "ytmghabcaakgjiaagreat", sum := "c2f2650570f41793c247dcba92147723ef4ae1ea76ddd940b67229155c3440cf", func := "loop.example/g00297/laws.FnExactPruned", spec := "fnExactPruned", unfollowed := true, recurses := true, plainKeys := false, apart := false }
def FnExactPrunedSaid : Prop := fnExactPrunedRow.holds Tryz.pinned (OpenSpec.ofChange fnExactPrunedSpec)

/-- ITS FALSE NEIGHBOUR: 'it returns false'. Refute it at one input. -/
def fnExactPrunedWrong : ChangeSpec := { name := "fnExactPruned", fn := fun _ => fun
  | [d1, d2, d3] => { results := [.lit (.bool false)], args := [d1, d2, d3] }
  | _ => none }
def FnExactPrunedWrongFalsely : Prop := fnExactPrunedRow.holds Tryz.pinned (OpenSpec.ofChange fnExactPrunedWrong)

/- THE SECOND FORM. 'bulk': how many values and letters a reading holds, each counted each time it is reached (what is shared counts as often as it is met; a slice's spare places count too). A statement '..UptoSaid' is the law's where the arguments, and the package variables that the reading takes, are together of bulk at most 1048576: NARROWER than '..Said'. Prove '..Said' where nothing that the law and all that it calls make is longer than what came in: it says more and counts as full. Else prove '..UptoSaid'. A law counts once. -/
mutual
def uptoBulk {H : Type} : DataW H → Nat
  | .lit (.string bytes) => bytes.length + 1
  | .lit _ => 1
  | .nil => 1
  | .ptr d => uptoBulk d + 1
  | .slice elems spare => uptoBulkAll elems + uptoBulkAll spare + 1
  | .agg parts => uptoBulkAll parts + 1
  | .iface _ d => uptoBulk d + 1
  | .map entries => uptoBulkEntries entries + 1
  | .held _ => 1
def uptoBulkAll {H : Type} : List (DataW H) → Nat
  | [] => 0
  | d :: r => uptoBulk d + uptoBulkAll r
def uptoBulkEntries {H : Type} : List (Lit × DataW H) → Nat
  | [] => 0
  | x :: r => uptoBulkEntry x + uptoBulkEntries r
def uptoBulkEntry {H : Type} : Lit × DataW H → Nat
  | (.string bytes, d) => bytes.length + uptoBulk d + 1
  | (_, d) => uptoBulk d + 1
 end
def uptoSmall : (H : Type) → List (DataW H) → Bool := fun _ ds => decide (uptoBulkAll ds ≤ 1048576)
def OpenSpec.upto (s : _root_.Go.ChangeSpec) : _root_.Go.OpenSpec := { _root_.Go.OpenSpec.ofChange s with cond := some uptoSmall }

/-- 'laws.FnExactRenamed', WHERE WHAT IT READS IS OF BULK AT MOST 1048576: true; the input reads as it did. -/
def fnExactRenamedUptoRow : OpenClaim := { program := "ytmghabcaakgjiaagreat", sum := "c2f2650570f41793c247dcba92147723ef4ae1ea76ddd940b67229155c3440cf", func := "loop.example/g00297/laws.FnExactRenamed", spec := "fnExactRenamed", inPlace := ["internal/bytealg.abigen_runtime_cmpstring"], unfollowed := true, recurses := true, plainKeys := false, apart := false, narrowed := true }
def FnExactRenamedUptoSaid : Prop := fnExactRenamedUptoRow.holds Tryz.pinned (OpenSpec.upto fnExactRenamedSpec)

/-- 'laws.FnExactInlined', WHERE WHAT IT READS IS OF BULK AT MOST 1048576: true; the input reads as it did. -/
def fnExactInlinedUptoRow : OpenClaim := { program := "ytmghabcaakgjiaagreat", sum := "c2f2650570f41793c247dcba92147723ef4ae1ea76ddd940b67229155c3440cf", func := "loop.example/g00297/laws.FnExactInlined", spec := "fnExactInlined", unfollowed := true, recurses := true, plainKeys := false, apart := false, narrowed := true }
def FnExactInlinedUptoSaid : Prop := fnExactInlinedUptoRow.holds Tryz.pinned (OpenSpec.upto fnExactInlinedSpec)

/-- 'laws.FnExactPruned', WHERE WHAT IT READS IS OF BULK AT MOST 1048576: true; the input reads as it did. -/
def fnExactPrunedUptoRow : OpenClaim := { program := "ytmghabcaakgjiaagreat", sum := "c2f2650570f41793c247dcba92147723ef4ae1ea76ddd940b67229155c3440cf", func := "loop.example/g00297/laws.FnExactPruned", spec := "fnExactPruned", unfollowed := true, recurses := true, plainKeys := false, apart := false, narrowed := true }
def FnExactPrunedUptoSaid : Prop := fnExactPrunedUptoRow.holds Tryz.pinned (OpenSpec.upto fnExactPrunedSpec)

end Rows
end Go.Proofs.YtmghabcaakgjiaaGreat
