/-
  No cell of these rows narrows 'for every input' (looked for: loops, veiled, ifaces, maps, wideKeys, modest, calm, conditions, laid).
  DERIVED. THE GIVEN ROWS OF THIS SEAT. 5 by the template 'for every input the law returns true; each argument reads behind the call as it read before'; 0 by the template 'total and deterministic' (their statements: YtmfgehfbipnngaaTotals.lean).
  GIVEN WITH THE SEED: the statements are not yours to turn. If you find one false, say at which input.
  Laid BY PROGRAM, IN A SANDBOX (cutbox-rows.mjs): the forced cells as the released guide's own fill.sh prints them over the translation e1b8045807ef7587… (all of the seat's roots in one cut). By AI agents, Wed Nov 11 2026. No macro, syntax, notation, axiom, sorry.
-/
import Derived.Test.YtmfgehfbipnngaaChecked
import GoSem.Claim
import GoSem.ClaimJoined
import GoSem.ClaimMapViews
import Derived.JoinedTies
import Derived.KernelRfl
namespace Go.Proofs.Ytmfgehfbipnngaa
/- THE CELL 'sum', in the pinned program and in every row, IS THE sha256 OF THE DUMP (.gsa) THAT YtmfgehfbipnngaaProg.lean LOADS. Nothing in Lean hashes anything: it is a label: what it is worth is what the hold of that sum in a sandbox is worth. -/
noncomputable def Try.pinned : Pinned := { name := "ytmfgehfbipnngaa", sum := "e1b8045807ef7587c2762ad717d26b61a7e1a1d9d5e57138c1308ecf360fe002", checked := Try.checked }
namespace Rows
def none {H : Type} : Left H := { results := [], args := [] }

/-- 'laws.FnStrata': WHATEVER THE INPUT: true; the input reads as it did. -/
def fnStrataSpec : ChangeSpec := { name := "fnStrata", fn := fun _ => fun
  | [d] => { results := [.lit (.bool true)], args := [d] }
  | _ => none }
def fnStrataRow : OpenClaim := { program := "ytmfgehfbipnngaa", sum := "e1b8045807ef7587c2762ad717d26b61a7e1a1d9d5e57138c1308ecf360fe002", func := "loop.example/g00297/laws.FnStrata", spec := "fnStrata", unfollowed := true, recurses := true, plainKeys := false, apart := false }
def FnStrataSaid : Prop := fnStrataRow.holds Try.pinned (OpenSpec.ofChange fnStrataSpec)

/-- ITS FALSE NEIGHBOUR: 'it returns false'. Refute it at one input. -/
def fnStrataWrong : ChangeSpec := { name := "fnStrata", fn := fun _ => fun
  | [d] => { results := [.lit (.bool false)], args := [d] }
  | _ => none }
def FnStrataWrongFalsely : Prop := fnStrataRow.holds Try.pinned (OpenSpec.ofChange fnStrataWrong)

/-- 'laws.FnFits': WHATEVER THE INPUT: true; the input reads as it did. -/
def fnFitsSpec : ChangeSpec := { name := "fnFits", fn := fun _ => fun
  | [d] => { results := [.lit (.bool true)], args := [d] }
  | _ => none }
def fnFitsRow : OpenClaim := { program := "ytmfgehfbipnngaa", sum := "e1b8045807ef7587c2762ad717d26b61a7e1a1d9d5e57138c1308ecf360fe002", func := "loop.example/g00297/laws.FnFits", spec := "fnFits", unfollowed := true, recurses := true, plainKeys := false, apart := false }
def FnFitsSaid : Prop := fnFitsRow.holds Try.pinned (OpenSpec.ofChange fnFitsSpec)

/-- ITS FALSE NEIGHBOUR: 'it returns false'. Refute it at one input. -/
def fnFitsWrong : ChangeSpec := { name := "fnFits", fn := fun _ => fun
  | [d] => { results := [.lit (.bool false)], args := [d] }
  | _ => none }
def FnFitsWrongFalsely : Prop := fnFitsRow.holds Try.pinned (OpenSpec.ofChange fnFitsWrong)

/-- 'laws.FnExactRelOf': WHATEVER THE INPUT: true; the input reads as it did. -/
def fnExactRelOfSpec : ChangeSpec := { name := "fnExactRelOf", fn := fun _ => fun
  | [d1, d2, d3] => { results := [.lit (.bool true)], args := [d1, d2, d3] }
  | _ => none }
def fnExactRelOfRow : OpenClaim := { program := "ytmfgehfbipnngaa", sum := "e1b8045807ef7587c2762ad717d26b61a7e1a1d9d5e57138c1308ecf360fe002", func := "loop.example/g00297/laws.FnExactRelOf", spec := "fnExactRelOf", unfollowed := true, recurses := true, plainKeys := false, apart := false }
def FnExactRelOfSaid : Prop := fnExactRelOfRow.holds Try.pinned (OpenSpec.ofChange fnExactRelOfSpec)

/-- ITS FALSE NEIGHBOUR: 'it returns false'. Refute it at one input. -/
def fnExactRelOfWrong : ChangeSpec := { name := "fnExactRelOf", fn := fun _ => fun
  | [d1, d2, d3] => { results := [.lit (.bool false)], args := [d1, d2, d3] }
  | _ => none }
def FnExactRelOfWrongFalsely : Prop := fnExactRelOfRow.holds Try.pinned (OpenSpec.ofChange fnExactRelOfWrong)

/-- 'laws.FnExactSchemaText': WHATEVER THE INPUT: true; the input reads as it did. -/
def fnExactSchemaTextSpec : ChangeSpec := { name := "fnExactSchemaText", fn := fun _ => fun
  | [d] => { results := [.lit (.bool true)], args := [d] }
  | _ => none }
def fnExactSchemaTextRow : OpenClaim := { program := "ytmfgehfbipnngaa", sum := "e1b8045807ef7587c2762ad717d26b61a7e1a1d9d5e57138c1308ecf360fe002", func := "loop.example/g00297/laws.FnExactSchemaText", spec := "fnExactSchemaText", inPlace := ["internal/abi.NoEscape", "internal/bytealg.MakeNoZero"], unfollowed := true, recurses := true, plainKeys := false, apart := false }
def FnExactSchemaTextSaid : Prop := fnExactSchemaTextRow.holds Try.pinned (OpenSpec.ofChange fnExactSchemaTextSpec)

/-- ITS FALSE NEIGHBOUR: 'it returns false'. Refute it at one input. -/
def fnExactSchemaTextWrong : ChangeSpec := { name := "fnExactSchemaText", fn := fun _ => fun
  | [d] => { results := [.lit (.bool false)], args := [d] }
  | _ => none }
def FnExactSchemaTextWrongFalsely : Prop := fnExactSchemaTextRow.holds Try.pinned (OpenSpec.ofChange fnExactSchemaTextWrong)

/-- 'laws.FnExactTupleText': WHATEVER THE INPUT: true; the input reads as it did. -/
def fnExactTupleTextSpec : ChangeSpec := { name := "fnExactTupleText", fn := fun _ => fun
  | [d] => { results := [.lit (.bool true)], args := [d] }
  | _ => none }
def fnExactTupleTextRow : OpenClaim := { program := "ytmfgehfbipnngaa", sum := "e1b8045807ef7587c2762ad717d26b61a7e1a1d9d5e57138c1308ecf360fe002", func := "loop.example/g00297/laws.FnExactTupleText", spec := "fnExactTupleText", unfollowed := true, recurses := true, plainKeys := false, apart := false }
def FnExactTupleTextSaid : Prop := fnExactTupleTextRow.holds Try.pinned (OpenSpec.ofChange fnExactTupleTextSpec)

/-- ITS FALSE NEIGHBOUR: 'it returns false'. Refute it at one input. -/
def fnExactTupleTextWrong : ChangeSpec := { name := "fnExactTupleText", fn := fun _ => fun
  | [d] => { results := [.lit (.bool false)], args := [d] }
  | _ => none }
def FnExactTupleTextWrongFalsely : Prop := fnExactTupleTextRow.holds Try.pinned (OpenSpec.ofChange fnExactTupleTextWrong)

/- THE SECOND FORM. 'bulk': how many values and letters a reading holds, each counted each time it is reached (what is shared counts as often as it is met; a slice's spare places count too). A statement '..UptoSaid' is the law's where the arguments, and the package variables that the reading takes, are together of bulk at most 1048576: NARROWER than '..Said'. Prove '..Said' where nothing that the law and all that it calls make is longer than what came in: it says more and counts as full. Else prove '..UptoSaid'. A law counts once. -/
mutual
def uptoBulk {H : Type} : DataW H → Nat
  | .lit (.string bytes) => bytes.length + 1
  | .lit _ => 1
  | .nil => 1
  | .ptr d => uptoBulk d + 1
  | .slice elems spare => uptoBulkAll elems + uptoBulkAll spare + 1
  | .agg parts => uptoBulkAll parts + 1
  | .iface _ d => uptoBulk d + 1
  | .map entries => uptoBulkEntries entries + 1
  | .held _ => 1
def uptoBulkAll {H : Type} : List (DataW H) → Nat
  | [] => 0
  | d :: r => uptoBulk d + uptoBulkAll r
def uptoBulkEntries {H : Type} : List (Lit × DataW H) → Nat
  | [] => 0
  | x :: r => uptoBulkEntry x + uptoBulkEntries r
def uptoBulkEntry {H : Type} : Lit × DataW H → Nat
  | (.string bytes, d) => bytes.length + uptoBulk d + 1
  | (_, d) => uptoBulk d + 1
 end
def uptoSmall : (H : Type) → List (DataW H) → Bool := fun _ ds => decide (uptoBulkAll ds ≤ 1048576)
def OpenSpec.upto (s : _root_.Go.ChangeSpec) : _root_.Go.OpenSpec := { _root_.Go.OpenSpec.ofChange s with cond := some uptoSmall }

/-- 'laws.FnStrata', WHERE WHAT IT READS IS OF BULK AT MOST 1048576: true; the input reads as it did. -/
def fnStrataUptoRow : OpenClaim := { program := "ytmfgehfbipnngaa", sum := "e1b8045807ef7587c2762ad717d26b61a7e1a1d9d5e57138c1308ecf360fe002", func := "loop.example/g00297/laws.FnStrata", spec := "fnStrata", unfollowed := true, recurses := true, plainKeys := false, apart := false, narrowed := true }
def FnStrataUptoSaid : Prop := fnStrataUptoRow.holds Try.pinned (OpenSpec.upto fnStrataSpec)

/-- 'laws.FnFits', WHERE WHAT IT READS IS OF BULK AT MOST 1048576: true; the input reads as it did. -/
def fnFitsUptoRow : OpenClaim := { program := "ytmfgehfbipnngaa", sum := "e1b8045807ef7587c2762ad717d26b61a7e1a1d9d5e57138c1308ecf360fe002", func := "loop.example/g00297/laws.FnFits", spec := "fnFits", unfollowed := true, recurses := true, plainKeys := false, apart := false, narrowed := true }
def FnFitsUptoSaid : Prop := fnFitsUptoRow.holds Try.pinned (OpenSpec.upto fnFitsSpec)

/-- 'laws.FnExactRelOf', WHERE WHAT IT READS IS OF BULK AT MOST 1048576: true; the input reads as it did. -/
def fnExactRelOfUptoRow : OpenClaim := { program := "ytmfgehfbipnngaa", sum := "e1b8045807ef7587c2762ad717d26b61a7e1a1d9d5e57138c1308ecf360fe002", func := "loop.example/g00297/laws.FnExactRelOf", spec := "fnExactRelOf", unfollowed := true, recurses := true, plainKeys := false, apart := false, narrowed := true }
def FnExactRelOfUptoSaid : Prop := fnExactRelOfUptoRow.holds Try.pinned (OpenSpec.upto fnExactRelOfSpec)

/-- 'laws.FnExactSchemaText', WHERE WHAT IT READS IS OF BULK AT MOST 1048576: true; the input reads as it did. -/
def fnExactSchemaTextUptoRow : OpenClaim := { program := "ytmfgehfbipnngaa", sum := "e1b8045807ef7587c2762ad717d26b61a7e1a1d9d5e57138c1308ecf360fe002", func := "loop.example/g00297/laws.FnExactSchemaText", spec := "fnExactSchemaText", inPlace := ["internal/abi.NoEscape", "internal/bytealg.MakeNoZero"], unfollowed := true, recurses := true, plainKeys := false, apart := false, narrowed := true }
def FnExactSchemaTextUptoSaid : Prop := fnExactSchemaTextUptoRow.holds Try.pinned (OpenSpec.upto fnExactSchemaTextSpec)

/-- 'laws.FnExactTupleText', WHERE WHAT IT READS IS OF BULK AT MOST 1048576: true; the input reads as it did. -/
def fnExactTupleTextUptoRow : OpenClaim := { program := "ytmfgehfbipnngaa", sum := "e1b8045807ef7587c2762ad717d26b61a7e1a1d9d5e57138c1308ecf360fe002", func := "loop.example/g00297/laws.FnExactTupleText", spec := "fnExactTupleText", unfollowed := true, recurses := true, plainKeys := false, apart := false, narrowed := true }
def FnExactTupleTextUptoSaid : Prop := fnExactTupleTextUptoRow.holds Try.pinned (OpenSpec.upto fnExactTupleTextSpec)

end Rows
end Go.Proofs.Ytmfgehfbipnngaa
