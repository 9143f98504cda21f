/-
  No cell of these rows narrows 'for every input' (looked for: loops, veiled, ifaces, maps, wideKeys, modest, calm, conditions, laid).
  DERIVED. THE GIVEN ROWS OF THIS SEAT. 6 by the template 'for every input the law returns true; each argument reads behind the call as it read before'; 0 by the template 'total and deterministic' (their statements: YtglkhgkiljfooagTotals.lean).
  GIVEN WITH THE SEED: the statements are not yours to turn. If you find one false, say at which input.
  Laid BY PROGRAM, IN A SANDBOX (cutbox-rows.mjs): the forced cells as the released guide's own fill.sh prints them over the translation dfea2d4df5a6f8d2… (all of the seat's roots in one cut). By AI agents, Wed Nov 11 2026. No macro, syntax, notation, axiom, sorry.
-/
import Derived.Test.YtglkhgkiljfooagChecked
import GoSem.Claim
import GoSem.ClaimJoined
import GoSem.ClaimMapViews
import Derived.JoinedTies
import Derived.KernelRfl
namespace Go.Proofs.Ytglkhgkiljfooag
/- THE CELL 'sum', in the pinned program and in every row, IS THE sha256 OF THE DUMP (.gsa) THAT YtglkhgkiljfooagProg.lean LOADS. Nothing in Lean hashes anything: it is a label: what it is worth is what the hold of that sum in a sandbox is worth. -/
noncomputable def Try.pinned : Pinned := { name := "ytglkhgkiljfooag", sum := "dfea2d4df5a6f8d298aec3e28e48868c4555091cff9e4171f0b12bbce0192986", checked := Try.checked }
namespace Rows
def none {H : Type} : Left H := { results := [], args := [] }

/-- 'laws.FnExactReadObject': WHATEVER THE INPUT: true; the input reads as it did. -/
def fnExactReadObjectSpec : ChangeSpec := { name := "fnExactReadObject", fn := fun _ => fun
  | [d] => { results := [.lit (.bool true)], args := [d] }
  | _ => none }
def fnExactReadObjectRow : OpenClaim := { program := "ytglkhgkiljfooag", sum := "dfea2d4df5a6f8d298aec3e28e48868c4555091cff9e4171f0b12bbce0192986", func := "loop.example/g00297/laws.FnExactReadObject", spec := "fnExactReadObject", inPlace := ["internal/bytealg.IndexByteString", "internal/bytealg.IndexString"], unfollowed := true, recurses := true, named := ["internal/bytealg.MaxLen"], plainKeys := false, apart := false }
def FnExactReadObjectSaid : Prop := fnExactReadObjectRow.holds Try.pinned (OpenSpec.ofChange fnExactReadObjectSpec)

/-- ITS FALSE NEIGHBOUR: 'it returns false'. Refute it at one input. -/
def fnExactReadObjectWrong : ChangeSpec := { name := "fnExactReadObject", fn := fun _ => fun
  | [d] => { results := [.lit (.bool false)], args := [d] }
  | _ => none }
def FnExactReadObjectWrongFalsely : Prop := fnExactReadObjectRow.holds Try.pinned (OpenSpec.ofChange fnExactReadObjectWrong)

/-- 'laws.FnExactTupleText': WHATEVER THE INPUT: true; the input reads as it did. -/
def fnExactTupleTextSpec : ChangeSpec := { name := "fnExactTupleText", fn := fun _ => fun
  | [d] => { results := [.lit (.bool true)], args := [d] }
  | _ => none }
def fnExactTupleTextRow : OpenClaim := { program := "ytglkhgkiljfooag", sum := "dfea2d4df5a6f8d298aec3e28e48868c4555091cff9e4171f0b12bbce0192986", func := "loop.example/g00297/laws.FnExactTupleText", spec := "fnExactTupleText", unfollowed := true, recurses := true, plainKeys := false, apart := false }
def FnExactTupleTextSaid : Prop := fnExactTupleTextRow.holds Try.pinned (OpenSpec.ofChange fnExactTupleTextSpec)

/-- ITS FALSE NEIGHBOUR: 'it returns false'. Refute it at one input. -/
def fnExactTupleTextWrong : ChangeSpec := { name := "fnExactTupleText", fn := fun _ => fun
  | [d] => { results := [.lit (.bool false)], args := [d] }
  | _ => none }
def FnExactTupleTextWrongFalsely : Prop := fnExactTupleTextRow.holds Try.pinned (OpenSpec.ofChange fnExactTupleTextWrong)

/-- 'laws.FnExactReadTuple': WHATEVER THE INPUT: true; the input reads as it did. -/
def fnExactReadTupleSpec : ChangeSpec := { name := "fnExactReadTuple", fn := fun _ => fun
  | [d] => { results := [.lit (.bool true)], args := [d] }
  | _ => none }
def fnExactReadTupleRow : OpenClaim := { program := "ytglkhgkiljfooag", sum := "dfea2d4df5a6f8d298aec3e28e48868c4555091cff9e4171f0b12bbce0192986", func := "loop.example/g00297/laws.FnExactReadTuple", spec := "fnExactReadTuple", inPlace := ["internal/bytealg.IndexByteString", "internal/bytealg.IndexString"], unfollowed := true, recurses := true, named := ["internal/bytealg.MaxLen"], plainKeys := false, apart := false }
def FnExactReadTupleSaid : Prop := fnExactReadTupleRow.holds Try.pinned (OpenSpec.ofChange fnExactReadTupleSpec)

/-- ITS FALSE NEIGHBOUR: 'it returns false'. Refute it at one input. -/
def fnExactReadTupleWrong : ChangeSpec := { name := "fnExactReadTuple", fn := fun _ => fun
  | [d] => { results := [.lit (.bool false)], args := [d] }
  | _ => none }
def FnExactReadTupleWrongFalsely : Prop := fnExactReadTupleRow.holds Try.pinned (OpenSpec.ofChange fnExactReadTupleWrong)

/-- 'laws.FnExactAhead': WHATEVER THE INPUT: true; the input reads as it did. -/
def fnExactAheadSpec : ChangeSpec := { name := "fnExactAhead", fn := fun _ => fun
  | [d1, d2] => { results := [.lit (.bool true)], args := [d1, d2] }
  | _ => none }
def fnExactAheadRow : OpenClaim := { program := "ytglkhgkiljfooag", sum := "dfea2d4df5a6f8d298aec3e28e48868c4555091cff9e4171f0b12bbce0192986", func := "loop.example/g00297/laws.FnExactAhead", spec := "fnExactAhead", inPlace := ["internal/bytealg.abigen_runtime_cmpstring"], unfollowed := true, recurses := true, plainKeys := false, apart := false }
def FnExactAheadSaid : Prop := fnExactAheadRow.holds Try.pinned (OpenSpec.ofChange fnExactAheadSpec)

/-- ITS FALSE NEIGHBOUR: 'it returns false'. Refute it at one input. -/
def fnExactAheadWrong : ChangeSpec := { name := "fnExactAhead", fn := fun _ => fun
  | [d1, d2] => { results := [.lit (.bool false)], args := [d1, d2] }
  | _ => none }
def FnExactAheadWrongFalsely : Prop := fnExactAheadRow.holds Try.pinned (OpenSpec.ofChange fnExactAheadWrong)

/-- 'laws.FnExactTuplesOk': WHATEVER THE INPUT: true; the input reads as it did. -/
def fnExactTuplesOkSpec : ChangeSpec := { name := "fnExactTuplesOk", fn := fun _ => fun
  | [d] => { results := [.lit (.bool true)], args := [d] }
  | _ => none }
def fnExactTuplesOkRow : OpenClaim := { program := "ytglkhgkiljfooag", sum := "dfea2d4df5a6f8d298aec3e28e48868c4555091cff9e4171f0b12bbce0192986", func := "loop.example/g00297/laws.FnExactTuplesOk", spec := "fnExactTuplesOk", inPlace := ["internal/bytealg.abigen_runtime_cmpstring"], unfollowed := true, recurses := true, plainKeys := false, apart := false }
def FnExactTuplesOkSaid : Prop := fnExactTuplesOkRow.holds Try.pinned (OpenSpec.ofChange fnExactTuplesOkSpec)

/-- ITS FALSE NEIGHBOUR: 'it returns false'. Refute it at one input. -/
def fnExactTuplesOkWrong : ChangeSpec := { name := "fnExactTuplesOk", fn := fun _ => fun
  | [d] => { results := [.lit (.bool false)], args := [d] }
  | _ => none }
def FnExactTuplesOkWrongFalsely : Prop := fnExactTuplesOkRow.holds Try.pinned (OpenSpec.ofChange fnExactTuplesOkWrong)

/-- 'laws.FnExactAdded': WHATEVER THE INPUT: true; the input reads as it did. -/
def fnExactAddedSpec : ChangeSpec := { name := "fnExactAdded", fn := fun _ => fun
  | [d1, d2] => { results := [.lit (.bool true)], args := [d1, d2] }
  | _ => none }
def fnExactAddedRow : OpenClaim := { program := "ytglkhgkiljfooag", sum := "dfea2d4df5a6f8d298aec3e28e48868c4555091cff9e4171f0b12bbce0192986", func := "loop.example/g00297/laws.FnExactAdded", spec := "fnExactAdded", inPlace := ["internal/bytealg.abigen_runtime_cmpstring"], unfollowed := true, recurses := true, plainKeys := false, apart := false }
def FnExactAddedSaid : Prop := fnExactAddedRow.holds Try.pinned (OpenSpec.ofChange fnExactAddedSpec)

/-- ITS FALSE NEIGHBOUR: 'it returns false'. Refute it at one input. -/
def fnExactAddedWrong : ChangeSpec := { name := "fnExactAdded", fn := fun _ => fun
  | [d1, d2] => { results := [.lit (.bool false)], args := [d1, d2] }
  | _ => none }
def FnExactAddedWrongFalsely : Prop := fnExactAddedRow.holds Try.pinned (OpenSpec.ofChange fnExactAddedWrong)

/- THE SECOND FORM. 'bulk': how many values and letters a reading holds, each counted each time it is reached (what is shared counts as often as it is met; a slice's spare places count too). A statement '..UptoSaid' is the law's where the arguments, and the package variables that the reading takes, are together of bulk at most 1048576: NARROWER than '..Said'. Prove '..Said' where nothing that the law and all that it calls make is longer than what came in: it says more and counts as full. Else prove '..UptoSaid'. A law counts once. -/
mutual
def uptoBulk {H : Type} : DataW H → Nat
  | .lit (.string bytes) => bytes.length + 1
  | .lit _ => 1
  | .nil => 1
  | .ptr d => uptoBulk d + 1
  | .slice elems spare => uptoBulkAll elems + uptoBulkAll spare + 1
  | .agg parts => uptoBulkAll parts + 1
  | .iface _ d => uptoBulk d + 1
  | .map entries => uptoBulkEntries entries + 1
  | .held _ => 1
def uptoBulkAll {H : Type} : List (DataW H) → Nat
  | [] => 0
  | d :: r => uptoBulk d + uptoBulkAll r
def uptoBulkEntries {H : Type} : List (Lit × DataW H) → Nat
  | [] => 0
  | x :: r => uptoBulkEntry x + uptoBulkEntries r
def uptoBulkEntry {H : Type} : Lit × DataW H → Nat
  | (.string bytes, d) => bytes.length + uptoBulk d + 1
  | (_, d) => uptoBulk d + 1
 end
def uptoSmall : (H : Type) → List (DataW H) → Bool := fun _ ds => decide (uptoBulkAll ds ≤ 1048576)
def OpenSpec.upto (s : _root_.Go.ChangeSpec) : _root_.Go.OpenSpec := { _root_.Go.OpenSpec.ofChange s with cond := some uptoSmall }

/-- 'laws.FnExactReadObject', WHERE WHAT IT READS IS OF BULK AT MOST 1048576: true; the input reads as it did. -/
def fnExactReadObjectUptoRow : OpenClaim := { program := "ytglkhgkiljfooag", sum := "dfea2d4df5a6f8d298aec3e28e48868c4555091cff9e4171f0b12bbce0192986", func := "loop.example/g00297/laws.FnExactReadObject", spec := "fnExactReadObject", inPlace := ["internal/bytealg.IndexByteString", "internal/bytealg.IndexString"], unfollowed := true, recurses := true, named := ["internal/bytealg.MaxLen"], plainKeys := false, apart := false, narrowed := true }
def FnExactReadObjectUptoSaid : Prop := fnExactReadObjectUptoRow.holds Try.pinned (OpenSpec.upto fnExactReadObjectSpec)

/-- 'laws.FnExactTupleText', WHERE WHAT IT READS IS OF BULK AT MOST 1048576: true; the input reads as it did. -/
def fnExactTupleTextUptoRow : OpenClaim := { program := "ytglkhgkiljfooag", sum := "dfea2d4df5a6f8d298aec3e28e48868c4555091cff9e4171f0b12bbce0192986", func := "loop.example/g00297/laws.FnExactTupleText", spec := "fnExactTupleText", unfollowed := true, recurses := true, plainKeys := false, apart := false, narrowed := true }
def FnExactTupleTextUptoSaid : Prop := fnExactTupleTextUptoRow.holds Try.pinned (OpenSpec.upto fnExactTupleTextSpec)

/-- 'laws.FnExactReadTuple', WHERE WHAT IT READS IS OF BULK AT MOST 1048576: true; the input reads as it did. -/
def fnExactReadTupleUptoRow : OpenClaim := { program := "ytglkhgkiljfooag", sum := "dfea2d4df5a6f8d298aec3e28e48868c4555091cff9e4171f0b12bbce0192986", func := "loop.example/g00297/laws.FnExactReadTuple", spec := "fnExactReadTuple", inPlace := ["internal/bytealg.IndexByteString", "internal/bytealg.IndexString"], unfollowed := true, recurses := true, named := ["internal/bytealg.MaxLen"], plainKeys := false, apart := false, narrowed := true }
def FnExactReadTupleUptoSaid : Prop := fnExactReadTupleUptoRow.holds Try.pinned (OpenSpec.upto fnExactReadTupleSpec)

/-- 'laws.FnExactAhead', WHERE WHAT IT READS IS OF BULK AT MOST 1048576: true; the input reads as it did. -/
def fnExactAheadUptoRow : OpenClaim := { program := "ytglkhgkiljfooag", sum := "dfea2d4df5a6f8d298aec3e28e48868c4555091cff9e4171f0b12bbce0192986", func := "loop.example/g00297/laws.FnExactAhead", spec := "fnExactAhead", inPlace := ["internal/bytealg.abigen_runtime_cmpstring"], unfollowed := true, recurses := true, plainKeys := false, apart := false, narrowed := true }
def FnExactAheadUptoSaid : Prop := fnExactAheadUptoRow.holds Try.pinned (OpenSpec.upto fnExactAheadSpec)

/-- 'laws.FnExactTuplesOk', WHERE WHAT IT READS IS OF BULK AT MOST 1048576: true; the input reads as it did. -/
def fnExactTuplesOkUptoRow : OpenClaim := { program := "ytglkhgkiljfooag", sum := "dfea2d4df5a6f8d298aec3e28e48868c4555091cff9e4171f0b12bbce0192986", func := "loop.example/g00297/laws.FnExactTuplesOk", spec := "fnExactTuplesOk", inPlace := ["internal/bytealg.abigen_runtime_cmpstring"], unfollowed := true, recurses := true, plainKeys := false, apart := false, narrowed := true }
def FnExactTuplesOkUptoSaid : Prop := fnExactTuplesOkUptoRow.holds Try.pinned (OpenSpec.upto fnExactTuplesOkSpec)

/-- 'laws.FnExactAdded', WHERE WHAT IT READS IS OF BULK AT MOST 1048576: true; the input reads as it did. -/
def fnExactAddedUptoRow : OpenClaim := { program := "ytglkhgkiljfooag", sum := "dfea2d4df5a6f8d298aec3e28e48868c4555091cff9e4171f0b12bbce0192986", func := "loop.example/g00297/laws.FnExactAdded", spec := "fnExactAdded", inPlace := ["internal/bytealg.abigen_runtime_cmpstring"], unfollowed := true, recurses := true, plainKeys := false, apart := false, narrowed := true }
def FnExactAddedUptoSaid : Prop := fnExactAddedUptoRow.holds Try.pinned (OpenSpec.upto fnExactAddedSpec)

end Rows
end Go.Proofs.Ytglkhgkiljfooag
