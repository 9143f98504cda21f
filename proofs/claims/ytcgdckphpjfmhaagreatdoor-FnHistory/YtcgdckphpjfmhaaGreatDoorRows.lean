/-
  NARROWER THAN 'FOR EVERY INPUT', by the rows' own cells (each row's printed sentence says how): FnDelta: ifaces, laid · FnHistory: ifaces, laid · FnExactDelta: ifaces, laid.
  DERIVED. THE GIVEN ROWS OF THIS SEAT. 3 by the template 'for every input the law returns true; each argument reads behind the call as it read before'; 0 by the template 'total and deterministic' (their statements: YtcgdckphpjfmhaaGreatDoorTotals.lean).
  GIVEN WITH THE SEED: the statements are not yours to turn. If you find one false, say at which input.
  Laid BY PROGRAM, IN A SANDBOX (cutbox-rows.mjs): the forced cells as the released guide's own fill.sh prints them over the translation 6214c6b1bc46904a… (all of the seat's roots in one cut). By AI agents, Wed Nov 11 2026. No macro, syntax, notation, axiom, sorry.
-/
import Derived.Test.YtcgdckphpjfmhaaGreatDoorChecked
import GoSem.Claim
import GoSem.ClaimJoined
import GoSem.ClaimMapViews
import Derived.JoinedTies
import Derived.KernelRfl
namespace Go.Proofs.YtcgdckphpjfmhaaGreatDoor
/- THE CELL 'sum', in the pinned program and in every row, IS THE sha256 OF THE DUMP (.gsa) THAT YtcgdckphpjfmhaaGreatDoorProg.lean LOADS. Nothing in Lean hashes anything: it is a label: what it is worth is what the hold of that sum in a sandbox is worth. -/
noncomputable def Tryz.pinned : Pinned := { name := "ytcgdckphpjfmhaagreatdoor", sum := "6214c6b1bc46904a1a40b0a08b3fff984a10056ec2084250cb9815bc7f11188b", checked := Tryz.checked }
namespace Rows
def none {H : Type} : Left H := { results := [], args := [] }

/- WHAT THE LISTED PACKAGE-LEVEL VARIABLES READ AS WHEN THE CALL BEGINS. Each datum BY PROGRAM (the guide's laid-datum.mjs) off the statement by which the dump's own 'gosem.cut.vars' lays the variable. In a bare row this is a premise. The card (YtcgdckphpjfmhaaGreatDoorCards.lean) ties it to the program's text. -/
def laid_errors_errorType {H : Type} : DataW H := .iface "internal/reflectlite.rtype" (.agg [.ptr (.lit (.string [101, 114, 114, 111, 114]))])
def laid_loop_example_g00297_impl_errWrong {H : Type} : DataW H := .iface "*errors.errorString" (.ptr (.agg [.lit (.string [116, 104, 101, 115, 101, 32, 97, 114, 101, 32, 110, 111, 116, 32, 114, 105, 103, 104, 116, 32, 100, 97, 116, 97])]))
def laid_loop_example_g00297_impl_errForm {H : Type} : DataW H := .iface "*errors.errorString" (.ptr (.agg [.lit (.string [116, 104, 105, 115, 32, 105, 115, 32, 110, 111, 32, 99, 104, 97, 110, 103, 101])]))
def laid_loop_example_g00297_impl_errFits {H : Type} : DataW H := .iface "*errors.errorString" (.ptr (.agg [.lit (.string [116, 104, 101, 32, 116, 117, 112, 108, 101, 32, 100, 111, 101, 115, 32, 110, 111, 116, 32, 102, 105, 116])]))
def laid_loop_example_g00297_impl_errThere {H : Type} : DataW H := .iface "*errors.errorString" (.ptr (.agg [.lit (.string [116, 104, 101, 32, 116, 117, 112, 108, 101, 32, 105, 115, 32, 116, 104, 101, 114, 101])]))
def laid_loop_example_g00297_impl_errNone {H : Type} : DataW H := .iface "*errors.errorString" (.ptr (.agg [.lit (.string [116, 104, 101, 32, 116, 117, 112, 108, 101, 32, 105, 115, 32, 110, 111, 116, 32, 116, 104, 101, 114, 101])]))
def laid_loop_example_g00297_impl_errFull {H : Type} : DataW H := .iface "*errors.errorString" (.ptr (.agg [.lit (.string [116, 104, 101, 114, 101, 32, 97, 114, 101, 32, 97, 115, 32, 109, 97, 110, 121, 32, 116, 117, 112, 108, 101, 115, 32, 97, 115, 32, 116, 104, 101, 114, 101, 32, 109, 97, 121, 32, 98, 101])]))

/-- 'laws.FnDelta': WHATEVER THE INPUT: true; the input reads as it did. -/
def fnDeltaSpec : ChangeSpec := { name := "fnDelta", vars := ["loop.example/g00297/impl.errWrong", "loop.example/g00297/impl.errForm", "loop.example/g00297/impl.errNone", "loop.example/g00297/impl.errFits", "loop.example/g00297/impl.errThere", "loop.example/g00297/impl.errFull"], fn := fun _ => fun
  | [d, g1, g2, g3, g4, g5, g6] => { results := [.lit (.bool true)], args := [d], vars := [g1, g2, g3, g4, g5, g6] }
  | _ => none }
def fnDeltaRow : OpenClaim := { program := "ytcgdckphpjfmhaagreatdoor", sum := "6214c6b1bc46904a1a40b0a08b3fff984a10056ec2084250cb9815bc7f11188b", func := "loop.example/g00297/laws.FnDelta", spec := "fnDelta", inPlace := ["internal/bytealg.abigen_runtime_cmpstring", "internal/reflectlite.ValueOf", "(internal/reflectlite.Value).Type", "(internal/reflectlite.Value).IsNil", "internal/reflectlite.TypeOf", "(internal/reflectlite.Value).Elem", "(internal/reflectlite.Value).Set"], unfollowed := true, recurses := true, named := ["loop.example/g00297/impl.errWrong", "loop.example/g00297/impl.errForm", "loop.example/g00297/impl.errNone", "loop.example/g00297/impl.errFits", "loop.example/g00297/impl.errThere", "loop.example/g00297/impl.errFull", "errors.errorType"], ifaces := true, plainKeys := false, apart := false, laid := [("errors.errorType", laid_errors_errorType), ("loop.example/g00297/impl.errWrong", laid_loop_example_g00297_impl_errWrong), ("loop.example/g00297/impl.errForm", laid_loop_example_g00297_impl_errForm), ("loop.example/g00297/impl.errFits", laid_loop_example_g00297_impl_errFits), ("loop.example/g00297/impl.errThere", laid_loop_example_g00297_impl_errThere), ("loop.example/g00297/impl.errNone", laid_loop_example_g00297_impl_errNone), ("loop.example/g00297/impl.errFull", laid_loop_example_g00297_impl_errFull)] }
def FnDeltaSaid : Prop := fnDeltaRow.holds Tryz.pinned (OpenSpec.ofChange fnDeltaSpec)

/-- ITS FALSE NEIGHBOUR: 'it returns false'. Refute it at one input. -/
def fnDeltaWrong : ChangeSpec := { name := "fnDelta", vars := ["loop.example/g00297/impl.errWrong", "loop.example/g00297/impl.errForm", "loop.example/g00297/impl.errNone", "loop.example/g00297/impl.errFits", "loop.example/g00297/impl.errThere", "loop.example/g00297/impl.errFull"], fn := fun _ => fun
  | [d, g1, g2, g3, g4, g5, g6] => { results := [.lit (.bool false)], args := [d], vars := [g1, g2, g3, g4, g5, g6] }
  | _ => none }
def FnDeltaWrongFalsely : Prop := fnDeltaRow.holds Tryz.pinned (OpenSpec.ofChange fnDeltaWrong)

/-- 'laws.FnHistory': WHATEVER THE INPUT: true; the input reads as it did. -/
def fnHistorySpec : ChangeSpec := { name := "fnHistory", vars := ["loop.example/g00297/impl.errForm", "loop.example/g00297/impl.errNone", "loop.example/g00297/impl.errFits", "loop.example/g00297/impl.errThere", "loop.example/g00297/impl.errFull", "loop.example/g00297/impl.errWrong"], fn := fun _ => fun
  | [d, g1, g2, g3, g4, g5, g6] => { results := [.lit (.bool true)], args := [d], vars := [g1, g2, g3, g4, g5, g6] }
  | _ => none }
def fnHistoryRow : OpenClaim := { program := "ytcgdckphpjfmhaagreatdoor", sum := "6214c6b1bc46904a1a40b0a08b3fff984a10056ec2084250cb9815bc7f11188b", func := "loop.example/g00297/laws.FnHistory", spec := "fnHistory", inPlace := ["internal/bytealg.abigen_runtime_cmpstring", "internal/reflectlite.ValueOf", "(internal/reflectlite.Value).Type", "(internal/reflectlite.Value).IsNil", "internal/reflectlite.TypeOf", "(internal/reflectlite.Value).Elem", "(internal/reflectlite.Value).Set"], unfollowed := true, recurses := true, named := ["loop.example/g00297/impl.errForm", "loop.example/g00297/impl.errNone", "loop.example/g00297/impl.errFits", "loop.example/g00297/impl.errThere", "loop.example/g00297/impl.errFull", "loop.example/g00297/impl.errWrong", "errors.errorType"], ifaces := true, plainKeys := false, apart := false, laid := [("errors.errorType", laid_errors_errorType), ("loop.example/g00297/impl.errWrong", laid_loop_example_g00297_impl_errWrong), ("loop.example/g00297/impl.errForm", laid_loop_example_g00297_impl_errForm), ("loop.example/g00297/impl.errFits", laid_loop_example_g00297_impl_errFits), ("loop.example/g00297/impl.errThere", laid_loop_example_g00297_impl_errThere), ("loop.example/g00297/impl.errNone", laid_loop_example_g00297_impl_errNone), ("loop.example/g00297/impl.errFull", laid_loop_example_g00297_impl_errFull)] }
def FnHistorySaid : Prop := fnHistoryRow.holds Tryz.pinned (OpenSpec.ofChange fnHistorySpec)

/-- ITS FALSE NEIGHBOUR: 'it returns false'. Refute it at one input. -/
def fnHistoryWrong : ChangeSpec := { name := "fnHistory", vars := ["loop.example/g00297/impl.errForm", "loop.example/g00297/impl.errNone", "loop.example/g00297/impl.errFits", "loop.example/g00297/impl.errThere", "loop.example/g00297/impl.errFull", "loop.example/g00297/impl.errWrong"], fn := fun _ => fun
  | [d, g1, g2, g3, g4, g5, g6] => { results := [.lit (.bool false)], args := [d], vars := [g1, g2, g3, g4, g5, g6] }
  | _ => none }
def FnHistoryWrongFalsely : Prop := fnHistoryRow.holds Tryz.pinned (OpenSpec.ofChange fnHistoryWrong)

/-- 'laws.FnExactDelta': WHATEVER THE INPUT: true; the input reads as it did. -/
def fnExactDeltaSpec : ChangeSpec := { name := "fnExactDelta", vars := ["loop.example/g00297/impl.errWrong", "loop.example/g00297/impl.errForm", "loop.example/g00297/impl.errNone", "loop.example/g00297/impl.errFits", "loop.example/g00297/impl.errThere", "loop.example/g00297/impl.errFull"], fn := fun _ => fun
  | [d1, d2, d3, g1, g2, g3, g4, g5, g6] => { results := [.lit (.bool true)], args := [d1, d2, d3], vars := [g1, g2, g3, g4, g5, g6] }
  | _ => none }
def fnExactDeltaRow : OpenClaim := { program := "ytcgdckphpjfmhaagreatdoor", sum := "6214c6b1bc46904a1a40b0a08b3fff984a10056ec2084250cb9815bc7f11188b", func := "loop.example/g00297/laws.FnExactDelta", spec := "fnExactDelta", inPlace := ["internal/bytealg.abigen_runtime_cmpstring", "internal/reflectlite.ValueOf", "(internal/reflectlite.Value).Type", "(internal/reflectlite.Value).IsNil", "internal/reflectlite.TypeOf", "(internal/reflectlite.Value).Elem", "(internal/reflectlite.Value).Set"], unfollowed := true, recurses := true, named := ["loop.example/g00297/impl.errWrong", "loop.example/g00297/impl.errForm", "loop.example/g00297/impl.errNone", "loop.example/g00297/impl.errFits", "loop.example/g00297/impl.errThere", "loop.example/g00297/impl.errFull", "errors.errorType"], ifaces := true, plainKeys := false, apart := false, laid := [("errors.errorType", laid_errors_errorType), ("loop.example/g00297/impl.errWrong", laid_loop_example_g00297_impl_errWrong), ("loop.example/g00297/impl.errForm", laid_loop_example_g00297_impl_errForm), ("loop.example/g00297/impl.errFits", laid_loop_example_g00297_impl_errFits), ("loop.example/g00297/impl.errThere", laid_loop_example_g00297_impl_errThere), ("loop.example/g00297/impl.errNone", laid_loop_example_g00297_impl_errNone), ("loop.example/g00297/impl.errFull", laid_loop_example_g00297_impl_errFull)] }
def FnExactDeltaSaid : Prop := fnExactDeltaRow.holds Tryz.pinned (OpenSpec.ofChange fnExactDeltaSpec)

/-- ITS FALSE NEIGHBOUR: 'it returns false'. Refute it at one input. -/
def fnExactDeltaWrong : ChangeSpec := { name := "fnExactDelta", vars := ["loop.example/g00297/impl.errWrong", "loop.example/g00297/impl.errForm", "loop.example/g00297/impl.errNone", "loop.example/g00297/impl.errFits", "loop.example/g00297/impl.errThere", "loop.example/g00297/impl.errFull"], fn := fun _ => fun
  | [d1, d2, d3, g1, g2, g3, g4, g5, g6] => { results := [.lit (.bool false)], args := [d1, d2, d3], vars := [g1, g2, g3, g4, g5, g6] }
  | _ => none }
def FnExactDeltaWrongFalsely : Prop := fnExactDeltaRow.holds Tryz.pinned (OpenSpec.ofChange fnExactDeltaWrong)

/- THE SECOND FORM. 'bulk': how many values and letters a reading holds, each counted each time it is reached (what is shared counts as often as it is met; a slice's spare places count too). A statement '..UptoSaid' is the law's where the arguments, and the package variables that the reading takes, are together of bulk at most 1048576: NARROWER than '..Said'. Prove '..Said' where nothing that the law and all that it calls make is longer than what came in: it says more and counts as full. Else prove '..UptoSaid'. A law counts once. -/
mutual
def uptoBulk {H : Type} : DataW H → Nat
  | .lit (.string bytes) => bytes.length + 1
  | .lit _ => 1
  | .nil => 1
  | .ptr d => uptoBulk d + 1
  | .slice elems spare => uptoBulkAll elems + uptoBulkAll spare + 1
  | .agg parts => uptoBulkAll parts + 1
  | .iface _ d => uptoBulk d + 1
  | .map entries => uptoBulkEntries entries + 1
  | .held _ => 1
def uptoBulkAll {H : Type} : List (DataW H) → Nat
  | [] => 0
  | d :: r => uptoBulk d + uptoBulkAll r
def uptoBulkEntries {H : Type} : List (Lit × DataW H) → Nat
  | [] => 0
  | x :: r => uptoBulkEntry x + uptoBulkEntries r
def uptoBulkEntry {H : Type} : Lit × DataW H → Nat
  | (.string bytes, d) => bytes.length + uptoBulk d + 1
  | (_, d) => uptoBulk d + 1
 end
def uptoSmall : (H : Type) → List (DataW H) → Bool := fun _ ds => decide (uptoBulkAll ds ≤ 1048576)
def OpenSpec.upto (s : _root_.Go.ChangeSpec) : _root_.Go.OpenSpec := { _root_.Go.OpenSpec.ofChange s with cond := some uptoSmall }

/-- 'laws.FnDelta', WHERE WHAT IT READS IS OF BULK AT MOST 1048576: true; the input reads as it did. -/
def fnDeltaUptoRow : OpenClaim := { program := "ytcgdckphpjfmhaagreatdoor", sum := "6214c6b1bc46904a1a40b0a08b3fff984a10056ec2084250cb9815bc7f11188b", func := "loop.example/g00297/laws.FnDelta", spec := "fnDelta", inPlace := ["internal/bytealg.abigen_runtime_cmpstring", "internal/reflectlite.ValueOf", "(internal/reflectlite.Value).Type", "(internal/reflectlite.Value).IsNil", "internal/reflectlite.TypeOf", "(internal/reflectlite.Value).Elem", "(internal/reflectlite.Value).Set"], unfollowed := true, recurses := true, named := ["loop.example/g00297/impl.errWrong", "loop.example/g00297/impl.errForm", "loop.example/g00297/impl.errNone", "loop.example/g00297/impl.errFits", "loop.example/g00297/impl.errThere", "loop.example/g00297/impl.errFull", "errors.errorType"], ifaces := true, plainKeys := false, apart := false, laid := [("errors.errorType", laid_errors_errorType), ("loop.example/g00297/impl.errWrong", laid_loop_example_g00297_impl_errWrong), ("loop.example/g00297/impl.errForm", laid_loop_example_g00297_impl_errForm), ("loop.example/g00297/impl.errFits", laid_loop_example_g00297_impl_errFits), ("loop.example/g00297/impl.errThere", laid_loop_example_g00297_impl_errThere), ("loop.example/g00297/impl.errNone", laid_loop_example_g00297_impl_errNone), ("loop.example/g00297/impl.errFull", laid_loop_example_g00297_impl_errFull)], narrowed := true }
def FnDeltaUptoSaid : Prop := fnDeltaUptoRow.holds Tryz.pinned (OpenSpec.upto fnDeltaSpec)

/-- 'laws.FnHistory', WHERE WHAT IT READS IS OF BULK AT MOST 1048576: true; the input reads as it did. -/
def fnHistoryUptoRow : OpenClaim := { program := "ytcgdckphpjfmhaagreatdoor", sum := "6214c6b1bc46904a1a40b0a08b3fff984a10056ec2084250cb9815bc7f11188b", func := "loop.example/g00297/laws.FnHistory", spec := "fnHistory", inPlace := ["internal/bytealg.abigen_runtime_cmpstring", "internal/reflectlite.ValueOf", "(internal/reflectlite.Value).Type", "(internal/reflectlite.Value).IsNil", "internal/reflectlite.TypeOf", "(internal/reflectlite.Value).Elem", "(internal/reflectlite.Value).Set"], unfollowed := true, recurses := true, named := ["loop.example/g00297/impl.errForm", "loop.example/g00297/impl.errNone", "loop.example/g00297/impl.errFits", "loop.example/g00297/impl.errThere", "loop.example/g00297/impl.errFull", "loop.example/g00297/impl.errWrong", "errors.errorType"], ifaces := true, plainKeys := false, apart := false, laid := [("errors.errorType", laid_errors_errorType), ("loop.example/g00297/impl.errWrong", laid_loop_example_g00297_impl_errWrong), ("loop.example/g00297/impl.errForm", laid_loop_example_g00297_impl_errForm), ("loop.example/g00297/impl.errFits", laid_loop_example_g00297_impl_errFits), ("loop.example/g00297/impl.errThere", laid_loop_example_g00297_impl_errThere), ("loop.example/g00297/impl.errNone", laid_loop_example_g00297_impl_errNone), ("loop.example/g00297/impl.errFull", laid_loop_example_g00297_impl_errFull)], narrowed := true }
def FnHistoryUptoSaid : Prop := fnHistoryUptoRow.holds Tryz.pinned (OpenSpec.upto fnHistorySpec)

/-- 'laws.FnExactDelta', WHERE WHAT IT READS IS OF BULK AT MOST 1048576: true; the input reads as it did. -/
def fnExactDeltaUptoRow : OpenClaim := { program := "ytcgdckphpjfmhaagreatdoor", sum := "6214c6b1bc46904a1a40b0a08b3fff984a10056ec2084250cb9815bc7f11188b", func := "loop.example/g00297/laws.FnExactDelta", spec := "fnExactDelta", inPlace := ["internal/bytealg.abigen_runtime_cmpstring", "internal/reflectlite.ValueOf", "(internal/reflectlite.Value).Type", "(internal/reflectlite.Value).IsNil", "internal/reflectlite.TypeOf", "(internal/reflectlite.Value).Elem", "(internal/reflectlite.Value).Set"], unfollowed := true, recurses := true, named := ["loop.example/g00297/impl.errWrong", "loop.example/g00297/impl.errForm", "loop.example/g00297/impl.errNone", "loop.example/g00297/impl.errFits", "loop.example/g00297/impl.errThere", "loop.example/g00297/impl.errFull", "errors.errorType"], ifaces := true, plainKeys := false, apart := false, laid := [("errors.errorType", laid_errors_errorType), ("loop.example/g00297/impl.errWrong", laid_loop_example_g00297_impl_errWrong), ("loop.example/g00297/impl.errForm", laid_loop_example_g00297_impl_errForm), ("loop.example/g00297/impl.errFits", laid_loop_example_g00297_impl_errFits), ("loop.example/g00297/impl.errThere", laid_loop_example_g00297_impl_errThere), ("loop.example/g00297/impl.errNone", laid_loop_example_g00297_impl_errNone), ("loop.example/g00297/impl.errFull", laid_loop_example_g00297_impl_errFull)], narrowed := true }
def FnExactDeltaUptoSaid : Prop := fnExactDeltaUptoRow.holds Tryz.pinned (OpenSpec.upto fnExactDeltaSpec)

end Rows
end Go.Proofs.YtcgdckphpjfmhaaGreatDoor
