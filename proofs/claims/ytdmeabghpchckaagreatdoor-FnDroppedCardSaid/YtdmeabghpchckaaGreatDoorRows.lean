/-
  NARROWER THAN 'FOR EVERY INPUT', by the rows' own cells (each row's printed sentence says how): FnFlush: ifaces, laid · FnDropped: ifaces, laid.
  DERIVED. THE GIVEN ROWS OF THIS SEAT. 2 by the template 'for every input the law returns true; each argument reads behind the call as it read before'; 0 by the template 'total and deterministic' (their statements: YtdmeabghpchckaaGreatDoorTotals.lean).
  GIVEN WITH THE SEED: the statements are not yours to turn. If you find one false, say at which input.
  Laid BY PROGRAM, IN A SANDBOX (cutbox-rows.mjs): the forced cells as the released guide's own fill.sh prints them over the translation 99a6549776af1b1f… (all of the seat's roots in one cut). By AI agents, Wed Nov 11 2026. No macro, syntax, notation, axiom, sorry.
-/
import Derived.Test.YtdmeabghpchckaaGreatDoorChecked
import GoSem.Claim
import GoSem.ClaimJoined
import GoSem.ClaimMapViews
import Derived.JoinedTies
import Derived.KernelRfl
namespace Go.Proofs.YtdmeabghpchckaaGreatDoor
/- THE CELL 'sum', in the pinned program and in every row, IS THE sha256 OF THE DUMP (.gsa) THAT YtdmeabghpchckaaGreatDoorProg.lean LOADS. Nothing in Lean hashes anything: it is a label: what it is worth is what the hold of that sum in a sandbox is worth. -/
noncomputable def Tryz.pinned : Pinned := { name := "ytdmeabghpchckaagreatdoor", sum := "99a6549776af1b1f0eae6e9e781c7e9d4b49be20d81e7f0c7821e03dbfdbb355", checked := Tryz.checked }
namespace Rows
def none {H : Type} : Left H := { results := [], args := [] }

/- WHAT THE LISTED PACKAGE-LEVEL VARIABLES READ AS WHEN THE CALL BEGINS. Each datum BY PROGRAM (the guide's laid-datum.mjs) off the statement by which the dump's own 'gosem.cut.vars' lays the variable. In a bare row this is a premise. The card (YtdmeabghpchckaaGreatDoorCards.lean) ties it to the program's text. -/
def laid_errors_errorType {H : Type} : DataW H := .iface "internal/reflectlite.rtype" (.agg [.ptr (.lit (.string [101, 114, 114, 111, 114]))])
def laid_loop_example_g00336_impl_errPool {H : Type} : DataW H := .iface "*errors.errorString" (.ptr (.agg [.lit (.string [116, 104, 101, 32, 112, 111, 111, 108, 32, 105, 115, 32, 110, 111, 116, 32, 114, 105, 103, 104, 116])]))
def laid_loop_example_g00336_impl_errOp {H : Type} : DataW H := .iface "*errors.errorString" (.ptr (.agg [.lit (.string [116, 104, 101, 32, 111, 112, 32, 105, 115, 32, 110, 111, 116, 32, 114, 105, 103, 104, 116])]))
def laid_loop_example_g00336_impl_errVolume {H : Type} : DataW H := .iface "*errors.errorString" (.ptr (.agg [.lit (.string [116, 104, 101, 114, 101, 32, 105, 115, 32, 110, 111, 32, 115, 117, 99, 104, 32, 118, 111, 108, 117, 109, 101])]))
def laid_loop_example_g00336_impl_errFile {H : Type} : DataW H := .iface "*errors.errorString" (.ptr (.agg [.lit (.string [116, 104, 101, 114, 101, 32, 105, 115, 32, 110, 111, 32, 115, 117, 99, 104, 32, 102, 105, 108, 101])]))
def laid_loop_example_g00336_impl_errBytes {H : Type} : DataW H := .iface "*errors.errorString" (.ptr (.agg [.lit (.string [116, 104, 101, 32, 102, 105, 108, 101, 32, 104, 97, 115, 32, 102, 101, 119, 101, 114, 32, 98, 121, 116, 101, 115])]))
def laid_loop_example_g00336_impl_errThere {H : Type} : DataW H := .iface "*errors.errorString" (.ptr (.agg [.lit (.string [116, 104, 101, 114, 101, 32, 105, 115, 32, 115, 117, 99, 104, 32, 97, 32, 118, 111, 108, 117, 109, 101])]))
def laid_loop_example_g00336_impl_errFixed {H : Type} : DataW H := .iface "*errors.errorString" (.ptr (.agg [.lit (.string [116, 104, 101, 32, 118, 111, 108, 117, 109, 101, 32, 105, 115, 32, 102, 105, 120, 101, 100])]))
def laid_loop_example_g00336_impl_errRoom {H : Type} : DataW H := .iface "*errors.errorString" (.ptr (.agg [.lit (.string [116, 104, 101, 114, 101, 32, 105, 115, 32, 110, 111, 32, 114, 111, 111, 109, 32, 102, 111, 114, 32, 116, 104, 101, 32, 100, 97, 116, 97])]))
def laid_loop_example_g00336_impl_errParts {H : Type} : DataW H := .iface "*errors.errorString" (.ptr (.agg [.lit (.string [116, 104, 101, 32, 102, 105, 108, 101, 32, 119, 111, 117, 108, 100, 32, 104, 97, 118, 101, 32, 116, 111, 111, 32, 109, 97, 110, 121, 32, 112, 97, 114, 116, 115, 32, 111, 114, 32, 98, 121, 116, 101, 115])]))
def laid_loop_example_g00336_impl_errAfter {H : Type} : DataW H := .iface "*errors.errorString" (.ptr (.agg [.lit (.string [116, 104, 101, 32, 112, 111, 111, 108, 32, 119, 111, 117, 108, 100, 32, 110, 111, 116, 32, 98, 101, 32, 114, 105, 103, 104, 116])]))

/-- 'laws.FnFlush': WHATEVER THE INPUT: true; the input reads as it did. -/
def fnFlushSpec : ChangeSpec := { name := "fnFlush", vars := ["loop.example/g00336/impl.errPool", "loop.example/g00336/impl.errOp", "loop.example/g00336/impl.errAfter", "loop.example/g00336/impl.errVolume", "loop.example/g00336/impl.errFixed", "loop.example/g00336/impl.errThere", "loop.example/g00336/impl.errRoom", "loop.example/g00336/impl.errParts", "loop.example/g00336/impl.errFile", "loop.example/g00336/impl.errBytes"], fn := fun _ => fun
  | [d, g1, g2, g3, g4, g5, g6, g7, g8, g9, g10] => { results := [.lit (.bool true)], args := [d], vars := [g1, g2, g3, g4, g5, g6, g7, g8, g9, g10] }
  | _ => none }
def fnFlushRow : OpenClaim := { program := "ytdmeabghpchckaagreatdoor", sum := "99a6549776af1b1f0eae6e9e781c7e9d4b49be20d81e7f0c7821e03dbfdbb355", func := "loop.example/g00336/laws.FnFlush", spec := "fnFlush", inPlace := ["slices.overlaps[loop.example/g00336/impl.Item]", "internal/reflectlite.TypeOf", "internal/reflectlite.ValueOf", "(internal/reflectlite.Value).Type", "(internal/reflectlite.Value).IsNil", "(internal/reflectlite.Value).Elem", "(internal/reflectlite.Value).Set"], unfollowed := true, recurses := true, named := ["loop.example/g00336/impl.errPool", "loop.example/g00336/impl.errOp", "loop.example/g00336/impl.errAfter", "loop.example/g00336/impl.errVolume", "loop.example/g00336/impl.errFixed", "loop.example/g00336/impl.errThere", "loop.example/g00336/impl.errRoom", "loop.example/g00336/impl.errParts", "loop.example/g00336/impl.errFile", "loop.example/g00336/impl.errBytes", "errors.errorType"], ifaces := true, plainKeys := false, apart := false, laid := [("errors.errorType", laid_errors_errorType), ("loop.example/g00336/impl.errPool", laid_loop_example_g00336_impl_errPool), ("loop.example/g00336/impl.errOp", laid_loop_example_g00336_impl_errOp), ("loop.example/g00336/impl.errVolume", laid_loop_example_g00336_impl_errVolume), ("loop.example/g00336/impl.errFile", laid_loop_example_g00336_impl_errFile), ("loop.example/g00336/impl.errBytes", laid_loop_example_g00336_impl_errBytes), ("loop.example/g00336/impl.errThere", laid_loop_example_g00336_impl_errThere), ("loop.example/g00336/impl.errFixed", laid_loop_example_g00336_impl_errFixed), ("loop.example/g00336/impl.errRoom", laid_loop_example_g00336_impl_errRoom), ("loop.example/g00336/impl.errParts", laid_loop_example_g00336_impl_errParts), ("loop.example/g00336/impl.errAfter", laid_loop_example_g00336_impl_errAfter)] }
def FnFlushSaid : Prop := fnFlushRow.holds Tryz.pinned (OpenSpec.ofChange fnFlushSpec)

/-- ITS FALSE NEIGHBOUR: 'it returns false'. Refute it at one input. -/
def fnFlushWrong : ChangeSpec := { name := "fnFlush", vars := ["loop.example/g00336/impl.errPool", "loop.example/g00336/impl.errOp", "loop.example/g00336/impl.errAfter", "loop.example/g00336/impl.errVolume", "loop.example/g00336/impl.errFixed", "loop.example/g00336/impl.errThere", "loop.example/g00336/impl.errRoom", "loop.example/g00336/impl.errParts", "loop.example/g00336/impl.errFile", "loop.example/g00336/impl.errBytes"], fn := fun _ => fun
  | [d, g1, g2, g3, g4, g5, g6, g7, g8, g9, g10] => { results := [.lit (.bool false)], args := [d], vars := [g1, g2, g3, g4, g5, g6, g7, g8, g9, g10] }
  | _ => none }
def FnFlushWrongFalsely : Prop := fnFlushRow.holds Tryz.pinned (OpenSpec.ofChange fnFlushWrong)

/-- 'laws.FnDropped': WHATEVER THE INPUT: true; the input reads as it did. -/
def fnDroppedSpec : ChangeSpec := { name := "fnDropped", vars := ["loop.example/g00336/impl.errPool", "loop.example/g00336/impl.errOp", "loop.example/g00336/impl.errAfter", "loop.example/g00336/impl.errVolume", "loop.example/g00336/impl.errFixed", "loop.example/g00336/impl.errThere", "loop.example/g00336/impl.errRoom", "loop.example/g00336/impl.errParts", "loop.example/g00336/impl.errFile", "loop.example/g00336/impl.errBytes"], fn := fun _ => fun
  | [d, g1, g2, g3, g4, g5, g6, g7, g8, g9, g10] => { results := [.lit (.bool true)], args := [d], vars := [g1, g2, g3, g4, g5, g6, g7, g8, g9, g10] }
  | _ => none }
def fnDroppedRow : OpenClaim := { program := "ytdmeabghpchckaagreatdoor", sum := "99a6549776af1b1f0eae6e9e781c7e9d4b49be20d81e7f0c7821e03dbfdbb355", func := "loop.example/g00336/laws.FnDropped", spec := "fnDropped", inPlace := ["slices.overlaps[loop.example/g00336/impl.Item]", "internal/reflectlite.TypeOf", "internal/reflectlite.ValueOf", "(internal/reflectlite.Value).Type", "(internal/reflectlite.Value).IsNil", "(internal/reflectlite.Value).Elem", "(internal/reflectlite.Value).Set"], unfollowed := true, recurses := true, named := ["loop.example/g00336/impl.errPool", "loop.example/g00336/impl.errOp", "loop.example/g00336/impl.errAfter", "loop.example/g00336/impl.errVolume", "loop.example/g00336/impl.errFixed", "loop.example/g00336/impl.errThere", "loop.example/g00336/impl.errRoom", "loop.example/g00336/impl.errParts", "loop.example/g00336/impl.errFile", "loop.example/g00336/impl.errBytes", "errors.errorType"], ifaces := true, plainKeys := false, apart := false, laid := [("errors.errorType", laid_errors_errorType), ("loop.example/g00336/impl.errPool", laid_loop_example_g00336_impl_errPool), ("loop.example/g00336/impl.errOp", laid_loop_example_g00336_impl_errOp), ("loop.example/g00336/impl.errVolume", laid_loop_example_g00336_impl_errVolume), ("loop.example/g00336/impl.errFile", laid_loop_example_g00336_impl_errFile), ("loop.example/g00336/impl.errBytes", laid_loop_example_g00336_impl_errBytes), ("loop.example/g00336/impl.errThere", laid_loop_example_g00336_impl_errThere), ("loop.example/g00336/impl.errFixed", laid_loop_example_g00336_impl_errFixed), ("loop.example/g00336/impl.errRoom", laid_loop_example_g00336_impl_errRoom), ("loop.example/g00336/impl.errParts", laid_loop_example_g00336_impl_errParts), ("loop.example/g00336/impl.errAfter", laid_loop_example_g00336_impl_errAfter)] }
def FnDroppedSaid : Prop := fnDroppedRow.holds Tryz.pinned (OpenSpec.ofChange fnDroppedSpec)

/-- ITS FALSE NEIGHBOUR: 'it returns false'. Refute it at one input. -/
def fnDroppedWrong : ChangeSpec := { name := "fnDropped", vars := ["loop.example/g00336/impl.errPool", "loop.example/g00336/impl.errOp", "loop.example/g00336/impl.errAfter", "loop.example/g00336/impl.errVolume", "loop.example/g00336/impl.errFixed", "loop.example/g00336/impl.errThere", "loop.example/g00336/impl.errRoom", "loop.example/g00336/impl.errParts", "loop.example/g00336/impl.errFile", "loop.example/g00336/impl.errBytes"], fn := fun _ => fun
  | [d, g1, g2, g3, g4, g5, g6, g7, g8, g9, g10] => { results := [.lit (.bool false)], args := [d], vars := [g1, g2, g3, g4, g5, g6, g7, g8, g9, g10] }
  | _ => none }
def FnDroppedWrongFalsely : Prop := fnDroppedRow.holds Tryz.pinned (OpenSpec.ofChange fnDroppedWrong)

/- THE SECOND FORM. 'bulk': how many values and letters a reading holds, each counted each time it is reached (what is shared counts as often as it is met; a slice's spare places count too). A statement '..UptoSaid' is the law's where the arguments, and the package variables that the reading takes, are together of bulk at most 1048576: NARROWER than '..Said'. Prove '..Said' where nothing that the law and all that it calls make is longer than what came in: it says more and counts as full. Else prove '..UptoSaid'. A law counts once. -/
mutual
def uptoBulk {H : Type} : DataW H → Nat
  | .lit (.string bytes) => bytes.length + 1
  | .lit _ => 1
  | .nil => 1
  | .ptr d => uptoBulk d + 1
  | .slice elems spare => uptoBulkAll elems + uptoBulkAll spare + 1
  | .agg parts => uptoBulkAll parts + 1
  | .iface _ d => uptoBulk d + 1
  | .map entries => uptoBulkEntries entries + 1
  | .held _ => 1
def uptoBulkAll {H : Type} : List (DataW H) → Nat
  | [] => 0
  | d :: r => uptoBulk d + uptoBulkAll r
def uptoBulkEntries {H : Type} : List (Lit × DataW H) → Nat
  | [] => 0
  | x :: r => uptoBulkEntry x + uptoBulkEntries r
def uptoBulkEntry {H : Type} : Lit × DataW H → Nat
  | (.string bytes, d) => bytes.length + uptoBulk d + 1
  | (_, d) => uptoBulk d + 1
 end
def uptoSmall : (H : Type) → List (DataW H) → Bool := fun _ ds => decide (uptoBulkAll ds ≤ 1048576)
def OpenSpec.upto (s : _root_.Go.ChangeSpec) : _root_.Go.OpenSpec := { _root_.Go.OpenSpec.ofChange s with cond := some uptoSmall }

/-- 'laws.FnFlush', WHERE WHAT IT READS IS OF BULK AT MOST 1048576: true; the input reads as it did. -/
def fnFlushUptoRow : OpenClaim := { program := "ytdmeabghpchckaagreatdoor", sum := "99a6549776af1b1f0eae6e9e781c7e9d4b49be20d81e7f0c7821e03dbfdbb355", func := "loop.example/g00336/laws.FnFlush", spec := "fnFlush", inPlace := ["slices.overlaps[loop.example/g00336/impl.Item]", "internal/reflectlite.TypeOf", "internal/reflectlite.ValueOf", "(internal/reflectlite.Value).Type", "(internal/reflectlite.Value).IsNil", "(internal/reflectlite.Value).Elem", "(internal/reflectlite.Value).Set"], unfollowed := true, recurses := true, named := ["loop.example/g00336/impl.errPool", "loop.example/g00336/impl.errOp", "loop.example/g00336/impl.errAfter", "loop.example/g00336/impl.errVolume", "loop.example/g00336/impl.errFixed", "loop.example/g00336/impl.errThere", "loop.example/g00336/impl.errRoom", "loop.example/g00336/impl.errParts", "loop.example/g00336/impl.errFile", "loop.example/g00336/impl.errBytes", "errors.errorType"], ifaces := true, plainKeys := false, apart := false, laid := [("errors.errorType", laid_errors_errorType), ("loop.example/g00336/impl.errPool", laid_loop_example_g00336_impl_errPool), ("loop.example/g00336/impl.errOp", laid_loop_example_g00336_impl_errOp), ("loop.example/g00336/impl.errVolume", laid_loop_example_g00336_impl_errVolume), ("loop.example/g00336/impl.errFile", laid_loop_example_g00336_impl_errFile), ("loop.example/g00336/impl.errBytes", laid_loop_example_g00336_impl_errBytes), ("loop.example/g00336/impl.errThere", laid_loop_example_g00336_impl_errThere), ("loop.example/g00336/impl.errFixed", laid_loop_example_g00336_impl_errFixed), ("loop.example/g00336/impl.errRoom", laid_loop_example_g00336_impl_errRoom), ("loop.example/g00336/impl.errParts", laid_loop_example_g00336_impl_errParts), ("loop.example/g00336/impl.errAfter", laid_loop_example_g00336_impl_errAfter)], narrowed := true }
def FnFlushUptoSaid : Prop := fnFlushUptoRow.holds Tryz.pinned (OpenSpec.upto fnFlushSpec)

/-- 'laws.FnDropped', WHERE WHAT IT READS IS OF BULK AT MOST 1048576: true; the input reads as it did. -/
def fnDroppedUptoRow : OpenClaim := { program := "ytdmeabghpchckaagreatdoor", sum := "99a6549776af1b1f0eae6e9e781c7e9d4b49be20d81e7f0c7821e03dbfdbb355", func := "loop.example/g00336/laws.FnDropped", spec := "fnDropped", inPlace := ["slices.overlaps[loop.example/g00336/impl.Item]", "internal/reflectlite.TypeOf", "internal/reflectlite.ValueOf", "(internal/reflectlite.Value).Type", "(internal/reflectlite.Value).IsNil", "(internal/reflectlite.Value).Elem", "(internal/reflectlite.Value).Set"], unfollowed := true, recurses := true, named := ["loop.example/g00336/impl.errPool", "loop.example/g00336/impl.errOp", "loop.example/g00336/impl.errAfter", "loop.example/g00336/impl.errVolume", "loop.example/g00336/impl.errFixed", "loop.example/g00336/impl.errThere", "loop.example/g00336/impl.errRoom", "loop.example/g00336/impl.errParts", "loop.example/g00336/impl.errFile", "loop.example/g00336/impl.errBytes", "errors.errorType"], ifaces := true, plainKeys := false, apart := false, laid := [("errors.errorType", laid_errors_errorType), ("loop.example/g00336/impl.errPool", laid_loop_example_g00336_impl_errPool), ("loop.example/g00336/impl.errOp", laid_loop_example_g00336_impl_errOp), ("loop.example/g00336/impl.errVolume", laid_loop_example_g00336_impl_errVolume), ("loop.example/g00336/impl.errFile", laid_loop_example_g00336_impl_errFile), ("loop.example/g00336/impl.errBytes", laid_loop_example_g00336_impl_errBytes), ("loop.example/g00336/impl.errThere", laid_loop_example_g00336_impl_errThere), ("loop.example/g00336/impl.errFixed", laid_loop_example_g00336_impl_errFixed), ("loop.example/g00336/impl.errRoom", laid_loop_example_g00336_impl_errRoom), ("loop.example/g00336/impl.errParts", laid_loop_example_g00336_impl_errParts), ("loop.example/g00336/impl.errAfter", laid_loop_example_g00336_impl_errAfter)], narrowed := true }
def FnDroppedUptoSaid : Prop := fnDroppedUptoRow.holds Tryz.pinned (OpenSpec.upto fnDroppedSpec)

end Rows
end Go.Proofs.YtdmeabghpchckaaGreatDoor
