/-
  No cell of these rows narrows 'for every input' (looked for: loops, veiled, ifaces, maps, wideKeys, modest, calm, conditions, laid).
  DERIVED. THE GIVEN ROWS OF THIS SEAT. 7 by the template 'for every input the law returns true; each argument reads behind the call as it read before'; 0 by the template 'total and deterministic' (their statements: YtllbojcjdpelnaaGreatTotals.lean).
  GIVEN WITH THE SEED: the statements are not yours to turn. If you find one false, say at which input.
  Laid BY PROGRAM, IN A SANDBOX (cutbox-rows.mjs): the forced cells as the released guide's own fill.sh prints them over the translation 960b22c782eba077… (all of the seat's roots in one cut). By AI agents, Wed Nov 11 2026. No macro, syntax, notation, axiom, sorry.
-/
import Derived.Test.YtllbojcjdpelnaaGreatChecked
import GoSem.Claim
import GoSem.ClaimJoined
import GoSem.ClaimMapViews
import Derived.JoinedTies
import Derived.KernelRfl
namespace Go.Proofs.YtllbojcjdpelnaaGreat
/- THE CELL 'sum', in the pinned program and in every row, IS THE sha256 OF THE DUMP (.gsa) THAT YtllbojcjdpelnaaGreatProg.lean LOADS. Nothing in Lean hashes anything: it is a label: what it is worth is what the hold of that sum in a sandbox is worth. -/
noncomputable def Tryz.pinned : Pinned := { name := "ytllbojcjdpelnaagreat", sum := "960b22c782eba0772a45bdeb6bd5023bdc626c1d0c203e1b06af7ee532db26cf", checked := Tryz.checked }
namespace Rows
def none {H : Type} : Left H := { results := [], args := [] }

/-- 'laws.FnExactWalked': WHATEVER THE INPUT: true; the input reads as it did. -/
def fnExactWalkedSpec : ChangeSpec := { name := "fnExactWalked", fn := fun _ => fun
  | [d] => { results := [.lit (.bool true)], args := [d] }
  | _ => none }
def fnExactWalkedRow : OpenClaim := { program := "ytllbojcjdpelnaagreat", sum := "960b22c782eba0772a45bdeb6bd5023bdc626c1d0c203e1b06af7ee532db26cf", func := "loop.example/g00336/laws.FnExactWalked", spec := "fnExactWalked", unfollowed := true, recurses := true, plainKeys := false, apart := false }
def FnExactWalkedSaid : Prop := fnExactWalkedRow.holds Tryz.pinned (OpenSpec.ofChange fnExactWalkedSpec)

/-- ITS FALSE NEIGHBOUR: 'it returns false'. Refute it at one input. -/
def fnExactWalkedWrong : ChangeSpec := { name := "fnExactWalked", fn := fun _ => fun
  | [d] => { results := [.lit (.bool false)], args := [d] }
  | _ => none }
def FnExactWalkedWrongFalsely : Prop := fnExactWalkedRow.holds Tryz.pinned (OpenSpec.ofChange fnExactWalkedWrong)

/-- 'laws.FnExactPoolOk': WHATEVER THE INPUT: true; the input reads as it did. -/
def fnExactPoolOkSpec : ChangeSpec := { name := "fnExactPoolOk", fn := fun _ => fun
  | [d] => { results := [.lit (.bool true)], args := [d] }
  | _ => none }
def fnExactPoolOkRow : OpenClaim := { program := "ytllbojcjdpelnaagreat", sum := "960b22c782eba0772a45bdeb6bd5023bdc626c1d0c203e1b06af7ee532db26cf", func := "loop.example/g00336/laws.FnExactPoolOk", spec := "fnExactPoolOk", unfollowed := true, recurses := true, plainKeys := false, apart := false }
def FnExactPoolOkSaid : Prop := fnExactPoolOkRow.holds Tryz.pinned (OpenSpec.ofChange fnExactPoolOkSpec)

/-- ITS FALSE NEIGHBOUR: 'it returns false'. Refute it at one input. -/
def fnExactPoolOkWrong : ChangeSpec := { name := "fnExactPoolOk", fn := fun _ => fun
  | [d] => { results := [.lit (.bool false)], args := [d] }
  | _ => none }
def FnExactPoolOkWrongFalsely : Prop := fnExactPoolOkRow.holds Tryz.pinned (OpenSpec.ofChange fnExactPoolOkWrong)

/-- 'laws.FnExactReadAt': WHATEVER THE INPUT: true; the input reads as it did. -/
def fnExactReadAtSpec : ChangeSpec := { name := "fnExactReadAt", fn := fun _ => fun
  | [d1, d2, d3, d4, d5] => { results := [.lit (.bool true)], args := [d1, d2, d3, d4, d5] }
  | _ => none }
def fnExactReadAtRow : OpenClaim := { program := "ytllbojcjdpelnaagreat", sum := "960b22c782eba0772a45bdeb6bd5023bdc626c1d0c203e1b06af7ee532db26cf", func := "loop.example/g00336/laws.FnExactReadAt", spec := "fnExactReadAt", unfollowed := true, recurses := true, plainKeys := false, apart := false }
def FnExactReadAtSaid : Prop := fnExactReadAtRow.holds Tryz.pinned (OpenSpec.ofChange fnExactReadAtSpec)

/-- ITS FALSE NEIGHBOUR: 'it returns false'. Refute it at one input. -/
def fnExactReadAtWrong : ChangeSpec := { name := "fnExactReadAt", fn := fun _ => fun
  | [d1, d2, d3, d4, d5] => { results := [.lit (.bool false)], args := [d1, d2, d3, d4, d5] }
  | _ => none }
def FnExactReadAtWrongFalsely : Prop := fnExactReadAtRow.holds Tryz.pinned (OpenSpec.ofChange fnExactReadAtWrong)

/-- 'laws.FnExactSizeOf': WHATEVER THE INPUT: true; the input reads as it did. -/
def fnExactSizeOfSpec : ChangeSpec := { name := "fnExactSizeOf", fn := fun _ => fun
  | [d1, d2, d3] => { results := [.lit (.bool true)], args := [d1, d2, d3] }
  | _ => none }
def fnExactSizeOfRow : OpenClaim := { program := "ytllbojcjdpelnaagreat", sum := "960b22c782eba0772a45bdeb6bd5023bdc626c1d0c203e1b06af7ee532db26cf", func := "loop.example/g00336/laws.FnExactSizeOf", spec := "fnExactSizeOf", unfollowed := true, recurses := true, plainKeys := false, apart := false }
def FnExactSizeOfSaid : Prop := fnExactSizeOfRow.holds Tryz.pinned (OpenSpec.ofChange fnExactSizeOfSpec)

/-- ITS FALSE NEIGHBOUR: 'it returns false'. Refute it at one input. -/
def fnExactSizeOfWrong : ChangeSpec := { name := "fnExactSizeOf", fn := fun _ => fun
  | [d1, d2, d3] => { results := [.lit (.bool false)], args := [d1, d2, d3] }
  | _ => none }
def FnExactSizeOfWrongFalsely : Prop := fnExactSizeOfRow.holds Tryz.pinned (OpenSpec.ofChange fnExactSizeOfWrong)

/-- 'laws.FnExactFilesOf': WHATEVER THE INPUT: true; the input reads as it did. -/
def fnExactFilesOfSpec : ChangeSpec := { name := "fnExactFilesOf", fn := fun _ => fun
  | [d1, d2] => { results := [.lit (.bool true)], args := [d1, d2] }
  | _ => none }
def fnExactFilesOfRow : OpenClaim := { program := "ytllbojcjdpelnaagreat", sum := "960b22c782eba0772a45bdeb6bd5023bdc626c1d0c203e1b06af7ee532db26cf", func := "loop.example/g00336/laws.FnExactFilesOf", spec := "fnExactFilesOf", unfollowed := true, recurses := true, plainKeys := false, apart := false }
def FnExactFilesOfSaid : Prop := fnExactFilesOfRow.holds Tryz.pinned (OpenSpec.ofChange fnExactFilesOfSpec)

/-- ITS FALSE NEIGHBOUR: 'it returns false'. Refute it at one input. -/
def fnExactFilesOfWrong : ChangeSpec := { name := "fnExactFilesOf", fn := fun _ => fun
  | [d1, d2] => { results := [.lit (.bool false)], args := [d1, d2] }
  | _ => none }
def FnExactFilesOfWrongFalsely : Prop := fnExactFilesOfRow.holds Tryz.pinned (OpenSpec.ofChange fnExactFilesOfWrong)

/-- 'laws.FnExactOwnersOf': WHATEVER THE INPUT: true; the input reads as it did. -/
def fnExactOwnersOfSpec : ChangeSpec := { name := "fnExactOwnersOf", fn := fun _ => fun
  | [d1, d2] => { results := [.lit (.bool true)], args := [d1, d2] }
  | _ => none }
def fnExactOwnersOfRow : OpenClaim := { program := "ytllbojcjdpelnaagreat", sum := "960b22c782eba0772a45bdeb6bd5023bdc626c1d0c203e1b06af7ee532db26cf", func := "loop.example/g00336/laws.FnExactOwnersOf", spec := "fnExactOwnersOf", unfollowed := true, recurses := true, plainKeys := false, apart := false }
def FnExactOwnersOfSaid : Prop := fnExactOwnersOfRow.holds Tryz.pinned (OpenSpec.ofChange fnExactOwnersOfSpec)

/-- ITS FALSE NEIGHBOUR: 'it returns false'. Refute it at one input. -/
def fnExactOwnersOfWrong : ChangeSpec := { name := "fnExactOwnersOf", fn := fun _ => fun
  | [d1, d2] => { results := [.lit (.bool false)], args := [d1, d2] }
  | _ => none }
def FnExactOwnersOfWrongFalsely : Prop := fnExactOwnersOfRow.holds Tryz.pinned (OpenSpec.ofChange fnExactOwnersOfWrong)

/-- 'laws.FnExactOnlyOf': WHATEVER THE INPUT: true; the input reads as it did. -/
def fnExactOnlyOfSpec : ChangeSpec := { name := "fnExactOnlyOf", fn := fun _ => fun
  | [d1, d2] => { results := [.lit (.bool true)], args := [d1, d2] }
  | _ => none }
def fnExactOnlyOfRow : OpenClaim := { program := "ytllbojcjdpelnaagreat", sum := "960b22c782eba0772a45bdeb6bd5023bdc626c1d0c203e1b06af7ee532db26cf", func := "loop.example/g00336/laws.FnExactOnlyOf", spec := "fnExactOnlyOf", unfollowed := true, recurses := true, plainKeys := false, apart := false }
def FnExactOnlyOfSaid : Prop := fnExactOnlyOfRow.holds Tryz.pinned (OpenSpec.ofChange fnExactOnlyOfSpec)

/-- ITS FALSE NEIGHBOUR: 'it returns false'. Refute it at one input. -/
def fnExactOnlyOfWrong : ChangeSpec := { name := "fnExactOnlyOf", fn := fun _ => fun
  | [d1, d2] => { results := [.lit (.bool false)], args := [d1, d2] }
  | _ => none }
def FnExactOnlyOfWrongFalsely : Prop := fnExactOnlyOfRow.holds Tryz.pinned (OpenSpec.ofChange fnExactOnlyOfWrong)

/- THE SECOND FORM. 'bulk': how many values and letters a reading holds, each counted each time it is reached (what is shared counts as often as it is met; a slice's spare places count too). A statement '..UptoSaid' is the law's where the arguments, and the package variables that the reading takes, are together of bulk at most 1048576: NARROWER than '..Said'. Prove '..Said' where nothing that the law and all that it calls make is longer than what came in: it says more and counts as full. Else prove '..UptoSaid'. A law counts once. -/
mutual
def uptoBulk {H : Type} : DataW H → Nat
  | .lit (.string bytes) => bytes.length + 1
  | .lit _ => 1
  | .nil => 1
  | .ptr d => uptoBulk d + 1
  | .slice elems spare => uptoBulkAll elems + uptoBulkAll spare + 1
  | .agg parts => uptoBulkAll parts + 1
  | .iface _ d => uptoBulk d + 1
  | .map entries => uptoBulkEntries entries + 1
  | .held _ => 1
def uptoBulkAll {H : Type} : List (DataW H) → Nat
  | [] => 0
  | d :: r => uptoBulk d + uptoBulkAll r
def uptoBulkEntries {H : Type} : List (Lit × DataW H) → Nat
  | [] => 0
  | x :: r => uptoBulkEntry x + uptoBulkEntries r
def uptoBulkEntry {H : Type} : Lit × DataW H → Nat
  | (.string bytes, d) => bytes.length + uptoBulk d + 1
  | (_, d) => uptoBulk d + 1
 end
def uptoSmall : (H : Type) → List (DataW H) → Bool := fun _ ds => decide (uptoBulkAll ds ≤ 1048576)
def OpenSpec.upto (s : _root_.Go.ChangeSpec) : _root_.Go.OpenSpec := { _root_.Go.OpenSpec.ofChange s with cond := some uptoSmall }

/-- 'laws.FnExactWalked', WHERE WHAT IT READS IS OF BULK AT MOST 1048576: true; the input reads as it did. -/
def fnExactWalkedUptoRow : OpenClaim := { program := "ytllbojcjdpelnaagreat", sum := "960b22c782eba0772a45bdeb6bd5023bdc626c1d0c203e1b06af7ee532db26cf", func := "loop.example/g00336/laws.FnExactWalked", spec := "fnExactWalked", unfollowed := true, recurses := true, plainKeys := false, apart := false, narrowed := true }
def FnExactWalkedUptoSaid : Prop := fnExactWalkedUptoRow.holds Tryz.pinned (OpenSpec.upto fnExactWalkedSpec)

/-- 'laws.FnExactPoolOk', WHERE WHAT IT READS IS OF BULK AT MOST 1048576: true; the input reads as it did. -/
def fnExactPoolOkUptoRow : OpenClaim := { program := "ytllbojcjdpelnaagreat", sum := "960b22c782eba0772a45bdeb6bd5023bdc626c1d0c203e1b06af7ee532db26cf", func := "loop.example/g00336/laws.FnExactPoolOk", spec := "fnExactPoolOk", unfollowed := true, recurses := true, plainKeys := false, apart := false, narrowed := true }
def FnExactPoolOkUptoSaid : Prop := fnExactPoolOkUptoRow.holds Tryz.pinned (OpenSpec.upto fnExactPoolOkSpec)

/-- 'laws.FnExactReadAt', WHERE WHAT IT READS IS OF BULK AT MOST 1048576: true; the input reads as it did. -/
def fnExactReadAtUptoRow : OpenClaim := { program := "ytllbojcjdpelnaagreat", sum := "960b22c782eba0772a45bdeb6bd5023bdc626c1d0c203e1b06af7ee532db26cf", func := "loop.example/g00336/laws.FnExactReadAt", spec := "fnExactReadAt", unfollowed := true, recurses := true, plainKeys := false, apart := false, narrowed := true }
def FnExactReadAtUptoSaid : Prop := fnExactReadAtUptoRow.holds Tryz.pinned (OpenSpec.upto fnExactReadAtSpec)

/-- 'laws.FnExactSizeOf', WHERE WHAT IT READS IS OF BULK AT MOST 1048576: true; the input reads as it did. -/
def fnExactSizeOfUptoRow : OpenClaim := { program := "ytllbojcjdpelnaagreat", sum := "960b22c782eba0772a45bdeb6bd5023bdc626c1d0c203e1b06af7ee532db26cf", func := "loop.example/g00336/laws.FnExactSizeOf", spec := "fnExactSizeOf", unfollowed := true, recurses := true, plainKeys := false, apart := false, narrowed := true }
def FnExactSizeOfUptoSaid : Prop := fnExactSizeOfUptoRow.holds Tryz.pinned (OpenSpec.upto fnExactSizeOfSpec)

/-- 'laws.FnExactFilesOf', WHERE WHAT IT READS IS OF BULK AT MOST 1048576: true; the input reads as it did. -/
def fnExactFilesOfUptoRow : OpenClaim := { program := "ytllbojcjdpelnaagreat", sum := "960b22c782eba0772a45bdeb6bd5023bdc626c1d0c203e1b06af7ee532db26cf", func := "loop.example/g00336/laws.FnExactFilesOf", spec := "fnExactFilesOf", unfollowed := true, recurses := true, plainKeys := false, apart := false, narrowed := true }
def FnExactFilesOfUptoSaid : Prop := fnExactFilesOfUptoRow.holds Tryz.pinned (OpenSpec.upto fnExactFilesOfSpec)

/-- 'laws.FnExactOwnersOf', WHERE WHAT IT READS IS OF BULK AT MOST 1048576: true; the input reads as it did. -/
def fnExactOwnersOfUptoRow : OpenClaim := { program := "ytllbojcjdpelnaagreat", sum := "960b22c782eba0772a45bdeb6bd5023bdc626c1d0c203e1b06af7ee532db26cf", func := "loop.example/g00336/laws.FnExactOwnersOf", spec := "fnExactOwnersOf", unfollowed := true, recurses := true, plainKeys := false, apart := false, narrowed := true }
def FnExactOwnersOfUptoSaid : Prop := fnExactOwnersOfUptoRow.holds Tryz.pinned (OpenSpec.upto fnExactOwnersOfSpec)

/-- 'laws.FnExactOnlyOf', WHERE WHAT IT READS IS OF BULK AT MOST 1048576: true; the input reads as it did. -/
def fnExactOnlyOfUptoRow : OpenClaim := { program := "ytllbojcjdpelnaagreat", sum := "960b22c782eba0772a45bdeb6bd5023bdc626c1d0c203e1b06af7ee532db26cf", func := "loop.example/g00336/laws.FnExactOnlyOf", spec := "fnExactOnlyOf", unfollowed := true, recurses := true, plainKeys := false, apart := false, narrowed := true }
def FnExactOnlyOfUptoSaid : Prop := fnExactOnlyOfUptoRow.holds Tryz.pinned (OpenSpec.upto fnExactOnlyOfSpec)

end Rows
end Go.Proofs.YtllbojcjdpelnaaGreat
