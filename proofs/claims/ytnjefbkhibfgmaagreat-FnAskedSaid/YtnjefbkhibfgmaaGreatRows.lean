/-
  No cell of these rows narrows 'for every input' (looked for: loops, veiled, ifaces, maps, wideKeys, modest, calm, conditions, laid).
  DERIVED. THE GIVEN ROWS OF THIS SEAT. 3 by the template 'for every input the law returns true; each argument reads behind the call as it read before'; 0 by the template 'total and deterministic' (their statements: YtnjefbkhibfgmaaGreatTotals.lean).
  GIVEN WITH THE SEED: the statements are not yours to turn. If you find one false, say at which input.
  Laid BY PROGRAM, IN A SANDBOX (cutbox-rows.mjs): the forced cells as the released guide's own fill.sh prints them over the translation 4728ad7a327acb0f… (all of the seat's roots in one cut). By AI agents, Wed Nov 11 2026. No macro, syntax, notation, axiom, sorry.
-/
import Derived.Test.YtnjefbkhibfgmaaGreatChecked
import GoSem.Claim
import GoSem.ClaimJoined
import GoSem.ClaimMapViews
import Derived.JoinedTies
import Derived.KernelRfl
namespace Go.Proofs.YtnjefbkhibfgmaaGreat
/- THE CELL 'sum', in the pinned program and in every row, IS THE sha256 OF THE DUMP (.gsa) THAT YtnjefbkhibfgmaaGreatProg.lean LOADS. Nothing in Lean hashes anything: it is a label: what it is worth is what the hold of that sum in a sandbox is worth. -/
noncomputable def Tryz.pinned : Pinned := { name := "ytnjefbkhibfgmaagreat", sum := "4728ad7a327acb0f25f1f814a6b56552517108445114ef577c13485fa7cded1e", checked := Tryz.checked }
namespace Rows
def none {H : Type} : Left H := { results := [], args := [] }

/-- 'laws.FnWalked': WHATEVER THE INPUT: true; the input reads as it did. -/
def fnWalkedSpec : ChangeSpec := { name := "fnWalked", fn := fun _ => fun
  | [d] => { results := [.lit (.bool true)], args := [d] }
  | _ => none }
def fnWalkedRow : OpenClaim := { program := "ytnjefbkhibfgmaagreat", sum := "4728ad7a327acb0f25f1f814a6b56552517108445114ef577c13485fa7cded1e", func := "loop.example/g00336/laws.FnWalked", spec := "fnWalked", unfollowed := true, recurses := true, plainKeys := false, apart := false }
def FnWalkedSaid : Prop := fnWalkedRow.holds Tryz.pinned (OpenSpec.ofChange fnWalkedSpec)

/-- ITS FALSE NEIGHBOUR: 'it returns false'. Refute it at one input. -/
def fnWalkedWrong : ChangeSpec := { name := "fnWalked", fn := fun _ => fun
  | [d] => { results := [.lit (.bool false)], args := [d] }
  | _ => none }
def FnWalkedWrongFalsely : Prop := fnWalkedRow.holds Tryz.pinned (OpenSpec.ofChange fnWalkedWrong)

/-- 'laws.FnReadAt': WHATEVER THE INPUT: true; the input reads as it did. -/
def fnReadAtSpec : ChangeSpec := { name := "fnReadAt", fn := fun _ => fun
  | [d] => { results := [.lit (.bool true)], args := [d] }
  | _ => none }
def fnReadAtRow : OpenClaim := { program := "ytnjefbkhibfgmaagreat", sum := "4728ad7a327acb0f25f1f814a6b56552517108445114ef577c13485fa7cded1e", func := "loop.example/g00336/laws.FnReadAt", spec := "fnReadAt", unfollowed := true, recurses := true, plainKeys := false, apart := false }
def FnReadAtSaid : Prop := fnReadAtRow.holds Tryz.pinned (OpenSpec.ofChange fnReadAtSpec)

/-- ITS FALSE NEIGHBOUR: 'it returns false'. Refute it at one input. -/
def fnReadAtWrong : ChangeSpec := { name := "fnReadAt", fn := fun _ => fun
  | [d] => { results := [.lit (.bool false)], args := [d] }
  | _ => none }
def FnReadAtWrongFalsely : Prop := fnReadAtRow.holds Tryz.pinned (OpenSpec.ofChange fnReadAtWrong)

/-- 'laws.FnAsked': WHATEVER THE INPUT: true; the input reads as it did. -/
def fnAskedSpec : ChangeSpec := { name := "fnAsked", fn := fun _ => fun
  | [d] => { results := [.lit (.bool true)], args := [d] }
  | _ => none }
def fnAskedRow : OpenClaim := { program := "ytnjefbkhibfgmaagreat", sum := "4728ad7a327acb0f25f1f814a6b56552517108445114ef577c13485fa7cded1e", func := "loop.example/g00336/laws.FnAsked", spec := "fnAsked", unfollowed := true, recurses := true, plainKeys := false, apart := false }
def FnAskedSaid : Prop := fnAskedRow.holds Tryz.pinned (OpenSpec.ofChange fnAskedSpec)

/-- ITS FALSE NEIGHBOUR: 'it returns false'. Refute it at one input. -/
def fnAskedWrong : ChangeSpec := { name := "fnAsked", fn := fun _ => fun
  | [d] => { results := [.lit (.bool false)], args := [d] }
  | _ => none }
def FnAskedWrongFalsely : Prop := fnAskedRow.holds Tryz.pinned (OpenSpec.ofChange fnAskedWrong)

/- THE SECOND FORM. 'bulk': how many values and letters a reading holds, each counted each time it is reached (what is shared counts as often as it is met; a slice's spare places count too). A statement '..UptoSaid' is the law's where the arguments, and the package variables that the reading takes, are together of bulk at most 1048576: NARROWER than '..Said'. Prove '..Said' where nothing that the law and all that it calls make is longer than what came in: it says more and counts as full. Else prove '..UptoSaid'. A law counts once. -/
mutual
def uptoBulk {H : Type} : DataW H → Nat
  | .lit (.string bytes) => bytes.length + 1
  | .lit _ => 1
  | .nil => 1
  | .ptr d => uptoBulk d + 1
  | .slice elems spare => uptoBulkAll elems + uptoBulkAll spare + 1
  | .agg parts => uptoBulkAll parts + 1
  | .iface _ d => uptoBulk d + 1
  | .map entries => uptoBulkEntries entries + 1
  | .held _ => 1
def uptoBulkAll {H : Type} : List (DataW H) → Nat
  | [] => 0
  | d :: r => uptoBulk d + uptoBulkAll r
def uptoBulkEntries {H : Type} : List (Lit × DataW H) → Nat
  | [] => 0
  | x :: r => uptoBulkEntry x + uptoBulkEntries r
def uptoBulkEntry {H : Type} : Lit × DataW H → Nat
  | (.string bytes, d) => bytes.length + uptoBulk d + 1
  | (_, d) => uptoBulk d + 1
 end
def uptoSmall : (H : Type) → List (DataW H) → Bool := fun _ ds => decide (uptoBulkAll ds ≤ 1048576)
def OpenSpec.upto (s : _root_.Go.ChangeSpec) : _root_.Go.OpenSpec := { _root_.Go.OpenSpec.ofChange s with cond := some uptoSmall }

/-- 'laws.FnWalked', WHERE WHAT IT READS IS OF BULK AT MOST 1048576: true; the input reads as it did. -/
def fnWalkedUptoRow : OpenClaim := { program := "ytnjefbkhibfgmaagreat", sum := "4728ad7a327acb0f25f1f814a6b56552517108445114ef577c13485fa7cded1e", func := "loop.example/g00336/laws.FnWalked", spec := "fnWalked", unfollowed := true, recurses := true, plainKeys := false, apart := false, narrowed := true }
def FnWalkedUptoSaid : Prop := fnWalkedUptoRow.holds Tryz.pinned (OpenSpec.upto fnWalkedSpec)

/-- 'laws.FnReadAt', WHERE WHAT IT READS IS OF BULK AT MOST 1048576: true; the input reads as it did. -/
def fnReadAtUptoRow : OpenClaim := { program := "ytnjefbkhibfgmaagreat", sum := "4728ad7a327acb0f25f1f814a6b56552517108445114ef577c13485fa7cded1e", func := "loop.example/g00336/laws.FnReadAt", spec := "fnReadAt", unfollowed := true, recurses := true, plainKeys := false, apart := false, narrowed := true }
def FnReadAtUptoSaid : Prop := fnReadAtUptoRow.holds Tryz.pinned (OpenSpec.upto fnReadAtSpec)

/-- 'laws.FnAsked', WHERE WHAT IT READS IS OF BULK AT MOST 1048576: true; the input reads as it did. -/
def fnAskedUptoRow : OpenClaim := { program := "ytnjefbkhibfgmaagreat", sum := "4728ad7a327acb0f25f1f814a6b56552517108445114ef577c13485fa7cded1e", func := "loop.example/g00336/laws.FnAsked", spec := "fnAsked", unfollowed := true, recurses := true, plainKeys := false, apart := false, narrowed := true }
def FnAskedUptoSaid : Prop := fnAskedUptoRow.holds Tryz.pinned (OpenSpec.upto fnAskedSpec)

end Rows
end Go.Proofs.YtnjefbkhibfgmaaGreat
