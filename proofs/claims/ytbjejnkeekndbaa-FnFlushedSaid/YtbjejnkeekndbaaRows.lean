/-
  No cell of these rows narrows 'for every input' (looked for: loops, veiled, ifaces, maps, wideKeys, modest, calm, conditions, laid).
  DERIVED. THE GIVEN ROWS OF THIS SEAT. 13 by the template 'for every input the law returns true; each argument reads behind the call as it read before'; 0 by the template 'total and deterministic' (their statements: YtbjejnkeekndbaaTotals.lean).
  GIVEN WITH THE SEED: the statements are not yours to turn. If you find one false, say at which input.
  Laid BY PROGRAM, IN A SANDBOX (cutbox-rows.mjs): the forced cells as the released guide's own fill.sh prints them over the translation 394f8263f5b4ecd4… (all of the seat's roots in one cut). By AI agents, Wed Nov 11 2026. No macro, syntax, notation, axiom, sorry.
-/
import Derived.Test.YtbjejnkeekndbaaChecked
import GoSem.Claim
import GoSem.ClaimJoined
import GoSem.ClaimMapViews
import Derived.JoinedTies
import Derived.KernelRfl
namespace Go.Proofs.Ytbjejnkeekndbaa
/- THE CELL 'sum', in the pinned program and in every row, IS THE sha256 OF THE DUMP (.gsa) THAT YtbjejnkeekndbaaProg.lean LOADS. Nothing in Lean hashes anything: it is a label: what it is worth is what the hold of that sum in a sandbox is worth. -/
noncomputable def Try.pinned : Pinned := { name := "ytbjejnkeekndbaa", sum := "394f8263f5b4ecd45fbdc9b346e935008c049409028efe3285441665266535d4", checked := Try.checked }
namespace Rows
def none {H : Type} : Left H := { results := [], args := [] }

/-- 'laws.FnPlaced': WHATEVER THE INPUT: true; the input reads as it did. -/
def fnPlacedSpec : ChangeSpec := { name := "fnPlaced", fn := fun _ => fun
  | [d] => { results := [.lit (.bool true)], args := [d] }
  | _ => none }
def fnPlacedRow : OpenClaim := { program := "ytbjejnkeekndbaa", sum := "394f8263f5b4ecd45fbdc9b346e935008c049409028efe3285441665266535d4", func := "loop.example/g00336/laws.FnPlaced", spec := "fnPlaced", unfollowed := true, recurses := true, plainKeys := false, apart := false }
def FnPlacedSaid : Prop := fnPlacedRow.holds Try.pinned (OpenSpec.ofChange fnPlacedSpec)

/-- ITS FALSE NEIGHBOUR: 'it returns false'. Refute it at one input. -/
def fnPlacedWrong : ChangeSpec := { name := "fnPlaced", fn := fun _ => fun
  | [d] => { results := [.lit (.bool false)], args := [d] }
  | _ => none }
def FnPlacedWrongFalsely : Prop := fnPlacedRow.holds Try.pinned (OpenSpec.ofChange fnPlacedWrong)

/-- 'laws.FnLifted': WHATEVER THE INPUT: true; the input reads as it did. -/
def fnLiftedSpec : ChangeSpec := { name := "fnLifted", fn := fun _ => fun
  | [d] => { results := [.lit (.bool true)], args := [d] }
  | _ => none }
def fnLiftedRow : OpenClaim := { program := "ytbjejnkeekndbaa", sum := "394f8263f5b4ecd45fbdc9b346e935008c049409028efe3285441665266535d4", func := "loop.example/g00336/laws.FnLifted", spec := "fnLifted", unfollowed := true, recurses := true, plainKeys := false, apart := false }
def FnLiftedSaid : Prop := fnLiftedRow.holds Try.pinned (OpenSpec.ofChange fnLiftedSpec)

/-- ITS FALSE NEIGHBOUR: 'it returns false'. Refute it at one input. -/
def fnLiftedWrong : ChangeSpec := { name := "fnLifted", fn := fun _ => fun
  | [d] => { results := [.lit (.bool false)], args := [d] }
  | _ => none }
def FnLiftedWrongFalsely : Prop := fnLiftedRow.holds Try.pinned (OpenSpec.ofChange fnLiftedWrong)

/-- 'laws.FnSliced': WHATEVER THE INPUT: true; the input reads as it did. -/
def fnSlicedSpec : ChangeSpec := { name := "fnSliced", fn := fun _ => fun
  | [d] => { results := [.lit (.bool true)], args := [d] }
  | _ => none }
def fnSlicedRow : OpenClaim := { program := "ytbjejnkeekndbaa", sum := "394f8263f5b4ecd45fbdc9b346e935008c049409028efe3285441665266535d4", func := "loop.example/g00336/laws.FnSliced", spec := "fnSliced", plainKeys := false, apart := false }
def FnSlicedSaid : Prop := fnSlicedRow.holds Try.pinned (OpenSpec.ofChange fnSlicedSpec)

/-- ITS FALSE NEIGHBOUR: 'it returns false'. Refute it at one input. -/
def fnSlicedWrong : ChangeSpec := { name := "fnSliced", fn := fun _ => fun
  | [d] => { results := [.lit (.bool false)], args := [d] }
  | _ => none }
def FnSlicedWrongFalsely : Prop := fnSlicedRow.holds Try.pinned (OpenSpec.ofChange fnSlicedWrong)

/-- 'laws.FnJoined': WHATEVER THE INPUT: true; the input reads as it did. -/
def fnJoinedSpec : ChangeSpec := { name := "fnJoined", fn := fun _ => fun
  | [d] => { results := [.lit (.bool true)], args := [d] }
  | _ => none }
def fnJoinedRow : OpenClaim := { program := "ytbjejnkeekndbaa", sum := "394f8263f5b4ecd45fbdc9b346e935008c049409028efe3285441665266535d4", func := "loop.example/g00336/laws.FnJoined", spec := "fnJoined", plainKeys := false, apart := false }
def FnJoinedSaid : Prop := fnJoinedRow.holds Try.pinned (OpenSpec.ofChange fnJoinedSpec)

/-- ITS FALSE NEIGHBOUR: 'it returns false'. Refute it at one input. -/
def fnJoinedWrong : ChangeSpec := { name := "fnJoined", fn := fun _ => fun
  | [d] => { results := [.lit (.bool false)], args := [d] }
  | _ => none }
def FnJoinedWrongFalsely : Prop := fnJoinedRow.holds Try.pinned (OpenSpec.ofChange fnJoinedWrong)

/-- 'laws.FnLaidParts': WHATEVER THE INPUT: true; the input reads as it did. -/
def fnLaidPartsSpec : ChangeSpec := { name := "fnLaidParts", fn := fun _ => fun
  | [d] => { results := [.lit (.bool true)], args := [d] }
  | _ => none }
def fnLaidPartsRow : OpenClaim := { program := "ytbjejnkeekndbaa", sum := "394f8263f5b4ecd45fbdc9b346e935008c049409028efe3285441665266535d4", func := "loop.example/g00336/laws.FnLaidParts", spec := "fnLaidParts", plainKeys := false, apart := false }
def FnLaidPartsSaid : Prop := fnLaidPartsRow.holds Try.pinned (OpenSpec.ofChange fnLaidPartsSpec)

/-- ITS FALSE NEIGHBOUR: 'it returns false'. Refute it at one input. -/
def fnLaidPartsWrong : ChangeSpec := { name := "fnLaidParts", fn := fun _ => fun
  | [d] => { results := [.lit (.bool false)], args := [d] }
  | _ => none }
def FnLaidPartsWrongFalsely : Prop := fnLaidPartsRow.holds Try.pinned (OpenSpec.ofChange fnLaidPartsWrong)

/-- 'laws.FnContent': WHATEVER THE INPUT: true; the input reads as it did. -/
def fnContentSpec : ChangeSpec := { name := "fnContent", fn := fun _ => fun
  | [d] => { results := [.lit (.bool true)], args := [d] }
  | _ => none }
def fnContentRow : OpenClaim := { program := "ytbjejnkeekndbaa", sum := "394f8263f5b4ecd45fbdc9b346e935008c049409028efe3285441665266535d4", func := "loop.example/g00336/laws.FnContent", spec := "fnContent", plainKeys := false, apart := false }
def FnContentSaid : Prop := fnContentRow.holds Try.pinned (OpenSpec.ofChange fnContentSpec)

/-- ITS FALSE NEIGHBOUR: 'it returns false'. Refute it at one input. -/
def fnContentWrong : ChangeSpec := { name := "fnContent", fn := fun _ => fun
  | [d] => { results := [.lit (.bool false)], args := [d] }
  | _ => none }
def FnContentWrongFalsely : Prop := fnContentRow.holds Try.pinned (OpenSpec.ofChange fnContentWrong)

/-- 'laws.FnMerged': WHATEVER THE INPUT: true; the input reads as it did. -/
def fnMergedSpec : ChangeSpec := { name := "fnMerged", fn := fun _ => fun
  | [d] => { results := [.lit (.bool true)], args := [d] }
  | _ => none }
def fnMergedRow : OpenClaim := { program := "ytbjejnkeekndbaa", sum := "394f8263f5b4ecd45fbdc9b346e935008c049409028efe3285441665266535d4", func := "loop.example/g00336/laws.FnMerged", spec := "fnMerged", unfollowed := true, recurses := true, plainKeys := false, apart := false }
def FnMergedSaid : Prop := fnMergedRow.holds Try.pinned (OpenSpec.ofChange fnMergedSpec)

/-- ITS FALSE NEIGHBOUR: 'it returns false'. Refute it at one input. -/
def fnMergedWrong : ChangeSpec := { name := "fnMerged", fn := fun _ => fun
  | [d] => { results := [.lit (.bool false)], args := [d] }
  | _ => none }
def FnMergedWrongFalsely : Prop := fnMergedRow.holds Try.pinned (OpenSpec.ofChange fnMergedWrong)

/-- 'laws.FnFlushed': WHATEVER THE INPUT: true; the input reads as it did. -/
def fnFlushedSpec : ChangeSpec := { name := "fnFlushed", fn := fun _ => fun
  | [d] => { results := [.lit (.bool true)], args := [d] }
  | _ => none }
def fnFlushedRow : OpenClaim := { program := "ytbjejnkeekndbaa", sum := "394f8263f5b4ecd45fbdc9b346e935008c049409028efe3285441665266535d4", func := "loop.example/g00336/laws.FnFlushed", spec := "fnFlushed", unfollowed := true, recurses := true, plainKeys := false, apart := false }
def FnFlushedSaid : Prop := fnFlushedRow.holds Try.pinned (OpenSpec.ofChange fnFlushedSpec)

/-- ITS FALSE NEIGHBOUR: 'it returns false'. Refute it at one input. -/
def fnFlushedWrong : ChangeSpec := { name := "fnFlushed", fn := fun _ => fun
  | [d] => { results := [.lit (.bool false)], args := [d] }
  | _ => none }
def FnFlushedWrongFalsely : Prop := fnFlushedRow.holds Try.pinned (OpenSpec.ofChange fnFlushedWrong)

/-- 'laws.FnPoolNew': WHATEVER THE INPUT: true; the input reads as it did. -/
def fnPoolNewSpec : ChangeSpec := { name := "fnPoolNew", fn := fun _ => fun
  | [d] => { results := [.lit (.bool true)], args := [d] }
  | _ => none }
def fnPoolNewRow : OpenClaim := { program := "ytbjejnkeekndbaa", sum := "394f8263f5b4ecd45fbdc9b346e935008c049409028efe3285441665266535d4", func := "loop.example/g00336/laws.FnPoolNew", spec := "fnPoolNew", unfollowed := true, recurses := true, plainKeys := false, apart := false }
def FnPoolNewSaid : Prop := fnPoolNewRow.holds Try.pinned (OpenSpec.ofChange fnPoolNewSpec)

/-- ITS FALSE NEIGHBOUR: 'it returns false'. Refute it at one input. -/
def fnPoolNewWrong : ChangeSpec := { name := "fnPoolNew", fn := fun _ => fun
  | [d] => { results := [.lit (.bool false)], args := [d] }
  | _ => none }
def FnPoolNewWrongFalsely : Prop := fnPoolNewRow.holds Try.pinned (OpenSpec.ofChange fnPoolNewWrong)

/-- 'laws.FnExactContent': WHATEVER THE INPUT: true; the input reads as it did. -/
def fnExactContentSpec : ChangeSpec := { name := "fnExactContent", fn := fun _ => fun
  | [d1, d2] => { results := [.lit (.bool true)], args := [d1, d2] }
  | _ => none }
def fnExactContentRow : OpenClaim := { program := "ytbjejnkeekndbaa", sum := "394f8263f5b4ecd45fbdc9b346e935008c049409028efe3285441665266535d4", func := "loop.example/g00336/laws.FnExactContent", spec := "fnExactContent", plainKeys := false, apart := false }
def FnExactContentSaid : Prop := fnExactContentRow.holds Try.pinned (OpenSpec.ofChange fnExactContentSpec)

/-- ITS FALSE NEIGHBOUR: 'it returns false'. Refute it at one input. -/
def fnExactContentWrong : ChangeSpec := { name := "fnExactContent", fn := fun _ => fun
  | [d1, d2] => { results := [.lit (.bool false)], args := [d1, d2] }
  | _ => none }
def FnExactContentWrongFalsely : Prop := fnExactContentRow.holds Try.pinned (OpenSpec.ofChange fnExactContentWrong)

/-- 'laws.FnExactMerged': WHATEVER THE INPUT: true; the input reads as it did. -/
def fnExactMergedSpec : ChangeSpec := { name := "fnExactMerged", fn := fun _ => fun
  | [d] => { results := [.lit (.bool true)], args := [d] }
  | _ => none }
def fnExactMergedRow : OpenClaim := { program := "ytbjejnkeekndbaa", sum := "394f8263f5b4ecd45fbdc9b346e935008c049409028efe3285441665266535d4", func := "loop.example/g00336/laws.FnExactMerged", spec := "fnExactMerged", unfollowed := true, recurses := true, plainKeys := false, apart := false }
def FnExactMergedSaid : Prop := fnExactMergedRow.holds Try.pinned (OpenSpec.ofChange fnExactMergedSpec)

/-- ITS FALSE NEIGHBOUR: 'it returns false'. Refute it at one input. -/
def fnExactMergedWrong : ChangeSpec := { name := "fnExactMerged", fn := fun _ => fun
  | [d] => { results := [.lit (.bool false)], args := [d] }
  | _ => none }
def FnExactMergedWrongFalsely : Prop := fnExactMergedRow.holds Try.pinned (OpenSpec.ofChange fnExactMergedWrong)

/-- 'laws.FnExactFlushed': WHATEVER THE INPUT: true; the input reads as it did. -/
def fnExactFlushedSpec : ChangeSpec := { name := "fnExactFlushed", fn := fun _ => fun
  | [d1, d2] => { results := [.lit (.bool true)], args := [d1, d2] }
  | _ => none }
def fnExactFlushedRow : OpenClaim := { program := "ytbjejnkeekndbaa", sum := "394f8263f5b4ecd45fbdc9b346e935008c049409028efe3285441665266535d4", func := "loop.example/g00336/laws.FnExactFlushed", spec := "fnExactFlushed", unfollowed := true, recurses := true, plainKeys := false, apart := false }
def FnExactFlushedSaid : Prop := fnExactFlushedRow.holds Try.pinned (OpenSpec.ofChange fnExactFlushedSpec)

/-- ITS FALSE NEIGHBOUR: 'it returns false'. Refute it at one input. -/
def fnExactFlushedWrong : ChangeSpec := { name := "fnExactFlushed", fn := fun _ => fun
  | [d1, d2] => { results := [.lit (.bool false)], args := [d1, d2] }
  | _ => none }
def FnExactFlushedWrongFalsely : Prop := fnExactFlushedRow.holds Try.pinned (OpenSpec.ofChange fnExactFlushedWrong)

/-- 'laws.FnExactOpOk': WHATEVER THE INPUT: true; the input reads as it did. -/
def fnExactOpOkSpec : ChangeSpec := { name := "fnExactOpOk", fn := fun _ => fun
  | [d] => { results := [.lit (.bool true)], args := [d] }
  | _ => none }
def fnExactOpOkRow : OpenClaim := { program := "ytbjejnkeekndbaa", sum := "394f8263f5b4ecd45fbdc9b346e935008c049409028efe3285441665266535d4", func := "loop.example/g00336/laws.FnExactOpOk", spec := "fnExactOpOk", plainKeys := false, apart := false }
def FnExactOpOkSaid : Prop := fnExactOpOkRow.holds Try.pinned (OpenSpec.ofChange fnExactOpOkSpec)

/-- ITS FALSE NEIGHBOUR: 'it returns false'. Refute it at one input. -/
def fnExactOpOkWrong : ChangeSpec := { name := "fnExactOpOk", fn := fun _ => fun
  | [d] => { results := [.lit (.bool false)], args := [d] }
  | _ => none }
def FnExactOpOkWrongFalsely : Prop := fnExactOpOkRow.holds Try.pinned (OpenSpec.ofChange fnExactOpOkWrong)

/- THE SECOND FORM. 'bulk': how many values and letters a reading holds, each counted each time it is reached (what is shared counts as often as it is met; a slice's spare places count too). A statement '..UptoSaid' is the law's where the arguments, and the package variables that the reading takes, are together of bulk at most 1048576: NARROWER than '..Said'. Prove '..Said' where nothing that the law and all that it calls make is longer than what came in: it says more and counts as full. Else prove '..UptoSaid'. A law counts once. -/
mutual
def uptoBulk {H : Type} : DataW H → Nat
  | .lit (.string bytes) => bytes.length + 1
  | .lit _ => 1
  | .nil => 1
  | .ptr d => uptoBulk d + 1
  | .slice elems spare => uptoBulkAll elems + uptoBulkAll spare + 1
  | .agg parts => uptoBulkAll parts + 1
  | .iface _ d => uptoBulk d + 1
  | .map entries => uptoBulkEntries entries + 1
  | .held _ => 1
def uptoBulkAll {H : Type} : List (DataW H) → Nat
  | [] => 0
  | d :: r => uptoBulk d + uptoBulkAll r
def uptoBulkEntries {H : Type} : List (Lit × DataW H) → Nat
  | [] => 0
  | x :: r => uptoBulkEntry x + uptoBulkEntries r
def uptoBulkEntry {H : Type} : Lit × DataW H → Nat
  | (.string bytes, d) => bytes.length + uptoBulk d + 1
  | (_, d) => uptoBulk d + 1
 end
def uptoSmall : (H : Type) → List (DataW H) → Bool := fun _ ds => decide (uptoBulkAll ds ≤ 1048576)
def OpenSpec.upto (s : _root_.Go.ChangeSpec) : _root_.Go.OpenSpec := { _root_.Go.OpenSpec.ofChange s with cond := some uptoSmall }

/-- 'laws.FnPlaced', WHERE WHAT IT READS IS OF BULK AT MOST 1048576: true; the input reads as it did. -/
def fnPlacedUptoRow : OpenClaim := { program := "ytbjejnkeekndbaa", sum := "394f8263f5b4ecd45fbdc9b346e935008c049409028efe3285441665266535d4", func := "loop.example/g00336/laws.FnPlaced", spec := "fnPlaced", unfollowed := true, recurses := true, plainKeys := false, apart := false, narrowed := true }
def FnPlacedUptoSaid : Prop := fnPlacedUptoRow.holds Try.pinned (OpenSpec.upto fnPlacedSpec)

/-- 'laws.FnLifted', WHERE WHAT IT READS IS OF BULK AT MOST 1048576: true; the input reads as it did. -/
def fnLiftedUptoRow : OpenClaim := { program := "ytbjejnkeekndbaa", sum := "394f8263f5b4ecd45fbdc9b346e935008c049409028efe3285441665266535d4", func := "loop.example/g00336/laws.FnLifted", spec := "fnLifted", unfollowed := true, recurses := true, plainKeys := false, apart := false, narrowed := true }
def FnLiftedUptoSaid : Prop := fnLiftedUptoRow.holds Try.pinned (OpenSpec.upto fnLiftedSpec)

/-- 'laws.FnSliced', WHERE WHAT IT READS IS OF BULK AT MOST 1048576: true; the input reads as it did. -/
def fnSlicedUptoRow : OpenClaim := { program := "ytbjejnkeekndbaa", sum := "394f8263f5b4ecd45fbdc9b346e935008c049409028efe3285441665266535d4", func := "loop.example/g00336/laws.FnSliced", spec := "fnSliced", plainKeys := false, apart := false, narrowed := true }
def FnSlicedUptoSaid : Prop := fnSlicedUptoRow.holds Try.pinned (OpenSpec.upto fnSlicedSpec)

/-- 'laws.FnJoined', WHERE WHAT IT READS IS OF BULK AT MOST 1048576: true; the input reads as it did. -/
def fnJoinedUptoRow : OpenClaim := { program := "ytbjejnkeekndbaa", sum := "394f8263f5b4ecd45fbdc9b346e935008c049409028efe3285441665266535d4", func := "loop.example/g00336/laws.FnJoined", spec := "fnJoined", plainKeys := false, apart := false, narrowed := true }
def FnJoinedUptoSaid : Prop := fnJoinedUptoRow.holds Try.pinned (OpenSpec.upto fnJoinedSpec)

/-- 'laws.FnLaidParts', WHERE WHAT IT READS IS OF BULK AT MOST 1048576: true; the input reads as it did. -/
def fnLaidPartsUptoRow : OpenClaim := { program := "ytbjejnkeekndbaa", sum := "394f8263f5b4ecd45fbdc9b346e935008c049409028efe3285441665266535d4", func := "loop.example/g00336/laws.FnLaidParts", spec := "fnLaidParts", plainKeys := false, apart := false, narrowed := true }
def FnLaidPartsUptoSaid : Prop := fnLaidPartsUptoRow.holds Try.pinned (OpenSpec.upto fnLaidPartsSpec)

/-- 'laws.FnContent', WHERE WHAT IT READS IS OF BULK AT MOST 1048576: true; the input reads as it did. -/
def fnContentUptoRow : OpenClaim := { program := "ytbjejnkeekndbaa", sum := "394f8263f5b4ecd45fbdc9b346e935008c049409028efe3285441665266535d4", func := "loop.example/g00336/laws.FnContent", spec := "fnContent", plainKeys := false, apart := false, narrowed := true }
def FnContentUptoSaid : Prop := fnContentUptoRow.holds Try.pinned (OpenSpec.upto fnContentSpec)

/-- 'laws.FnMerged', WHERE WHAT IT READS IS OF BULK AT MOST 1048576: true; the input reads as it did. -/
def fnMergedUptoRow : OpenClaim := { program := "ytbjejnkeekndbaa", sum := "394f8263f5b4ecd45fbdc9b346e935008c049409028efe3285441665266535d4", func := "loop.example/g00336/laws.FnMerged", spec := "fnMerged", unfollowed := true, recurses := true, plainKeys := false, apart := false, narrowed := true }
def FnMergedUptoSaid : Prop := fnMergedUptoRow.holds Try.pinned (OpenSpec.upto fnMergedSpec)

/-- 'laws.FnFlushed', WHERE WHAT IT READS IS OF BULK AT MOST 1048576: true; the input reads as it did. -/
def fnFlushedUptoRow : OpenClaim := { program := "ytbjejnkeekndbaa", sum := "394f8263f5b4ecd45fbdc9b346e935008c049409028efe3285441665266535d4", func := "loop.example/g00336/laws.FnFlushed", spec := "fnFlushed", unfollowed := true, recurses := true, plainKeys := false, apart := false, narrowed := true }
def FnFlushedUptoSaid : Prop := fnFlushedUptoRow.holds Try.pinned (OpenSpec.upto fnFlushedSpec)

/-- 'laws.FnPoolNew', WHERE WHAT IT READS IS OF BULK AT MOST 1048576: true; the input reads as it did. -/
def fnPoolNewUptoRow : OpenClaim := { program := "ytbjejnkeekndbaa", sum := "394f8263f5b4ecd45fbdc9b346e935008c049409028efe3285441665266535d4", func := "loop.example/g00336/laws.FnPoolNew", spec := "fnPoolNew", unfollowed := true, recurses := true, plainKeys := false, apart := false, narrowed := true }
def FnPoolNewUptoSaid : Prop := fnPoolNewUptoRow.holds Try.pinned (OpenSpec.upto fnPoolNewSpec)

/-- 'laws.FnExactContent', WHERE WHAT IT READS IS OF BULK AT MOST 1048576: true; the input reads as it did. -/
def fnExactContentUptoRow : OpenClaim := { program := "ytbjejnkeekndbaa", sum := "394f8263f5b4ecd45fbdc9b346e935008c049409028efe3285441665266535d4", func := "loop.example/g00336/laws.FnExactContent", spec := "fnExactContent", plainKeys := false, apart := false, narrowed := true }
def FnExactContentUptoSaid : Prop := fnExactContentUptoRow.holds Try.pinned (OpenSpec.upto fnExactContentSpec)

/-- 'laws.FnExactMerged', WHERE WHAT IT READS IS OF BULK AT MOST 1048576: true; the input reads as it did. -/
def fnExactMergedUptoRow : OpenClaim := { program := "ytbjejnkeekndbaa", sum := "394f8263f5b4ecd45fbdc9b346e935008c049409028efe3285441665266535d4", func := "loop.example/g00336/laws.FnExactMerged", spec := "fnExactMerged", unfollowed := true, recurses := true, plainKeys := false, apart := false, narrowed := true }
def FnExactMergedUptoSaid : Prop := fnExactMergedUptoRow.holds Try.pinned (OpenSpec.upto fnExactMergedSpec)

/-- 'laws.FnExactFlushed', WHERE WHAT IT READS IS OF BULK AT MOST 1048576: true; the input reads as it did. -/
def fnExactFlushedUptoRow : OpenClaim := { program := "ytbjejnkeekndbaa", sum := "394f8263f5b4ecd45fbdc9b346e935008c049409028efe3285441665266535d4", func := "loop.example/g00336/laws.FnExactFlushed", spec := "fnExactFlushed", unfollowed := true, recurses := true, plainKeys := false, apart := false, narrowed := true }
def FnExactFlushedUptoSaid : Prop := fnExactFlushedUptoRow.holds Try.pinned (OpenSpec.upto fnExactFlushedSpec)

/-- 'laws.FnExactOpOk', WHERE WHAT IT READS IS OF BULK AT MOST 1048576: true; the input reads as it did. -/
def fnExactOpOkUptoRow : OpenClaim := { program := "ytbjejnkeekndbaa", sum := "394f8263f5b4ecd45fbdc9b346e935008c049409028efe3285441665266535d4", func := "loop.example/g00336/laws.FnExactOpOk", spec := "fnExactOpOk", plainKeys := false, apart := false, narrowed := true }
def FnExactOpOkUptoSaid : Prop := fnExactOpOkUptoRow.holds Try.pinned (OpenSpec.upto fnExactOpOkSpec)

end Rows
end Go.Proofs.Ytbjejnkeekndbaa
