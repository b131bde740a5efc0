/-
  No cell of these rows narrows 'for every input' (looked for: loops, veiled, ifaces, maps, wideKeys, modest, calm, conditions, laid).
  DERIVED. THE GIVEN ROWS OF THIS SEAT. 28 by the template 'for every input the law returns true; each argument reads behind the call as it read before'; 0 by the template 'total and deterministic' (their statements: YtbmkedickkpjjaaTotals.lean).
  GIVEN WITH THE SEED: the statements are not yours to turn. If you find one false, say at which input.
  Laid BY PROGRAM, IN A SANDBOX (cutbox-rows.mjs): the forced cells as the released guide's own fill.sh prints them over the translation a361907ef957bf7c… (all of the seat's roots in one cut). By AI agents, Wed Nov 11 2026. No macro, syntax, notation, axiom, sorry.
-/
import Derived.Test.YtbmkedickkpjjaaChecked
import GoSem.Claim
import GoSem.ClaimJoined
import GoSem.ClaimMapViews
import Derived.JoinedTies
import Derived.KernelRfl
namespace Go.Proofs.Ytbmkedickkpjjaa
/- THE CELL 'sum', in the pinned program and in every row, IS THE sha256 OF THE DUMP (.gsa) THAT YtbmkedickkpjjaaProg.lean LOADS. Nothing in Lean hashes anything: it is a label: what it is worth is what the hold of that sum in a sandbox is worth. -/
noncomputable def Try.pinned : Pinned := { name := "ytbmkedickkpjjaa", sum := "a361907ef957bf7cf111c32c6586ba163c2a2d1529b1f3fa394cb7fc87a3a738", checked := Try.checked }
namespace Rows
def none {H : Type} : Left H := { results := [], args := [] }

/-- 'laws.FnPlaced': WHATEVER THE INPUT: true; the input reads as it did. -/
def fnPlacedSpec : ChangeSpec := { name := "fnPlaced", fn := fun _ => fun
  | [d] => { results := [.lit (.bool true)], args := [d] }
  | _ => none }
def fnPlacedRow : OpenClaim := { program := "ytbmkedickkpjjaa", sum := "a361907ef957bf7cf111c32c6586ba163c2a2d1529b1f3fa394cb7fc87a3a738", func := "loop.example/g00336/laws.FnPlaced", spec := "fnPlaced", unfollowed := true, recurses := true, plainKeys := false, apart := false }
def FnPlacedSaid : Prop := fnPlacedRow.holds Try.pinned (OpenSpec.ofChange fnPlacedSpec)

/-- ITS FALSE NEIGHBOUR: 'it returns false'. Refute it at one input. -/
def fnPlacedWrong : ChangeSpec := { name := "fnPlaced", fn := fun _ => fun
  | [d] => { results := [.lit (.bool false)], args := [d] }
  | _ => none }
def FnPlacedWrongFalsely : Prop := fnPlacedRow.holds Try.pinned (OpenSpec.ofChange fnPlacedWrong)

/-- 'laws.FnLifted': WHATEVER THE INPUT: true; the input reads as it did. -/
def fnLiftedSpec : ChangeSpec := { name := "fnLifted", fn := fun _ => fun
  | [d] => { results := [.lit (.bool true)], args := [d] }
  | _ => none }
def fnLiftedRow : OpenClaim := { program := "ytbmkedickkpjjaa", sum := "a361907ef957bf7cf111c32c6586ba163c2a2d1529b1f3fa394cb7fc87a3a738", func := "loop.example/g00336/laws.FnLifted", spec := "fnLifted", unfollowed := true, recurses := true, plainKeys := false, apart := false }
def FnLiftedSaid : Prop := fnLiftedRow.holds Try.pinned (OpenSpec.ofChange fnLiftedSpec)

/-- ITS FALSE NEIGHBOUR: 'it returns false'. Refute it at one input. -/
def fnLiftedWrong : ChangeSpec := { name := "fnLifted", fn := fun _ => fun
  | [d] => { results := [.lit (.bool false)], args := [d] }
  | _ => none }
def FnLiftedWrongFalsely : Prop := fnLiftedRow.holds Try.pinned (OpenSpec.ofChange fnLiftedWrong)

/-- 'laws.FnSliced': WHATEVER THE INPUT: true; the input reads as it did. -/
def fnSlicedSpec : ChangeSpec := { name := "fnSliced", fn := fun _ => fun
  | [d] => { results := [.lit (.bool true)], args := [d] }
  | _ => none }
def fnSlicedRow : OpenClaim := { program := "ytbmkedickkpjjaa", sum := "a361907ef957bf7cf111c32c6586ba163c2a2d1529b1f3fa394cb7fc87a3a738", func := "loop.example/g00336/laws.FnSliced", spec := "fnSliced", plainKeys := false, apart := false }
def FnSlicedSaid : Prop := fnSlicedRow.holds Try.pinned (OpenSpec.ofChange fnSlicedSpec)

/-- ITS FALSE NEIGHBOUR: 'it returns false'. Refute it at one input. -/
def fnSlicedWrong : ChangeSpec := { name := "fnSliced", fn := fun _ => fun
  | [d] => { results := [.lit (.bool false)], args := [d] }
  | _ => none }
def FnSlicedWrongFalsely : Prop := fnSlicedRow.holds Try.pinned (OpenSpec.ofChange fnSlicedWrong)

/-- 'laws.FnJoined': WHATEVER THE INPUT: true; the input reads as it did. -/
def fnJoinedSpec : ChangeSpec := { name := "fnJoined", fn := fun _ => fun
  | [d] => { results := [.lit (.bool true)], args := [d] }
  | _ => none }
def fnJoinedRow : OpenClaim := { program := "ytbmkedickkpjjaa", sum := "a361907ef957bf7cf111c32c6586ba163c2a2d1529b1f3fa394cb7fc87a3a738", func := "loop.example/g00336/laws.FnJoined", spec := "fnJoined", plainKeys := false, apart := false }
def FnJoinedSaid : Prop := fnJoinedRow.holds Try.pinned (OpenSpec.ofChange fnJoinedSpec)

/-- ITS FALSE NEIGHBOUR: 'it returns false'. Refute it at one input. -/
def fnJoinedWrong : ChangeSpec := { name := "fnJoined", fn := fun _ => fun
  | [d] => { results := [.lit (.bool false)], args := [d] }
  | _ => none }
def FnJoinedWrongFalsely : Prop := fnJoinedRow.holds Try.pinned (OpenSpec.ofChange fnJoinedWrong)

/-- 'laws.FnLaidParts': WHATEVER THE INPUT: true; the input reads as it did. -/
def fnLaidPartsSpec : ChangeSpec := { name := "fnLaidParts", fn := fun _ => fun
  | [d] => { results := [.lit (.bool true)], args := [d] }
  | _ => none }
def fnLaidPartsRow : OpenClaim := { program := "ytbmkedickkpjjaa", sum := "a361907ef957bf7cf111c32c6586ba163c2a2d1529b1f3fa394cb7fc87a3a738", func := "loop.example/g00336/laws.FnLaidParts", spec := "fnLaidParts", plainKeys := false, apart := false }
def FnLaidPartsSaid : Prop := fnLaidPartsRow.holds Try.pinned (OpenSpec.ofChange fnLaidPartsSpec)

/-- ITS FALSE NEIGHBOUR: 'it returns false'. Refute it at one input. -/
def fnLaidPartsWrong : ChangeSpec := { name := "fnLaidParts", fn := fun _ => fun
  | [d] => { results := [.lit (.bool false)], args := [d] }
  | _ => none }
def FnLaidPartsWrongFalsely : Prop := fnLaidPartsRow.holds Try.pinned (OpenSpec.ofChange fnLaidPartsWrong)

/-- 'laws.FnContent': WHATEVER THE INPUT: true; the input reads as it did. -/
def fnContentSpec : ChangeSpec := { name := "fnContent", fn := fun _ => fun
  | [d] => { results := [.lit (.bool true)], args := [d] }
  | _ => none }
def fnContentRow : OpenClaim := { program := "ytbmkedickkpjjaa", sum := "a361907ef957bf7cf111c32c6586ba163c2a2d1529b1f3fa394cb7fc87a3a738", func := "loop.example/g00336/laws.FnContent", spec := "fnContent", plainKeys := false, apart := false }
def FnContentSaid : Prop := fnContentRow.holds Try.pinned (OpenSpec.ofChange fnContentSpec)

/-- ITS FALSE NEIGHBOUR: 'it returns false'. Refute it at one input. -/
def fnContentWrong : ChangeSpec := { name := "fnContent", fn := fun _ => fun
  | [d] => { results := [.lit (.bool false)], args := [d] }
  | _ => none }
def FnContentWrongFalsely : Prop := fnContentRow.holds Try.pinned (OpenSpec.ofChange fnContentWrong)

/-- 'laws.FnMerged': WHATEVER THE INPUT: true; the input reads as it did. -/
def fnMergedSpec : ChangeSpec := { name := "fnMerged", fn := fun _ => fun
  | [d] => { results := [.lit (.bool true)], args := [d] }
  | _ => none }
def fnMergedRow : OpenClaim := { program := "ytbmkedickkpjjaa", sum := "a361907ef957bf7cf111c32c6586ba163c2a2d1529b1f3fa394cb7fc87a3a738", func := "loop.example/g00336/laws.FnMerged", spec := "fnMerged", unfollowed := true, recurses := true, plainKeys := false, apart := false }
def FnMergedSaid : Prop := fnMergedRow.holds Try.pinned (OpenSpec.ofChange fnMergedSpec)

/-- ITS FALSE NEIGHBOUR: 'it returns false'. Refute it at one input. -/
def fnMergedWrong : ChangeSpec := { name := "fnMerged", fn := fun _ => fun
  | [d] => { results := [.lit (.bool false)], args := [d] }
  | _ => none }
def FnMergedWrongFalsely : Prop := fnMergedRow.holds Try.pinned (OpenSpec.ofChange fnMergedWrong)

/-- 'laws.FnFlushed': WHATEVER THE INPUT: true; the input reads as it did. -/
def fnFlushedSpec : ChangeSpec := { name := "fnFlushed", fn := fun _ => fun
  | [d] => { results := [.lit (.bool true)], args := [d] }
  | _ => none }
def fnFlushedRow : OpenClaim := { program := "ytbmkedickkpjjaa", sum := "a361907ef957bf7cf111c32c6586ba163c2a2d1529b1f3fa394cb7fc87a3a738", func := "loop.example/g00336/laws.FnFlushed", spec := "fnFlushed", unfollowed := true, recurses := true, plainKeys := false, apart := false }
def FnFlushedSaid : Prop := fnFlushedRow.holds Try.pinned (OpenSpec.ofChange fnFlushedSpec)

/-- ITS FALSE NEIGHBOUR: 'it returns false'. Refute it at one input. -/
def fnFlushedWrong : ChangeSpec := { name := "fnFlushed", fn := fun _ => fun
  | [d] => { results := [.lit (.bool false)], args := [d] }
  | _ => none }
def FnFlushedWrongFalsely : Prop := fnFlushedRow.holds Try.pinned (OpenSpec.ofChange fnFlushedWrong)

/-- 'laws.FnOwners': WHATEVER THE INPUT: true; the input reads as it did. -/
def fnOwnersSpec : ChangeSpec := { name := "fnOwners", fn := fun _ => fun
  | [d] => { results := [.lit (.bool true)], args := [d] }
  | _ => none }
def fnOwnersRow : OpenClaim := { program := "ytbmkedickkpjjaa", sum := "a361907ef957bf7cf111c32c6586ba163c2a2d1529b1f3fa394cb7fc87a3a738", func := "loop.example/g00336/laws.FnOwners", spec := "fnOwners", plainKeys := false, apart := false }
def FnOwnersSaid : Prop := fnOwnersRow.holds Try.pinned (OpenSpec.ofChange fnOwnersSpec)

/-- ITS FALSE NEIGHBOUR: 'it returns false'. Refute it at one input. -/
def fnOwnersWrong : ChangeSpec := { name := "fnOwners", fn := fun _ => fun
  | [d] => { results := [.lit (.bool false)], args := [d] }
  | _ => none }
def FnOwnersWrongFalsely : Prop := fnOwnersRow.holds Try.pinned (OpenSpec.ofChange fnOwnersWrong)

/-- 'laws.FnPoolNew': WHATEVER THE INPUT: true; the input reads as it did. -/
def fnPoolNewSpec : ChangeSpec := { name := "fnPoolNew", fn := fun _ => fun
  | [d] => { results := [.lit (.bool true)], args := [d] }
  | _ => none }
def fnPoolNewRow : OpenClaim := { program := "ytbmkedickkpjjaa", sum := "a361907ef957bf7cf111c32c6586ba163c2a2d1529b1f3fa394cb7fc87a3a738", func := "loop.example/g00336/laws.FnPoolNew", spec := "fnPoolNew", unfollowed := true, recurses := true, plainKeys := false, apart := false }
def FnPoolNewSaid : Prop := fnPoolNewRow.holds Try.pinned (OpenSpec.ofChange fnPoolNewSpec)

/-- ITS FALSE NEIGHBOUR: 'it returns false'. Refute it at one input. -/
def fnPoolNewWrong : ChangeSpec := { name := "fnPoolNew", fn := fun _ => fun
  | [d] => { results := [.lit (.bool false)], args := [d] }
  | _ => none }
def FnPoolNewWrongFalsely : Prop := fnPoolNewRow.holds Try.pinned (OpenSpec.ofChange fnPoolNewWrong)

/-- 'laws.FnExactSpaceOk': WHATEVER THE INPUT: true; the input reads as it did. -/
def fnExactSpaceOkSpec : ChangeSpec := { name := "fnExactSpaceOk", fn := fun _ => fun
  | [d1, d2] => { results := [.lit (.bool true)], args := [d1, d2] }
  | _ => none }
def fnExactSpaceOkRow : OpenClaim := { program := "ytbmkedickkpjjaa", sum := "a361907ef957bf7cf111c32c6586ba163c2a2d1529b1f3fa394cb7fc87a3a738", func := "loop.example/g00336/laws.FnExactSpaceOk", spec := "fnExactSpaceOk", plainKeys := false, apart := false }
def FnExactSpaceOkSaid : Prop := fnExactSpaceOkRow.holds Try.pinned (OpenSpec.ofChange fnExactSpaceOkSpec)

/-- ITS FALSE NEIGHBOUR: 'it returns false'. Refute it at one input. -/
def fnExactSpaceOkWrong : ChangeSpec := { name := "fnExactSpaceOk", fn := fun _ => fun
  | [d1, d2] => { results := [.lit (.bool false)], args := [d1, d2] }
  | _ => none }
def FnExactSpaceOkWrongFalsely : Prop := fnExactSpaceOkRow.holds Try.pinned (OpenSpec.ofChange fnExactSpaceOkWrong)

/-- 'laws.FnExactRoomOf': WHATEVER THE INPUT: true; the input reads as it did. -/
def fnExactRoomOfSpec : ChangeSpec := { name := "fnExactRoomOf", fn := fun _ => fun
  | [d1, d2] => { results := [.lit (.bool true)], args := [d1, d2] }
  | _ => none }
def fnExactRoomOfRow : OpenClaim := { program := "ytbmkedickkpjjaa", sum := "a361907ef957bf7cf111c32c6586ba163c2a2d1529b1f3fa394cb7fc87a3a738", func := "loop.example/g00336/laws.FnExactRoomOf", spec := "fnExactRoomOf", unfollowed := true, recurses := true, plainKeys := false, apart := false }
def FnExactRoomOfSaid : Prop := fnExactRoomOfRow.holds Try.pinned (OpenSpec.ofChange fnExactRoomOfSpec)

/-- ITS FALSE NEIGHBOUR: 'it returns false'. Refute it at one input. -/
def fnExactRoomOfWrong : ChangeSpec := { name := "fnExactRoomOf", fn := fun _ => fun
  | [d1, d2] => { results := [.lit (.bool false)], args := [d1, d2] }
  | _ => none }
def FnExactRoomOfWrongFalsely : Prop := fnExactRoomOfRow.holds Try.pinned (OpenSpec.ofChange fnExactRoomOfWrong)

/-- 'laws.FnExactGapsOf': WHATEVER THE INPUT: true; the input reads as it did. -/
def fnExactGapsOfSpec : ChangeSpec := { name := "fnExactGapsOf", fn := fun _ => fun
  | [d1, d2] => { results := [.lit (.bool true)], args := [d1, d2] }
  | _ => none }
def fnExactGapsOfRow : OpenClaim := { program := "ytbmkedickkpjjaa", sum := "a361907ef957bf7cf111c32c6586ba163c2a2d1529b1f3fa394cb7fc87a3a738", func := "loop.example/g00336/laws.FnExactGapsOf", spec := "fnExactGapsOf", unfollowed := true, recurses := true, plainKeys := false, apart := false }
def FnExactGapsOfSaid : Prop := fnExactGapsOfRow.holds Try.pinned (OpenSpec.ofChange fnExactGapsOfSpec)

/-- ITS FALSE NEIGHBOUR: 'it returns false'. Refute it at one input. -/
def fnExactGapsOfWrong : ChangeSpec := { name := "fnExactGapsOf", fn := fun _ => fun
  | [d1, d2] => { results := [.lit (.bool false)], args := [d1, d2] }
  | _ => none }
def FnExactGapsOfWrongFalsely : Prop := fnExactGapsOfRow.holds Try.pinned (OpenSpec.ofChange fnExactGapsOfWrong)

/-- 'laws.FnExactPlaced': WHATEVER THE INPUT: true; the input reads as it did. -/
def fnExactPlacedSpec : ChangeSpec := { name := "fnExactPlaced", fn := fun _ => fun
  | [d1, d2, d3] => { results := [.lit (.bool true)], args := [d1, d2, d3] }
  | _ => none }
def fnExactPlacedRow : OpenClaim := { program := "ytbmkedickkpjjaa", sum := "a361907ef957bf7cf111c32c6586ba163c2a2d1529b1f3fa394cb7fc87a3a738", func := "loop.example/g00336/laws.FnExactPlaced", spec := "fnExactPlaced", unfollowed := true, recurses := true, plainKeys := false, apart := false }
def FnExactPlacedSaid : Prop := fnExactPlacedRow.holds Try.pinned (OpenSpec.ofChange fnExactPlacedSpec)

/-- ITS FALSE NEIGHBOUR: 'it returns false'. Refute it at one input. -/
def fnExactPlacedWrong : ChangeSpec := { name := "fnExactPlaced", fn := fun _ => fun
  | [d1, d2, d3] => { results := [.lit (.bool false)], args := [d1, d2, d3] }
  | _ => none }
def FnExactPlacedWrongFalsely : Prop := fnExactPlacedRow.holds Try.pinned (OpenSpec.ofChange fnExactPlacedWrong)

/-- 'laws.FnExactLifted': WHATEVER THE INPUT: true; the input reads as it did. -/
def fnExactLiftedSpec : ChangeSpec := { name := "fnExactLifted", fn := fun _ => fun
  | [d1, d2, d3] => { results := [.lit (.bool true)], args := [d1, d2, d3] }
  | _ => none }
def fnExactLiftedRow : OpenClaim := { program := "ytbmkedickkpjjaa", sum := "a361907ef957bf7cf111c32c6586ba163c2a2d1529b1f3fa394cb7fc87a3a738", func := "loop.example/g00336/laws.FnExactLifted", spec := "fnExactLifted", plainKeys := false, apart := false }
def FnExactLiftedSaid : Prop := fnExactLiftedRow.holds Try.pinned (OpenSpec.ofChange fnExactLiftedSpec)

/-- ITS FALSE NEIGHBOUR: 'it returns false'. Refute it at one input. -/
def fnExactLiftedWrong : ChangeSpec := { name := "fnExactLifted", fn := fun _ => fun
  | [d1, d2, d3] => { results := [.lit (.bool false)], args := [d1, d2, d3] }
  | _ => none }
def FnExactLiftedWrongFalsely : Prop := fnExactLiftedRow.holds Try.pinned (OpenSpec.ofChange fnExactLiftedWrong)

/-- 'laws.FnExactPartsOk': WHATEVER THE INPUT: true; the input reads as it did. -/
def fnExactPartsOkSpec : ChangeSpec := { name := "fnExactPartsOk", fn := fun _ => fun
  | [d] => { results := [.lit (.bool true)], args := [d] }
  | _ => none }
def fnExactPartsOkRow : OpenClaim := { program := "ytbmkedickkpjjaa", sum := "a361907ef957bf7cf111c32c6586ba163c2a2d1529b1f3fa394cb7fc87a3a738", func := "loop.example/g00336/laws.FnExactPartsOk", spec := "fnExactPartsOk", plainKeys := false, apart := false }
def FnExactPartsOkSaid : Prop := fnExactPartsOkRow.holds Try.pinned (OpenSpec.ofChange fnExactPartsOkSpec)

/-- ITS FALSE NEIGHBOUR: 'it returns false'. Refute it at one input. -/
def fnExactPartsOkWrong : ChangeSpec := { name := "fnExactPartsOk", fn := fun _ => fun
  | [d] => { results := [.lit (.bool false)], args := [d] }
  | _ => none }
def FnExactPartsOkWrongFalsely : Prop := fnExactPartsOkRow.holds Try.pinned (OpenSpec.ofChange fnExactPartsOkWrong)

/-- 'laws.FnExactLenOf': WHATEVER THE INPUT: true; the input reads as it did. -/
def fnExactLenOfSpec : ChangeSpec := { name := "fnExactLenOf", fn := fun _ => fun
  | [d] => { results := [.lit (.bool true)], args := [d] }
  | _ => none }
def fnExactLenOfRow : OpenClaim := { program := "ytbmkedickkpjjaa", sum := "a361907ef957bf7cf111c32c6586ba163c2a2d1529b1f3fa394cb7fc87a3a738", func := "loop.example/g00336/laws.FnExactLenOf", spec := "fnExactLenOf", plainKeys := false, apart := false }
def FnExactLenOfSaid : Prop := fnExactLenOfRow.holds Try.pinned (OpenSpec.ofChange fnExactLenOfSpec)

/-- ITS FALSE NEIGHBOUR: 'it returns false'. Refute it at one input. -/
def fnExactLenOfWrong : ChangeSpec := { name := "fnExactLenOf", fn := fun _ => fun
  | [d] => { results := [.lit (.bool false)], args := [d] }
  | _ => none }
def FnExactLenOfWrongFalsely : Prop := fnExactLenOfRow.holds Try.pinned (OpenSpec.ofChange fnExactLenOfWrong)

/-- 'laws.FnExactSlice': WHATEVER THE INPUT: true; the input reads as it did. -/
def fnExactSliceSpec : ChangeSpec := { name := "fnExactSlice", fn := fun _ => fun
  | [d1, d2, d3] => { results := [.lit (.bool true)], args := [d1, d2, d3] }
  | _ => none }
def fnExactSliceRow : OpenClaim := { program := "ytbmkedickkpjjaa", sum := "a361907ef957bf7cf111c32c6586ba163c2a2d1529b1f3fa394cb7fc87a3a738", func := "loop.example/g00336/laws.FnExactSlice", spec := "fnExactSlice", plainKeys := false, apart := false }
def FnExactSliceSaid : Prop := fnExactSliceRow.holds Try.pinned (OpenSpec.ofChange fnExactSliceSpec)

/-- ITS FALSE NEIGHBOUR: 'it returns false'. Refute it at one input. -/
def fnExactSliceWrong : ChangeSpec := { name := "fnExactSlice", fn := fun _ => fun
  | [d1, d2, d3] => { results := [.lit (.bool false)], args := [d1, d2, d3] }
  | _ => none }
def FnExactSliceWrongFalsely : Prop := fnExactSliceRow.holds Try.pinned (OpenSpec.ofChange fnExactSliceWrong)

/-- 'laws.FnExactJoined': WHATEVER THE INPUT: true; the input reads as it did. -/
def fnExactJoinedSpec : ChangeSpec := { name := "fnExactJoined", fn := fun _ => fun
  | [d1, d2] => { results := [.lit (.bool true)], args := [d1, d2] }
  | _ => none }
def fnExactJoinedRow : OpenClaim := { program := "ytbmkedickkpjjaa", sum := "a361907ef957bf7cf111c32c6586ba163c2a2d1529b1f3fa394cb7fc87a3a738", func := "loop.example/g00336/laws.FnExactJoined", spec := "fnExactJoined", plainKeys := false, apart := false }
def FnExactJoinedSaid : Prop := fnExactJoinedRow.holds Try.pinned (OpenSpec.ofChange fnExactJoinedSpec)

/-- ITS FALSE NEIGHBOUR: 'it returns false'. Refute it at one input. -/
def fnExactJoinedWrong : ChangeSpec := { name := "fnExactJoined", fn := fun _ => fun
  | [d1, d2] => { results := [.lit (.bool false)], args := [d1, d2] }
  | _ => none }
def FnExactJoinedWrongFalsely : Prop := fnExactJoinedRow.holds Try.pinned (OpenSpec.ofChange fnExactJoinedWrong)

/-- 'laws.FnExactLaid': WHATEVER THE INPUT: true; the input reads as it did. -/
def fnExactLaidSpec : ChangeSpec := { name := "fnExactLaid", fn := fun _ => fun
  | [d1, d2, d3] => { results := [.lit (.bool true)], args := [d1, d2, d3] }
  | _ => none }
def fnExactLaidRow : OpenClaim := { program := "ytbmkedickkpjjaa", sum := "a361907ef957bf7cf111c32c6586ba163c2a2d1529b1f3fa394cb7fc87a3a738", func := "loop.example/g00336/laws.FnExactLaid", spec := "fnExactLaid", plainKeys := false, apart := false }
def FnExactLaidSaid : Prop := fnExactLaidRow.holds Try.pinned (OpenSpec.ofChange fnExactLaidSpec)

/-- ITS FALSE NEIGHBOUR: 'it returns false'. Refute it at one input. -/
def fnExactLaidWrong : ChangeSpec := { name := "fnExactLaid", fn := fun _ => fun
  | [d1, d2, d3] => { results := [.lit (.bool false)], args := [d1, d2, d3] }
  | _ => none }
def FnExactLaidWrongFalsely : Prop := fnExactLaidRow.holds Try.pinned (OpenSpec.ofChange fnExactLaidWrong)

/-- 'laws.FnExactContent': WHATEVER THE INPUT: true; the input reads as it did. -/
def fnExactContentSpec : ChangeSpec := { name := "fnExactContent", fn := fun _ => fun
  | [d1, d2] => { results := [.lit (.bool true)], args := [d1, d2] }
  | _ => none }
def fnExactContentRow : OpenClaim := { program := "ytbmkedickkpjjaa", sum := "a361907ef957bf7cf111c32c6586ba163c2a2d1529b1f3fa394cb7fc87a3a738", func := "loop.example/g00336/laws.FnExactContent", spec := "fnExactContent", plainKeys := false, apart := false }
def FnExactContentSaid : Prop := fnExactContentRow.holds Try.pinned (OpenSpec.ofChange fnExactContentSpec)

/-- ITS FALSE NEIGHBOUR: 'it returns false'. Refute it at one input. -/
def fnExactContentWrong : ChangeSpec := { name := "fnExactContent", fn := fun _ => fun
  | [d1, d2] => { results := [.lit (.bool false)], args := [d1, d2] }
  | _ => none }
def FnExactContentWrongFalsely : Prop := fnExactContentRow.holds Try.pinned (OpenSpec.ofChange fnExactContentWrong)

/-- 'laws.FnExactOwnerAhead': WHATEVER THE INPUT: true; the input reads as it did. -/
def fnExactOwnerAheadSpec : ChangeSpec := { name := "fnExactOwnerAhead", fn := fun _ => fun
  | [d1, d2] => { results := [.lit (.bool true)], args := [d1, d2] }
  | _ => none }
def fnExactOwnerAheadRow : OpenClaim := { program := "ytbmkedickkpjjaa", sum := "a361907ef957bf7cf111c32c6586ba163c2a2d1529b1f3fa394cb7fc87a3a738", func := "loop.example/g00336/laws.FnExactOwnerAhead", spec := "fnExactOwnerAhead", plainKeys := false, apart := false }
def FnExactOwnerAheadSaid : Prop := fnExactOwnerAheadRow.holds Try.pinned (OpenSpec.ofChange fnExactOwnerAheadSpec)

/-- ITS FALSE NEIGHBOUR: 'it returns false'. Refute it at one input. -/
def fnExactOwnerAheadWrong : ChangeSpec := { name := "fnExactOwnerAhead", fn := fun _ => fun
  | [d1, d2] => { results := [.lit (.bool false)], args := [d1, d2] }
  | _ => none }
def FnExactOwnerAheadWrongFalsely : Prop := fnExactOwnerAheadRow.holds Try.pinned (OpenSpec.ofChange fnExactOwnerAheadWrong)

/-- 'laws.FnExactRefsOk': WHATEVER THE INPUT: true; the input reads as it did. -/
def fnExactRefsOkSpec : ChangeSpec := { name := "fnExactRefsOk", fn := fun _ => fun
  | [d] => { results := [.lit (.bool true)], args := [d] }
  | _ => none }
def fnExactRefsOkRow : OpenClaim := { program := "ytbmkedickkpjjaa", sum := "a361907ef957bf7cf111c32c6586ba163c2a2d1529b1f3fa394cb7fc87a3a738", func := "loop.example/g00336/laws.FnExactRefsOk", spec := "fnExactRefsOk", plainKeys := false, apart := false }
def FnExactRefsOkSaid : Prop := fnExactRefsOkRow.holds Try.pinned (OpenSpec.ofChange fnExactRefsOkSpec)

/-- ITS FALSE NEIGHBOUR: 'it returns false'. Refute it at one input. -/
def fnExactRefsOkWrong : ChangeSpec := { name := "fnExactRefsOk", fn := fun _ => fun
  | [d] => { results := [.lit (.bool false)], args := [d] }
  | _ => none }
def FnExactRefsOkWrongFalsely : Prop := fnExactRefsOkRow.holds Try.pinned (OpenSpec.ofChange fnExactRefsOkWrong)

/-- 'laws.FnExactLateOk': WHATEVER THE INPUT: true; the input reads as it did. -/
def fnExactLateOkSpec : ChangeSpec := { name := "fnExactLateOk", fn := fun _ => fun
  | [d] => { results := [.lit (.bool true)], args := [d] }
  | _ => none }
def fnExactLateOkRow : OpenClaim := { program := "ytbmkedickkpjjaa", sum := "a361907ef957bf7cf111c32c6586ba163c2a2d1529b1f3fa394cb7fc87a3a738", func := "loop.example/g00336/laws.FnExactLateOk", spec := "fnExactLateOk", plainKeys := false, apart := false }
def FnExactLateOkSaid : Prop := fnExactLateOkRow.holds Try.pinned (OpenSpec.ofChange fnExactLateOkSpec)

/-- ITS FALSE NEIGHBOUR: 'it returns false'. Refute it at one input. -/
def fnExactLateOkWrong : ChangeSpec := { name := "fnExactLateOk", fn := fun _ => fun
  | [d] => { results := [.lit (.bool false)], args := [d] }
  | _ => none }
def FnExactLateOkWrongFalsely : Prop := fnExactLateOkRow.holds Try.pinned (OpenSpec.ofChange fnExactLateOkWrong)

/-- 'laws.FnExactMerged': WHATEVER THE INPUT: true; the input reads as it did. -/
def fnExactMergedSpec : ChangeSpec := { name := "fnExactMerged", fn := fun _ => fun
  | [d] => { results := [.lit (.bool true)], args := [d] }
  | _ => none }
def fnExactMergedRow : OpenClaim := { program := "ytbmkedickkpjjaa", sum := "a361907ef957bf7cf111c32c6586ba163c2a2d1529b1f3fa394cb7fc87a3a738", func := "loop.example/g00336/laws.FnExactMerged", spec := "fnExactMerged", unfollowed := true, recurses := true, plainKeys := false, apart := false }
def FnExactMergedSaid : Prop := fnExactMergedRow.holds Try.pinned (OpenSpec.ofChange fnExactMergedSpec)

/-- ITS FALSE NEIGHBOUR: 'it returns false'. Refute it at one input. -/
def fnExactMergedWrong : ChangeSpec := { name := "fnExactMerged", fn := fun _ => fun
  | [d] => { results := [.lit (.bool false)], args := [d] }
  | _ => none }
def FnExactMergedWrongFalsely : Prop := fnExactMergedRow.holds Try.pinned (OpenSpec.ofChange fnExactMergedWrong)

/-- 'laws.FnExactFlushed': WHATEVER THE INPUT: true; the input reads as it did. -/
def fnExactFlushedSpec : ChangeSpec := { name := "fnExactFlushed", fn := fun _ => fun
  | [d1, d2] => { results := [.lit (.bool true)], args := [d1, d2] }
  | _ => none }
def fnExactFlushedRow : OpenClaim := { program := "ytbmkedickkpjjaa", sum := "a361907ef957bf7cf111c32c6586ba163c2a2d1529b1f3fa394cb7fc87a3a738", func := "loop.example/g00336/laws.FnExactFlushed", spec := "fnExactFlushed", unfollowed := true, recurses := true, plainKeys := false, apart := false }
def FnExactFlushedSaid : Prop := fnExactFlushedRow.holds Try.pinned (OpenSpec.ofChange fnExactFlushedSpec)

/-- ITS FALSE NEIGHBOUR: 'it returns false'. Refute it at one input. -/
def fnExactFlushedWrong : ChangeSpec := { name := "fnExactFlushed", fn := fun _ => fun
  | [d1, d2] => { results := [.lit (.bool false)], args := [d1, d2] }
  | _ => none }
def FnExactFlushedWrongFalsely : Prop := fnExactFlushedRow.holds Try.pinned (OpenSpec.ofChange fnExactFlushedWrong)

/-- 'laws.FnExactNameOk': WHATEVER THE INPUT: true; the input reads as it did. -/
def fnExactNameOkSpec : ChangeSpec := { name := "fnExactNameOk", fn := fun _ => fun
  | [d] => { results := [.lit (.bool true)], args := [d] }
  | _ => none }
def fnExactNameOkRow : OpenClaim := { program := "ytbmkedickkpjjaa", sum := "a361907ef957bf7cf111c32c6586ba163c2a2d1529b1f3fa394cb7fc87a3a738", func := "loop.example/g00336/laws.FnExactNameOk", spec := "fnExactNameOk", plainKeys := false, apart := false }
def FnExactNameOkSaid : Prop := fnExactNameOkRow.holds Try.pinned (OpenSpec.ofChange fnExactNameOkSpec)

/-- ITS FALSE NEIGHBOUR: 'it returns false'. Refute it at one input. -/
def fnExactNameOkWrong : ChangeSpec := { name := "fnExactNameOk", fn := fun _ => fun
  | [d] => { results := [.lit (.bool false)], args := [d] }
  | _ => none }
def FnExactNameOkWrongFalsely : Prop := fnExactNameOkRow.holds Try.pinned (OpenSpec.ofChange fnExactNameOkWrong)

/-- 'laws.FnExactPoolNew': WHATEVER THE INPUT: true; the input reads as it did. -/
def fnExactPoolNewSpec : ChangeSpec := { name := "fnExactPoolNew", fn := fun _ => fun
  | [d] => { results := [.lit (.bool true)], args := [d] }
  | _ => none }
def fnExactPoolNewRow : OpenClaim := { program := "ytbmkedickkpjjaa", sum := "a361907ef957bf7cf111c32c6586ba163c2a2d1529b1f3fa394cb7fc87a3a738", func := "loop.example/g00336/laws.FnExactPoolNew", spec := "fnExactPoolNew", plainKeys := false, apart := false }
def FnExactPoolNewSaid : Prop := fnExactPoolNewRow.holds Try.pinned (OpenSpec.ofChange fnExactPoolNewSpec)

/-- ITS FALSE NEIGHBOUR: 'it returns false'. Refute it at one input. -/
def fnExactPoolNewWrong : ChangeSpec := { name := "fnExactPoolNew", fn := fun _ => fun
  | [d] => { results := [.lit (.bool false)], args := [d] }
  | _ => none }
def FnExactPoolNewWrongFalsely : Prop := fnExactPoolNewRow.holds Try.pinned (OpenSpec.ofChange fnExactPoolNewWrong)

/- THE SECOND FORM. 'bulk': how many values and letters a reading holds, each counted each time it is reached (what is shared counts as often as it is met; a slice's spare places count too). A statement '..UptoSaid' is the law's where the arguments, and the package variables that the reading takes, are together of bulk at most 1048576: NARROWER than '..Said'. Prove '..Said' where nothing that the law and all that it calls make is longer than what came in: it says more and counts as full. Else prove '..UptoSaid'. A law counts once. -/
mutual
def uptoBulk {H : Type} : DataW H → Nat
  | .lit (.string bytes) => bytes.length + 1
  | .lit _ => 1
  | .nil => 1
  | .ptr d => uptoBulk d + 1
  | .slice elems spare => uptoBulkAll elems + uptoBulkAll spare + 1
  | .agg parts => uptoBulkAll parts + 1
  | .iface _ d => uptoBulk d + 1
  | .map entries => uptoBulkEntries entries + 1
  | .held _ => 1
def uptoBulkAll {H : Type} : List (DataW H) → Nat
  | [] => 0
  | d :: r => uptoBulk d + uptoBulkAll r
def uptoBulkEntries {H : Type} : List (Lit × DataW H) → Nat
  | [] => 0
  | x :: r => uptoBulkEntry x + uptoBulkEntries r
def uptoBulkEntry {H : Type} : Lit × DataW H → Nat
  | (.string bytes, d) => bytes.length + uptoBulk d + 1
  | (_, d) => uptoBulk d + 1
 end
def uptoSmall : (H : Type) → List (DataW H) → Bool := fun _ ds => decide (uptoBulkAll ds ≤ 1048576)
def OpenSpec.upto (s : _root_.Go.ChangeSpec) : _root_.Go.OpenSpec := { _root_.Go.OpenSpec.ofChange s with cond := some uptoSmall }

/-- 'laws.FnPlaced', WHERE WHAT IT READS IS OF BULK AT MOST 1048576: true; the input reads as it did. -/
def fnPlacedUptoRow : OpenClaim := { program := "ytbmkedickkpjjaa", sum := "a361907ef957bf7cf111c32c6586ba163c2a2d1529b1f3fa394cb7fc87a3a738", func := "loop.example/g00336/laws.FnPlaced", spec := "fnPlaced", unfollowed := true, recurses := true, plainKeys := false, apart := false, narrowed := true }
def FnPlacedUptoSaid : Prop := fnPlacedUptoRow.holds Try.pinned (OpenSpec.upto fnPlacedSpec)

/-- 'laws.FnLifted', WHERE WHAT IT READS IS OF BULK AT MOST 1048576: true; the input reads as it did. -/
def fnLiftedUptoRow : OpenClaim := { program := "ytbmkedickkpjjaa", sum := "a361907ef957bf7cf111c32c6586ba163c2a2d1529b1f3fa394cb7fc87a3a738", func := "loop.example/g00336/laws.FnLifted", spec := "fnLifted", unfollowed := true, recurses := true, plainKeys := false, apart := false, narrowed := true }
def FnLiftedUptoSaid : Prop := fnLiftedUptoRow.holds Try.pinned (OpenSpec.upto fnLiftedSpec)

/-- 'laws.FnSliced', WHERE WHAT IT READS IS OF BULK AT MOST 1048576: true; the input reads as it did. -/
def fnSlicedUptoRow : OpenClaim := { program := "ytbmkedickkpjjaa", sum := "a361907ef957bf7cf111c32c6586ba163c2a2d1529b1f3fa394cb7fc87a3a738", func := "loop.example/g00336/laws.FnSliced", spec := "fnSliced", plainKeys := false, apart := false, narrowed := true }
def FnSlicedUptoSaid : Prop := fnSlicedUptoRow.holds Try.pinned (OpenSpec.upto fnSlicedSpec)

/-- 'laws.FnJoined', WHERE WHAT IT READS IS OF BULK AT MOST 1048576: true; the input reads as it did. -/
def fnJoinedUptoRow : OpenClaim := { program := "ytbmkedickkpjjaa", sum := "a361907ef957bf7cf111c32c6586ba163c2a2d1529b1f3fa394cb7fc87a3a738", func := "loop.example/g00336/laws.FnJoined", spec := "fnJoined", plainKeys := false, apart := false, narrowed := true }
def FnJoinedUptoSaid : Prop := fnJoinedUptoRow.holds Try.pinned (OpenSpec.upto fnJoinedSpec)

/-- 'laws.FnLaidParts', WHERE WHAT IT READS IS OF BULK AT MOST 1048576: true; the input reads as it did. -/
def fnLaidPartsUptoRow : OpenClaim := { program := "ytbmkedickkpjjaa", sum := "a361907ef957bf7cf111c32c6586ba163c2a2d1529b1f3fa394cb7fc87a3a738", func := "loop.example/g00336/laws.FnLaidParts", spec := "fnLaidParts", plainKeys := false, apart := false, narrowed := true }
def FnLaidPartsUptoSaid : Prop := fnLaidPartsUptoRow.holds Try.pinned (OpenSpec.upto fnLaidPartsSpec)

/-- 'laws.FnContent', WHERE WHAT IT READS IS OF BULK AT MOST 1048576: true; the input reads as it did. -/
def fnContentUptoRow : OpenClaim := { program := "ytbmkedickkpjjaa", sum := "a361907ef957bf7cf111c32c6586ba163c2a2d1529b1f3fa394cb7fc87a3a738", func := "loop.example/g00336/laws.FnContent", spec := "fnContent", plainKeys := false, apart := false, narrowed := true }
def FnContentUptoSaid : Prop := fnContentUptoRow.holds Try.pinned (OpenSpec.upto fnContentSpec)

/-- 'laws.FnMerged', WHERE WHAT IT READS IS OF BULK AT MOST 1048576: true; the input reads as it did. -/
def fnMergedUptoRow : OpenClaim := { program := "ytbmkedickkpjjaa", sum := "a361907ef957bf7cf111c32c6586ba163c2a2d1529b1f3fa394cb7fc87a3a738", func := "loop.example/g00336/laws.FnMerged", spec := "fnMerged", unfollowed := true, recurses := true, plainKeys := false, apart := false, narrowed := true }
def FnMergedUptoSaid : Prop := fnMergedUptoRow.holds Try.pinned (OpenSpec.upto fnMergedSpec)

/-- 'laws.FnFlushed', WHERE WHAT IT READS IS OF BULK AT MOST 1048576: true; the input reads as it did. -/
def fnFlushedUptoRow : OpenClaim := { program := "ytbmkedickkpjjaa", sum := "a361907ef957bf7cf111c32c6586ba163c2a2d1529b1f3fa394cb7fc87a3a738", func := "loop.example/g00336/laws.FnFlushed", spec := "fnFlushed", unfollowed := true, recurses := true, plainKeys := false, apart := false, narrowed := true }
def FnFlushedUptoSaid : Prop := fnFlushedUptoRow.holds Try.pinned (OpenSpec.upto fnFlushedSpec)

/-- 'laws.FnOwners', WHERE WHAT IT READS IS OF BULK AT MOST 1048576: true; the input reads as it did. -/
def fnOwnersUptoRow : OpenClaim := { program := "ytbmkedickkpjjaa", sum := "a361907ef957bf7cf111c32c6586ba163c2a2d1529b1f3fa394cb7fc87a3a738", func := "loop.example/g00336/laws.FnOwners", spec := "fnOwners", plainKeys := false, apart := false, narrowed := true }
def FnOwnersUptoSaid : Prop := fnOwnersUptoRow.holds Try.pinned (OpenSpec.upto fnOwnersSpec)

/-- 'laws.FnPoolNew', WHERE WHAT IT READS IS OF BULK AT MOST 1048576: true; the input reads as it did. -/
def fnPoolNewUptoRow : OpenClaim := { program := "ytbmkedickkpjjaa", sum := "a361907ef957bf7cf111c32c6586ba163c2a2d1529b1f3fa394cb7fc87a3a738", func := "loop.example/g00336/laws.FnPoolNew", spec := "fnPoolNew", unfollowed := true, recurses := true, plainKeys := false, apart := false, narrowed := true }
def FnPoolNewUptoSaid : Prop := fnPoolNewUptoRow.holds Try.pinned (OpenSpec.upto fnPoolNewSpec)

/-- 'laws.FnExactSpaceOk', WHERE WHAT IT READS IS OF BULK AT MOST 1048576: true; the input reads as it did. -/
def fnExactSpaceOkUptoRow : OpenClaim := { program := "ytbmkedickkpjjaa", sum := "a361907ef957bf7cf111c32c6586ba163c2a2d1529b1f3fa394cb7fc87a3a738", func := "loop.example/g00336/laws.FnExactSpaceOk", spec := "fnExactSpaceOk", plainKeys := false, apart := false, narrowed := true }
def FnExactSpaceOkUptoSaid : Prop := fnExactSpaceOkUptoRow.holds Try.pinned (OpenSpec.upto fnExactSpaceOkSpec)

/-- 'laws.FnExactRoomOf', WHERE WHAT IT READS IS OF BULK AT MOST 1048576: true; the input reads as it did. -/
def fnExactRoomOfUptoRow : OpenClaim := { program := "ytbmkedickkpjjaa", sum := "a361907ef957bf7cf111c32c6586ba163c2a2d1529b1f3fa394cb7fc87a3a738", func := "loop.example/g00336/laws.FnExactRoomOf", spec := "fnExactRoomOf", unfollowed := true, recurses := true, plainKeys := false, apart := false, narrowed := true }
def FnExactRoomOfUptoSaid : Prop := fnExactRoomOfUptoRow.holds Try.pinned (OpenSpec.upto fnExactRoomOfSpec)

/-- 'laws.FnExactGapsOf', WHERE WHAT IT READS IS OF BULK AT MOST 1048576: true; the input reads as it did. -/
def fnExactGapsOfUptoRow : OpenClaim := { program := "ytbmkedickkpjjaa", sum := "a361907ef957bf7cf111c32c6586ba163c2a2d1529b1f3fa394cb7fc87a3a738", func := "loop.example/g00336/laws.FnExactGapsOf", spec := "fnExactGapsOf", unfollowed := true, recurses := true, plainKeys := false, apart := false, narrowed := true }
def FnExactGapsOfUptoSaid : Prop := fnExactGapsOfUptoRow.holds Try.pinned (OpenSpec.upto fnExactGapsOfSpec)

/-- 'laws.FnExactPlaced', WHERE WHAT IT READS IS OF BULK AT MOST 1048576: true; the input reads as it did. -/
def fnExactPlacedUptoRow : OpenClaim := { program := "ytbmkedickkpjjaa", sum := "a361907ef957bf7cf111c32c6586ba163c2a2d1529b1f3fa394cb7fc87a3a738", func := "loop.example/g00336/laws.FnExactPlaced", spec := "fnExactPlaced", unfollowed := true, recurses := true, plainKeys := false, apart := false, narrowed := true }
def FnExactPlacedUptoSaid : Prop := fnExactPlacedUptoRow.holds Try.pinned (OpenSpec.upto fnExactPlacedSpec)

/-- 'laws.FnExactLifted', WHERE WHAT IT READS IS OF BULK AT MOST 1048576: true; the input reads as it did. -/
def fnExactLiftedUptoRow : OpenClaim := { program := "ytbmkedickkpjjaa", sum := "a361907ef957bf7cf111c32c6586ba163c2a2d1529b1f3fa394cb7fc87a3a738", func := "loop.example/g00336/laws.FnExactLifted", spec := "fnExactLifted", plainKeys := false, apart := false, narrowed := true }
def FnExactLiftedUptoSaid : Prop := fnExactLiftedUptoRow.holds Try.pinned (OpenSpec.upto fnExactLiftedSpec)

/-- 'laws.FnExactPartsOk', WHERE WHAT IT READS IS OF BULK AT MOST 1048576: true; the input reads as it did. -/
def fnExactPartsOkUptoRow : OpenClaim := { program := "ytbmkedickkpjjaa", sum := "a361907ef957bf7cf111c32c6586ba163c2a2d1529b1f3fa394cb7fc87a3a738", func := "loop.example/g00336/laws.FnExactPartsOk", spec := "fnExactPartsOk", plainKeys := false, apart := false, narrowed := true }
def FnExactPartsOkUptoSaid : Prop := fnExactPartsOkUptoRow.holds Try.pinned (OpenSpec.upto fnExactPartsOkSpec)

/-- 'laws.FnExactLenOf', WHERE WHAT IT READS IS OF BULK AT MOST 1048576: true; the input reads as it did. -/
def fnExactLenOfUptoRow : OpenClaim := { program := "ytbmkedickkpjjaa", sum := "a361907ef957bf7cf111c32c6586ba163c2a2d1529b1f3fa394cb7fc87a3a738", func := "loop.example/g00336/laws.FnExactLenOf", spec := "fnExactLenOf", plainKeys := false, apart := false, narrowed := true }
def FnExactLenOfUptoSaid : Prop := fnExactLenOfUptoRow.holds Try.pinned (OpenSpec.upto fnExactLenOfSpec)

/-- 'laws.FnExactSlice', WHERE WHAT IT READS IS OF BULK AT MOST 1048576: true; the input reads as it did. -/
def fnExactSliceUptoRow : OpenClaim := { program := "ytbmkedickkpjjaa", sum := "a361907ef957bf7cf111c32c6586ba163c2a2d1529b1f3fa394cb7fc87a3a738", func := "loop.example/g00336/laws.FnExactSlice", spec := "fnExactSlice", plainKeys := false, apart := false, narrowed := true }
def FnExactSliceUptoSaid : Prop := fnExactSliceUptoRow.holds Try.pinned (OpenSpec.upto fnExactSliceSpec)

/-- 'laws.FnExactJoined', WHERE WHAT IT READS IS OF BULK AT MOST 1048576: true; the input reads as it did. -/
def fnExactJoinedUptoRow : OpenClaim := { program := "ytbmkedickkpjjaa", sum := "a361907ef957bf7cf111c32c6586ba163c2a2d1529b1f3fa394cb7fc87a3a738", func := "loop.example/g00336/laws.FnExactJoined", spec := "fnExactJoined", plainKeys := false, apart := false, narrowed := true }
def FnExactJoinedUptoSaid : Prop := fnExactJoinedUptoRow.holds Try.pinned (OpenSpec.upto fnExactJoinedSpec)

/-- 'laws.FnExactLaid', WHERE WHAT IT READS IS OF BULK AT MOST 1048576: true; the input reads as it did. -/
def fnExactLaidUptoRow : OpenClaim := { program := "ytbmkedickkpjjaa", sum := "a361907ef957bf7cf111c32c6586ba163c2a2d1529b1f3fa394cb7fc87a3a738", func := "loop.example/g00336/laws.FnExactLaid", spec := "fnExactLaid", plainKeys := false, apart := false, narrowed := true }
def FnExactLaidUptoSaid : Prop := fnExactLaidUptoRow.holds Try.pinned (OpenSpec.upto fnExactLaidSpec)

/-- 'laws.FnExactContent', WHERE WHAT IT READS IS OF BULK AT MOST 1048576: true; the input reads as it did. -/
def fnExactContentUptoRow : OpenClaim := { program := "ytbmkedickkpjjaa", sum := "a361907ef957bf7cf111c32c6586ba163c2a2d1529b1f3fa394cb7fc87a3a738", func := "loop.example/g00336/laws.FnExactContent", spec := "fnExactContent", plainKeys := false, apart := false, narrowed := true }
def FnExactContentUptoSaid : Prop := fnExactContentUptoRow.holds Try.pinned (OpenSpec.upto fnExactContentSpec)

/-- 'laws.FnExactOwnerAhead', WHERE WHAT IT READS IS OF BULK AT MOST 1048576: true; the input reads as it did. -/
def fnExactOwnerAheadUptoRow : OpenClaim := { program := "ytbmkedickkpjjaa", sum := "a361907ef957bf7cf111c32c6586ba163c2a2d1529b1f3fa394cb7fc87a3a738", func := "loop.example/g00336/laws.FnExactOwnerAhead", spec := "fnExactOwnerAhead", plainKeys := false, apart := false, narrowed := true }
def FnExactOwnerAheadUptoSaid : Prop := fnExactOwnerAheadUptoRow.holds Try.pinned (OpenSpec.upto fnExactOwnerAheadSpec)

/-- 'laws.FnExactRefsOk', WHERE WHAT IT READS IS OF BULK AT MOST 1048576: true; the input reads as it did. -/
def fnExactRefsOkUptoRow : OpenClaim := { program := "ytbmkedickkpjjaa", sum := "a361907ef957bf7cf111c32c6586ba163c2a2d1529b1f3fa394cb7fc87a3a738", func := "loop.example/g00336/laws.FnExactRefsOk", spec := "fnExactRefsOk", plainKeys := false, apart := false, narrowed := true }
def FnExactRefsOkUptoSaid : Prop := fnExactRefsOkUptoRow.holds Try.pinned (OpenSpec.upto fnExactRefsOkSpec)

/-- 'laws.FnExactLateOk', WHERE WHAT IT READS IS OF BULK AT MOST 1048576: true; the input reads as it did. -/
def fnExactLateOkUptoRow : OpenClaim := { program := "ytbmkedickkpjjaa", sum := "a361907ef957bf7cf111c32c6586ba163c2a2d1529b1f3fa394cb7fc87a3a738", func := "loop.example/g00336/laws.FnExactLateOk", spec := "fnExactLateOk", plainKeys := false, apart := false, narrowed := true }
def FnExactLateOkUptoSaid : Prop := fnExactLateOkUptoRow.holds Try.pinned (OpenSpec.upto fnExactLateOkSpec)

/-- 'laws.FnExactMerged', WHERE WHAT IT READS IS OF BULK AT MOST 1048576: true; the input reads as it did. -/
def fnExactMergedUptoRow : OpenClaim := { program := "ytbmkedickkpjjaa", sum := "a361907ef957bf7cf111c32c6586ba163c2a2d1529b1f3fa394cb7fc87a3a738", func := "loop.example/g00336/laws.FnExactMerged", spec := "fnExactMerged", unfollowed := true, recurses := true, plainKeys := false, apart := false, narrowed := true }
def FnExactMergedUptoSaid : Prop := fnExactMergedUptoRow.holds Try.pinned (OpenSpec.upto fnExactMergedSpec)

/-- 'laws.FnExactFlushed', WHERE WHAT IT READS IS OF BULK AT MOST 1048576: true; the input reads as it did. -/
def fnExactFlushedUptoRow : OpenClaim := { program := "ytbmkedickkpjjaa", sum := "a361907ef957bf7cf111c32c6586ba163c2a2d1529b1f3fa394cb7fc87a3a738", func := "loop.example/g00336/laws.FnExactFlushed", spec := "fnExactFlushed", unfollowed := true, recurses := true, plainKeys := false, apart := false, narrowed := true }
def FnExactFlushedUptoSaid : Prop := fnExactFlushedUptoRow.holds Try.pinned (OpenSpec.upto fnExactFlushedSpec)

/-- 'laws.FnExactNameOk', WHERE WHAT IT READS IS OF BULK AT MOST 1048576: true; the input reads as it did. -/
def fnExactNameOkUptoRow : OpenClaim := { program := "ytbmkedickkpjjaa", sum := "a361907ef957bf7cf111c32c6586ba163c2a2d1529b1f3fa394cb7fc87a3a738", func := "loop.example/g00336/laws.FnExactNameOk", spec := "fnExactNameOk", plainKeys := false, apart := false, narrowed := true }
def FnExactNameOkUptoSaid : Prop := fnExactNameOkUptoRow.holds Try.pinned (OpenSpec.upto fnExactNameOkSpec)

/-- 'laws.FnExactPoolNew', WHERE WHAT IT READS IS OF BULK AT MOST 1048576: true; the input reads as it did. -/
def fnExactPoolNewUptoRow : OpenClaim := { program := "ytbmkedickkpjjaa", sum := "a361907ef957bf7cf111c32c6586ba163c2a2d1529b1f3fa394cb7fc87a3a738", func := "loop.example/g00336/laws.FnExactPoolNew", spec := "fnExactPoolNew", plainKeys := false, apart := false, narrowed := true }
def FnExactPoolNewUptoSaid : Prop := fnExactPoolNewUptoRow.holds Try.pinned (OpenSpec.upto fnExactPoolNewSpec)

end Rows
end Go.Proofs.Ytbmkedickkpjjaa
