/-
  DERIVED. GIVEN WITH THE SEED: THE CARDS: each row of YtahenegmbmnmjaaGreatDoorRows.lean that lists a variable, with what it lists TIED to the program's text (the seventh form; the later family's looks); each row that meets fmt, with fmt's text TOLD by the authors' own Lean function (tested against real Go, not proved from fmt's source: count such statements apart). THE CARD IS WHAT COUNTS. Prove the row's statement (the work); the ties are given (YtahenegmbmnmjaaGreatDoorTie.lean); close each card by the builder's one call (the guide's Derived/Test/ToyasCard.lean, 'card_holds'). Laid BY PROGRAM, IN A SANDBOX (cutbox-door.mjs). By AI agents, Wed Nov 11 2026. No macro, syntax, notation, axiom, sorry.
-/
import Derived.Test.YtahenegmbmnmjaaGreatDoorRows
import GoSem.ClaimSeven
namespace Go.Proofs.YtahenegmbmnmjaaGreatDoor
namespace Rows

/-- THE TIED CARD OF 'laws.FnExactDone'. -/
def fnExactDoneCard : Claim7 := { stood := { row := fnExactDoneRow, standIns := [], harness := (true, "4c012a16ccc6d1efcf3d305c900b1cecf808d6413aa64985011f7777bbd00e76"), looks := true }, kinds := [], alts := [], laidByText := true, laidKinds := [.handle, .sentinel, .sentinel, .sentinel, .sentinel, .sentinel, .sentinel, .sentinel, .sentinel, .sentinel, .sentinel], laidTests := true, laidLooks := .later }
def FnExactDoneCardSaid : Prop := Claim7.holds Tryz.pinned (.plain (OpenSpec.ofChange fnExactDoneSpec)) fnExactDoneCard

/-- THE TIED CARD OF 'laws.FnExactDoneAll'. -/
def fnExactDoneAllCard : Claim7 := { stood := { row := fnExactDoneAllRow, standIns := [], harness := (true, "4c012a16ccc6d1efcf3d305c900b1cecf808d6413aa64985011f7777bbd00e76"), looks := true }, kinds := [], alts := [], laidByText := true, laidKinds := [.handle, .sentinel, .sentinel, .sentinel, .sentinel, .sentinel, .sentinel, .sentinel, .sentinel, .sentinel, .sentinel], laidTests := true, laidLooks := .later }
def FnExactDoneAllCardSaid : Prop := Claim7.holds Tryz.pinned (.plain (OpenSpec.ofChange fnExactDoneAllSpec)) fnExactDoneAllCard

/-- THE TIED CARD OF 'laws.FnIsolated'. -/
def fnIsolatedCard : Claim7 := { stood := { row := fnIsolatedRow, standIns := [], harness := (true, "4c012a16ccc6d1efcf3d305c900b1cecf808d6413aa64985011f7777bbd00e76"), looks := true }, kinds := [], alts := [], laidByText := true, laidKinds := [.handle, .sentinel, .sentinel, .sentinel, .sentinel, .sentinel, .sentinel, .sentinel, .sentinel, .sentinel, .sentinel], laidTests := true, laidLooks := .later }
def FnIsolatedCardSaid : Prop := Claim7.holds Tryz.pinned (.plain (OpenSpec.ofChange fnIsolatedSpec)) fnIsolatedCard

/-- THE TIED CARD OF 'laws.FnWrites'. -/
def fnWritesCard : Claim7 := { stood := { row := fnWritesRow, standIns := [], harness := (true, "4c012a16ccc6d1efcf3d305c900b1cecf808d6413aa64985011f7777bbd00e76"), looks := true }, kinds := [], alts := [], laidByText := true, laidKinds := [.handle, .sentinel, .sentinel, .sentinel, .sentinel, .sentinel, .sentinel, .sentinel, .sentinel, .sentinel, .sentinel], laidTests := true, laidLooks := .later }
def FnWritesCardSaid : Prop := Claim7.holds Tryz.pinned (.plain (OpenSpec.ofChange fnWritesSpec)) fnWritesCard

/-- THE TIED CARD OF 'laws.FnCuts'. -/
def fnCutsCard : Claim7 := { stood := { row := fnCutsRow, standIns := [], harness := (true, "4c012a16ccc6d1efcf3d305c900b1cecf808d6413aa64985011f7777bbd00e76"), looks := true }, kinds := [], alts := [], laidByText := true, laidKinds := [.handle, .sentinel, .sentinel, .sentinel, .sentinel, .sentinel, .sentinel, .sentinel, .sentinel, .sentinel, .sentinel], laidTests := true, laidLooks := .later }
def FnCutsCardSaid : Prop := Claim7.holds Tryz.pinned (.plain (OpenSpec.ofChange fnCutsSpec)) fnCutsCard

/-- THE TIED CARD OF 'laws.FnCopies'. -/
def fnCopiesCard : Claim7 := { stood := { row := fnCopiesRow, standIns := [], harness := (true, "4c012a16ccc6d1efcf3d305c900b1cecf808d6413aa64985011f7777bbd00e76"), looks := true }, kinds := [], alts := [], laidByText := true, laidKinds := [.handle, .sentinel, .sentinel, .sentinel, .sentinel, .sentinel, .sentinel, .sentinel, .sentinel, .sentinel, .sentinel], laidTests := true, laidLooks := .later }
def FnCopiesCardSaid : Prop := Claim7.holds Tryz.pinned (.plain (OpenSpec.ofChange fnCopiesSpec)) fnCopiesCard

/-- THE TIED CARD OF 'laws.FnFlush'. -/
def fnFlushCard : Claim7 := { stood := { row := fnFlushRow, standIns := [], harness := (true, "4c012a16ccc6d1efcf3d305c900b1cecf808d6413aa64985011f7777bbd00e76"), looks := true }, kinds := [], alts := [], laidByText := true, laidKinds := [.handle, .sentinel, .sentinel, .sentinel, .sentinel, .sentinel, .sentinel, .sentinel, .sentinel, .sentinel, .sentinel], laidTests := true, laidLooks := .later }
def FnFlushCardSaid : Prop := Claim7.holds Tryz.pinned (.plain (OpenSpec.ofChange fnFlushSpec)) fnFlushCard

/-- THE TIED CARD OF 'laws.FnFixed'. -/
def fnFixedCard : Claim7 := { stood := { row := fnFixedRow, standIns := [], harness := (true, "4c012a16ccc6d1efcf3d305c900b1cecf808d6413aa64985011f7777bbd00e76"), looks := true }, kinds := [], alts := [], laidByText := true, laidKinds := [.handle, .sentinel, .sentinel, .sentinel, .sentinel, .sentinel, .sentinel, .sentinel, .sentinel, .sentinel, .sentinel], laidTests := true, laidLooks := .later }
def FnFixedCardSaid : Prop := Claim7.holds Tryz.pinned (.plain (OpenSpec.ofChange fnFixedSpec)) fnFixedCard

/-- THE TIED CARD OF 'laws.FnDropped'. -/
def fnDroppedCard : Claim7 := { stood := { row := fnDroppedRow, standIns := [], harness := (true, "4c012a16ccc6d1efcf3d305c900b1cecf808d6413aa64985011f7777bbd00e76"), looks := true }, kinds := [], alts := [], laidByText := true, laidKinds := [.handle, .sentinel, .sentinel, .sentinel, .sentinel, .sentinel, .sentinel, .sentinel, .sentinel, .sentinel, .sentinel], laidTests := true, laidLooks := .later }
def FnDroppedCardSaid : Prop := Claim7.holds Tryz.pinned (.plain (OpenSpec.ofChange fnDroppedSpec)) fnDroppedCard

/-- THE TIED CARD OF 'laws.FnDonePieces'. -/
def fnDonePiecesCard : Claim7 := { stood := { row := fnDonePiecesRow, standIns := [], harness := (true, "4c012a16ccc6d1efcf3d305c900b1cecf808d6413aa64985011f7777bbd00e76"), looks := true }, kinds := [], alts := [], laidByText := true, laidKinds := [.handle, .sentinel, .sentinel, .sentinel, .sentinel, .sentinel, .sentinel, .sentinel, .sentinel, .sentinel, .sentinel], laidTests := true, laidLooks := .later }
def FnDonePiecesCardSaid : Prop := Claim7.holds Tryz.pinned (.plain (OpenSpec.ofChange fnDonePiecesSpec)) fnDonePiecesCard

/-- THE TIED CARD OF 'laws.FnOpDone'. -/
def fnOpDoneCard : Claim7 := { stood := { row := fnOpDoneRow, standIns := [], harness := (true, "4c012a16ccc6d1efcf3d305c900b1cecf808d6413aa64985011f7777bbd00e76"), looks := true }, kinds := [], alts := [], laidByText := true, laidKinds := [.handle, .sentinel, .sentinel, .sentinel, .sentinel, .sentinel, .sentinel, .sentinel, .sentinel, .sentinel, .sentinel], laidTests := true, laidLooks := .later }
def FnOpDoneCardSaid : Prop := Claim7.holds Tryz.pinned (.plain (OpenSpec.ofChange fnOpDoneSpec)) fnOpDoneCard

/-- THE SECOND FORM's CARD OF 'laws.FnExactDone'. -/
def fnExactDoneUptoCard : Claim7 := { stood := { row := fnExactDoneUptoRow, standIns := [], harness := (true, "4c012a16ccc6d1efcf3d305c900b1cecf808d6413aa64985011f7777bbd00e76"), looks := true }, kinds := [], alts := [], laidByText := true, laidKinds := [.handle, .sentinel, .sentinel, .sentinel, .sentinel, .sentinel, .sentinel, .sentinel, .sentinel, .sentinel, .sentinel], laidTests := true, laidLooks := .later }
def FnExactDoneUptoCardSaid : Prop := Claim7.holds Tryz.pinned (.plain (OpenSpec.upto fnExactDoneSpec)) fnExactDoneUptoCard

/-- THE SECOND FORM's CARD OF 'laws.FnExactDoneAll'. -/
def fnExactDoneAllUptoCard : Claim7 := { stood := { row := fnExactDoneAllUptoRow, standIns := [], harness := (true, "4c012a16ccc6d1efcf3d305c900b1cecf808d6413aa64985011f7777bbd00e76"), looks := true }, kinds := [], alts := [], laidByText := true, laidKinds := [.handle, .sentinel, .sentinel, .sentinel, .sentinel, .sentinel, .sentinel, .sentinel, .sentinel, .sentinel, .sentinel], laidTests := true, laidLooks := .later }
def FnExactDoneAllUptoCardSaid : Prop := Claim7.holds Tryz.pinned (.plain (OpenSpec.upto fnExactDoneAllSpec)) fnExactDoneAllUptoCard

/-- THE SECOND FORM's CARD OF 'laws.FnIsolated'. -/
def fnIsolatedUptoCard : Claim7 := { stood := { row := fnIsolatedUptoRow, standIns := [], harness := (true, "4c012a16ccc6d1efcf3d305c900b1cecf808d6413aa64985011f7777bbd00e76"), looks := true }, kinds := [], alts := [], laidByText := true, laidKinds := [.handle, .sentinel, .sentinel, .sentinel, .sentinel, .sentinel, .sentinel, .sentinel, .sentinel, .sentinel, .sentinel], laidTests := true, laidLooks := .later }
def FnIsolatedUptoCardSaid : Prop := Claim7.holds Tryz.pinned (.plain (OpenSpec.upto fnIsolatedSpec)) fnIsolatedUptoCard

/-- THE SECOND FORM's CARD OF 'laws.FnWrites'. -/
def fnWritesUptoCard : Claim7 := { stood := { row := fnWritesUptoRow, standIns := [], harness := (true, "4c012a16ccc6d1efcf3d305c900b1cecf808d6413aa64985011f7777bbd00e76"), looks := true }, kinds := [], alts := [], laidByText := true, laidKinds := [.handle, .sentinel, .sentinel, .sentinel, .sentinel, .sentinel, .sentinel, .sentinel, .sentinel, .sentinel, .sentinel], laidTests := true, laidLooks := .later }
def FnWritesUptoCardSaid : Prop := Claim7.holds Tryz.pinned (.plain (OpenSpec.upto fnWritesSpec)) fnWritesUptoCard

/-- THE SECOND FORM's CARD OF 'laws.FnCuts'. -/
def fnCutsUptoCard : Claim7 := { stood := { row := fnCutsUptoRow, standIns := [], harness := (true, "4c012a16ccc6d1efcf3d305c900b1cecf808d6413aa64985011f7777bbd00e76"), looks := true }, kinds := [], alts := [], laidByText := true, laidKinds := [.handle, .sentinel, .sentinel, .sentinel, .sentinel, .sentinel, .sentinel, .sentinel, .sentinel, .sentinel, .sentinel], laidTests := true, laidLooks := .later }
def FnCutsUptoCardSaid : Prop := Claim7.holds Tryz.pinned (.plain (OpenSpec.upto fnCutsSpec)) fnCutsUptoCard

/-- THE SECOND FORM's CARD OF 'laws.FnCopies'. -/
def fnCopiesUptoCard : Claim7 := { stood := { row := fnCopiesUptoRow, standIns := [], harness := (true, "4c012a16ccc6d1efcf3d305c900b1cecf808d6413aa64985011f7777bbd00e76"), looks := true }, kinds := [], alts := [], laidByText := true, laidKinds := [.handle, .sentinel, .sentinel, .sentinel, .sentinel, .sentinel, .sentinel, .sentinel, .sentinel, .sentinel, .sentinel], laidTests := true, laidLooks := .later }
def FnCopiesUptoCardSaid : Prop := Claim7.holds Tryz.pinned (.plain (OpenSpec.upto fnCopiesSpec)) fnCopiesUptoCard

/-- THE SECOND FORM's CARD OF 'laws.FnFlush'. -/
def fnFlushUptoCard : Claim7 := { stood := { row := fnFlushUptoRow, standIns := [], harness := (true, "4c012a16ccc6d1efcf3d305c900b1cecf808d6413aa64985011f7777bbd00e76"), looks := true }, kinds := [], alts := [], laidByText := true, laidKinds := [.handle, .sentinel, .sentinel, .sentinel, .sentinel, .sentinel, .sentinel, .sentinel, .sentinel, .sentinel, .sentinel], laidTests := true, laidLooks := .later }
def FnFlushUptoCardSaid : Prop := Claim7.holds Tryz.pinned (.plain (OpenSpec.upto fnFlushSpec)) fnFlushUptoCard

/-- THE SECOND FORM's CARD OF 'laws.FnFixed'. -/
def fnFixedUptoCard : Claim7 := { stood := { row := fnFixedUptoRow, standIns := [], harness := (true, "4c012a16ccc6d1efcf3d305c900b1cecf808d6413aa64985011f7777bbd00e76"), looks := true }, kinds := [], alts := [], laidByText := true, laidKinds := [.handle, .sentinel, .sentinel, .sentinel, .sentinel, .sentinel, .sentinel, .sentinel, .sentinel, .sentinel, .sentinel], laidTests := true, laidLooks := .later }
def FnFixedUptoCardSaid : Prop := Claim7.holds Tryz.pinned (.plain (OpenSpec.upto fnFixedSpec)) fnFixedUptoCard

/-- THE SECOND FORM's CARD OF 'laws.FnDropped'. -/
def fnDroppedUptoCard : Claim7 := { stood := { row := fnDroppedUptoRow, standIns := [], harness := (true, "4c012a16ccc6d1efcf3d305c900b1cecf808d6413aa64985011f7777bbd00e76"), looks := true }, kinds := [], alts := [], laidByText := true, laidKinds := [.handle, .sentinel, .sentinel, .sentinel, .sentinel, .sentinel, .sentinel, .sentinel, .sentinel, .sentinel, .sentinel], laidTests := true, laidLooks := .later }
def FnDroppedUptoCardSaid : Prop := Claim7.holds Tryz.pinned (.plain (OpenSpec.upto fnDroppedSpec)) fnDroppedUptoCard

/-- THE SECOND FORM's CARD OF 'laws.FnDonePieces'. -/
def fnDonePiecesUptoCard : Claim7 := { stood := { row := fnDonePiecesUptoRow, standIns := [], harness := (true, "4c012a16ccc6d1efcf3d305c900b1cecf808d6413aa64985011f7777bbd00e76"), looks := true }, kinds := [], alts := [], laidByText := true, laidKinds := [.handle, .sentinel, .sentinel, .sentinel, .sentinel, .sentinel, .sentinel, .sentinel, .sentinel, .sentinel, .sentinel], laidTests := true, laidLooks := .later }
def FnDonePiecesUptoCardSaid : Prop := Claim7.holds Tryz.pinned (.plain (OpenSpec.upto fnDonePiecesSpec)) fnDonePiecesUptoCard

/-- THE SECOND FORM's CARD OF 'laws.FnOpDone'. -/
def fnOpDoneUptoCard : Claim7 := { stood := { row := fnOpDoneUptoRow, standIns := [], harness := (true, "4c012a16ccc6d1efcf3d305c900b1cecf808d6413aa64985011f7777bbd00e76"), looks := true }, kinds := [], alts := [], laidByText := true, laidKinds := [.handle, .sentinel, .sentinel, .sentinel, .sentinel, .sentinel, .sentinel, .sentinel, .sentinel, .sentinel, .sentinel], laidTests := true, laidLooks := .later }
def FnOpDoneUptoCardSaid : Prop := Claim7.holds Tryz.pinned (.plain (OpenSpec.upto fnOpDoneSpec)) fnOpDoneUptoCard
end Rows
end Go.Proofs.YtahenegmbmnmjaaGreatDoor
