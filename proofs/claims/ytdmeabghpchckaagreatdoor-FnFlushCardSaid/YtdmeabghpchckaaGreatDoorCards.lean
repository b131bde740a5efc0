/-
  DERIVED. GIVEN WITH THE SEED: THE CARDS: each row of YtdmeabghpchckaaGreatDoorRows.lean that lists a variable, with what it lists TIED to the program's text (the seventh form; the later family's looks); each row that meets fmt, with fmt's text TOLD by the authors' own Lean function (tested against real Go, not proved from fmt's source: count such statements apart). THE CARD IS WHAT COUNTS. Prove the row's statement (the work); the ties are given (YtdmeabghpchckaaGreatDoorTie.lean); close each card by the builder's one call (the guide's Derived/Test/ToyasCard.lean, 'card_holds'). Laid BY PROGRAM, IN A SANDBOX (cutbox-door.mjs). By AI agents, Wed Nov 11 2026. No macro, syntax, notation, axiom, sorry.
-/
import Derived.Test.YtdmeabghpchckaaGreatDoorRows
import GoSem.ClaimSeven
namespace Go.Proofs.YtdmeabghpchckaaGreatDoor
namespace Rows

/-- THE TIED CARD OF 'laws.FnFlush'. -/
def fnFlushCard : Claim7 := { stood := { row := fnFlushRow, standIns := [], harness := (true, "3ba821df8233311541454545ee333a8c90758895c69c8e8f8a420e5e7a677e3d"), looks := true }, kinds := [], alts := [], laidByText := true, laidKinds := [.handle, .sentinel, .sentinel, .sentinel, .sentinel, .sentinel, .sentinel, .sentinel, .sentinel, .sentinel, .sentinel], laidTests := true, laidLooks := .later }
def FnFlushCardSaid : Prop := Claim7.holds Tryz.pinned (.plain (OpenSpec.ofChange fnFlushSpec)) fnFlushCard

/-- THE TIED CARD OF 'laws.FnDropped'. -/
def fnDroppedCard : Claim7 := { stood := { row := fnDroppedRow, standIns := [], harness := (true, "3ba821df8233311541454545ee333a8c90758895c69c8e8f8a420e5e7a677e3d"), looks := true }, kinds := [], alts := [], laidByText := true, laidKinds := [.handle, .sentinel, .sentinel, .sentinel, .sentinel, .sentinel, .sentinel, .sentinel, .sentinel, .sentinel, .sentinel], laidTests := true, laidLooks := .later }
def FnDroppedCardSaid : Prop := Claim7.holds Tryz.pinned (.plain (OpenSpec.ofChange fnDroppedSpec)) fnDroppedCard

/-- THE SECOND FORM's CARD OF 'laws.FnFlush'. -/
def fnFlushUptoCard : Claim7 := { stood := { row := fnFlushUptoRow, standIns := [], harness := (true, "3ba821df8233311541454545ee333a8c90758895c69c8e8f8a420e5e7a677e3d"), looks := true }, kinds := [], alts := [], laidByText := true, laidKinds := [.handle, .sentinel, .sentinel, .sentinel, .sentinel, .sentinel, .sentinel, .sentinel, .sentinel, .sentinel, .sentinel], laidTests := true, laidLooks := .later }
def FnFlushUptoCardSaid : Prop := Claim7.holds Tryz.pinned (.plain (OpenSpec.upto fnFlushSpec)) fnFlushUptoCard

/-- THE SECOND FORM's CARD OF 'laws.FnDropped'. -/
def fnDroppedUptoCard : Claim7 := { stood := { row := fnDroppedUptoRow, standIns := [], harness := (true, "3ba821df8233311541454545ee333a8c90758895c69c8e8f8a420e5e7a677e3d"), looks := true }, kinds := [], alts := [], laidByText := true, laidKinds := [.handle, .sentinel, .sentinel, .sentinel, .sentinel, .sentinel, .sentinel, .sentinel, .sentinel, .sentinel, .sentinel], laidTests := true, laidLooks := .later }
def FnDroppedUptoCardSaid : Prop := Claim7.holds Tryz.pinned (.plain (OpenSpec.upto fnDroppedSpec)) fnDroppedUptoCard
end Rows
end Go.Proofs.YtdmeabghpchckaaGreatDoor
