/-
  DERIVED. GIVEN WITH THE SEED: THE CARDS: each row of YtbbhcnjhohidnaaGreatDoorRows.lean that lists a variable, with what it lists TIED to the program's text (the seventh form; the later family's looks); each row that meets fmt, with fmt's text TOLD by the authors' own Lean function (tested against real Go, not proved from fmt's source: count such statements apart). THE CARD IS WHAT COUNTS. Prove the row's statement (the work); the ties are given (YtbbhcnjhohidnaaGreatDoorTie.lean); close each card by the builder's one call (the guide's Derived/Test/ToyasCard.lean, 'card_holds'). Laid BY PROGRAM, IN A SANDBOX (cutbox-door.mjs). By AI agents, Wed Nov 11 2026. No macro, syntax, notation, axiom, sorry.
-/
import Derived.Test.YtbbhcnjhohidnaaGreatDoorRows
import GoSem.ClaimSeven
namespace Go.Proofs.YtbbhcnjhohidnaaGreatDoor
namespace Rows

/-- THE TIED CARD OF 'laws.FnExactDone'. -/
def fnExactDoneCard : Claim7 := { stood := { row := fnExactDoneRow, standIns := [], harness := (true, "9492ba0249a825ded1239878e80aafc292c8d40e40c992d7d77f06d29e87925d"), looks := true }, kinds := [], alts := [], laidByText := true, laidKinds := [.handle, .sentinel, .sentinel, .sentinel, .sentinel, .sentinel, .sentinel, .sentinel, .sentinel, .sentinel, .sentinel], laidTests := true, laidLooks := .later }
def FnExactDoneCardSaid : Prop := Claim7.holds Tryz.pinned (.plain (OpenSpec.ofChange fnExactDoneSpec)) fnExactDoneCard

/-- THE TIED CARD OF 'laws.FnExactDoneAll'. -/
def fnExactDoneAllCard : Claim7 := { stood := { row := fnExactDoneAllRow, standIns := [], harness := (true, "9492ba0249a825ded1239878e80aafc292c8d40e40c992d7d77f06d29e87925d"), looks := true }, kinds := [], alts := [], laidByText := true, laidKinds := [.handle, .sentinel, .sentinel, .sentinel, .sentinel, .sentinel, .sentinel, .sentinel, .sentinel, .sentinel, .sentinel], laidTests := true, laidLooks := .later }
def FnExactDoneAllCardSaid : Prop := Claim7.holds Tryz.pinned (.plain (OpenSpec.ofChange fnExactDoneAllSpec)) fnExactDoneAllCard

/-- THE SECOND FORM's CARD OF 'laws.FnExactDone'. -/
def fnExactDoneUptoCard : Claim7 := { stood := { row := fnExactDoneUptoRow, standIns := [], harness := (true, "9492ba0249a825ded1239878e80aafc292c8d40e40c992d7d77f06d29e87925d"), looks := true }, kinds := [], alts := [], laidByText := true, laidKinds := [.handle, .sentinel, .sentinel, .sentinel, .sentinel, .sentinel, .sentinel, .sentinel, .sentinel, .sentinel, .sentinel], laidTests := true, laidLooks := .later }
def FnExactDoneUptoCardSaid : Prop := Claim7.holds Tryz.pinned (.plain (OpenSpec.upto fnExactDoneSpec)) fnExactDoneUptoCard

/-- THE SECOND FORM's CARD OF 'laws.FnExactDoneAll'. -/
def fnExactDoneAllUptoCard : Claim7 := { stood := { row := fnExactDoneAllUptoRow, standIns := [], harness := (true, "9492ba0249a825ded1239878e80aafc292c8d40e40c992d7d77f06d29e87925d"), looks := true }, kinds := [], alts := [], laidByText := true, laidKinds := [.handle, .sentinel, .sentinel, .sentinel, .sentinel, .sentinel, .sentinel, .sentinel, .sentinel, .sentinel, .sentinel], laidTests := true, laidLooks := .later }
def FnExactDoneAllUptoCardSaid : Prop := Claim7.holds Tryz.pinned (.plain (OpenSpec.upto fnExactDoneAllSpec)) fnExactDoneAllUptoCard
end Rows
end Go.Proofs.YtbbhcnjhohidnaaGreatDoor
