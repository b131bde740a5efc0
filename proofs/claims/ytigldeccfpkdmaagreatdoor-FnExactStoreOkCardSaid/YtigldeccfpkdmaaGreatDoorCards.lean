/-
  DERIVED. GIVEN WITH THE SEED: THE CARDS: each row of YtigldeccfpkdmaaGreatDoorRows.lean that lists a variable, with what it lists TIED to the program's text (the seventh form; the later family's looks); each row that meets fmt, with fmt's text TOLD by the authors' own Lean function (tested against real Go, not proved from fmt's source: count such statements apart). THE CARD IS WHAT COUNTS. Prove the row's statement (the work); the ties are given (YtigldeccfpkdmaaGreatDoorTie.lean); close each card by the builder's one call (the guide's Derived/Test/ToyasCard.lean, 'card_holds'). Laid BY PROGRAM, IN A SANDBOX (cutbox-door.mjs). By AI agents, Wed Nov 11 2026. No macro, syntax, notation, axiom, sorry.
-/
import Derived.Test.YtigldeccfpkdmaaGreatDoorRows
import GoSem.ClaimSeven
namespace Go.Proofs.YtigldeccfpkdmaaGreatDoor
namespace Rows

/-- THE TIED CARD OF 'laws.FnExactReadPool'. -/
def fnExactReadPoolCard : Claim7 := { stood := { row := fnExactReadPoolRow, standIns := [], harness := (true, "97a3ccdc2d0299e4f2e4eba27fc8c29e934c0a45a91c46e8f31792aac64731a4"), looks := true }, kinds := [], alts := [], laidByText := true, laidKinds := [.data, .data, .data, .data, .sentinel, .sentinel, .sentinel, .pinned], laidTests := true, laidLooks := .later }
def FnExactReadPoolCardSaid : Prop := Claim7.holds Tryz.pinned (.plain (OpenSpec.ofChange fnExactReadPoolSpec)) fnExactReadPoolCard

/-- THE TIED CARD OF 'laws.FnExactSuperText'. -/
def fnExactSuperTextCard : Claim7 := { stood := { row := fnExactSuperTextRow, standIns := [], harness := (true, "97a3ccdc2d0299e4f2e4eba27fc8c29e934c0a45a91c46e8f31792aac64731a4"), looks := true }, kinds := [], alts := [], laidByText := true, laidKinds := [.data, .data, .data], laidTests := true, laidLooks := .later }
def FnExactSuperTextCardSaid : Prop := Claim7.holds Tryz.pinned (.plain (OpenSpec.ofChange fnExactSuperTextSpec)) fnExactSuperTextCard

/-- THE TIED CARD OF 'laws.FnExactReadSuper'. -/
def fnExactReadSuperCard : Claim7 := { stood := { row := fnExactReadSuperRow, standIns := [], harness := (true, "97a3ccdc2d0299e4f2e4eba27fc8c29e934c0a45a91c46e8f31792aac64731a4"), looks := true }, kinds := [], alts := [], laidByText := true, laidKinds := [.data, .data, .data, .data, .sentinel, .sentinel, .sentinel, .pinned], laidTests := true, laidLooks := .later }
def FnExactReadSuperCardSaid : Prop := Claim7.holds Tryz.pinned (.plain (OpenSpec.ofChange fnExactReadSuperSpec)) fnExactReadSuperCard

/-- THE TIED CARD OF 'laws.FnExactCommitted'. -/
def fnExactCommittedCard : Claim7 := { stood := { row := fnExactCommittedRow, standIns := [], harness := (true, "97a3ccdc2d0299e4f2e4eba27fc8c29e934c0a45a91c46e8f31792aac64731a4"), looks := true }, kinds := [], alts := [], laidByText := true, laidKinds := [.data, .data, .data, .data, .sentinel, .sentinel, .sentinel, .pinned], laidTests := true, laidLooks := .later }
def FnExactCommittedCardSaid : Prop := Claim7.holds Tryz.pinned (.plain (OpenSpec.ofChange fnExactCommittedSpec)) fnExactCommittedCard

/-- THE TIED CARD OF 'laws.FnExactStoreNew'. -/
def fnExactStoreNewCard : Claim7 := { stood := { row := fnExactStoreNewRow, standIns := [], harness := (true, "97a3ccdc2d0299e4f2e4eba27fc8c29e934c0a45a91c46e8f31792aac64731a4"), looks := true }, kinds := [], alts := [], laidByText := true, laidKinds := [.data, .data, .data], laidTests := true, laidLooks := .later }
def FnExactStoreNewCardSaid : Prop := Claim7.holds Tryz.pinned (.plain (OpenSpec.ofChange fnExactStoreNewSpec)) fnExactStoreNewCard

/-- THE TIED CARD OF 'laws.FnExactStoreOk'. -/
def fnExactStoreOkCard : Claim7 := { stood := { row := fnExactStoreOkRow, standIns := [], harness := (true, "97a3ccdc2d0299e4f2e4eba27fc8c29e934c0a45a91c46e8f31792aac64731a4"), looks := true }, kinds := [], alts := [], laidByText := true, laidKinds := [.data, .data, .data, .data, .sentinel, .sentinel, .sentinel, .pinned], laidTests := true, laidLooks := .later }
def FnExactStoreOkCardSaid : Prop := Claim7.holds Tryz.pinned (.plain (OpenSpec.ofChange fnExactStoreOkSpec)) fnExactStoreOkCard

/-- THE SECOND FORM's CARD OF 'laws.FnExactReadPool'. -/
def fnExactReadPoolUptoCard : Claim7 := { stood := { row := fnExactReadPoolUptoRow, standIns := [], harness := (true, "97a3ccdc2d0299e4f2e4eba27fc8c29e934c0a45a91c46e8f31792aac64731a4"), looks := true }, kinds := [], alts := [], laidByText := true, laidKinds := [.data, .data, .data, .data, .sentinel, .sentinel, .sentinel, .pinned], laidTests := true, laidLooks := .later }
def FnExactReadPoolUptoCardSaid : Prop := Claim7.holds Tryz.pinned (.plain (OpenSpec.upto fnExactReadPoolSpec)) fnExactReadPoolUptoCard

/-- THE SECOND FORM's CARD OF 'laws.FnExactSuperText'. -/
def fnExactSuperTextUptoCard : Claim7 := { stood := { row := fnExactSuperTextUptoRow, standIns := [], harness := (true, "97a3ccdc2d0299e4f2e4eba27fc8c29e934c0a45a91c46e8f31792aac64731a4"), looks := true }, kinds := [], alts := [], laidByText := true, laidKinds := [.data, .data, .data], laidTests := true, laidLooks := .later }
def FnExactSuperTextUptoCardSaid : Prop := Claim7.holds Tryz.pinned (.plain (OpenSpec.upto fnExactSuperTextSpec)) fnExactSuperTextUptoCard

/-- THE SECOND FORM's CARD OF 'laws.FnExactReadSuper'. -/
def fnExactReadSuperUptoCard : Claim7 := { stood := { row := fnExactReadSuperUptoRow, standIns := [], harness := (true, "97a3ccdc2d0299e4f2e4eba27fc8c29e934c0a45a91c46e8f31792aac64731a4"), looks := true }, kinds := [], alts := [], laidByText := true, laidKinds := [.data, .data, .data, .data, .sentinel, .sentinel, .sentinel, .pinned], laidTests := true, laidLooks := .later }
def FnExactReadSuperUptoCardSaid : Prop := Claim7.holds Tryz.pinned (.plain (OpenSpec.upto fnExactReadSuperSpec)) fnExactReadSuperUptoCard

/-- THE SECOND FORM's CARD OF 'laws.FnExactCommitted'. -/
def fnExactCommittedUptoCard : Claim7 := { stood := { row := fnExactCommittedUptoRow, standIns := [], harness := (true, "97a3ccdc2d0299e4f2e4eba27fc8c29e934c0a45a91c46e8f31792aac64731a4"), looks := true }, kinds := [], alts := [], laidByText := true, laidKinds := [.data, .data, .data, .data, .sentinel, .sentinel, .sentinel, .pinned], laidTests := true, laidLooks := .later }
def FnExactCommittedUptoCardSaid : Prop := Claim7.holds Tryz.pinned (.plain (OpenSpec.upto fnExactCommittedSpec)) fnExactCommittedUptoCard

/-- THE SECOND FORM's CARD OF 'laws.FnExactStoreNew'. -/
def fnExactStoreNewUptoCard : Claim7 := { stood := { row := fnExactStoreNewUptoRow, standIns := [], harness := (true, "97a3ccdc2d0299e4f2e4eba27fc8c29e934c0a45a91c46e8f31792aac64731a4"), looks := true }, kinds := [], alts := [], laidByText := true, laidKinds := [.data, .data, .data], laidTests := true, laidLooks := .later }
def FnExactStoreNewUptoCardSaid : Prop := Claim7.holds Tryz.pinned (.plain (OpenSpec.upto fnExactStoreNewSpec)) fnExactStoreNewUptoCard

/-- THE SECOND FORM's CARD OF 'laws.FnExactStoreOk'. -/
def fnExactStoreOkUptoCard : Claim7 := { stood := { row := fnExactStoreOkUptoRow, standIns := [], harness := (true, "97a3ccdc2d0299e4f2e4eba27fc8c29e934c0a45a91c46e8f31792aac64731a4"), looks := true }, kinds := [], alts := [], laidByText := true, laidKinds := [.data, .data, .data, .data, .sentinel, .sentinel, .sentinel, .pinned], laidTests := true, laidLooks := .later }
def FnExactStoreOkUptoCardSaid : Prop := Claim7.holds Tryz.pinned (.plain (OpenSpec.upto fnExactStoreOkSpec)) fnExactStoreOkUptoCard
end Rows
end Go.Proofs.YtigldeccfpkdmaaGreatDoor
