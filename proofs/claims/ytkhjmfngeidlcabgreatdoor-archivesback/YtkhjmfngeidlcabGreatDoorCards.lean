/-
  DERIVED. GIVEN WITH THE SEED: THE CARDS: each row of YtkhjmfngeidlcabGreatDoorRows.lean that lists a variable, with what it lists TIED to the program's text (the seventh form; the later family's looks); each row that meets fmt, with fmt's text TOLD by the authors' own Lean function (tested against real Go, not proved from fmt's source: count such statements apart). THE CARD IS WHAT COUNTS. Prove the row's statement (the work); the ties are given (YtkhjmfngeidlcabGreatDoorTie.lean); close each card by the builder's one call (the guide's Derived/Test/ToyasCard.lean, 'card_holds'). Laid BY PROGRAM, IN A SANDBOX (cutbox-door.mjs). By AI agents, Wed Nov 11 2026. No macro, syntax, notation, axiom, sorry.
-/
import Derived.Test.YtkhjmfngeidlcabGreatDoorRows
import GoSem.ClaimSeven
namespace Go.Proofs.YtkhjmfngeidlcabGreatDoor
namespace Rows

/-- THE TIED CARD OF 'arraskeep.ArchivesBack'. -/
def archivesBackCard : Claim7 := { stood := { row := archivesBackRow, standIns := [], harness := (true, "8e6102d5b94e1d5b070676926fb1f848ef22b1d661026095e44c2d736672ac2e"), looks := false }, kinds := [], alts := [], laidByText := true, laidKinds := [.data, .data, .data, .data, .pinned], laidTests := true, laidLooks := .later }
def ArchivesBackCardSaid : Prop := Claim7.holds Tryz.pinned (.plain (OpenSpec.ofChange archivesBackSpec)) archivesBackCard

/-- THE SECOND FORM's CARD OF 'arraskeep.ArchivesBack'. -/
def archivesBackUptoCard : Claim7 := { stood := { row := archivesBackUptoRow, standIns := [], harness := (true, "8e6102d5b94e1d5b070676926fb1f848ef22b1d661026095e44c2d736672ac2e"), looks := false }, kinds := [], alts := [], laidByText := true, laidKinds := [.data, .data, .data, .data, .pinned], laidTests := true, laidLooks := .later }
def ArchivesBackUptoCardSaid : Prop := Claim7.holds Tryz.pinned (.plain (OpenSpec.upto archivesBackSpec)) archivesBackUptoCard
end Rows
end Go.Proofs.YtkhjmfngeidlcabGreatDoor
