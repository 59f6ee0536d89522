/-
  DERIVED. GIVEN WITH THE SEED: THE CARDS: each row of YtbchphhmkbacmabDoorRows.lean that lists a variable, with what it lists TIED to the program's text (the seventh form; the later family's looks); each row that meets fmt, with fmt's text TOLD by the authors' own Lean function (tested against real Go, not proved from fmt's source: count such statements apart). THE CARD IS WHAT COUNTS. Prove the row's statement (the work); the ties are given (YtbchphhmkbacmabDoorTie.lean); close each card by the builder's one call (the guide's Derived/Test/ToyasCard.lean, 'card_holds'). Laid BY PROGRAM, IN A SANDBOX (cutbox-door.mjs). By AI agents, Wed Nov 11 2026. No macro, syntax, notation, axiom, sorry.
-/
import Derived.Test.YtbchphhmkbacmabDoorRows
import GoSem.ClaimSeven
namespace Go.Proofs.YtbchphhmkbacmabDoor
namespace Rows

/-- THE TIED CARD OF 'arraskeep.SectorsBack'. -/
def sectorsBackCard : Claim7 := { stood := { row := sectorsBackRow, standIns := [], harness := (true, "847e7b9d7f3840257b3726d1a87b50718f2bccb0f65f74f81875f6cde11ef2f5"), looks := false }, kinds := [], alts := [], laidByText := true, laidKinds := [.data, .pinned], laidTests := true, laidLooks := .later }
def SectorsBackCardSaid : Prop := Claim7.holds Tryd.pinned (.plain (OpenSpec.ofChange sectorsBackSpec)) sectorsBackCard

/-- THE SECOND FORM's CARD OF 'arraskeep.SectorsBack'. -/
def sectorsBackUptoCard : Claim7 := { stood := { row := sectorsBackUptoRow, standIns := [], harness := (true, "847e7b9d7f3840257b3726d1a87b50718f2bccb0f65f74f81875f6cde11ef2f5"), looks := false }, kinds := [], alts := [], laidByText := true, laidKinds := [.data, .pinned], laidTests := true, laidLooks := .later }
def SectorsBackUptoCardSaid : Prop := Claim7.holds Tryd.pinned (.plain (OpenSpec.upto sectorsBackSpec)) sectorsBackUptoCard
end Rows
end Go.Proofs.YtbchphhmkbacmabDoor
