/-
  DERIVED. GIVEN WITH THE SEED: THE CARDS: each row of YtpnmidkocmokeaaGreatDoorRows.lean that lists a variable, with what it lists TIED to the program's text (the seventh form; the later family's looks); each row that meets fmt, with fmt's text TOLD by the authors' own Lean function (tested against real Go, not proved from fmt's source: count such statements apart). THE CARD IS WHAT COUNTS. Prove the row's statement (the work); the ties are given (YtpnmidkocmokeaaGreatDoorTie.lean); close each card by the builder's one call (the guide's Derived/Test/ToyasCard.lean, 'card_holds'). Laid BY PROGRAM, IN A SANDBOX (cutbox-door.mjs). By AI agents, Wed Nov 11 2026. No macro, syntax, notation, axiom, sorry.
-/
import Derived.Test.YtpnmidkocmokeaaGreatDoorRows
import GoSem.ClaimSeven
namespace Go.Proofs.YtpnmidkocmokeaaGreatDoor
namespace Rows

/-- THE TIED CARD OF 'arraskeep.ScrubsAll'. -/
def scrubsAllCard : Claim7 := { stood := { row := scrubsAllRow, standIns := [], harness := (true, "8ca0160fa7c1494e1036caab8bc5c856dbbbbf04e5dad789253475ee54b367d8"), looks := false }, kinds := [], alts := [], laidByText := true, laidKinds := [.data, .data, .data], laidTests := true, laidLooks := .later }
def ScrubsAllCardSaid : Prop := Claim7.holds Tryz.pinned (.plain (OpenSpec.ofChange scrubsAllSpec)) scrubsAllCard

/-- THE SECOND FORM's CARD OF 'arraskeep.ScrubsAll'. -/
def scrubsAllUptoCard : Claim7 := { stood := { row := scrubsAllUptoRow, standIns := [], harness := (true, "8ca0160fa7c1494e1036caab8bc5c856dbbbbf04e5dad789253475ee54b367d8"), looks := false }, kinds := [], alts := [], laidByText := true, laidKinds := [.data, .data, .data], laidTests := true, laidLooks := .later }
def ScrubsAllUptoCardSaid : Prop := Claim7.holds Tryz.pinned (.plain (OpenSpec.upto scrubsAllSpec)) scrubsAllUptoCard
end Rows
end Go.Proofs.YtpnmidkocmokeaaGreatDoor
