/-
  DERIVED. GIVEN WITH THE SEED: THE CARDS: each row of YtkhjmfngeidlcaaDoorRows.lean that lists a variable, with what it lists TIED to the program's text (the seventh form; the later family's looks); each row that meets fmt, with fmt's text TOLD by the authors' own Lean function (tested against real Go, not proved from fmt's source: count such statements apart). THE CARD IS WHAT COUNTS. Prove the row's statement (the work); the ties are given (YtkhjmfngeidlcaaDoorTie.lean); close each card by the builder's one call (the guide's Derived/Test/ToyasCard.lean, 'card_holds'). Laid BY PROGRAM, IN A SANDBOX (cutbox-door.mjs). By AI agents, Wed Nov 11 2026. No macro, syntax, notation, axiom, sorry.
-/
import Derived.Test.YtkhjmfngeidlcaaDoorRows
import GoSem.ClaimSeven
namespace Go.Proofs.YtkhjmfngeidlcaaDoor
namespace Rows

/-- THE TIED CARD OF 'arraslaw.ArchiveOpens'. -/
def archiveOpensCard : Claim7 := { stood := { row := archiveOpensRow, standIns := [], harness := (true, "1ff65d621a2761661fc17256197467c30eb7e9f097047a49864ad30d1045f2dd"), looks := false }, kinds := [], alts := [], laidByText := true, laidKinds := [.data, .pinned], laidTests := true, laidLooks := .later }
def ArchiveOpensCardSaid : Prop := Claim7.holds Tryd.pinned (.plain (OpenSpec.ofChange archiveOpensSpec)) archiveOpensCard

/-- THE TIED CARD OF 'arraslaw.ArchiveGets'. -/
def archiveGetsCard : Claim7 := { stood := { row := archiveGetsRow, standIns := [], harness := (true, "1ff65d621a2761661fc17256197467c30eb7e9f097047a49864ad30d1045f2dd"), looks := false }, kinds := [], alts := [], laidByText := true, laidKinds := [.data, .pinned], laidTests := true, laidLooks := .later }
def ArchiveGetsCardSaid : Prop := Claim7.holds Tryd.pinned (.plain (OpenSpec.ofChange archiveGetsSpec)) archiveGetsCard

/-- THE TIED CARD OF 'arraslaw.ArchiveNames'. -/
def archiveNamesCard : Claim7 := { stood := { row := archiveNamesRow, standIns := [], harness := (true, "1ff65d621a2761661fc17256197467c30eb7e9f097047a49864ad30d1045f2dd"), looks := false }, kinds := [], alts := [], laidByText := true, laidKinds := [.data, .pinned], laidTests := true, laidLooks := .later }
def ArchiveNamesCardSaid : Prop := Claim7.holds Tryd.pinned (.plain (OpenSpec.ofChange archiveNamesSpec)) archiveNamesCard

/-- THE SECOND FORM's CARD OF 'arraslaw.ArchiveOpens'. -/
def archiveOpensUptoCard : Claim7 := { stood := { row := archiveOpensUptoRow, standIns := [], harness := (true, "1ff65d621a2761661fc17256197467c30eb7e9f097047a49864ad30d1045f2dd"), looks := false }, kinds := [], alts := [], laidByText := true, laidKinds := [.data, .pinned], laidTests := true, laidLooks := .later }
def ArchiveOpensUptoCardSaid : Prop := Claim7.holds Tryd.pinned (.plain (OpenSpec.upto archiveOpensSpec)) archiveOpensUptoCard

/-- THE SECOND FORM's CARD OF 'arraslaw.ArchiveGets'. -/
def archiveGetsUptoCard : Claim7 := { stood := { row := archiveGetsUptoRow, standIns := [], harness := (true, "1ff65d621a2761661fc17256197467c30eb7e9f097047a49864ad30d1045f2dd"), looks := false }, kinds := [], alts := [], laidByText := true, laidKinds := [.data, .pinned], laidTests := true, laidLooks := .later }
def ArchiveGetsUptoCardSaid : Prop := Claim7.holds Tryd.pinned (.plain (OpenSpec.upto archiveGetsSpec)) archiveGetsUptoCard

/-- THE SECOND FORM's CARD OF 'arraslaw.ArchiveNames'. -/
def archiveNamesUptoCard : Claim7 := { stood := { row := archiveNamesUptoRow, standIns := [], harness := (true, "1ff65d621a2761661fc17256197467c30eb7e9f097047a49864ad30d1045f2dd"), looks := false }, kinds := [], alts := [], laidByText := true, laidKinds := [.data, .pinned], laidTests := true, laidLooks := .later }
def ArchiveNamesUptoCardSaid : Prop := Claim7.holds Tryd.pinned (.plain (OpenSpec.upto archiveNamesSpec)) archiveNamesUptoCard
end Rows
end Go.Proofs.YtkhjmfngeidlcaaDoor
