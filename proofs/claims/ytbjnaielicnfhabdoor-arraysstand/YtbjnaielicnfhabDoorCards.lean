/-
  DERIVED. GIVEN WITH THE SEED: THE CARDS: each row of YtbjnaielicnfhabDoorRows.lean that lists a variable, with what it lists TIED to the program's text (the seventh form; the later family's looks); each row that meets fmt, with fmt's text TOLD by the authors' own Lean function (tested against real Go, not proved from fmt's source: count such statements apart). THE CARD IS WHAT COUNTS. Prove the row's statement (the work); the ties are given (YtbjnaielicnfhabDoorTie.lean); close each card by the builder's one call (the guide's Derived/Test/ToyasCard.lean, 'card_holds'). Laid BY PROGRAM, IN A SANDBOX (cutbox-door.mjs). By AI agents, Wed Nov 11 2026. No macro, syntax, notation, axiom, sorry.
-/
import Derived.Test.YtbjnaielicnfhabDoorRows
import GoSem.ClaimSeven
namespace Go.Proofs.YtbjnaielicnfhabDoor
namespace Rows

/-- THE TIED CARD OF 'arraskeep.ArraysStand'. -/
def arraysStandCard : Claim7 := { stood := { row := arraysStandRow, standIns := [], harness := (true, "6af98e124636e9addf48f55dcfcc2a840b779c1f904a22cf6fffbd9ba7135ca3"), looks := false }, kinds := [], alts := [], laidByText := true, laidKinds := [.data, .data, .data], laidTests := true, laidLooks := .later }
def ArraysStandCardSaid : Prop := Claim7.holds Tryd.pinned (.plain (OpenSpec.ofChange arraysStandSpec)) arraysStandCard

/-- THE TIED CARD OF 'arraskeep.ArraysParity'. -/
def arraysParityCard : Claim7 := { stood := { row := arraysParityRow, standIns := [], harness := (true, "6af98e124636e9addf48f55dcfcc2a840b779c1f904a22cf6fffbd9ba7135ca3"), looks := false }, kinds := [], alts := [], laidByText := true, laidKinds := [.data, .data, .data], laidTests := true, laidLooks := .later }
def ArraysParityCardSaid : Prop := Claim7.holds Tryd.pinned (.plain (OpenSpec.ofChange arraysParitySpec)) arraysParityCard

/-- THE TIED CARD OF 'arraskeep.WritesStay'. -/
def writesStayCard : Claim7 := { stood := { row := writesStayRow, standIns := [], harness := (true, "6af98e124636e9addf48f55dcfcc2a840b779c1f904a22cf6fffbd9ba7135ca3"), looks := false }, kinds := [], alts := [], laidByText := true, laidKinds := [.data, .data, .data], laidTests := true, laidLooks := .later }
def WritesStayCardSaid : Prop := Claim7.holds Tryd.pinned (.plain (OpenSpec.ofChange writesStaySpec)) writesStayCard

/-- THE SECOND FORM's CARD OF 'arraskeep.ArraysStand'. -/
def arraysStandUptoCard : Claim7 := { stood := { row := arraysStandUptoRow, standIns := [], harness := (true, "6af98e124636e9addf48f55dcfcc2a840b779c1f904a22cf6fffbd9ba7135ca3"), looks := false }, kinds := [], alts := [], laidByText := true, laidKinds := [.data, .data, .data], laidTests := true, laidLooks := .later }
def ArraysStandUptoCardSaid : Prop := Claim7.holds Tryd.pinned (.plain (OpenSpec.upto arraysStandSpec)) arraysStandUptoCard

/-- THE SECOND FORM's CARD OF 'arraskeep.ArraysParity'. -/
def arraysParityUptoCard : Claim7 := { stood := { row := arraysParityUptoRow, standIns := [], harness := (true, "6af98e124636e9addf48f55dcfcc2a840b779c1f904a22cf6fffbd9ba7135ca3"), looks := false }, kinds := [], alts := [], laidByText := true, laidKinds := [.data, .data, .data], laidTests := true, laidLooks := .later }
def ArraysParityUptoCardSaid : Prop := Claim7.holds Tryd.pinned (.plain (OpenSpec.upto arraysParitySpec)) arraysParityUptoCard

/-- THE SECOND FORM's CARD OF 'arraskeep.WritesStay'. -/
def writesStayUptoCard : Claim7 := { stood := { row := writesStayUptoRow, standIns := [], harness := (true, "6af98e124636e9addf48f55dcfcc2a840b779c1f904a22cf6fffbd9ba7135ca3"), looks := false }, kinds := [], alts := [], laidByText := true, laidKinds := [.data, .data, .data], laidTests := true, laidLooks := .later }
def WritesStayUptoCardSaid : Prop := Claim7.holds Tryd.pinned (.plain (OpenSpec.upto writesStaySpec)) writesStayUptoCard
end Rows
end Go.Proofs.YtbjnaielicnfhabDoor
