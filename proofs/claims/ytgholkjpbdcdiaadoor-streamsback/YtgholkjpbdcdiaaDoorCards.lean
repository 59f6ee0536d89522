/-
  DERIVED. GIVEN WITH THE SEED: THE CARDS: each row of YtgholkjpbdcdiaaDoorRows.lean that lists a variable, with what it lists TIED to the program's text (the seventh form; the later family's looks); each row that meets fmt, with fmt's text TOLD by the authors' own Lean function (tested against real Go, not proved from fmt's source: count such statements apart). THE CARD IS WHAT COUNTS. Prove the row's statement (the work); the ties are given (YtgholkjpbdcdiaaDoorTie.lean); close each card by the builder's one call (the guide's Derived/Test/ToyasCard.lean, 'card_holds'). Laid BY PROGRAM, IN A SANDBOX (cutbox-door.mjs). By AI agents, Wed Nov 11 2026. No macro, syntax, notation, axiom, sorry.
-/
import Derived.Test.YtgholkjpbdcdiaaDoorRows
import GoSem.ClaimSeven
namespace Go.Proofs.YtgholkjpbdcdiaaDoor
namespace Rows

/-- THE TIED CARD OF 'arraskeep.StreamsBack'. -/
def streamsBackCard : Claim7 := { stood := { row := streamsBackRow, standIns := [], harness := (true, "307f606e74b4da3259a65c4a620799e87bc474f96dcc6e12a3e3bd5f41215d62"), looks := false }, kinds := [], alts := [], laidByText := true, laidKinds := [.data, .data, .data], laidTests := true, laidLooks := .later }
def StreamsBackCardSaid : Prop := Claim7.holds Tryd.pinned (.plain (OpenSpec.ofChange streamsBackSpec)) streamsBackCard

/-- THE SECOND FORM's CARD OF 'arraskeep.StreamsBack'. -/
def streamsBackUptoCard : Claim7 := { stood := { row := streamsBackUptoRow, standIns := [], harness := (true, "307f606e74b4da3259a65c4a620799e87bc474f96dcc6e12a3e3bd5f41215d62"), looks := false }, kinds := [], alts := [], laidByText := true, laidKinds := [.data, .data, .data], laidTests := true, laidLooks := .later }
def StreamsBackUptoCardSaid : Prop := Claim7.holds Tryd.pinned (.plain (OpenSpec.upto streamsBackSpec)) streamsBackUptoCard
end Rows
end Go.Proofs.YtgholkjpbdcdiaaDoor
