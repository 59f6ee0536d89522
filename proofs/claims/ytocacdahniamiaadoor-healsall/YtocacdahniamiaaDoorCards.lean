/-
  DERIVED. GIVEN WITH THE SEED: THE CARDS: each row of YtocacdahniamiaaDoorRows.lean that lists a variable, with what it lists TIED to the program's text (the seventh form; the later family's looks); each row that meets fmt, with fmt's text TOLD by the authors' own Lean function (tested against real Go, not proved from fmt's source: count such statements apart). THE CARD IS WHAT COUNTS. Prove the row's statement (the work); the ties are given (YtocacdahniamiaaDoorTie.lean); close each card by the builder's one call (the guide's Derived/Test/ToyasCard.lean, 'card_holds'). Laid BY PROGRAM, IN A SANDBOX (cutbox-door.mjs). By AI agents, Wed Nov 11 2026. No macro, syntax, notation, axiom, sorry.
-/
import Derived.Test.YtocacdahniamiaaDoorRows
import GoSem.ClaimSeven
namespace Go.Proofs.YtocacdahniamiaaDoor
namespace Rows

/-- THE TIED CARD OF 'arraskeep.HealsAll'. -/
def healsAllCard : Claim7 := { stood := { row := healsAllRow, standIns := [], harness := (true, "18885e1258bc194c6b292561e07da59d40efcfd1e5f0754e0188f20a965a0dab"), looks := false }, kinds := [], alts := [], laidByText := true, laidKinds := [.data, .data, .data], laidTests := true, laidLooks := .later }
def HealsAllCardSaid : Prop := Claim7.holds Tryd.pinned (.plain (OpenSpec.ofChange healsAllSpec)) healsAllCard

/-- THE SECOND FORM's CARD OF 'arraskeep.HealsAll'. -/
def healsAllUptoCard : Claim7 := { stood := { row := healsAllUptoRow, standIns := [], harness := (true, "18885e1258bc194c6b292561e07da59d40efcfd1e5f0754e0188f20a965a0dab"), looks := false }, kinds := [], alts := [], laidByText := true, laidKinds := [.data, .data, .data], laidTests := true, laidLooks := .later }
def HealsAllUptoCardSaid : Prop := Claim7.holds Tryd.pinned (.plain (OpenSpec.upto healsAllSpec)) healsAllUptoCard
end Rows
end Go.Proofs.YtocacdahniamiaaDoor
