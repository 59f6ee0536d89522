/-
  DERIVED. GIVEN WITH THE SEED: THE CARDS: each row of YtahoagbaadnihabGreatDoorRows.lean that lists a variable, with what it lists TIED to the program's text (the seventh form; the later family's looks); each row that meets fmt, with fmt's text TOLD by the authors' own Lean function (tested against real Go, not proved from fmt's source: count such statements apart). THE CARD IS WHAT COUNTS. Prove the row's statement (the work); the ties are given (YtahoagbaadnihabGreatDoorTie.lean); close each card by the builder's one call (the guide's Derived/Test/ToyasCard.lean, 'card_holds'). Laid BY PROGRAM, IN A SANDBOX (cutbox-door.mjs). By AI agents, Wed Nov 11 2026. No macro, syntax, notation, axiom, sorry.
-/
import Derived.Test.YtahoagbaadnihabGreatDoorRows
import GoSem.ClaimSeven
namespace Go.Proofs.YtahoagbaadnihabGreatDoor
namespace Rows

/-- THE TIED CARD OF 'arrastop.TopSteps'. -/
def topStepsCard : Claim7 := { stood := { row := topStepsRow, standIns := [], harness := (true, "8186e83c2b630ecb5b5db4f58e20c29036d3e3797c5a3ac63be0229e6cb3176b"), looks := false }, kinds := [], alts := [], laidByText := true, laidKinds := [.data, .data, .data, .data, .pinned], laidTests := true, laidLooks := .later }
def TopStepsCardSaid : Prop := Claim7.holds Tryz.pinned (.plain (OpenSpec.ofChange topStepsSpec)) topStepsCard

/-- THE TIED CARD OF 'arrastop.TopAfter'. -/
def topAfterCard : Claim7 := { stood := { row := topAfterRow, standIns := [], harness := (true, "8186e83c2b630ecb5b5db4f58e20c29036d3e3797c5a3ac63be0229e6cb3176b"), looks := false }, kinds := [], alts := [], laidByText := true, laidKinds := [.data, .data, .data, .data, .pinned], laidTests := true, laidLooks := .later }
def TopAfterCardSaid : Prop := Claim7.holds Tryz.pinned (.plain (OpenSpec.ofChange topAfterSpec)) topAfterCard

/-- THE TIED CARD OF 'arrastop.TopNames'. -/
def topNamesCard : Claim7 := { stood := { row := topNamesRow, standIns := [], harness := (true, "8186e83c2b630ecb5b5db4f58e20c29036d3e3797c5a3ac63be0229e6cb3176b"), looks := false }, kinds := [], alts := [], laidByText := true, laidKinds := [.data, .data, .data, .data, .pinned], laidTests := true, laidLooks := .later }
def TopNamesCardSaid : Prop := Claim7.holds Tryz.pinned (.plain (OpenSpec.ofChange topNamesSpec)) topNamesCard

/-- THE TIED CARD OF 'arrastop.TopTwice'. -/
def topTwiceCard : Claim7 := { stood := { row := topTwiceRow, standIns := [], harness := (true, "8186e83c2b630ecb5b5db4f58e20c29036d3e3797c5a3ac63be0229e6cb3176b"), looks := false }, kinds := [], alts := [], laidByText := true, laidKinds := [.data, .data, .data, .data, .pinned], laidTests := true, laidLooks := .later }
def TopTwiceCardSaid : Prop := Claim7.holds Tryz.pinned (.plain (OpenSpec.ofChange topTwiceSpec)) topTwiceCard

/-- THE SECOND FORM's CARD OF 'arrastop.TopSteps'. -/
def topStepsUptoCard : Claim7 := { stood := { row := topStepsUptoRow, standIns := [], harness := (true, "8186e83c2b630ecb5b5db4f58e20c29036d3e3797c5a3ac63be0229e6cb3176b"), looks := false }, kinds := [], alts := [], laidByText := true, laidKinds := [.data, .data, .data, .data, .pinned], laidTests := true, laidLooks := .later }
def TopStepsUptoCardSaid : Prop := Claim7.holds Tryz.pinned (.plain (OpenSpec.upto topStepsSpec)) topStepsUptoCard

/-- THE SECOND FORM's CARD OF 'arrastop.TopAfter'. -/
def topAfterUptoCard : Claim7 := { stood := { row := topAfterUptoRow, standIns := [], harness := (true, "8186e83c2b630ecb5b5db4f58e20c29036d3e3797c5a3ac63be0229e6cb3176b"), looks := false }, kinds := [], alts := [], laidByText := true, laidKinds := [.data, .data, .data, .data, .pinned], laidTests := true, laidLooks := .later }
def TopAfterUptoCardSaid : Prop := Claim7.holds Tryz.pinned (.plain (OpenSpec.upto topAfterSpec)) topAfterUptoCard

/-- THE SECOND FORM's CARD OF 'arrastop.TopNames'. -/
def topNamesUptoCard : Claim7 := { stood := { row := topNamesUptoRow, standIns := [], harness := (true, "8186e83c2b630ecb5b5db4f58e20c29036d3e3797c5a3ac63be0229e6cb3176b"), looks := false }, kinds := [], alts := [], laidByText := true, laidKinds := [.data, .data, .data, .data, .pinned], laidTests := true, laidLooks := .later }
def TopNamesUptoCardSaid : Prop := Claim7.holds Tryz.pinned (.plain (OpenSpec.upto topNamesSpec)) topNamesUptoCard

/-- THE SECOND FORM's CARD OF 'arrastop.TopTwice'. -/
def topTwiceUptoCard : Claim7 := { stood := { row := topTwiceUptoRow, standIns := [], harness := (true, "8186e83c2b630ecb5b5db4f58e20c29036d3e3797c5a3ac63be0229e6cb3176b"), looks := false }, kinds := [], alts := [], laidByText := true, laidKinds := [.data, .data, .data, .data, .pinned], laidTests := true, laidLooks := .later }
def TopTwiceUptoCardSaid : Prop := Claim7.holds Tryz.pinned (.plain (OpenSpec.upto topTwiceSpec)) topTwiceUptoCard
end Rows
end Go.Proofs.YtahoagbaadnihabGreatDoor
