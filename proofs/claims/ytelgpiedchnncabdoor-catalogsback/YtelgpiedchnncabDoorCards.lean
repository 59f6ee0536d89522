/-
  DERIVED. GIVEN WITH THE SEED: THE CARDS: each row of YtelgpiedchnncabDoorRows.lean that lists a variable, with what it lists TIED to the program's text (the seventh form; the later family's looks); each row that meets fmt, with fmt's text TOLD by the authors' own Lean function (tested against real Go, not proved from fmt's source: count such statements apart). THE CARD IS WHAT COUNTS. Prove the row's statement (the work); the ties are given (YtelgpiedchnncabDoorTie.lean); close each card by the builder's one call (the guide's Derived/Test/ToyasCard.lean, 'card_holds'). Laid BY PROGRAM, IN A SANDBOX (cutbox-door.mjs). By AI agents, Wed Nov 11 2026. No macro, syntax, notation, axiom, sorry.
-/
import Derived.Test.YtelgpiedchnncabDoorRows
import GoSem.ClaimSeven
namespace Go.Proofs.YtelgpiedchnncabDoor
namespace Rows

/-- THE TIED CARD OF 'arraslaw.CatalogDecodes'. -/
def catalogDecodesCard : Claim7 := { stood := { row := catalogDecodesRow, standIns := [], harness := (true, "1b300cd1c4582618e6b9e9f913114aa922746806885baca481e97b3e5baea755"), looks := false }, kinds := [], alts := [], laidByText := true, laidKinds := [.data, .pinned], laidTests := true, laidLooks := .later }
def CatalogDecodesCardSaid : Prop := Claim7.holds Tryd.pinned (.plain (OpenSpec.ofChange catalogDecodesSpec)) catalogDecodesCard

/-- THE TIED CARD OF 'arraskeep.CatalogsBack'. -/
def catalogsBackCard : Claim7 := { stood := { row := catalogsBackRow, standIns := [], harness := (true, "1b300cd1c4582618e6b9e9f913114aa922746806885baca481e97b3e5baea755"), looks := false }, kinds := [], alts := [], laidByText := true, laidKinds := [.data, .pinned], laidTests := true, laidLooks := .later }
def CatalogsBackCardSaid : Prop := Claim7.holds Tryd.pinned (.plain (OpenSpec.ofChange catalogsBackSpec)) catalogsBackCard

/-- THE SECOND FORM's CARD OF 'arraslaw.CatalogDecodes'. -/
def catalogDecodesUptoCard : Claim7 := { stood := { row := catalogDecodesUptoRow, standIns := [], harness := (true, "1b300cd1c4582618e6b9e9f913114aa922746806885baca481e97b3e5baea755"), looks := false }, kinds := [], alts := [], laidByText := true, laidKinds := [.data, .pinned], laidTests := true, laidLooks := .later }
def CatalogDecodesUptoCardSaid : Prop := Claim7.holds Tryd.pinned (.plain (OpenSpec.upto catalogDecodesSpec)) catalogDecodesUptoCard

/-- THE SECOND FORM's CARD OF 'arraskeep.CatalogsBack'. -/
def catalogsBackUptoCard : Claim7 := { stood := { row := catalogsBackUptoRow, standIns := [], harness := (true, "1b300cd1c4582618e6b9e9f913114aa922746806885baca481e97b3e5baea755"), looks := false }, kinds := [], alts := [], laidByText := true, laidKinds := [.data, .pinned], laidTests := true, laidLooks := .later }
def CatalogsBackUptoCardSaid : Prop := Claim7.holds Tryd.pinned (.plain (OpenSpec.upto catalogsBackSpec)) catalogsBackUptoCard
end Rows
end Go.Proofs.YtelgpiedchnncabDoor
