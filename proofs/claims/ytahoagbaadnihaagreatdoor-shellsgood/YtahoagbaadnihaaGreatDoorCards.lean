/-
  DERIVED. GIVEN WITH THE SEED: THE CARDS: each row of YtahoagbaadnihaaGreatDoorRows.lean that lists a variable, with what it lists TIED to the program's text (the seventh form; the later family's looks); each row that meets fmt, with fmt's text TOLD by the authors' own Lean function (tested against real Go, not proved from fmt's source: count such statements apart). THE CARD IS WHAT COUNTS. Prove the row's statement (the work); the ties are given (YtahoagbaadnihaaGreatDoorTie.lean); close each card by the builder's one call (the guide's Derived/Test/ToyasCard.lean, 'card_holds'). Laid BY PROGRAM, IN A SANDBOX (cutbox-door.mjs). By AI agents, Wed Nov 11 2026. No macro, syntax, notation, axiom, sorry.
-/
import Derived.Test.YtahoagbaadnihaaGreatDoorRows
import GoSem.ClaimSeven
namespace Go.Proofs.YtahoagbaadnihaaGreatDoor
namespace Rows

/-- THE TIED CARD OF 'arraslaw.ShellRuns'. -/
def shellRunsCard : Claim7 := { stood := { row := shellRunsRow, standIns := [], harness := (true, "b499f7743dfc50bd312f82b71788530561c73f43cef8a9a5f4b330cad4d5a33e"), looks := false }, kinds := [], alts := [], laidByText := true, laidKinds := [.data, .pinned], laidTests := true, laidLooks := .later }
def ShellRunsCardSaid : Prop := Claim7.holds Tryz.pinned (.plain (OpenSpec.ofChange shellRunsSpec)) shellRunsCard

/-- THE TIED CARD OF 'arraskeep.ShellsGood'. -/
def shellsGoodCard : Claim7 := { stood := { row := shellsGoodRow, standIns := [], harness := (true, "b499f7743dfc50bd312f82b71788530561c73f43cef8a9a5f4b330cad4d5a33e"), looks := false }, kinds := [], alts := [], laidByText := true, laidKinds := [.data, .data, .data, .data, .pinned], laidTests := true, laidLooks := .later }
def ShellsGoodCardSaid : Prop := Claim7.holds Tryz.pinned (.plain (OpenSpec.ofChange shellsGoodSpec)) shellsGoodCard

/-- THE TIED CARD OF 'arrastop.TopOne'. -/
def topOneCard : Claim7 := { stood := { row := topOneRow, standIns := [], harness := (true, "b499f7743dfc50bd312f82b71788530561c73f43cef8a9a5f4b330cad4d5a33e"), looks := false }, kinds := [], alts := [], laidByText := true, laidKinds := [.data, .data, .data, .data, .pinned], laidTests := true, laidLooks := .later }
def TopOneCardSaid : Prop := Claim7.holds Tryz.pinned (.plain (OpenSpec.ofChange topOneSpec)) topOneCard

/-- THE TIED CARD OF 'arrastop.TopThen'. -/
def topThenCard : Claim7 := { stood := { row := topThenRow, standIns := [], harness := (true, "b499f7743dfc50bd312f82b71788530561c73f43cef8a9a5f4b330cad4d5a33e"), looks := false }, kinds := [], alts := [], laidByText := true, laidKinds := [.data, .data, .data, .data, .pinned], laidTests := true, laidLooks := .later }
def TopThenCardSaid : Prop := Claim7.holds Tryz.pinned (.plain (OpenSpec.ofChange topThenSpec)) topThenCard

/-- THE TIED CARD OF 'arrastop.TopHealth'. -/
def topHealthCard : Claim7 := { stood := { row := topHealthRow, standIns := [], harness := (true, "b499f7743dfc50bd312f82b71788530561c73f43cef8a9a5f4b330cad4d5a33e"), looks := false }, kinds := [], alts := [], laidByText := true, laidKinds := [.data, .data, .data, .data, .pinned], laidTests := true, laidLooks := .later }
def TopHealthCardSaid : Prop := Claim7.holds Tryz.pinned (.plain (OpenSpec.ofChange topHealthSpec)) topHealthCard

/-- THE TIED CARD OF 'arrastop.TopScrub'. -/
def topScrubCard : Claim7 := { stood := { row := topScrubRow, standIns := [], harness := (true, "b499f7743dfc50bd312f82b71788530561c73f43cef8a9a5f4b330cad4d5a33e"), looks := false }, kinds := [], alts := [], laidByText := true, laidKinds := [.data, .data, .data, .data, .pinned], laidTests := true, laidLooks := .later }
def TopScrubCardSaid : Prop := Claim7.holds Tryz.pinned (.plain (OpenSpec.ofChange topScrubSpec)) topScrubCard

/-- THE SECOND FORM's CARD OF 'arraslaw.ShellRuns'. -/
def shellRunsUptoCard : Claim7 := { stood := { row := shellRunsUptoRow, standIns := [], harness := (true, "b499f7743dfc50bd312f82b71788530561c73f43cef8a9a5f4b330cad4d5a33e"), looks := false }, kinds := [], alts := [], laidByText := true, laidKinds := [.data, .pinned], laidTests := true, laidLooks := .later }
def ShellRunsUptoCardSaid : Prop := Claim7.holds Tryz.pinned (.plain (OpenSpec.upto shellRunsSpec)) shellRunsUptoCard

/-- THE SECOND FORM's CARD OF 'arraskeep.ShellsGood'. -/
def shellsGoodUptoCard : Claim7 := { stood := { row := shellsGoodUptoRow, standIns := [], harness := (true, "b499f7743dfc50bd312f82b71788530561c73f43cef8a9a5f4b330cad4d5a33e"), looks := false }, kinds := [], alts := [], laidByText := true, laidKinds := [.data, .data, .data, .data, .pinned], laidTests := true, laidLooks := .later }
def ShellsGoodUptoCardSaid : Prop := Claim7.holds Tryz.pinned (.plain (OpenSpec.upto shellsGoodSpec)) shellsGoodUptoCard

/-- THE SECOND FORM's CARD OF 'arrastop.TopOne'. -/
def topOneUptoCard : Claim7 := { stood := { row := topOneUptoRow, standIns := [], harness := (true, "b499f7743dfc50bd312f82b71788530561c73f43cef8a9a5f4b330cad4d5a33e"), looks := false }, kinds := [], alts := [], laidByText := true, laidKinds := [.data, .data, .data, .data, .pinned], laidTests := true, laidLooks := .later }
def TopOneUptoCardSaid : Prop := Claim7.holds Tryz.pinned (.plain (OpenSpec.upto topOneSpec)) topOneUptoCard

/-- THE SECOND FORM's CARD OF 'arrastop.TopThen'. -/
def topThenUptoCard : Claim7 := { stood := { row := topThenUptoRow, standIns := [], harness := (true, "b499f7743dfc50bd312f82b71788530561c73f43cef8a9a5f4b330cad4d5a33e"), looks := false }, kinds := [], alts := [], laidByText := true, laidKinds := [.data, .data, .data, .data, .pinned], laidTests := true, laidLooks := .later }
def TopThenUptoCardSaid : Prop := Claim7.holds Tryz.pinned (.plain (OpenSpec.upto topThenSpec)) topThenUptoCard

/-- THE SECOND FORM's CARD OF 'arrastop.TopHealth'. -/
def topHealthUptoCard : Claim7 := { stood := { row := topHealthUptoRow, standIns := [], harness := (true, "b499f7743dfc50bd312f82b71788530561c73f43cef8a9a5f4b330cad4d5a33e"), looks := false }, kinds := [], alts := [], laidByText := true, laidKinds := [.data, .data, .data, .data, .pinned], laidTests := true, laidLooks := .later }
def TopHealthUptoCardSaid : Prop := Claim7.holds Tryz.pinned (.plain (OpenSpec.upto topHealthSpec)) topHealthUptoCard

/-- THE SECOND FORM's CARD OF 'arrastop.TopScrub'. -/
def topScrubUptoCard : Claim7 := { stood := { row := topScrubUptoRow, standIns := [], harness := (true, "b499f7743dfc50bd312f82b71788530561c73f43cef8a9a5f4b330cad4d5a33e"), looks := false }, kinds := [], alts := [], laidByText := true, laidKinds := [.data, .data, .data, .data, .pinned], laidTests := true, laidLooks := .later }
def TopScrubUptoCardSaid : Prop := Claim7.holds Tryz.pinned (.plain (OpenSpec.upto topScrubSpec)) topScrubUptoCard
end Rows
end Go.Proofs.YtahoagbaadnihaaGreatDoor
