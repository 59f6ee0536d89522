/-
  No cell of these rows narrows 'for every input' (looked for: loops, veiled, ifaces, maps, wideKeys, modest, calm, conditions, laid).
  DERIVED. THE GIVEN ROWS OF THIS SEAT. 6 by the template 'for every input the law returns true; each argument reads behind the call as it read before'; 0 by the template 'total and deterministic' (their statements: YtelgpiedchnncaaTotals.lean).
  GIVEN WITH THE SEED: the statements are not yours to turn. If you find one false, say at which input.
  Laid BY PROGRAM, IN A SANDBOX (cutbox-rows.mjs): the forced cells as the released guide's own fill.sh prints them over the translation cf852ee77f96d733… (all of the seat's roots in one cut). By AI agents, Wed Nov 11 2026. No macro, syntax, notation, axiom, sorry.
-/
import Derived.Test.YtelgpiedchnncaaChecked
import GoSem.Claim
import GoSem.ClaimJoined
import GoSem.ClaimMapViews
import Derived.JoinedTies
import Derived.KernelRfl
namespace Go.Proofs.Ytelgpiedchnncaa
/- THE CELL 'sum', in the pinned program and in every row, IS THE sha256 OF THE DUMP (.gsa) THAT YtelgpiedchnncaaProg.lean LOADS. Nothing in Lean hashes anything: it is a label: what it is worth is what the hold of that sum in a sandbox is worth. -/
noncomputable def Try.pinned : Pinned := { name := "ytelgpiedchnncaa", sum := "cf852ee77f96d733c72595dee756245a94093d9695758f93e75f032df5938d61", checked := Try.checked }
namespace Rows
def none {H : Type} : Left H := { results := [], args := [] }

/-- 'arraslaw.CatalogNames': WHATEVER THE INPUT: true; the input reads as it did. -/
def catalogNamesSpec : ChangeSpec := { name := "catalogNames", fn := fun _ => fun
  | [d] => { results := [.lit (.bool true)], args := [d] }
  | _ => none }
def catalogNamesRow : OpenClaim := { program := "ytelgpiedchnncaa", sum := "cf852ee77f96d733c72595dee756245a94093d9695758f93e75f032df5938d61", func := "arras/arraslaw.CatalogNames", spec := "catalogNames", apart := false }
def CatalogNamesSaid : Prop := catalogNamesRow.holds Try.pinned (OpenSpec.ofChange catalogNamesSpec)

/-- ITS FALSE NEIGHBOUR: 'it returns false'. Refute it at one input. -/
def catalogNamesWrong : ChangeSpec := { name := "catalogNames", fn := fun _ => fun
  | [d] => { results := [.lit (.bool false)], args := [d] }
  | _ => none }
def CatalogNamesWrongFalsely : Prop := catalogNamesRow.holds Try.pinned (OpenSpec.ofChange catalogNamesWrong)

/-- 'arraslaw.CatalogChecks': WHATEVER THE INPUT: true; the input reads as it did. -/
def catalogChecksSpec : ChangeSpec := { name := "catalogChecks", fn := fun _ => fun
  | [d] => { results := [.lit (.bool true)], args := [d] }
  | _ => none }
def catalogChecksRow : OpenClaim := { program := "ytelgpiedchnncaa", sum := "cf852ee77f96d733c72595dee756245a94093d9695758f93e75f032df5938d61", func := "arras/arraslaw.CatalogChecks", spec := "catalogChecks", apart := false }
def CatalogChecksSaid : Prop := catalogChecksRow.holds Try.pinned (OpenSpec.ofChange catalogChecksSpec)

/-- ITS FALSE NEIGHBOUR: 'it returns false'. Refute it at one input. -/
def catalogChecksWrong : ChangeSpec := { name := "catalogChecks", fn := fun _ => fun
  | [d] => { results := [.lit (.bool false)], args := [d] }
  | _ => none }
def CatalogChecksWrongFalsely : Prop := catalogChecksRow.holds Try.pinned (OpenSpec.ofChange catalogChecksWrong)

/-- 'arraslaw.CatalogCopies': WHATEVER THE INPUT: true; the input reads as it did. -/
def catalogCopiesSpec : ChangeSpec := { name := "catalogCopies", fn := fun _ => fun
  | [d] => { results := [.lit (.bool true)], args := [d] }
  | _ => none }
def catalogCopiesRow : OpenClaim := { program := "ytelgpiedchnncaa", sum := "cf852ee77f96d733c72595dee756245a94093d9695758f93e75f032df5938d61", func := "arras/arraslaw.CatalogCopies", spec := "catalogCopies", apart := false }
def CatalogCopiesSaid : Prop := catalogCopiesRow.holds Try.pinned (OpenSpec.ofChange catalogCopiesSpec)

/-- ITS FALSE NEIGHBOUR: 'it returns false'. Refute it at one input. -/
def catalogCopiesWrong : ChangeSpec := { name := "catalogCopies", fn := fun _ => fun
  | [d] => { results := [.lit (.bool false)], args := [d] }
  | _ => none }
def CatalogCopiesWrongFalsely : Prop := catalogCopiesRow.holds Try.pinned (OpenSpec.ofChange catalogCopiesWrong)

/-- 'arraslaw.CatalogNexts': WHATEVER THE INPUT: true; the input reads as it did. -/
def catalogNextsSpec : ChangeSpec := { name := "catalogNexts", fn := fun _ => fun
  | [d] => { results := [.lit (.bool true)], args := [d] }
  | _ => none }
def catalogNextsRow : OpenClaim := { program := "ytelgpiedchnncaa", sum := "cf852ee77f96d733c72595dee756245a94093d9695758f93e75f032df5938d61", func := "arras/arraslaw.CatalogNexts", spec := "catalogNexts", apart := false }
def CatalogNextsSaid : Prop := catalogNextsRow.holds Try.pinned (OpenSpec.ofChange catalogNextsSpec)

/-- ITS FALSE NEIGHBOUR: 'it returns false'. Refute it at one input. -/
def catalogNextsWrong : ChangeSpec := { name := "catalogNexts", fn := fun _ => fun
  | [d] => { results := [.lit (.bool false)], args := [d] }
  | _ => none }
def CatalogNextsWrongFalsely : Prop := catalogNextsRow.holds Try.pinned (OpenSpec.ofChange catalogNextsWrong)

/-- 'arraslaw.CatalogFinds': WHATEVER THE INPUT: true; the input reads as it did. -/
def catalogFindsSpec : ChangeSpec := { name := "catalogFinds", fn := fun _ => fun
  | [d1, d2] => { results := [.lit (.bool true)], args := [d1, d2] }
  | _ => none }
def catalogFindsRow : OpenClaim := { program := "ytelgpiedchnncaa", sum := "cf852ee77f96d733c72595dee756245a94093d9695758f93e75f032df5938d61", func := "arras/arraslaw.CatalogFinds", spec := "catalogFinds", unfollowed := true, recurses := true, apart := false }
def CatalogFindsSaid : Prop := catalogFindsRow.holds Try.pinned (OpenSpec.ofChange catalogFindsSpec)

/-- ITS FALSE NEIGHBOUR: 'it returns false'. Refute it at one input. -/
def catalogFindsWrong : ChangeSpec := { name := "catalogFinds", fn := fun _ => fun
  | [d1, d2] => { results := [.lit (.bool false)], args := [d1, d2] }
  | _ => none }
def CatalogFindsWrongFalsely : Prop := catalogFindsRow.holds Try.pinned (OpenSpec.ofChange catalogFindsWrong)

/-- 'arraslaw.CatalogEncodes': WHATEVER THE INPUT: true; the input reads as it did. -/
def catalogEncodesSpec : ChangeSpec := { name := "catalogEncodes", fn := fun _ => fun
  | [d] => { results := [.lit (.bool true)], args := [d] }
  | _ => none }
def catalogEncodesRow : OpenClaim := { program := "ytelgpiedchnncaa", sum := "cf852ee77f96d733c72595dee756245a94093d9695758f93e75f032df5938d61", func := "arras/arraslaw.CatalogEncodes", spec := "catalogEncodes", apart := false }
def CatalogEncodesSaid : Prop := catalogEncodesRow.holds Try.pinned (OpenSpec.ofChange catalogEncodesSpec)

/-- ITS FALSE NEIGHBOUR: 'it returns false'. Refute it at one input. -/
def catalogEncodesWrong : ChangeSpec := { name := "catalogEncodes", fn := fun _ => fun
  | [d] => { results := [.lit (.bool false)], args := [d] }
  | _ => none }
def CatalogEncodesWrongFalsely : Prop := catalogEncodesRow.holds Try.pinned (OpenSpec.ofChange catalogEncodesWrong)

/- THE SECOND FORM. 'bulk': how many values and letters a reading holds, each counted each time it is reached (what is shared counts as often as it is met; a slice's spare places count too). A statement '..UptoSaid' is the law's where the arguments, and the package variables that the reading takes, are together of bulk at most 1048576: NARROWER than '..Said'. Prove '..Said' where nothing that the law and all that it calls make is longer than what came in: it says more and counts as full. Else prove '..UptoSaid'. A law counts once. -/
mutual
def uptoBulk {H : Type} : DataW H → Nat
  | .lit (.string bytes) => bytes.length + 1
  | .lit _ => 1
  | .nil => 1
  | .ptr d => uptoBulk d + 1
  | .slice elems spare => uptoBulkAll elems + uptoBulkAll spare + 1
  | .agg parts => uptoBulkAll parts + 1
  | .iface _ d => uptoBulk d + 1
  | .map entries => uptoBulkEntries entries + 1
  | .held _ => 1
def uptoBulkAll {H : Type} : List (DataW H) → Nat
  | [] => 0
  | d :: r => uptoBulk d + uptoBulkAll r
def uptoBulkEntries {H : Type} : List (Lit × DataW H) → Nat
  | [] => 0
  | x :: r => uptoBulkEntry x + uptoBulkEntries r
def uptoBulkEntry {H : Type} : Lit × DataW H → Nat
  | (.string bytes, d) => bytes.length + uptoBulk d + 1
  | (_, d) => uptoBulk d + 1
 end
def uptoSmall : (H : Type) → List (DataW H) → Bool := fun _ ds => decide (uptoBulkAll ds ≤ 1048576)
def OpenSpec.upto (s : _root_.Go.ChangeSpec) : _root_.Go.OpenSpec := { _root_.Go.OpenSpec.ofChange s with cond := some uptoSmall }

/-- 'arraslaw.CatalogNames', WHERE WHAT IT READS IS OF BULK AT MOST 1048576: true; the input reads as it did. -/
def catalogNamesUptoRow : OpenClaim := { program := "ytelgpiedchnncaa", sum := "cf852ee77f96d733c72595dee756245a94093d9695758f93e75f032df5938d61", func := "arras/arraslaw.CatalogNames", spec := "catalogNames", apart := false, narrowed := true }
def CatalogNamesUptoSaid : Prop := catalogNamesUptoRow.holds Try.pinned (OpenSpec.upto catalogNamesSpec)

/-- 'arraslaw.CatalogChecks', WHERE WHAT IT READS IS OF BULK AT MOST 1048576: true; the input reads as it did. -/
def catalogChecksUptoRow : OpenClaim := { program := "ytelgpiedchnncaa", sum := "cf852ee77f96d733c72595dee756245a94093d9695758f93e75f032df5938d61", func := "arras/arraslaw.CatalogChecks", spec := "catalogChecks", apart := false, narrowed := true }
def CatalogChecksUptoSaid : Prop := catalogChecksUptoRow.holds Try.pinned (OpenSpec.upto catalogChecksSpec)

/-- 'arraslaw.CatalogCopies', WHERE WHAT IT READS IS OF BULK AT MOST 1048576: true; the input reads as it did. -/
def catalogCopiesUptoRow : OpenClaim := { program := "ytelgpiedchnncaa", sum := "cf852ee77f96d733c72595dee756245a94093d9695758f93e75f032df5938d61", func := "arras/arraslaw.CatalogCopies", spec := "catalogCopies", apart := false, narrowed := true }
def CatalogCopiesUptoSaid : Prop := catalogCopiesUptoRow.holds Try.pinned (OpenSpec.upto catalogCopiesSpec)

/-- 'arraslaw.CatalogNexts', WHERE WHAT IT READS IS OF BULK AT MOST 1048576: true; the input reads as it did. -/
def catalogNextsUptoRow : OpenClaim := { program := "ytelgpiedchnncaa", sum := "cf852ee77f96d733c72595dee756245a94093d9695758f93e75f032df5938d61", func := "arras/arraslaw.CatalogNexts", spec := "catalogNexts", apart := false, narrowed := true }
def CatalogNextsUptoSaid : Prop := catalogNextsUptoRow.holds Try.pinned (OpenSpec.upto catalogNextsSpec)

/-- 'arraslaw.CatalogFinds', WHERE WHAT IT READS IS OF BULK AT MOST 1048576: true; the input reads as it did. -/
def catalogFindsUptoRow : OpenClaim := { program := "ytelgpiedchnncaa", sum := "cf852ee77f96d733c72595dee756245a94093d9695758f93e75f032df5938d61", func := "arras/arraslaw.CatalogFinds", spec := "catalogFinds", unfollowed := true, recurses := true, apart := false, narrowed := true }
def CatalogFindsUptoSaid : Prop := catalogFindsUptoRow.holds Try.pinned (OpenSpec.upto catalogFindsSpec)

/-- 'arraslaw.CatalogEncodes', WHERE WHAT IT READS IS OF BULK AT MOST 1048576: true; the input reads as it did. -/
def catalogEncodesUptoRow : OpenClaim := { program := "ytelgpiedchnncaa", sum := "cf852ee77f96d733c72595dee756245a94093d9695758f93e75f032df5938d61", func := "arras/arraslaw.CatalogEncodes", spec := "catalogEncodes", apart := false, narrowed := true }
def CatalogEncodesUptoSaid : Prop := catalogEncodesUptoRow.holds Try.pinned (OpenSpec.upto catalogEncodesSpec)

end Rows
end Go.Proofs.Ytelgpiedchnncaa
