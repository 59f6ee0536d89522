/-
  No cell of these rows narrows 'for every input' (looked for: loops, veiled, ifaces, maps, wideKeys, modest, calm, conditions, laid).
  DERIVED. THE GIVEN ROWS OF THIS SEAT. 2 by the template 'for every input the law returns true; each argument reads behind the call as it read before'; 0 by the template 'total and deterministic' (their statements: YtocacdahniamiaaTotals.lean).
  GIVEN WITH THE SEED: the statements are not yours to turn. If you find one false, say at which input.
  Laid BY PROGRAM, IN A SANDBOX (cutbox-rows.mjs): the forced cells as the released guide's own fill.sh prints them over the translation 77d8735559ce22af… (all of the seat's roots in one cut). By AI agents, Wed Nov 11 2026. No macro, syntax, notation, axiom, sorry.
-/
import Derived.Test.YtocacdahniamiaaChecked
import GoSem.Claim
import GoSem.ClaimJoined
import GoSem.ClaimMapViews
import Derived.JoinedTies
import Derived.KernelRfl
namespace Go.Proofs.Ytocacdahniamiaa
/- THE CELL 'sum', in the pinned program and in every row, IS THE sha256 OF THE DUMP (.gsa) THAT YtocacdahniamiaaProg.lean LOADS. Nothing in Lean hashes anything: it is a label: what it is worth is what the hold of that sum in a sandbox is worth. -/
noncomputable def Try.pinned : Pinned := { name := "ytocacdahniamiaa", sum := "77d8735559ce22afc7b51af59cc6222a4df4a00ea4333aef1c00c9e2396ec7d8", checked := Try.checked }
namespace Rows
def none {H : Type} : Left H := { results := [], args := [] }

/-- 'arraslaw.HealBads': WHATEVER THE INPUT: true; the input reads as it did. -/
def healBadsSpec : ChangeSpec := { name := "healBads", fn := fun _ => fun
  | [d1, d2] => { results := [.lit (.bool true)], args := [d1, d2] }
  | _ => none }
def healBadsRow : OpenClaim := { program := "ytocacdahniamiaa", sum := "77d8735559ce22afc7b51af59cc6222a4df4a00ea4333aef1c00c9e2396ec7d8", func := "arras/arraslaw.HealBads", spec := "healBads", unfollowed := true, recurses := true, apart := false }
def HealBadsSaid : Prop := healBadsRow.holds Try.pinned (OpenSpec.ofChange healBadsSpec)

/-- ITS FALSE NEIGHBOUR: 'it returns false'. Refute it at one input. -/
def healBadsWrong : ChangeSpec := { name := "healBads", fn := fun _ => fun
  | [d1, d2] => { results := [.lit (.bool false)], args := [d1, d2] }
  | _ => none }
def HealBadsWrongFalsely : Prop := healBadsRow.holds Try.pinned (OpenSpec.ofChange healBadsWrong)

/-- 'arraslaw.HealSectors': WHATEVER THE INPUT: true; the input reads as it did. -/
def healSectorsSpec : ChangeSpec := { name := "healSectors", fn := fun _ => fun
  | [d1, d2] => { results := [.lit (.bool true)], args := [d1, d2] }
  | _ => none }
def healSectorsRow : OpenClaim := { program := "ytocacdahniamiaa", sum := "77d8735559ce22afc7b51af59cc6222a4df4a00ea4333aef1c00c9e2396ec7d8", func := "arras/arraslaw.HealSectors", spec := "healSectors", unfollowed := true, recurses := true, apart := false }
def HealSectorsSaid : Prop := healSectorsRow.holds Try.pinned (OpenSpec.ofChange healSectorsSpec)

/-- ITS FALSE NEIGHBOUR: 'it returns false'. Refute it at one input. -/
def healSectorsWrong : ChangeSpec := { name := "healSectors", fn := fun _ => fun
  | [d1, d2] => { results := [.lit (.bool false)], args := [d1, d2] }
  | _ => none }
def HealSectorsWrongFalsely : Prop := healSectorsRow.holds Try.pinned (OpenSpec.ofChange healSectorsWrong)

/- THE SECOND FORM. 'bulk': how many values and letters a reading holds, each counted each time it is reached (what is shared counts as often as it is met; a slice's spare places count too). A statement '..UptoSaid' is the law's where the arguments, and the package variables that the reading takes, are together of bulk at most 1048576: NARROWER than '..Said'. Prove '..Said' where nothing that the law and all that it calls make is longer than what came in: it says more and counts as full. Else prove '..UptoSaid'. A law counts once. -/
mutual
def uptoBulk {H : Type} : DataW H → Nat
  | .lit (.string bytes) => bytes.length + 1
  | .lit _ => 1
  | .nil => 1
  | .ptr d => uptoBulk d + 1
  | .slice elems spare => uptoBulkAll elems + uptoBulkAll spare + 1
  | .agg parts => uptoBulkAll parts + 1
  | .iface _ d => uptoBulk d + 1
  | .map entries => uptoBulkEntries entries + 1
  | .held _ => 1
def uptoBulkAll {H : Type} : List (DataW H) → Nat
  | [] => 0
  | d :: r => uptoBulk d + uptoBulkAll r
def uptoBulkEntries {H : Type} : List (Lit × DataW H) → Nat
  | [] => 0
  | x :: r => uptoBulkEntry x + uptoBulkEntries r
def uptoBulkEntry {H : Type} : Lit × DataW H → Nat
  | (.string bytes, d) => bytes.length + uptoBulk d + 1
  | (_, d) => uptoBulk d + 1
 end
def uptoSmall : (H : Type) → List (DataW H) → Bool := fun _ ds => decide (uptoBulkAll ds ≤ 1048576)
def OpenSpec.upto (s : _root_.Go.ChangeSpec) : _root_.Go.OpenSpec := { _root_.Go.OpenSpec.ofChange s with cond := some uptoSmall }

/-- 'arraslaw.HealBads', WHERE WHAT IT READS IS OF BULK AT MOST 1048576: true; the input reads as it did. -/
def healBadsUptoRow : OpenClaim := { program := "ytocacdahniamiaa", sum := "77d8735559ce22afc7b51af59cc6222a4df4a00ea4333aef1c00c9e2396ec7d8", func := "arras/arraslaw.HealBads", spec := "healBads", unfollowed := true, recurses := true, apart := false, narrowed := true }
def HealBadsUptoSaid : Prop := healBadsUptoRow.holds Try.pinned (OpenSpec.upto healBadsSpec)

/-- 'arraslaw.HealSectors', WHERE WHAT IT READS IS OF BULK AT MOST 1048576: true; the input reads as it did. -/
def healSectorsUptoRow : OpenClaim := { program := "ytocacdahniamiaa", sum := "77d8735559ce22afc7b51af59cc6222a4df4a00ea4333aef1c00c9e2396ec7d8", func := "arras/arraslaw.HealSectors", spec := "healSectors", unfollowed := true, recurses := true, apart := false, narrowed := true }
def HealSectorsUptoSaid : Prop := healSectorsUptoRow.holds Try.pinned (OpenSpec.upto healSectorsSpec)

end Rows
end Go.Proofs.Ytocacdahniamiaa
