/-
  No cell of these rows narrows 'for every input' (looked for: loops, veiled, ifaces, maps, wideKeys, modest, calm, conditions, laid).
  DERIVED. THE GIVEN ROWS OF THIS SEAT. 5 by the template 'for every input the law returns true; each argument reads behind the call as it read before'; 0 by the template 'total and deterministic' (their statements: YtbckalbnmfejbabTotals.lean).
  GIVEN WITH THE SEED: the statements are not yours to turn. If you find one false, say at which input.
  Laid BY PROGRAM, IN A SANDBOX (cutbox-rows.mjs): the forced cells as the released guide's own fill.sh prints them over the translation 6c67c77ebd6222a5… (all of the seat's roots in one cut). By AI agents, Wed Nov 11 2026. No macro, syntax, notation, axiom, sorry.
-/
import Derived.Test.YtbckalbnmfejbabChecked
import GoSem.Claim
import GoSem.ClaimJoined
import GoSem.ClaimMapViews
import Derived.JoinedTies
import Derived.KernelRfl
namespace Go.Proofs.Ytbckalbnmfejbab
/- THE CELL 'sum', in the pinned program and in every row, IS THE sha256 OF THE DUMP (.gsa) THAT YtbckalbnmfejbabProg.lean LOADS. Nothing in Lean hashes anything: it is a label: what it is worth is what the hold of that sum in a sandbox is worth. -/
noncomputable def Try.pinned : Pinned := { name := "ytbckalbnmfejbab", sum := "6c67c77ebd6222a5bec5d16e78809335d29cf069c310f78809aa12875c5e0d90", checked := Try.checked }
namespace Rows
def none {H : Type} : Left H := { results := [], args := [] }

/-- 'arraslaw.SectorEncodes': WHATEVER THE INPUT: true; the input reads as it did. -/
def sectorEncodesSpec : ChangeSpec := { name := "sectorEncodes", fn := fun _ => fun
  | [d1, d2] => { results := [.lit (.bool true)], args := [d1, d2] }
  | _ => none }
def sectorEncodesRow : OpenClaim := { program := "ytbckalbnmfejbab", sum := "6c67c77ebd6222a5bec5d16e78809335d29cf069c310f78809aa12875c5e0d90", func := "arras/arraslaw.SectorEncodes", spec := "sectorEncodes", apart := false }
def SectorEncodesSaid : Prop := sectorEncodesRow.holds Try.pinned (OpenSpec.ofChange sectorEncodesSpec)

/-- ITS FALSE NEIGHBOUR: 'it returns false'. Refute it at one input. -/
def sectorEncodesWrong : ChangeSpec := { name := "sectorEncodes", fn := fun _ => fun
  | [d1, d2] => { results := [.lit (.bool false)], args := [d1, d2] }
  | _ => none }
def SectorEncodesWrongFalsely : Prop := sectorEncodesRow.holds Try.pinned (OpenSpec.ofChange sectorEncodesWrong)

/-- 'arraslaw.SectorDecodes': WHATEVER THE INPUT: true; the input reads as it did. -/
def sectorDecodesSpec : ChangeSpec := { name := "sectorDecodes", fn := fun _ => fun
  | [d1, d2] => { results := [.lit (.bool true)], args := [d1, d2] }
  | _ => none }
def sectorDecodesRow : OpenClaim := { program := "ytbckalbnmfejbab", sum := "6c67c77ebd6222a5bec5d16e78809335d29cf069c310f78809aa12875c5e0d90", func := "arras/arraslaw.SectorDecodes", spec := "sectorDecodes", apart := false }
def SectorDecodesSaid : Prop := sectorDecodesRow.holds Try.pinned (OpenSpec.ofChange sectorDecodesSpec)

/-- ITS FALSE NEIGHBOUR: 'it returns false'. Refute it at one input. -/
def sectorDecodesWrong : ChangeSpec := { name := "sectorDecodes", fn := fun _ => fun
  | [d1, d2] => { results := [.lit (.bool false)], args := [d1, d2] }
  | _ => none }
def SectorDecodesWrongFalsely : Prop := sectorDecodesRow.holds Try.pinned (OpenSpec.ofChange sectorDecodesWrong)

/-- 'arraslaw.DeviceNews': WHATEVER THE INPUT: true; the input reads as it did. -/
def deviceNewsSpec : ChangeSpec := { name := "deviceNews", fn := fun _ => fun
  | [d1, d2] => { results := [.lit (.bool true)], args := [d1, d2] }
  | _ => none }
def deviceNewsRow : OpenClaim := { program := "ytbckalbnmfejbab", sum := "6c67c77ebd6222a5bec5d16e78809335d29cf069c310f78809aa12875c5e0d90", func := "arras/arraslaw.DeviceNews", spec := "deviceNews", apart := false }
def DeviceNewsSaid : Prop := deviceNewsRow.holds Try.pinned (OpenSpec.ofChange deviceNewsSpec)

/-- ITS FALSE NEIGHBOUR: 'it returns false'. Refute it at one input. -/
def deviceNewsWrong : ChangeSpec := { name := "deviceNews", fn := fun _ => fun
  | [d1, d2] => { results := [.lit (.bool false)], args := [d1, d2] }
  | _ => none }
def DeviceNewsWrongFalsely : Prop := deviceNewsRow.holds Try.pinned (OpenSpec.ofChange deviceNewsWrong)

/-- 'arraslaw.DeviceChecks': WHATEVER THE INPUT: true; the input reads as it did. -/
def deviceChecksSpec : ChangeSpec := { name := "deviceChecks", fn := fun _ => fun
  | [d] => { results := [.lit (.bool true)], args := [d] }
  | _ => none }
def deviceChecksRow : OpenClaim := { program := "ytbckalbnmfejbab", sum := "6c67c77ebd6222a5bec5d16e78809335d29cf069c310f78809aa12875c5e0d90", func := "arras/arraslaw.DeviceChecks", spec := "deviceChecks", unfollowed := true, recurses := true, apart := false }
def DeviceChecksSaid : Prop := deviceChecksRow.holds Try.pinned (OpenSpec.ofChange deviceChecksSpec)

/-- ITS FALSE NEIGHBOUR: 'it returns false'. Refute it at one input. -/
def deviceChecksWrong : ChangeSpec := { name := "deviceChecks", fn := fun _ => fun
  | [d] => { results := [.lit (.bool false)], args := [d] }
  | _ => none }
def DeviceChecksWrongFalsely : Prop := deviceChecksRow.holds Try.pinned (OpenSpec.ofChange deviceChecksWrong)

/-- 'arraslaw.DeviceCopies': WHATEVER THE INPUT: true; the input reads as it did. -/
def deviceCopiesSpec : ChangeSpec := { name := "deviceCopies", fn := fun _ => fun
  | [d] => { results := [.lit (.bool true)], args := [d] }
  | _ => none }
def deviceCopiesRow : OpenClaim := { program := "ytbckalbnmfejbab", sum := "6c67c77ebd6222a5bec5d16e78809335d29cf069c310f78809aa12875c5e0d90", func := "arras/arraslaw.DeviceCopies", spec := "deviceCopies", apart := false }
def DeviceCopiesSaid : Prop := deviceCopiesRow.holds Try.pinned (OpenSpec.ofChange deviceCopiesSpec)

/-- ITS FALSE NEIGHBOUR: 'it returns false'. Refute it at one input. -/
def deviceCopiesWrong : ChangeSpec := { name := "deviceCopies", fn := fun _ => fun
  | [d] => { results := [.lit (.bool false)], args := [d] }
  | _ => none }
def DeviceCopiesWrongFalsely : Prop := deviceCopiesRow.holds Try.pinned (OpenSpec.ofChange deviceCopiesWrong)

/- THE SECOND FORM. 'bulk': how many values and letters a reading holds, each counted each time it is reached (what is shared counts as often as it is met; a slice's spare places count too). A statement '..UptoSaid' is the law's where the arguments, and the package variables that the reading takes, are together of bulk at most 1048576: NARROWER than '..Said'. Prove '..Said' where nothing that the law and all that it calls make is longer than what came in: it says more and counts as full. Else prove '..UptoSaid'. A law counts once. -/
mutual
def uptoBulk {H : Type} : DataW H → Nat
  | .lit (.string bytes) => bytes.length + 1
  | .lit _ => 1
  | .nil => 1
  | .ptr d => uptoBulk d + 1
  | .slice elems spare => uptoBulkAll elems + uptoBulkAll spare + 1
  | .agg parts => uptoBulkAll parts + 1
  | .iface _ d => uptoBulk d + 1
  | .map entries => uptoBulkEntries entries + 1
  | .held _ => 1
def uptoBulkAll {H : Type} : List (DataW H) → Nat
  | [] => 0
  | d :: r => uptoBulk d + uptoBulkAll r
def uptoBulkEntries {H : Type} : List (Lit × DataW H) → Nat
  | [] => 0
  | x :: r => uptoBulkEntry x + uptoBulkEntries r
def uptoBulkEntry {H : Type} : Lit × DataW H → Nat
  | (.string bytes, d) => bytes.length + uptoBulk d + 1
  | (_, d) => uptoBulk d + 1
 end
def uptoSmall : (H : Type) → List (DataW H) → Bool := fun _ ds => decide (uptoBulkAll ds ≤ 1048576)
def OpenSpec.upto (s : _root_.Go.ChangeSpec) : _root_.Go.OpenSpec := { _root_.Go.OpenSpec.ofChange s with cond := some uptoSmall }

/-- 'arraslaw.SectorEncodes', WHERE WHAT IT READS IS OF BULK AT MOST 1048576: true; the input reads as it did. -/
def sectorEncodesUptoRow : OpenClaim := { program := "ytbckalbnmfejbab", sum := "6c67c77ebd6222a5bec5d16e78809335d29cf069c310f78809aa12875c5e0d90", func := "arras/arraslaw.SectorEncodes", spec := "sectorEncodes", apart := false, narrowed := true }
def SectorEncodesUptoSaid : Prop := sectorEncodesUptoRow.holds Try.pinned (OpenSpec.upto sectorEncodesSpec)

/-- 'arraslaw.SectorDecodes', WHERE WHAT IT READS IS OF BULK AT MOST 1048576: true; the input reads as it did. -/
def sectorDecodesUptoRow : OpenClaim := { program := "ytbckalbnmfejbab", sum := "6c67c77ebd6222a5bec5d16e78809335d29cf069c310f78809aa12875c5e0d90", func := "arras/arraslaw.SectorDecodes", spec := "sectorDecodes", apart := false, narrowed := true }
def SectorDecodesUptoSaid : Prop := sectorDecodesUptoRow.holds Try.pinned (OpenSpec.upto sectorDecodesSpec)

/-- 'arraslaw.DeviceNews', WHERE WHAT IT READS IS OF BULK AT MOST 1048576: true; the input reads as it did. -/
def deviceNewsUptoRow : OpenClaim := { program := "ytbckalbnmfejbab", sum := "6c67c77ebd6222a5bec5d16e78809335d29cf069c310f78809aa12875c5e0d90", func := "arras/arraslaw.DeviceNews", spec := "deviceNews", apart := false, narrowed := true }
def DeviceNewsUptoSaid : Prop := deviceNewsUptoRow.holds Try.pinned (OpenSpec.upto deviceNewsSpec)

/-- 'arraslaw.DeviceChecks', WHERE WHAT IT READS IS OF BULK AT MOST 1048576: true; the input reads as it did. -/
def deviceChecksUptoRow : OpenClaim := { program := "ytbckalbnmfejbab", sum := "6c67c77ebd6222a5bec5d16e78809335d29cf069c310f78809aa12875c5e0d90", func := "arras/arraslaw.DeviceChecks", spec := "deviceChecks", unfollowed := true, recurses := true, apart := false, narrowed := true }
def DeviceChecksUptoSaid : Prop := deviceChecksUptoRow.holds Try.pinned (OpenSpec.upto deviceChecksSpec)

/-- 'arraslaw.DeviceCopies', WHERE WHAT IT READS IS OF BULK AT MOST 1048576: true; the input reads as it did. -/
def deviceCopiesUptoRow : OpenClaim := { program := "ytbckalbnmfejbab", sum := "6c67c77ebd6222a5bec5d16e78809335d29cf069c310f78809aa12875c5e0d90", func := "arras/arraslaw.DeviceCopies", spec := "deviceCopies", apart := false, narrowed := true }
def DeviceCopiesUptoSaid : Prop := deviceCopiesUptoRow.holds Try.pinned (OpenSpec.upto deviceCopiesSpec)

end Rows
end Go.Proofs.Ytbckalbnmfejbab
