/-
  No cell of these rows narrows 'for every input' (looked for: loops, veiled, ifaces, maps, wideKeys, modest, calm, conditions, laid).
  DERIVED. THE GIVEN ROWS OF THIS SEAT. 5 by the template 'for every input the law returns true; each argument reads behind the call as it read before'; 0 by the template 'total and deterministic' (their statements: YtbckalbnmfejbacTotals.lean).
  GIVEN WITH THE SEED: the statements are not yours to turn. If you find one false, say at which input.
  Laid BY PROGRAM, IN A SANDBOX (cutbox-rows.mjs): the forced cells as the released guide's own fill.sh prints them over the translation 93ca93c22e3b421f… (all of the seat's roots in one cut). By AI agents, Wed Nov 11 2026. No macro, syntax, notation, axiom, sorry.
-/
import Derived.Test.YtbckalbnmfejbacChecked
import GoSem.Claim
import GoSem.ClaimJoined
import GoSem.ClaimMapViews
import Derived.JoinedTies
import Derived.KernelRfl
namespace Go.Proofs.Ytbckalbnmfejbac
/- THE CELL 'sum', in the pinned program and in every row, IS THE sha256 OF THE DUMP (.gsa) THAT YtbckalbnmfejbacProg.lean LOADS. Nothing in Lean hashes anything: it is a label: what it is worth is what the hold of that sum in a sandbox is worth. -/
noncomputable def Try.pinned : Pinned := { name := "ytbckalbnmfejbac", sum := "93ca93c22e3b421f9f59d9092fbae3daf242925d1c2ebb4492c7c52d65f9a772", checked := Try.checked }
namespace Rows
def none {H : Type} : Left H := { results := [], args := [] }

/-- 'arraslaw.DeviceReads': WHATEVER THE INPUT: true; the input reads as it did. -/
def deviceReadsSpec : ChangeSpec := { name := "deviceReads", fn := fun _ => fun
  | [d1, d2, d3] => { results := [.lit (.bool true)], args := [d1, d2, d3] }
  | _ => none }
def deviceReadsRow : OpenClaim := { program := "ytbckalbnmfejbac", sum := "93ca93c22e3b421f9f59d9092fbae3daf242925d1c2ebb4492c7c52d65f9a772", func := "arras/arraslaw.DeviceReads", spec := "deviceReads", unfollowed := true, recurses := true, apart := false }
def DeviceReadsSaid : Prop := deviceReadsRow.holds Try.pinned (OpenSpec.ofChange deviceReadsSpec)

/-- ITS FALSE NEIGHBOUR: 'it returns false'. Refute it at one input. -/
def deviceReadsWrong : ChangeSpec := { name := "deviceReads", fn := fun _ => fun
  | [d1, d2, d3] => { results := [.lit (.bool false)], args := [d1, d2, d3] }
  | _ => none }
def DeviceReadsWrongFalsely : Prop := deviceReadsRow.holds Try.pinned (OpenSpec.ofChange deviceReadsWrong)

/-- 'arraslaw.DeviceWrites': WHATEVER THE INPUT: true; the input reads as it did. -/
def deviceWritesSpec : ChangeSpec := { name := "deviceWrites", fn := fun _ => fun
  | [d1, d2, d3, d4] => { results := [.lit (.bool true)], args := [d1, d2, d3, d4] }
  | _ => none }
def deviceWritesRow : OpenClaim := { program := "ytbckalbnmfejbac", sum := "93ca93c22e3b421f9f59d9092fbae3daf242925d1c2ebb4492c7c52d65f9a772", func := "arras/arraslaw.DeviceWrites", spec := "deviceWrites", unfollowed := true, recurses := true, apart := false }
def DeviceWritesSaid : Prop := deviceWritesRow.holds Try.pinned (OpenSpec.ofChange deviceWritesSpec)

/-- ITS FALSE NEIGHBOUR: 'it returns false'. Refute it at one input. -/
def deviceWritesWrong : ChangeSpec := { name := "deviceWrites", fn := fun _ => fun
  | [d1, d2, d3, d4] => { results := [.lit (.bool false)], args := [d1, d2, d3, d4] }
  | _ => none }
def DeviceWritesWrongFalsely : Prop := deviceWritesRow.holds Try.pinned (OpenSpec.ofChange deviceWritesWrong)

/-- 'arraslaw.DeviceLoses': WHATEVER THE INPUT: true; the input reads as it did. -/
def deviceLosesSpec : ChangeSpec := { name := "deviceLoses", fn := fun _ => fun
  | [d1, d2] => { results := [.lit (.bool true)], args := [d1, d2] }
  | _ => none }
def deviceLosesRow : OpenClaim := { program := "ytbckalbnmfejbac", sum := "93ca93c22e3b421f9f59d9092fbae3daf242925d1c2ebb4492c7c52d65f9a772", func := "arras/arraslaw.DeviceLoses", spec := "deviceLoses", unfollowed := true, recurses := true, apart := false }
def DeviceLosesSaid : Prop := deviceLosesRow.holds Try.pinned (OpenSpec.ofChange deviceLosesSpec)

/-- ITS FALSE NEIGHBOUR: 'it returns false'. Refute it at one input. -/
def deviceLosesWrong : ChangeSpec := { name := "deviceLoses", fn := fun _ => fun
  | [d1, d2] => { results := [.lit (.bool false)], args := [d1, d2] }
  | _ => none }
def DeviceLosesWrongFalsely : Prop := deviceLosesRow.holds Try.pinned (OpenSpec.ofChange deviceLosesWrong)

/-- 'arraslaw.DeviceTurns': WHATEVER THE INPUT: true; the input reads as it did. -/
def deviceTurnsSpec : ChangeSpec := { name := "deviceTurns", fn := fun _ => fun
  | [d1, d2, d3, d4] => { results := [.lit (.bool true)], args := [d1, d2, d3, d4] }
  | _ => none }
def deviceTurnsRow : OpenClaim := { program := "ytbckalbnmfejbac", sum := "93ca93c22e3b421f9f59d9092fbae3daf242925d1c2ebb4492c7c52d65f9a772", func := "arras/arraslaw.DeviceTurns", spec := "deviceTurns", unfollowed := true, recurses := true, apart := false }
def DeviceTurnsSaid : Prop := deviceTurnsRow.holds Try.pinned (OpenSpec.ofChange deviceTurnsSpec)

/-- ITS FALSE NEIGHBOUR: 'it returns false'. Refute it at one input. -/
def deviceTurnsWrong : ChangeSpec := { name := "deviceTurns", fn := fun _ => fun
  | [d1, d2, d3, d4] => { results := [.lit (.bool false)], args := [d1, d2, d3, d4] }
  | _ => none }
def DeviceTurnsWrongFalsely : Prop := deviceTurnsRow.holds Try.pinned (OpenSpec.ofChange deviceTurnsWrong)

/-- 'arraskeep.DevicesKeep': WHATEVER THE INPUT: true; the input reads as it did. -/
def devicesKeepSpec : ChangeSpec := { name := "devicesKeep", fn := fun _ => fun
  | [d1, d2, d3, d4] => { results := [.lit (.bool true)], args := [d1, d2, d3, d4] }
  | _ => none }
def devicesKeepRow : OpenClaim := { program := "ytbckalbnmfejbac", sum := "93ca93c22e3b421f9f59d9092fbae3daf242925d1c2ebb4492c7c52d65f9a772", func := "arras/arraskeep.DevicesKeep", spec := "devicesKeep", inPlace := ["internal/abi.NoEscape", "internal/bytealg.MakeNoZero"], unfollowed := true, recurses := true, apart := false }
def DevicesKeepSaid : Prop := devicesKeepRow.holds Try.pinned (OpenSpec.ofChange devicesKeepSpec)

/-- ITS FALSE NEIGHBOUR: 'it returns false'. Refute it at one input. -/
def devicesKeepWrong : ChangeSpec := { name := "devicesKeep", fn := fun _ => fun
  | [d1, d2, d3, d4] => { results := [.lit (.bool false)], args := [d1, d2, d3, d4] }
  | _ => none }
def DevicesKeepWrongFalsely : Prop := devicesKeepRow.holds Try.pinned (OpenSpec.ofChange devicesKeepWrong)

/- THE SECOND FORM. 'bulk': how many values and letters a reading holds, each counted each time it is reached (what is shared counts as often as it is met; a slice's spare places count too). A statement '..UptoSaid' is the law's where the arguments, and the package variables that the reading takes, are together of bulk at most 1048576: NARROWER than '..Said'. Prove '..Said' where nothing that the law and all that it calls make is longer than what came in: it says more and counts as full. Else prove '..UptoSaid'. A law counts once. -/
mutual
def uptoBulk {H : Type} : DataW H → Nat
  | .lit (.string bytes) => bytes.length + 1
  | .lit _ => 1
  | .nil => 1
  | .ptr d => uptoBulk d + 1
  | .slice elems spare => uptoBulkAll elems + uptoBulkAll spare + 1
  | .agg parts => uptoBulkAll parts + 1
  | .iface _ d => uptoBulk d + 1
  | .map entries => uptoBulkEntries entries + 1
  | .held _ => 1
def uptoBulkAll {H : Type} : List (DataW H) → Nat
  | [] => 0
  | d :: r => uptoBulk d + uptoBulkAll r
def uptoBulkEntries {H : Type} : List (Lit × DataW H) → Nat
  | [] => 0
  | x :: r => uptoBulkEntry x + uptoBulkEntries r
def uptoBulkEntry {H : Type} : Lit × DataW H → Nat
  | (.string bytes, d) => bytes.length + uptoBulk d + 1
  | (_, d) => uptoBulk d + 1
 end
def uptoSmall : (H : Type) → List (DataW H) → Bool := fun _ ds => decide (uptoBulkAll ds ≤ 1048576)
def OpenSpec.upto (s : _root_.Go.ChangeSpec) : _root_.Go.OpenSpec := { _root_.Go.OpenSpec.ofChange s with cond := some uptoSmall }

/-- 'arraslaw.DeviceReads', WHERE WHAT IT READS IS OF BULK AT MOST 1048576: true; the input reads as it did. -/
def deviceReadsUptoRow : OpenClaim := { program := "ytbckalbnmfejbac", sum := "93ca93c22e3b421f9f59d9092fbae3daf242925d1c2ebb4492c7c52d65f9a772", func := "arras/arraslaw.DeviceReads", spec := "deviceReads", unfollowed := true, recurses := true, apart := false, narrowed := true }
def DeviceReadsUptoSaid : Prop := deviceReadsUptoRow.holds Try.pinned (OpenSpec.upto deviceReadsSpec)

/-- 'arraslaw.DeviceWrites', WHERE WHAT IT READS IS OF BULK AT MOST 1048576: true; the input reads as it did. -/
def deviceWritesUptoRow : OpenClaim := { program := "ytbckalbnmfejbac", sum := "93ca93c22e3b421f9f59d9092fbae3daf242925d1c2ebb4492c7c52d65f9a772", func := "arras/arraslaw.DeviceWrites", spec := "deviceWrites", unfollowed := true, recurses := true, apart := false, narrowed := true }
def DeviceWritesUptoSaid : Prop := deviceWritesUptoRow.holds Try.pinned (OpenSpec.upto deviceWritesSpec)

/-- 'arraslaw.DeviceLoses', WHERE WHAT IT READS IS OF BULK AT MOST 1048576: true; the input reads as it did. -/
def deviceLosesUptoRow : OpenClaim := { program := "ytbckalbnmfejbac", sum := "93ca93c22e3b421f9f59d9092fbae3daf242925d1c2ebb4492c7c52d65f9a772", func := "arras/arraslaw.DeviceLoses", spec := "deviceLoses", unfollowed := true, recurses := true, apart := false, narrowed := true }
def DeviceLosesUptoSaid : Prop := deviceLosesUptoRow.holds Try.pinned (OpenSpec.upto deviceLosesSpec)

/-- 'arraslaw.DeviceTurns', WHERE WHAT IT READS IS OF BULK AT MOST 1048576: true; the input reads as it did. -/
def deviceTurnsUptoRow : OpenClaim := { program := "ytbckalbnmfejbac", sum := "93ca93c22e3b421f9f59d9092fbae3daf242925d1c2ebb4492c7c52d65f9a772", func := "arras/arraslaw.DeviceTurns", spec := "deviceTurns", unfollowed := true, recurses := true, apart := false, narrowed := true }
def DeviceTurnsUptoSaid : Prop := deviceTurnsUptoRow.holds Try.pinned (OpenSpec.upto deviceTurnsSpec)

/-- 'arraskeep.DevicesKeep', WHERE WHAT IT READS IS OF BULK AT MOST 1048576: true; the input reads as it did. -/
def devicesKeepUptoRow : OpenClaim := { program := "ytbckalbnmfejbac", sum := "93ca93c22e3b421f9f59d9092fbae3daf242925d1c2ebb4492c7c52d65f9a772", func := "arras/arraskeep.DevicesKeep", spec := "devicesKeep", inPlace := ["internal/abi.NoEscape", "internal/bytealg.MakeNoZero"], unfollowed := true, recurses := true, apart := false, narrowed := true }
def DevicesKeepUptoSaid : Prop := devicesKeepUptoRow.holds Try.pinned (OpenSpec.upto devicesKeepSpec)

end Rows
end Go.Proofs.Ytbckalbnmfejbac
