/-
  No cell of these rows narrows 'for every input' (looked for: loops, veiled, ifaces, maps, wideKeys, modest, calm, conditions, laid).
  DERIVED. THE GIVEN ROWS OF THIS SEAT. 6 by the template 'for every input the law returns true; each argument reads behind the call as it read before'; 0 by the template 'total and deterministic' (their statements: YtbjnaielicnfhaaTotals.lean).
  GIVEN WITH THE SEED: the statements are not yours to turn. If you find one false, say at which input.
  Laid BY PROGRAM, IN A SANDBOX (cutbox-rows.mjs): the forced cells as the released guide's own fill.sh prints them over the translation 86f70f7d935c0fb9… (all of the seat's roots in one cut). By AI agents, Wed Nov 11 2026. No macro, syntax, notation, axiom, sorry.
-/
import Derived.Test.YtbjnaielicnfhaaChecked
import GoSem.Claim
import GoSem.ClaimJoined
import GoSem.ClaimMapViews
import Derived.JoinedTies
import Derived.KernelRfl
namespace Go.Proofs.Ytbjnaielicnfhaa
/- THE CELL 'sum', in the pinned program and in every row, IS THE sha256 OF THE DUMP (.gsa) THAT YtbjnaielicnfhaaProg.lean LOADS. Nothing in Lean hashes anything: it is a label: what it is worth is what the hold of that sum in a sandbox is worth. -/
noncomputable def Try.pinned : Pinned := { name := "ytbjnaielicnfhaa", sum := "86f70f7d935c0fb9ab1a643f297c016748392c449c42275832ffc149e7cfc552", checked := Try.checked }
namespace Rows
def none {H : Type} : Left H := { results := [], args := [] }

/-- 'arraslaw.ArrayNews': WHATEVER THE INPUT: true; the input reads as it did. -/
def arrayNewsSpec : ChangeSpec := { name := "arrayNews", fn := fun _ => fun
  | [d] => { results := [.lit (.bool true)], args := [d] }
  | _ => none }
def arrayNewsRow : OpenClaim := { program := "ytbjnaielicnfhaa", sum := "86f70f7d935c0fb9ab1a643f297c016748392c449c42275832ffc149e7cfc552", func := "arras/arraslaw.ArrayNews", spec := "arrayNews", apart := false }
def ArrayNewsSaid : Prop := arrayNewsRow.holds Try.pinned (OpenSpec.ofChange arrayNewsSpec)

/-- ITS FALSE NEIGHBOUR: 'it returns false'. Refute it at one input. -/
def arrayNewsWrong : ChangeSpec := { name := "arrayNews", fn := fun _ => fun
  | [d] => { results := [.lit (.bool false)], args := [d] }
  | _ => none }
def ArrayNewsWrongFalsely : Prop := arrayNewsRow.holds Try.pinned (OpenSpec.ofChange arrayNewsWrong)

/-- 'arraslaw.ArrayChecks': WHATEVER THE INPUT: true; the input reads as it did. -/
def arrayChecksSpec : ChangeSpec := { name := "arrayChecks", fn := fun _ => fun
  | [d] => { results := [.lit (.bool true)], args := [d] }
  | _ => none }
def arrayChecksRow : OpenClaim := { program := "ytbjnaielicnfhaa", sum := "86f70f7d935c0fb9ab1a643f297c016748392c449c42275832ffc149e7cfc552", func := "arras/arraslaw.ArrayChecks", spec := "arrayChecks", unfollowed := true, recurses := true, apart := false }
def ArrayChecksSaid : Prop := arrayChecksRow.holds Try.pinned (OpenSpec.ofChange arrayChecksSpec)

/-- ITS FALSE NEIGHBOUR: 'it returns false'. Refute it at one input. -/
def arrayChecksWrong : ChangeSpec := { name := "arrayChecks", fn := fun _ => fun
  | [d] => { results := [.lit (.bool false)], args := [d] }
  | _ => none }
def ArrayChecksWrongFalsely : Prop := arrayChecksRow.holds Try.pinned (OpenSpec.ofChange arrayChecksWrong)

/-- 'arraslaw.ArrayCopies': WHATEVER THE INPUT: true; the input reads as it did. -/
def arrayCopiesSpec : ChangeSpec := { name := "arrayCopies", fn := fun _ => fun
  | [d] => { results := [.lit (.bool true)], args := [d] }
  | _ => none }
def arrayCopiesRow : OpenClaim := { program := "ytbjnaielicnfhaa", sum := "86f70f7d935c0fb9ab1a643f297c016748392c449c42275832ffc149e7cfc552", func := "arras/arraslaw.ArrayCopies", spec := "arrayCopies", apart := false }
def ArrayCopiesSaid : Prop := arrayCopiesRow.holds Try.pinned (OpenSpec.ofChange arrayCopiesSpec)

/-- ITS FALSE NEIGHBOUR: 'it returns false'. Refute it at one input. -/
def arrayCopiesWrong : ChangeSpec := { name := "arrayCopies", fn := fun _ => fun
  | [d] => { results := [.lit (.bool false)], args := [d] }
  | _ => none }
def ArrayCopiesWrongFalsely : Prop := arrayCopiesRow.holds Try.pinned (OpenSpec.ofChange arrayCopiesWrong)

/-- 'arraslaw.ArrayReads': WHATEVER THE INPUT: true; the input reads as it did. -/
def arrayReadsSpec : ChangeSpec := { name := "arrayReads", fn := fun _ => fun
  | [d1, d2] => { results := [.lit (.bool true)], args := [d1, d2] }
  | _ => none }
def arrayReadsRow : OpenClaim := { program := "ytbjnaielicnfhaa", sum := "86f70f7d935c0fb9ab1a643f297c016748392c449c42275832ffc149e7cfc552", func := "arras/arraslaw.ArrayReads", spec := "arrayReads", unfollowed := true, recurses := true, apart := false }
def ArrayReadsSaid : Prop := arrayReadsRow.holds Try.pinned (OpenSpec.ofChange arrayReadsSpec)

/-- ITS FALSE NEIGHBOUR: 'it returns false'. Refute it at one input. -/
def arrayReadsWrong : ChangeSpec := { name := "arrayReads", fn := fun _ => fun
  | [d1, d2] => { results := [.lit (.bool false)], args := [d1, d2] }
  | _ => none }
def ArrayReadsWrongFalsely : Prop := arrayReadsRow.holds Try.pinned (OpenSpec.ofChange arrayReadsWrong)

/-- 'arraslaw.ArrayWrites': WHATEVER THE INPUT: true; the input reads as it did. -/
def arrayWritesSpec : ChangeSpec := { name := "arrayWrites", fn := fun _ => fun
  | [d1, d2, d3] => { results := [.lit (.bool true)], args := [d1, d2, d3] }
  | _ => none }
def arrayWritesRow : OpenClaim := { program := "ytbjnaielicnfhaa", sum := "86f70f7d935c0fb9ab1a643f297c016748392c449c42275832ffc149e7cfc552", func := "arras/arraslaw.ArrayWrites", spec := "arrayWrites", unfollowed := true, recurses := true, apart := false }
def ArrayWritesSaid : Prop := arrayWritesRow.holds Try.pinned (OpenSpec.ofChange arrayWritesSpec)

/-- ITS FALSE NEIGHBOUR: 'it returns false'. Refute it at one input. -/
def arrayWritesWrong : ChangeSpec := { name := "arrayWrites", fn := fun _ => fun
  | [d1, d2, d3] => { results := [.lit (.bool false)], args := [d1, d2, d3] }
  | _ => none }
def ArrayWritesWrongFalsely : Prop := arrayWritesRow.holds Try.pinned (OpenSpec.ofChange arrayWritesWrong)

/-- 'arraslaw.ArrayReplaces': WHATEVER THE INPUT: true; the input reads as it did. -/
def arrayReplacesSpec : ChangeSpec := { name := "arrayReplaces", fn := fun _ => fun
  | [d1, d2] => { results := [.lit (.bool true)], args := [d1, d2] }
  | _ => none }
def arrayReplacesRow : OpenClaim := { program := "ytbjnaielicnfhaa", sum := "86f70f7d935c0fb9ab1a643f297c016748392c449c42275832ffc149e7cfc552", func := "arras/arraslaw.ArrayReplaces", spec := "arrayReplaces", unfollowed := true, recurses := true, apart := false }
def ArrayReplacesSaid : Prop := arrayReplacesRow.holds Try.pinned (OpenSpec.ofChange arrayReplacesSpec)

/-- ITS FALSE NEIGHBOUR: 'it returns false'. Refute it at one input. -/
def arrayReplacesWrong : ChangeSpec := { name := "arrayReplaces", fn := fun _ => fun
  | [d1, d2] => { results := [.lit (.bool false)], args := [d1, d2] }
  | _ => none }
def ArrayReplacesWrongFalsely : Prop := arrayReplacesRow.holds Try.pinned (OpenSpec.ofChange arrayReplacesWrong)

/- THE SECOND FORM. 'bulk': how many values and letters a reading holds, each counted each time it is reached (what is shared counts as often as it is met; a slice's spare places count too). A statement '..UptoSaid' is the law's where the arguments, and the package variables that the reading takes, are together of bulk at most 1048576: NARROWER than '..Said'. Prove '..Said' where nothing that the law and all that it calls make is longer than what came in: it says more and counts as full. Else prove '..UptoSaid'. A law counts once. -/
mutual
def uptoBulk {H : Type} : DataW H → Nat
  | .lit (.string bytes) => bytes.length + 1
  | .lit _ => 1
  | .nil => 1
  | .ptr d => uptoBulk d + 1
  | .slice elems spare => uptoBulkAll elems + uptoBulkAll spare + 1
  | .agg parts => uptoBulkAll parts + 1
  | .iface _ d => uptoBulk d + 1
  | .map entries => uptoBulkEntries entries + 1
  | .held _ => 1
def uptoBulkAll {H : Type} : List (DataW H) → Nat
  | [] => 0
  | d :: r => uptoBulk d + uptoBulkAll r
def uptoBulkEntries {H : Type} : List (Lit × DataW H) → Nat
  | [] => 0
  | x :: r => uptoBulkEntry x + uptoBulkEntries r
def uptoBulkEntry {H : Type} : Lit × DataW H → Nat
  | (.string bytes, d) => bytes.length + uptoBulk d + 1
  | (_, d) => uptoBulk d + 1
 end
def uptoSmall : (H : Type) → List (DataW H) → Bool := fun _ ds => decide (uptoBulkAll ds ≤ 1048576)
def OpenSpec.upto (s : _root_.Go.ChangeSpec) : _root_.Go.OpenSpec := { _root_.Go.OpenSpec.ofChange s with cond := some uptoSmall }

/-- 'arraslaw.ArrayNews', WHERE WHAT IT READS IS OF BULK AT MOST 1048576: true; the input reads as it did. -/
def arrayNewsUptoRow : OpenClaim := { program := "ytbjnaielicnfhaa", sum := "86f70f7d935c0fb9ab1a643f297c016748392c449c42275832ffc149e7cfc552", func := "arras/arraslaw.ArrayNews", spec := "arrayNews", apart := false, narrowed := true }
def ArrayNewsUptoSaid : Prop := arrayNewsUptoRow.holds Try.pinned (OpenSpec.upto arrayNewsSpec)

/-- 'arraslaw.ArrayChecks', WHERE WHAT IT READS IS OF BULK AT MOST 1048576: true; the input reads as it did. -/
def arrayChecksUptoRow : OpenClaim := { program := "ytbjnaielicnfhaa", sum := "86f70f7d935c0fb9ab1a643f297c016748392c449c42275832ffc149e7cfc552", func := "arras/arraslaw.ArrayChecks", spec := "arrayChecks", unfollowed := true, recurses := true, apart := false, narrowed := true }
def ArrayChecksUptoSaid : Prop := arrayChecksUptoRow.holds Try.pinned (OpenSpec.upto arrayChecksSpec)

/-- 'arraslaw.ArrayCopies', WHERE WHAT IT READS IS OF BULK AT MOST 1048576: true; the input reads as it did. -/
def arrayCopiesUptoRow : OpenClaim := { program := "ytbjnaielicnfhaa", sum := "86f70f7d935c0fb9ab1a643f297c016748392c449c42275832ffc149e7cfc552", func := "arras/arraslaw.ArrayCopies", spec := "arrayCopies", apart := false, narrowed := true }
def ArrayCopiesUptoSaid : Prop := arrayCopiesUptoRow.holds Try.pinned (OpenSpec.upto arrayCopiesSpec)

/-- 'arraslaw.ArrayReads', WHERE WHAT IT READS IS OF BULK AT MOST 1048576: true; the input reads as it did. -/
def arrayReadsUptoRow : OpenClaim := { program := "ytbjnaielicnfhaa", sum := "86f70f7d935c0fb9ab1a643f297c016748392c449c42275832ffc149e7cfc552", func := "arras/arraslaw.ArrayReads", spec := "arrayReads", unfollowed := true, recurses := true, apart := false, narrowed := true }
def ArrayReadsUptoSaid : Prop := arrayReadsUptoRow.holds Try.pinned (OpenSpec.upto arrayReadsSpec)

/-- 'arraslaw.ArrayWrites', WHERE WHAT IT READS IS OF BULK AT MOST 1048576: true; the input reads as it did. -/
def arrayWritesUptoRow : OpenClaim := { program := "ytbjnaielicnfhaa", sum := "86f70f7d935c0fb9ab1a643f297c016748392c449c42275832ffc149e7cfc552", func := "arras/arraslaw.ArrayWrites", spec := "arrayWrites", unfollowed := true, recurses := true, apart := false, narrowed := true }
def ArrayWritesUptoSaid : Prop := arrayWritesUptoRow.holds Try.pinned (OpenSpec.upto arrayWritesSpec)

/-- 'arraslaw.ArrayReplaces', WHERE WHAT IT READS IS OF BULK AT MOST 1048576: true; the input reads as it did. -/
def arrayReplacesUptoRow : OpenClaim := { program := "ytbjnaielicnfhaa", sum := "86f70f7d935c0fb9ab1a643f297c016748392c449c42275832ffc149e7cfc552", func := "arras/arraslaw.ArrayReplaces", spec := "arrayReplaces", unfollowed := true, recurses := true, apart := false, narrowed := true }
def ArrayReplacesUptoSaid : Prop := arrayReplacesUptoRow.holds Try.pinned (OpenSpec.upto arrayReplacesSpec)

end Rows
end Go.Proofs.Ytbjnaielicnfhaa
