/- Joined texts: FilMem, FilOpen. -/
import Derived.Test.YtkhjmfngeidlcabGreatDoorArcM
import Derived.Test.YtkhjmfngeidlcabGreatDoorMem2
import Derived.Test.YtkhjmfngeidlcabGreatDoorMem
import Derived.Deep.Strs
import Derived.Deep.Grids
import Derived.SizedLaws
import Derived.ProofKit
import Derived.Deep.SlicePairs
/- Files in memory: where their cells stand. -/
namespace Go.Proofs.YtkhjmfngeidlcabGreatDoor
open Go.RowKit Go.Lib

/-- The files stand there. -/
structure FilAt (w : World) (a : Option Addr) (n : Nat) (F : List Fi) : Prop where
  sn : n = F.length
  nb : n ≤ maxLen
  nm : ∀ i, i < n → (fi F i).s.size ≤ maxLen ∧ (fi F i).d.size ≤ maxLen
  c : ∀ i, i < n → ∃ b o, a = some ⟨b, o, none⟩ ∧ b < w.heap.size ∧ w.cell? ⟨b, o + i * 2, none⟩ = some (.string (fi F i).s) ∧ w.cell? ⟨b, o + i * 2 + 1, none⟩ = some (.string (fi F i).d)
section
variable {w w' : World} {a : Option Addr} {n : Nat} {F : List Fi}
theorem FilAt.below (h : FilAt w a n F) (g : Below w.heap.size w w') : FilAt w' a n F := by
  refine ⟨h.sn, h.nb, h.nm, fun i hi => ?_⟩
  obtain ⟨b, o, e, hb, c0, c1⟩ := h.c i hi
  exact ⟨b, o, e, Nat.lt_of_lt_of_le hb g.size, (g.cell (p := ⟨b, o + i * 2, none⟩) hb).trans c0, (g.cell (p := ⟨b, o + i * 2 + 1, none⟩) hb).trans c1⟩
theorem fi_take (F : List Fi) (k i : Nat) (h : i < k) : fi (F.take k) i = fi F i := by simp [fi, h]
theorem FilAt.take (h : FilAt w a n F) (k : Nat) (hk : k ≤ n) : FilAt w a k (F.take k) := by
  refine ⟨by rw [List.length_take, ← h.sn]; omega, Nat.le_trans hk h.nb, fun i hi => ?_, fun i hi => ?_⟩
  · rw [fi_take F k i hi]; exact h.nm i (by omega)
  · rw [fi_take F k i hi]; exact h.c i (by omega)
end
theorem hasF_take (F : List Fi) (s : ByteArray) (k j : Nat) (h : j ≤ k) : hasF (F.take k) s j = hasF F s j := by
  induction j with
  | zero => rfl
  | succ j ih => rw [hasF, hasF, ih (by omega), fi_take F k j (by omega)]
end Go.Proofs.YtkhjmfngeidlcabGreatDoor

/- Files that come in as an argument: where they stand, and how many there can be. -/
namespace Go.Proofs.YtkhjmfngeidlcabGreatDoor
open Go.RowKit Go.Lib Go.Deep Go.ChangeShapes Go.WideShapes

section
variable {H : Type} {enc : TypeId × Value → H} {W : World}

end
end Go.Proofs.YtkhjmfngeidlcabGreatDoor
