/- What the program's array.New answers. -/
import Derived.Test.YtkhjmfngeidlcaaGreatDoorMem2
import Derived.Test.YtkhjmfngeidlcaaGreatDoorArrA
import Derived.Deep.RegionWith
import Derived.Deep.RegionHeld3
import Derived.Deep.DeepCutAuto
namespace Go.Proofs.YtkhjmfngeidlcaaGreatDoor
open Go.RowKit Go.Lib

theorem newI_start2 (w : World) (A : Ar) (W : World) (hW : W = ((w.alloc (.cells #[.slice none 0 0] 24)).alloc (.cells #[.slice none 0 0, .slice none 0 0, .slice none 0 0, .slice none 0 0, .slice none 0 0, .slice none 0 0] 35)).alloc (.cells #[.slice (some ⟨w.heap.size + 1, 0, none⟩) 3 3] 24)) : Fill w w.heap.size 3 A (fun _ => nilH) 0 W := by
  subst hW
  have f0 := made_free (w.alloc (.cells #[.slice none 0 0] 24)) 3 (by unfold maxLen; omega)
  have e : (w.alloc (.cells #[.slice none 0 0] 24)).heap.size = w.heap.size + 1 := by simp
  rw [e, ← upTo_none A 3] at f0
  change ArrFree ((w.alloc (.cells #[.slice none 0 0] 24)).alloc (.cells #[.slice none 0 0, .slice none 0 0, .slice none 0 0, .slice none 0 0, .slice none 0 0, .slice none 0 0] 35)) _ _ _ _ _ at f0
  exact ⟨by simp [go_sem], by simp [go_sem], by simp [go_sem], f0.below ((Below.refl _ _).alloc (Nat.le_refl _) _), by simp, Nat.le_refl _, by go_grown⟩

theorem arNew_devs (M : Nat) (h : 16 ≤ M ∧ M ≤ 64 ∧ M % 2 = 0) : arNew M = ([devNew 0 M, devNew 1 M, devNew 2 M], 0) := by
  rw [arNew, if_pos (by omega)]
  have e : ((M / 2 : Nat) : Int) = (M : Int) / 2 := by omega
  simp [devNew, secOf, e]
end Go.Proofs.YtkhjmfngeidlcaaGreatDoor
