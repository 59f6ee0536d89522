/- Boxes of arrays; sameArray of two arrays that hold the same answers true. -/
import Derived.Test.YtkhjmfngeidlcabGreatDoorMem2
import Derived.Test.YtkhjmfngeidlcabGreatDoorMem
import Derived.Handy
import Derived.Deep.QuietTactic
import Derived.BigQuiet
import Derived.Deep.RegionHeld3
namespace Go.Proofs.YtkhjmfngeidlcabGreatDoor
open Go.RowKit Go.Lib

/-- An array laid into a box of one cell. -/
structure ABx (W : World) (p : Nat) (a : Option Addr) (n c : Nat) (A : Ar) : Prop where
  b : W.cell? ⟨p, 0, none⟩ = some (.slice a n c)
  lt : p < W.heap.size
  d : ArrAt W a n A
theorem ABx.below {W W' : World} {p : Nat} {a : Option Addr} {n c : Nat} {A : Ar} (h : ABx W p a n c A) (g : Below W.heap.size W W') : ABx W' p a n c A :=
  ⟨(g.cell (p := ⟨p, 0, none⟩) h.lt).trans h.b, Nat.lt_of_lt_of_le h.lt g.size, h.d.below g⟩
theorem aboxed {w : World} {a : Option Addr} {n : Nat} (c : Nat) {A : Ar} (h : ArrAt w a n A) : ∃ W, W = w.alloc (.cells #[.slice a n c] 25) ∧ Below w.heap.size w W ∧ ABx W w.heap.size a n c A := by
  have hb : Below w.heap.size w (w.alloc (.cells #[.slice a n c] 25)) := (Below.refl _ w).alloc (Nat.le_refl _) _
  exact ⟨_, rfl, hb, by simp, by simp, h.below hb⟩
theorem outA_at {w w' : World} {A : Ar} {a : Option Addr} {n : Nat} (h : (n = 0 ∧ A = [] ∧ a = none) ∨ ∃ b hd, a = some ⟨b, 0, none⟩ ∧ w.heap.size ≤ b ∧ ArrFree w' b 0 n hd A) : ArrAt w' a n A := by
  rcases h with ⟨h1, h2, _⟩ | ⟨b, hd, h1, _, h2⟩
  · exact .inl ⟨h1, h2⟩
  · exact .inr ⟨b, 0, hd, h1, h2.arr⟩
end Go.Proofs.YtkhjmfngeidlcabGreatDoor
