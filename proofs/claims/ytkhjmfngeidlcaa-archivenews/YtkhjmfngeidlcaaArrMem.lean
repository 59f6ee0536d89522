/- Arrays of devices in memory. -/
import Derived.Test.YtkhjmfngeidlcaaLow
import Derived.Test.YtkhjmfngeidlcaaDevBox
namespace Go.Proofs.Ytkhjmfngeidlcaa
open Go.RowKit Go.Lib

/-- Where a device's two lists stand. -/
structure Hd where
  x : Option Addr
  p : Nat
  c : Nat
  y : Option Addr
  q : Nat
  d : Nat
def Hd.v (h : Hd) : Value := .agg #[.slice h.x h.p h.c, .slice h.y h.q h.d]
/-- An array's devices stand from a place of a block on. -/
structure Arr (w : World) (b o n : Nat) (h : Nat → Hd) (A : Ar) : Prop where
  sn : n = A.length
  nb : n ≤ maxLen
  lt : b < w.heap.size
  c0 : ∀ i, i < n → w.cell? ⟨b, o + i * 2, none⟩ = some (.slice (h i).x (h i).p (h i).c)
  c1 : ∀ i, i < n → w.cell? ⟨b, o + i * 2 + 1, none⟩ = some (.slice (h i).y (h i).q (h i).d)
  dv : ∀ i, i < n → DevAt w (h i).x (h i).p (h i).y (h i).q (dev A i)
/-- An array, of no device too. -/
def ArrAt (w : World) (a : Option Addr) (n : Nat) (A : Ar) : Prop := (n = 0 ∧ A = []) ∨ ∃ b o h, a = some ⟨b, o, none⟩ ∧ Arr w b o n h A
section
variable {w w' : World} {b o n : Nat} {h : Nat → Hd} {A : Ar} {a : Option Addr}
theorem Arr.below (H : Arr w b o n h A) (g : Below w.heap.size w w') : Arr w' b o n h A :=
  ⟨H.sn, H.nb, Nat.lt_of_lt_of_le H.lt g.size, fun i hi => (g.cell (p := ⟨b, o + i * 2, none⟩) H.lt).trans (H.c0 i hi), fun i hi => (g.cell (p := ⟨b, o + i * 2 + 1, none⟩) H.lt).trans (H.c1 i hi), fun i hi => (H.dv i hi).below g⟩
theorem ArrAt.below (H : ArrAt w a n A) (g : Below w.heap.size w w') : ArrAt w' a n A := by
  rcases H with H | ⟨b, o, h, e, H⟩
  · exact .inl H
  · exact .inr ⟨b, o, h, e, H.below g⟩
theorem ArrAt.len (H : ArrAt w a n A) : n = A.length := by
  rcases H with ⟨h1, h2⟩ | ⟨b, o, h, e, H⟩
  · rw [h1, h2]; rfl
  · exact H.sn
theorem ArrAt.nb (H : ArrAt w a n A) : n ≤ maxLen := by
  rcases H with ⟨h1, _⟩ | ⟨b, o, h, e, H⟩
  · rw [h1]; exact Nat.zero_le _
  · exact H.nb
/-- Three devices, cell by cell. -/
theorem Arr.three (H : Arr w b o 3 h A) : (w.cell? ⟨b, o, none⟩ = some (.slice (h 0).x (h 0).p (h 0).c) ∧ w.cell? ⟨b, o + 1, none⟩ = some (.slice (h 0).y (h 0).q (h 0).d)) ∧
    (w.cell? ⟨b, o + 2, none⟩ = some (.slice (h 1).x (h 1).p (h 1).c) ∧ w.cell? ⟨b, o + 3, none⟩ = some (.slice (h 1).y (h 1).q (h 1).d)) ∧
    (w.cell? ⟨b, o + 4, none⟩ = some (.slice (h 2).x (h 2).p (h 2).c) ∧ w.cell? ⟨b, o + 5, none⟩ = some (.slice (h 2).y (h 2).q (h 2).d)) :=
  ⟨⟨H.c0 0 (by omega), H.c1 0 (by omega)⟩, ⟨H.c0 1 (by omega), H.c1 1 (by omega)⟩, ⟨H.c0 2 (by omega), H.c1 2 (by omega)⟩⟩
end
end Go.Proofs.Ytkhjmfngeidlcaa
