/- Joined texts: PressAlike, PressPlain, PressRef, PressClosure, PressPack. -/
import Derived.Test.YtkhjmfngeidlcaaDoorRows
import Derived.Test.YtkhjmfngeidlcaaDoorPureB
import Derived.WalkKit
import Derived.WalkLawsBesides
import Derived.Laws.IdiomStrings
import Derived.Deep.QuietTactic
import Derived.BigQuiet
import Derived.Test.YtkhjmfngeidlcaaDoorMem
import Derived.Deep.RegionWith
import Derived.WalkSmall
/- How many bytes are alike: the program's sameBytes and longestPiece, the document's alike. -/
namespace Go.Proofs.YtkhjmfngeidlcaaDoor
open Go.RowKit

/-- One place further: what holds up to it, and where it ends. -/
theorem same_more {l : List UInt8} {k i m : Nat} (ha : ∀ j, j < m → bat l (k + j) = bat l (i + j)) (h : bat l (k + m) = bat l (i + m)) : ∀ j, j < m + 1 → bat l (k + j) = bat l (i + j) := fun j hj => by
  rcases Nat.lt_succ_iff_lt_or_eq.1 hj with h' | rfl
  · exact ha j h'
  · exact h

end Go.Proofs.YtkhjmfngeidlcaaDoor

/- What the document's own packing answers: plainly, PackedOf. -/
namespace Go.Proofs.YtkhjmfngeidlcaaDoor
open Go.RowKit

end Go.Proofs.YtkhjmfngeidlcaaDoor

/- What the document's own packing answers: PackedOf. -/
namespace Go.Proofs.YtkhjmfngeidlcaaDoor
open Go.RowKit

end Go.Proofs.YtkhjmfngeidlcaaDoor

/- What the program's closure in Pack does: bytes as they are are written behind those that are there. -/
namespace Go.Proofs.YtkhjmfngeidlcaaDoor
open Go.RowKit Go.Lib

/-- The three variables that the closure shares: the text in block B, the bytes that were written in block B + 1, how far in block B + 2. -/
structure PInv (B : Nat) (s : ByteArray) (v : Value) (O : List UInt8) (F : Nat) (w : World) : Prop where
  txt : w.heap[B]? = some (.cells #[.string s] 9 (0, 0))
  out : w.heap[B + 1]? = some (.cells #[v] 53 (0, 0))
  far : w.heap[B + 2]? = some (.cells #[.int .i64 F] 3 (0, 0))
  own : ownsB w (B + 3) v O

section
variable {B F : Nat} {s : ByteArray} {v v' : Value} {O O' : List UInt8} {w w0 w1 : World}
theorem PInv.size (h : PInv B s v O F w) : B + 3 ≤ w.heap.size := by have := lt_of_block h.far; omega
theorem PInv.drew (h : PInv B s v O F w) : PInv B s v O F w.drew := ⟨h.txt, h.out, h.far, h.own⟩
theorem PInv.drewN (h : PInv B s v O F w) (n : Nat) : PInv B s v O F (w.drewN n) := ⟨h.txt, h.out, h.far, h.own⟩
theorem PInv.alloc (h : PInv B s v O F w) (o : Obj) : PInv B s v O F (w.alloc o) := by
  have := h.size
  exact ⟨(Below.heap_alloc _ _ _ (by omega)).trans h.txt, (Below.heap_alloc _ _ _ (by omega)).trans h.out, (Below.heap_alloc _ _ _ (by omega)).trans h.far, World.ownsRow.alloc h.own o⟩
theorem ownBlock_ge (h : PInv B s v O F w) : ∀ k, v.ownBlock = some k → B + 3 ≤ k := fun k hk => (World.ownsRow.lt h.own k hk).1
/-- Behind an append and the store of what it answers. -/
theorem PInv.store (h : PInv B s v O F w) (hg : w.grownBy w1 v.ownBlock) (hown : ownsB w1 (B + 3) v' O') : PInv B s v' O' F (w1.setCell ⟨B + 1, 0, none⟩ v') := by
  have hs := h.size
  have hb : ∀ k, k < B + 3 → w1.heap[k]? = w.heap[k]? := fun k hk => hg.block k (by omega) (fun e => by have := ownBlock_ge h k e.symm; omega)
  refine ⟨?_, one_setCell ((hb _ (by omega)).trans h.out), ?_, ownsRow_setCell_below hown (by show B + 1 < B + 3; omega) _⟩
  · exact (Below.heap_setCell _ _ _ _ (by show B ≠ B + 1; omega)).trans ((hb _ (by omega)).trans h.txt)
  · exact (Below.heap_setCell _ _ _ _ (by show B + 2 ≠ B + 1; omega)).trans ((hb _ (by omega)).trans h.far)
theorem PInv.later (h : PInv B s v O F w) (hg : w.grownBy w1 v.ownBlock) : w1.cell? ⟨B + 1, 0, none⟩ = some v ∧ w1.frozen? ⟨B + 1, 0, none⟩ = false := by
  have hb : w1.heap[B + 1]? = w.heap[B + 1]? := hg.block _ (by have := h.size; omega) (fun e => by have := ownBlock_ge h _ e.symm; omega)
  exact ⟨cell_of_one (hb.trans h.out), free_of_one (hb.trans h.out)⟩
theorem PInv.later2 (h : PInv B s v O F w) (hg : w.grownBy w1 v.ownBlock) : w1.cell? ⟨B + 1 + 1, 0, none⟩ = some (.int .i64 F) ∧ w1.frozen? ⟨B + 1 + 1, 0, none⟩ = false := by
  have hb : w1.heap[B + 2]? = w.heap[B + 2]? := hg.block _ (by have := h.size; omega) (fun e => by have := ownBlock_ge h _ e.symm; omega)
  exact ⟨cell_of_one (hb.trans h.far), free_of_one (hb.trans h.far)⟩
theorem PInv.below (h : PInv B s v O F w) (hb : Below B w0 w) (hg : w.grownBy w1 v.ownBlock) : Below B w0 (w1.setCell ⟨B + 1, 0, none⟩ v') :=
  (hb.grown hg (by have := h.size; omega) (fun k hk => by have := ownBlock_ge h k hk; omega)).setCell (by show B ≤ B + 1; omega) _
theorem PInv.go (h : PInv B s v O F w) (F' : Nat) : PInv B s v O F' (w.setCell ⟨B + 2, 0, none⟩ (.int .i64 F')) := by
  refine ⟨?_, ?_, one_setCell h.far, ownsRow_setCell_below h.own (by show B + 2 < B + 3; omega) _⟩
  · exact (Below.heap_setCell _ _ _ _ (by show B ≠ B + 2; omega)).trans h.txt
  · exact (Below.heap_setCell _ _ _ _ (by show B + 1 ≠ B + 2; omega)).trans h.out
end

theorem cut_cut (l : List UInt8) (F E n : Nat) (hE : E ≤ l.length) (hF : F ≤ E) (hn : n = min (E - F) 128) : (cut l F E).take 128 = cut l F (F + n) ∧ (cut l F E).drop 128 = cut l (F + n) E := by
  constructor
  · rw [cut, cut, List.take_drop, List.take_take]
    by_cases h : E - F ≤ 128
    · rw [show F + n = E by omega, Nat.min_eq_right (by omega)]
    · rw [show F + n = F + 128 by omega, Nat.min_eq_left (by omega)]
  · rw [cut, cut, List.drop_drop]
    by_cases h : E - F ≤ 128
    · rw [show F + n = E by omega, List.drop_eq_nil_of_le (by simp; omega), List.drop_eq_nil_of_le (by simp; omega)]
    · rw [show F + n = F + 128 by omega]
/-- One round of the closure. -/
theorem plainly_cut (l : List UInt8) (F E n : Nat) (hE : E ≤ l.length) (hF : F < E) (hn : n = min (E - F) 128) : plainly (cut l F E) = byt ((n : Int) - 1) :: (cut l F (F + n) ++ plainly (cut l (F + n) E)) := by
  obtain ⟨h1, h2⟩ := cut_cut l F E n hE (by omega) hn
  rw [plainly_eq, cut_length _ _ _ hE, if_neg (by omega), h1, h2, hn]
theorem step_cut {l O : List UInt8} {F E n : Nat} {T : List UInt8} (h : O ++ plainly (cut l F E) = T) (hE : E ≤ l.length) (hF : F < E) (hn : n = min (E - F) 128) :
    O ++ [byt ((n : Int) - 1)] ++ cut l F (F + n) ++ plainly (cut l (F + n) E) = T := by rw [← h, plainly_cut l F E n hE hF hn]; simp

end Go.Proofs.YtkhjmfngeidlcaaDoor

/- What the program's Pack answers. -/
namespace Go.Proofs.YtkhjmfngeidlcaaDoor
open Go.RowKit Go.Lib

theorem pinv_start (s : ByteArray) (w : World) : PInv w.heap.size s (.slice none 0 0) [] 0 (((w.alloc (.cells #[.string s] 9)).alloc (.cells #[.slice none 0 0] 53)).alloc (.cells #[.int .i64 0] 3)) := by
  have z1 : (w.alloc (.cells #[.string s] 9)).heap.size = w.heap.size + 1 := by simp
  have z2 : ((w.alloc (.cells #[.string s] 9)).alloc (.cells #[.slice none 0 0] 53)).heap.size = w.heap.size + 2 := by simp
  refine ⟨?_, ?_, ?_, World.ownsRow_nil _ _ _ _⟩
  · rw [Below.heap_alloc _ _ _ (by omega), Below.heap_alloc _ _ _ (by omega)]; exact heap_alloc_new w _
  · rw [Below.heap_alloc _ _ _ (by omega), ← z1]; exact heap_alloc_new _ _
  · rw [← z2]; exact heap_alloc_new _ _

end Go.Proofs.YtkhjmfngeidlcaaDoor
