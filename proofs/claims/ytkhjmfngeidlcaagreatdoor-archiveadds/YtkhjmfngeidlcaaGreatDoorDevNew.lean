/- What the program's device.New answers. -/
import Derived.Test.YtkhjmfngeidlcaaGreatDoorDevB
import Derived.Test.YtkhjmfngeidlcaaGreatDoorMem2
import Derived.Test.YtkhjmfngeidlcaaGreatDoorSecA
import Derived.Deep.RegionHeld3
import Derived.BigRegion
namespace Go.Proofs.YtkhjmfngeidlcaaGreatDoor
open Go.RowKit Go.Lib

/-- While the new device is filled: the result's box, its own box, its two rows. -/
structure NewI (w0 : World) (B p b b' n : Nat) (V V' : List Value) (w : World) : Prop where
  res : Box2 w B (.slice none 0 0) (.slice none 0 0)
  cbox : Box2 w p (.slice (some ⟨b, 0, none⟩) n n) (.slice (some ⟨b', 0, none⟩) n n)
  s : Own w b 9 V
  l : Own w b' 4 V'
  ge : B + 1 ≤ p ∧ B + 1 ≤ b ∧ B + 1 ≤ b'
  ne : p ≠ b ∧ p ≠ b' ∧ b ≠ b'
  below : Below B w0 w
section
variable {w0 w w' : World} {B p b b' n : Nat} {V V' : List Value}
theorem NewI.to (h : NewI w0 B p b b' n V V' w) (g : Below w.heap.size w w') : NewI w0 B p b b' n V V' w' :=
  ⟨h.res.below g, h.cbox.below g, h.s.below' g, h.l.below' g, h.ge, h.ne, h.below.trans (g.mono (Nat.le_of_lt h.res.lt))⟩
theorem NewI.step (h : NewI w0 B p b b' n V V' w) {k : Nat} (hk : k < V.length) (v : Value) : NewI w0 B p b b' n (V.set k v) V' (w.setCell ⟨b, k, none⟩ v) := by
  obtain ⟨g1, g2, g3⟩ := h.ge
  obtain ⟨n1, n2, n3⟩ := h.ne
  exact ⟨h.res.other (by show B ≠ b; omega) v, h.cbox.other (by show p ≠ b; omega) v, h.s.set hk v, h.l.other (by show b' ≠ b; omega) v, h.ge, h.ne, h.below.setCell (by show B ≤ b; omega) v⟩
end

theorem newI_start {W w0 : World} {B n p b b' : Nat} {S : List ByteArray} (hn : n = S.length) (hB : Below B w0 W) (_hs : W.heap.size = B + 1) (h1 : Box2 W B (.slice none 0 0) (.slice none 0 0))
    {w' : World} (hb : Below (B + 1) W w') (hg : B + 1 ≤ p ∧ B + 1 ≤ b ∧ B + 1 ≤ b') (hne : p ≠ b ∧ p ≠ b' ∧ b ≠ b')
    (hp : w'.heap[p]? = some (.cells #[.slice (some ⟨b, 0, none⟩) n n, .slice (some ⟨b', 0, none⟩) n n] 35 (0, 0)))
    (hbs : w'.heap[b]? = some (.cells (Array.replicate n (.string ⟨#[]⟩)) 9 (0, 0))) (hbl : w'.heap[b']? = some (.cells (Array.replicate n (.bool false)) 4 (0, 0))) :
    NewI w0 B p b b' n (half S 0) (List.replicate n (.bool false)) w' := by
  refine ⟨h1.below2 hb (Nat.lt_succ_self _), box2_of (t := 35) ⟨[], hp⟩, ⟨[], ?_⟩, ⟨[], ?_⟩, hg, hne, hB.trans (hb.mono (by omega))⟩
  · rw [half_none, ← hn, List.append_nil, List.toArray_replicate]; exact hbs
  · rw [List.append_nil, List.toArray_replicate]; exact hbl
theorem three' (W : World) (B : Nat) (hs : W.heap.size = B + 1) (o1 o2 o3 : Obj) : (((W.alloc o1).alloc o2).alloc o3).drew.heap[B + 1]? = some o1 ∧ (((W.alloc o1).alloc o2).alloc o3).drew.heap[B + 1 + 1]? = some o2 ∧ (((W.alloc o1).alloc o2).alloc o3).drew.heap[B + 1 + 1 + 1]? = some o3 ∧ Below (B + 1) W (((W.alloc o1).alloc o2).alloc o3).drew := by
  have z1 : (W.alloc o1).heap.size = B + 2 := by simp [hs]
  have z2 : ((W.alloc o1).alloc o2).heap.size = B + 3 := by simp [hs]
  show (((W.alloc o1).alloc o2).alloc o3).heap[B + 1]? = some o1 ∧ (((W.alloc o1).alloc o2).alloc o3).heap[B + 2]? = some o2 ∧ (((W.alloc o1).alloc o2).alloc o3).heap[B + 3]? = some o3 ∧ _
  refine ⟨?_, ?_, ?_, ((((Below.refl _ W).alloc (by omega) o1).alloc (by omega) o2).alloc (by omega) o3).drew⟩
  · rw [Below.heap_alloc _ _ _ (by omega), Below.heap_alloc _ _ _ (by omega), ← hs]; exact heap_alloc_new W _
  · rw [Below.heap_alloc _ _ _ (by omega), ← z1]; exact heap_alloc_new _ _
  · rw [← z2]; exact heap_alloc_new _ _

/-- The sectors of a new device. -/
def newS (M : Nat) (start : Int) : List ByteArray := (List.range M).map fun (i : Nat) => str (encd (start + i) []).1
theorem newS_len (M : Nat) (start : Int) : (newS M start).length = M := by simp [newS]
theorem newS_at (M : Nat) (start : Int) (k : Nat) (h : k < (newS M start).length) : (newS M start)[k] = str (encd (start + k) []).1 := by simp [newS]

end Go.Proofs.YtkhjmfngeidlcaaGreatDoor
