/- Devices in memory: where their cells stand; they stay where nothing is written. -/
import Derived.Test.YtkhjmfngeidlcaaLow
import Derived.Test.YtkhjmfngeidlcaaBytes
import Derived.Deep.OwnRows
import Derived.Deep.Heap
import Derived.WalkKit
namespace Go.Proofs.Ytkhjmfngeidlcaa
open Go.RowKit Go.Lib

/-- These cells stand at an address, in memory that is there. -/
def RowAt (w : World) (a : Option Addr) (V : List Value) : Prop := ∀ i v, V[i]? = some v → ∃ b o, a = some ⟨b, o, none⟩ ∧ b < w.heap.size ∧ w.cell? ⟨b, o + i, none⟩ = some v
/-- Block b holds these cells first, none of them frozen. -/
def Own (w : World) (b : Nat) (t : TypeId) (V : List Value) : Prop := ∃ R : List Value, w.heap[b]? = some (.cells (V ++ R).toArray t (0, 0))

section
variable {w w' : World} {a : Option Addr} {V : List Value} {b : Nat} {t : TypeId}
theorem RowAt.below (h : RowAt w a V) (hb : Below w.heap.size w w') : RowAt w' a V := by
  intro i v hv
  obtain ⟨b, o, rfl, hlt, hc⟩ := h i v hv
  exact ⟨b, o, rfl, Nat.lt_of_lt_of_le hlt hb.size, (hb.cell (p := ⟨b, o + i, none⟩) hlt).trans hc⟩
theorem RowAt.nil : RowAt w a [] := by intro i v h; simp at h
theorem Own.lt (h : Own w b t V) : b < w.heap.size := by
  obtain ⟨R, h⟩ := h
  exact lt_of_block h
theorem Own.cell (h : Own w b t V) {i : Nat} {v : Value} (hv : V[i]? = some v) : w.cell? ⟨b, i, none⟩ = some v := by
  obtain ⟨R, h⟩ := h
  have hi : i < V.length := by
    rcases Nat.lt_or_ge i V.length with h1 | h1
    · exact h1
    · rw [List.getElem?_eq_none h1] at hv; cases hv
  simp only [World.cell?, h]
  simp [List.getElem?_append_left hi, hv]
theorem Own.free (h : Own w b t V) (i : Nat) : w.frozen? ⟨b, i, none⟩ = false := by
  obtain ⟨R, h⟩ := h
  simp [World.frozen?, h]
theorem Own.row (h : Own w b t V) : RowAt w (some ⟨b, 0, none⟩) V := fun i v hv => ⟨b, 0, rfl, h.lt, by rw [Nat.zero_add]; exact h.cell hv⟩
theorem Own.of_block (h : Own w b t V) (e : w'.heap[b]? = w.heap[b]?) : Own w' b t V := by
  obtain ⟨R, h⟩ := h
  exact ⟨R, e.trans h⟩
theorem Own.below {B : Nat} (h : Own w b t V) (hb : Below B w w') (hB : b < B) : Own w' b t V := h.of_block (hb.block b hB)
theorem Own.below' (h : Own w b t V) (hb : Below w.heap.size w w') : Own w' b t V := h.of_block (hb.block b h.lt)
theorem Own.alloc (h : Own w b t V) (o : Obj) : Own (w.alloc o) b t V := h.of_block (Below.heap_alloc w o b h.lt)
theorem Own.drew (h : Own w b t V) : Own w.drew b t V := h
theorem Own.set (h : Own w b t V) {i : Nat} (hi : i < V.length) (v : Value) : Own (w.setCell ⟨b, i, none⟩ v) b t (V.set i v) := by
  obtain ⟨R, h⟩ := h
  refine ⟨R, ?_⟩
  simp only [World.setCell]
  rw [Array.getElem?_modify, if_pos rfl, h]
  simp [List.set_append_left _ _ hi]
theorem Own.other (h : Own w b t V) {p : Addr} (hp : b ≠ p.block) (v : Value) : Own (w.setCell p v) b t V := h.of_block (Below.heap_setCell w p v b hp)
theorem Own.made (w : World) (t : TypeId) (V : List Value) : Own (w.alloc (.cells V.toArray t)) w.heap.size t V := ⟨[], by rw [List.append_nil]; exact heap_alloc_new w _⟩
theorem Own.congr (h : Own w b t V) {V' : List Value} (e : V = V') : Own w b t V' := e ▸ h
/-- What an append made, of cells of one each. -/
theorem own_row {n cap B : Nat} {g : Nat} (h : w.ownsRow B t 1 (.slice (some ⟨g, 0, none⟩) n cap) n V) : Own w g t V ∧ B ≤ g := by
  rcases h.2 with ⟨h0, _⟩ | ⟨g', cap', cur, hv, hg, hh, hnc, hcp, hcs, htake⟩
  · cases h0
  · cases hv
    refine ⟨⟨cur.toList.drop n, ?_⟩, hg⟩
    rw [Nat.mul_one] at htake
    rw [← htake, List.take_append_drop]
    exact hh
end

/-- A box of two cells behind the stores into both. -/
theorem ret_box {w : World} {p : Nat} {u0 u1 : Value} (v0 v1 : Value) (r0 : w.cell? ⟨p, 0, none⟩ = some u0) (r1 : w.cell? ⟨p, 1, none⟩ = some u1) :
    (w.setCell ⟨p, 0, none⟩ v0).cell? ⟨p, 0, none⟩ = some v0 ∧ ((w.setCell ⟨p, 0, none⟩ v0).setCell ⟨p, 1, none⟩ v1).cell? ⟨p, 1, none⟩ = some v1 := by
  refine ⟨World.cell?_setCell_same _ _ _ r0, World.cell?_setCell_same _ _ _ (u := u1) ?_⟩
  rw [World.cell?_setCell_other _ _ _ _ (by simp)]
  exact r1

/-- The device's two lists stand at these addresses. -/
structure DevAt (w : World) (a : Option Addr) (n : Nat) (a' : Option Addr) (m : Nat) (D : Dv) : Prop where
  sn : n = D.1.length
  sm : m = D.2.length
  S : RowAt w a (D.1.map .string)
  L : RowAt w a' (D.2.map .bool)
  nb : n ≤ maxLen
  mb : m ≤ maxLen
/-- .. in memory from block B on, which may be written. -/
structure DevNew (B : Nat) (w : World) (a a' : Option Addr) (D : Dv) : Prop where
  S : D.1 = [] ∨ ∃ b, a = some ⟨b, 0, none⟩ ∧ B ≤ b ∧ Own w b 9 (D.1.map .string)
  L : D.2 = [] ∨ ∃ b, a' = some ⟨b, 0, none⟩ ∧ B ≤ b ∧ Own w b 4 (D.2.map .bool)
  apart : D.1 ≠ [] → D.2 ≠ [] → ∀ b b', a = some ⟨b, 0, none⟩ → a' = some ⟨b', 0, none⟩ → b ≠ b'

section
variable {w w' : World} {a a' : Option Addr} {n m B : Nat} {D : Dv}
theorem DevAt.below (h : DevAt w a n a' m D) (hb : Below w.heap.size w w') : DevAt w' a n a' m D := ⟨h.sn, h.sm, h.S.below hb, h.L.below hb, h.nb, h.mb⟩
theorem DevAt.sector (h : DevAt w a n a' m D) (k : Nat) (hk : k < n) : ∃ b o, a = some ⟨b, o, none⟩ ∧ b < w.heap.size ∧ w.cell? ⟨b, o + k, none⟩ = some (.string (sec D k)) := by
  have hk' : k < D.1.length := by rw [← h.sn]; exact hk
  exact h.S k _ (by rw [sec_lt D k hk', List.getElem?_map, List.getElem?_eq_getElem hk']; rfl)
theorem DevAt.lost (h : DevAt w a n a' m D) (k : Nat) (hk : k < m) : ∃ b o, a' = some ⟨b, o, none⟩ ∧ b < w.heap.size ∧ w.cell? ⟨b, o + k, none⟩ = some (.bool (los D k)) := by
  have hk' : k < D.2.length := by rw [← h.sm]; exact hk
  exact h.L k _ (by rw [los_lt D k hk', List.getElem?_map, List.getElem?_eq_getElem hk']; rfl)
theorem DevNew.at (h : DevNew B w a a' D) (hn : n = D.1.length) (hm : m = D.2.length) (nb : n ≤ maxLen) (mb : m ≤ maxLen) : DevAt w a n a' m D := by
  refine ⟨hn, hm, ?_, ?_, nb, mb⟩
  · rcases h.S with e | ⟨b, rfl, _, ho⟩
    · rw [e]; exact RowAt.nil
    · exact ho.row
  · rcases h.L with e | ⟨b, rfl, _, ho⟩
    · rw [e]; exact RowAt.nil
    · exact ho.row
theorem devAt_none (w : World) : DevAt w none 0 none 0 nil2 := ⟨rfl, rfl, RowAt.nil, RowAt.nil, Nat.zero_le _, Nat.zero_le _⟩
end
end Go.Proofs.Ytkhjmfngeidlcaa
