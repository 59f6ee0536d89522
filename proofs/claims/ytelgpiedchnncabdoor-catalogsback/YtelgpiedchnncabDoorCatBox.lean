/- Boxes of four cells, in which an entry lies; an entry copied; the closure that tells a name. -/
import Derived.Test.YtelgpiedchnncabDoorCatMem
import Derived.Test.YtelgpiedchnncabDoorSectorDec
import Derived.Handy
import Derived.Deep.RegionWith
namespace Go.Proofs.YtelgpiedchnncabDoor
open Go.RowKit Go.Lib

/-- An entry as it is handed about. -/
def enV (x : En) : Value := .agg #[.string x.s, .int .i64 x.b, .int .i64 x.a, .int .i64 x.n]

/-- A box of four cells that may be written. -/
structure Box4 (w : World) (p : Nat) (d0 d1 d2 d3 : Value) : Prop where
  c0 : w.cell? ⟨p, 0, none⟩ = some d0
  c1 : w.cell? ⟨p, 1, none⟩ = some d1
  c2 : w.cell? ⟨p, 2, none⟩ = some d2
  c3 : w.cell? ⟨p, 3, none⟩ = some d3
  f0 : w.frozen? ⟨p, 0, none⟩ = false
  f1 : w.frozen? ⟨p, 1, none⟩ = false
  f2 : w.frozen? ⟨p, 2, none⟩ = false
  f3 : w.frozen? ⟨p, 3, none⟩ = false
  lt : p < w.heap.size
section
variable {w w' : World} {p : Nat} {d0 d1 d2 d3 : Value}
theorem Box4.below (h : Box4 w p d0 d1 d2 d3) (g : Below w.heap.size w w') : Box4 w' p d0 d1 d2 d3 :=
  ⟨(g.cell (p := ⟨p, 0, none⟩) h.lt).trans h.c0, (g.cell (p := ⟨p, 1, none⟩) h.lt).trans h.c1, (g.cell (p := ⟨p, 2, none⟩) h.lt).trans h.c2, (g.cell (p := ⟨p, 3, none⟩) h.lt).trans h.c3,
    (g.frozen (p := ⟨p, 0, none⟩) h.lt).trans h.f0, (g.frozen (p := ⟨p, 1, none⟩) h.lt).trans h.f1, (g.frozen (p := ⟨p, 2, none⟩) h.lt).trans h.f2, (g.frozen (p := ⟨p, 3, none⟩) h.lt).trans h.f3, Nat.lt_of_lt_of_le h.lt g.size⟩
theorem box4_of {t : TypeId} (h : Own w p t [d0, d1, d2, d3]) : Box4 w p d0 d1 d2 d3 := ⟨h.cell rfl, h.cell rfl, h.cell rfl, h.cell rfl, h.free 0, h.free 1, h.free 2, h.free 3, h.lt⟩
theorem Box4.other (h : Box4 w p d0 d1 d2 d3) {q : Addr} (hq : p ≠ q.block) (v : Value) : Box4 (w.setCell q v) p d0 d1 d2 d3 := by
  have e : (w.setCell q v).heap[p]? = w.heap[p]? := Below.heap_setCell w q v p hq
  exact ⟨(World.cell?_of_block (a := ⟨p, 0, none⟩) e).trans h.c0, (World.cell?_of_block (a := ⟨p, 1, none⟩) e).trans h.c1, (World.cell?_of_block (a := ⟨p, 2, none⟩) e).trans h.c2, (World.cell?_of_block (a := ⟨p, 3, none⟩) e).trans h.c3,
    (World.frozen?_of_block (a := ⟨p, 0, none⟩) e).trans h.f0, (World.frozen?_of_block (a := ⟨p, 1, none⟩) e).trans h.f1, (World.frozen?_of_block (a := ⟨p, 2, none⟩) e).trans h.f2, (World.frozen?_of_block (a := ⟨p, 3, none⟩) e).trans h.f3, by have := h.lt; simpa [World.setCell] using this⟩
/-- Behind the stores into all four. -/
theorem Box4.ret (h : Box4 w p d0 d1 d2 d3) (v0 v1 v2 v3 : Value) :
    (w.setCell ⟨p, 0, none⟩ v0).cell? ⟨p, 0, none⟩ = some v0 ∧ ((w.setCell ⟨p, 0, none⟩ v0).setCell ⟨p, 1, none⟩ v1).cell? ⟨p, 1, none⟩ = some v1 ∧
    (((w.setCell ⟨p, 0, none⟩ v0).setCell ⟨p, 1, none⟩ v1).setCell ⟨p, 2, none⟩ v2).cell? ⟨p, 2, none⟩ = some v2 ∧ ((((w.setCell ⟨p, 0, none⟩ v0).setCell ⟨p, 1, none⟩ v1).setCell ⟨p, 2, none⟩ v2).setCell ⟨p, 3, none⟩ v3).cell? ⟨p, 3, none⟩ = some v3 := by
  refine ⟨World.cell?_setCell_same _ _ _ h.c0, World.cell?_setCell_same _ _ _ (u := d1) ?_, World.cell?_setCell_same _ _ _ (u := d2) ?_, World.cell?_setCell_same _ _ _ (u := d3) ?_⟩
  · rw [World.cell?_setCell_other _ _ _ _ (by simp)]; exact h.c1
  · rw [World.cell?_setCell_other _ _ _ _ (by simp), World.cell?_setCell_other _ _ _ _ (by simp)]; exact h.c2
  · rw [World.cell?_setCell_other _ _ _ _ (by simp), World.cell?_setCell_other _ _ _ _ (by simp), World.cell?_setCell_other _ _ _ _ (by simp)]; exact h.c3
end
theorem Below.four {B : Nat} {w w' : World} (g : Below B w w') {p : Nat} (hp : B ≤ p) (v0 v1 v2 v3 : Value) : Below B w ((((w'.setCell ⟨p, 0, none⟩ v0).setCell ⟨p, 1, none⟩ v1).setCell ⟨p, 2, none⟩ v2).setCell ⟨p, 3, none⟩ v3) :=
  (((g.setCell (by exact hp) _).setCell (by exact hp) _).setCell (by exact hp) _).setCell (by exact hp) _

end Go.Proofs.YtelgpiedchnncabDoor
