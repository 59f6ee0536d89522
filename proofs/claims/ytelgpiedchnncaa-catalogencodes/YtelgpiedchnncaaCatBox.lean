/- Boxes of four cells, in which an entry lies; an entry copied; the closure that tells a name. -/
import Derived.Test.YtelgpiedchnncaaCatMem
import Derived.Test.YtelgpiedchnncaaSectorDec
import Derived.Handy
import Derived.Deep.RegionWith
namespace Go.Proofs.Ytelgpiedchnncaa
open Go.RowKit Go.Lib

/-- An entry as it is handed about. -/
def enV (x : En) : Value := .agg #[.string x.s, .int .i64 x.b, .int .i64 x.a, .int .i64 x.n]

/-- A box of four cells that may be written. -/
structure Box4 (w : World) (p : Nat) (d0 d1 d2 d3 : Value) : Prop where
  c0 : w.cell? ⟨p, 0, none⟩ = some d0
  c1 : w.cell? ⟨p, 1, none⟩ = some d1
  c2 : w.cell? ⟨p, 2, none⟩ = some d2
  c3 : w.cell? ⟨p, 3, none⟩ = some d3
  f0 : w.frozen? ⟨p, 0, none⟩ = false
  f1 : w.frozen? ⟨p, 1, none⟩ = false
  f2 : w.frozen? ⟨p, 2, none⟩ = false
  f3 : w.frozen? ⟨p, 3, none⟩ = false
  lt : p < w.heap.size
section
variable {w w' : World} {p : Nat} {d0 d1 d2 d3 : Value}
theorem Box4.below (h : Box4 w p d0 d1 d2 d3) (g : Below w.heap.size w w') : Box4 w' p d0 d1 d2 d3 :=
  ⟨(g.cell (p := ⟨p, 0, none⟩) h.lt).trans h.c0, (g.cell (p := ⟨p, 1, none⟩) h.lt).trans h.c1, (g.cell (p := ⟨p, 2, none⟩) h.lt).trans h.c2, (g.cell (p := ⟨p, 3, none⟩) h.lt).trans h.c3,
    (g.frozen (p := ⟨p, 0, none⟩) h.lt).trans h.f0, (g.frozen (p := ⟨p, 1, none⟩) h.lt).trans h.f1, (g.frozen (p := ⟨p, 2, none⟩) h.lt).trans h.f2, (g.frozen (p := ⟨p, 3, none⟩) h.lt).trans h.f3, Nat.lt_of_lt_of_le h.lt g.size⟩
theorem box4_of {t : TypeId} (h : Own w p t [d0, d1, d2, d3]) : Box4 w p d0 d1 d2 d3 := ⟨h.cell rfl, h.cell rfl, h.cell rfl, h.cell rfl, h.free 0, h.free 1, h.free 2, h.free 3, h.lt⟩
theorem Box4.other (h : Box4 w p d0 d1 d2 d3) {q : Addr} (hq : p ≠ q.block) (v : Value) : Box4 (w.setCell q v) p d0 d1 d2 d3 := by
  have e : (w.setCell q v).heap[p]? = w.heap[p]? := Below.heap_setCell w q v p hq
  exact ⟨(World.cell?_of_block (a := ⟨p, 0, none⟩) e).trans h.c0, (World.cell?_of_block (a := ⟨p, 1, none⟩) e).trans h.c1, (World.cell?_of_block (a := ⟨p, 2, none⟩) e).trans h.c2, (World.cell?_of_block (a := ⟨p, 3, none⟩) e).trans h.c3,
    (World.frozen?_of_block (a := ⟨p, 0, none⟩) e).trans h.f0, (World.frozen?_of_block (a := ⟨p, 1, none⟩) e).trans h.f1, (World.frozen?_of_block (a := ⟨p, 2, none⟩) e).trans h.f2, (World.frozen?_of_block (a := ⟨p, 3, none⟩) e).trans h.f3, by have := h.lt; simpa [World.setCell] using this⟩
/-- Behind the stores into all four. -/
theorem Box4.ret (h : Box4 w p d0 d1 d2 d3) (v0 v1 v2 v3 : Value) :
    (w.setCell ⟨p, 0, none⟩ v0).cell? ⟨p, 0, none⟩ = some v0 ∧ ((w.setCell ⟨p, 0, none⟩ v0).setCell ⟨p, 1, none⟩ v1).cell? ⟨p, 1, none⟩ = some v1 ∧
    (((w.setCell ⟨p, 0, none⟩ v0).setCell ⟨p, 1, none⟩ v1).setCell ⟨p, 2, none⟩ v2).cell? ⟨p, 2, none⟩ = some v2 ∧ ((((w.setCell ⟨p, 0, none⟩ v0).setCell ⟨p, 1, none⟩ v1).setCell ⟨p, 2, none⟩ v2).setCell ⟨p, 3, none⟩ v3).cell? ⟨p, 3, none⟩ = some v3 := by
  refine ⟨World.cell?_setCell_same _ _ _ h.c0, World.cell?_setCell_same _ _ _ (u := d1) ?_, World.cell?_setCell_same _ _ _ (u := d2) ?_, World.cell?_setCell_same _ _ _ (u := d3) ?_⟩
  · rw [World.cell?_setCell_other _ _ _ _ (by simp)]; exact h.c1
  · rw [World.cell?_setCell_other _ _ _ _ (by simp), World.cell?_setCell_other _ _ _ _ (by simp)]; exact h.c2
  · rw [World.cell?_setCell_other _ _ _ _ (by simp), World.cell?_setCell_other _ _ _ _ (by simp), World.cell?_setCell_other _ _ _ _ (by simp)]; exact h.c3
end
theorem Below.four {B : Nat} {w w' : World} (g : Below B w w') {p : Nat} (hp : B ≤ p) (v0 v1 v2 v3 : Value) : Below B w ((((w'.setCell ⟨p, 0, none⟩ v0).setCell ⟨p, 1, none⟩ v1).setCell ⟨p, 2, none⟩ v2).setCell ⟨p, 3, none⟩ v3) :=
  (((g.setCell (by exact hp) _).setCell (by exact hp) _).setCell (by exact hp) _).setCell (by exact hp) _

set_option maxHeartbeats 1000000 in
theorem copyentry_any (x : En) (w : World) (h : x.s.size ≤ 281474976710656) :
    Calls Try.prog 26 #[.agg #[.string x.s, .int .i64 x.b, .int .i64 x.a, .int .i64 x.n]] w fun e w' => e = .returned (.agg #[.string x.s, .int .i64 x.b, .int .i64 x.a, .int .i64 x.n]) ∧ Below w.heap.size w w' := by
  obtain ⟨s, b, a, n⟩ := x
  obtain ⟨W, hW⟩ : ∃ W, W = (w.alloc (.cells #[.string s, .int .i64 b, .int .i64 a, .int .i64 n] 35)).alloc (.cells #[.string ⟨#[]⟩, .int .i64 0, .int .i64 0, .int .i64 0] 35) := ⟨_, rfl⟩
  have hB : Below w.heap.size w W := by rw [hW]; go_grown
  have k1 : Own W w.heap.size 35 [.string s, .int .i64 b, .int .i64 a, .int .i64 n] := by rw [hW]; exact (Own.made w 35 [.string s, .int .i64 b, .int .i64 a, .int .i64 n]).alloc _
  have k2 : Own W (w.heap.size + 1) 35 [.string ⟨#[]⟩, .int .i64 0, .int .i64 0, .int .i64 0] := by
    have := Own.made (w.alloc (.cells #[.string s, .int .i64 b, .int .i64 a, .int .i64 n] 35)) 35 [.string ⟨#[]⟩, .int .i64 0, .int .i64 0, .int .i64 0]
    rw [show (w.alloc (.cells #[.string s, .int .i64 b, .int .i64 a, .int .i64 n] 35)).heap.size = w.heap.size + 1 by simp] at this
    rw [hW]; exact this
  have C := clone_any s W h
  rw [hW] at C
  have HC := hid C
  have HP := hid (And.intro hB (And.intro (box4_of k1) (And.intro (box4_of k2) hW)))
  clear hB k1 k2 C hW
  go_enter Try.func26, Try.ntmps26
  go_wp2_with fail
  refine HC.out.mono ?_
  rintro _ w1 ⟨rfl, g1⟩
  rw [← HP.out.2.2.2] at g1
  have j1 := HP.out.2.1.below g1
  have j2 := HP.out.2.2.1.below g1
  have J := hid (j2.other (q := ⟨w.heap.size, 0, none⟩) (by show w.heap.size + 1 ≠ w.heap.size; omega) (.string s))
  obtain ⟨c0, c1, c2, c3, f0, _, _, _, _⟩ := j1
  obtain ⟨r0, r1, r2, r3, q0, q1, q2, q3, _⟩ := j2
  obtain ⟨y0, y1, y2, y3⟩ := J.out.ret (.string s) (.int .i64 b) (.int .i64 a) (.int .i64 n)
  have z0 := World.cell?_setCell_same w1 ⟨w.heap.size, 0, none⟩ (.string s) c0
  have G := hid (HP.out.1.trans (g1.mono HP.out.1.size))
  clear g1 HC
  go_wp2
  refine bodyPost_ret (v := .agg #[.string s, .int .i64 b, .int .i64 a, .int .i64 n]) (by simp [results, Try.results26, go_sem, y0, y1, y2, y3]) rfl ?_
  exact ⟨rfl, Below.four (G.out.setCell (by show w.heap.size ≤ w.heap.size; omega) _) (by omega) _ _ _ _⟩

set_option maxHeartbeats 400000 in
theorem tells_any (x : En) (q : Nat) (s : ByteArray) (w : World) (hq : w.cell? ⟨q, 0, none⟩ = some (.string s)) :
    Calls Try.prog 29 #[.agg #[.string x.s, .int .i64 x.b, .int .i64 x.a, .int .i64 x.n], .pointer (some ⟨q, 0, none⟩)] w fun e w' => e = .returned (.bool (x.s.toList == s.toList)) ∧ Below w.heap.size w w' := by
  have hl : q < w.heap.size := cell_lt hq
  go_enter Try.func29, Try.ntmps29
  go_wp2
  go_ret
  exact ⟨rfl, by go_grown⟩
end Go.Proofs.Ytelgpiedchnncaa
