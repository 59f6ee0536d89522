/- What the program's archive.New answers. -/
import Derived.Test.YtkhjmfngeidlcaaArrNew
namespace Go.Proofs.Ytkhjmfngeidlcaa
open Go.RowKit Go.Lib

/-- An array that a call answers, stored into the result's box p. -/
theorem outA_box {w W w2 : World} {p : Nat} {r : Ar × Int} {x : Option Addr} {n c : Nat} (hB : Below w.heap.size w W) (hp : w.heap.size ≤ p) (hlt : p < W.heap.size) (hc : W.cell? ⟨p, 0, none⟩ = some (.slice none 0 0))
    (hX : (n = 0 ∧ r.1 = [] ∧ x = none) ∨ ∃ b h, x = some ⟨b, 0, none⟩ ∧ W.heap.size ≤ b ∧ ArrFree w2 b 0 n h r.1) (g : Below W.heap.size W w2) :
    OutA w r (.returned (.tuple #[.agg #[.slice x n c], .int .i64 r.2])) (w2.setCell ⟨p, 0, none⟩ (.slice x n c)) := by
  have c2 := (g.cell (p := ⟨p, 0, none⟩) hlt).trans hc
  refine ⟨⟨x, n, c, rfl, ?_⟩, (bel3 hB g).setCell (by exact hp) _⟩
  rcases hX with h | ⟨b, h, e, hb, hf⟩
  · exact .inl h
  · exact .inr ⟨b, h, e, Nat.le_trans hB.size hb, hf.box (by omega) c2 _⟩

set_option maxHeartbeats 400000 in
theorem archnew_any (n : Int) (w : World) : Calls Try.prog 5 #[.int .i64 n] w (OutA w (arNew n)) := by
  obtain ⟨W, hW⟩ : ∃ W, W = w.alloc (.cells #[.slice none 0 0] 24) := ⟨_, rfl⟩
  have hB : Below w.heap.size w W := by rw [hW]; go_grown
  have hz : W.heap.size = w.heap.size + 1 := by rw [hW]; simp
  have rc : W.cell? ⟨w.heap.size, 0, none⟩ = some (.slice none 0 0) := by rw [hW]; simp [go_sem]
  have rf : W.frozen? ⟨w.heap.size, 0, none⟩ = false := by rw [hW]; simp [go_sem]
  have CA := hid (arnew_any n W)
  have HO := hid (fun (w2 : World) (x : Option Addr) (m c : Nat) hX (g : Below W.heap.size W w2) => outA_box (r := arNew n) (x := x) (n := m) (c := c) hB (Nat.le_refl _) (by omega) rc hX g)
  have HP := hid (And.intro hz (And.intro rc rf))
  rw [hW] at CA
  have HE := hid hW
  clear hB hz rc rf hW
  generalize arNew n = r at CA HO
  go_enter Try.func5, Try.ntmps5
  go_wp2_with fail
  refine CA.out.mono ?_
  rintro _ w2 ⟨⟨x, m, c, rfl, hX⟩, g⟩
  rw [← HE.out] at hX g
  have r1 := (g.cell (p := ⟨w.heap.size, 0, none⟩) (by show w.heap.size < W.heap.size; rw [HP.out.1]; omega)).trans HP.out.2.1
  have r2 := (g.frozen (p := ⟨w.heap.size, 0, none⟩) (by show w.heap.size < W.heap.size; rw [HP.out.1]; omega)).trans HP.out.2.2
  have y0 := World.cell?_setCell_same w2 ⟨w.heap.size, 0, none⟩ (.slice x m c) r1
  have K := hid (HO.out w2 x m c hX g)
  clear hX g CA
  go_wp2
  refine bodyPost_ret (v := .tuple #[.agg #[.slice x m c], .int .i64 r.2]) (by simp [results, Try.results5, go_sem, y0]) rfl ?_
  exact K.out
end Go.Proofs.Ytkhjmfngeidlcaa
