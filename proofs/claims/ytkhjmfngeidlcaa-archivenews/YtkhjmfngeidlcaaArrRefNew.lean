/- What the document's own ArrayOf answers. -/
import Derived.Test.YtkhjmfngeidlcaaArrStore
import Derived.Test.YtkhjmfngeidlcaaDevRefNew
namespace Go.Proofs.Ytkhjmfngeidlcaa
open Go.RowKit Go.Lib

theorem aof_bad (n : Int) (w : World) (h : ¬ (16 ≤ n ∧ n ≤ 64 ∧ n % 2 = 0)) :
    Calls Try.prog 6 #[.int .i64 n] w (OutA w ([], 2)) := by
  have HK := hid (fun w' (g : Below w.heap.size w w') => outA_none (x := 2) g)
  have i1 := fun wx => in_any n 16 64 wx
  by_cases h1 : 16 ≤ n ∧ n ≤ 64
  · have h2 : (n % 2 == 1) = true := by rw [beq_iff_eq]; omega
    have h3 : 0 ≤ n := by omega
    rw [decide_eq_true h1] at i1
    have HI := hid i1
    clear i1 h h1
    go_enter Try.func6, Try.ntmps6
    go_wp2_with (go_at_call 11; refine (HI.out _).mono ?_; rintro _ w9 ⟨rfl, h9⟩; (have h8 := h9.symm); subst h8)
    refine bodyPost_ret (v := .tuple #[.agg #[.slice none 0 0], .int .i64 2]) (by simp [results, Try.results6, go_sem]) rfl ?_
    exact HK.out _ (by go_grown)
  · rw [decide_eq_false h1] at i1
    have HI := hid i1
    clear i1 h h1
    go_enter Try.func6, Try.ntmps6
    go_wp2_with (go_at_call 11; refine (HI.out _).mono ?_; rintro _ w9 ⟨rfl, h9⟩; (have h8 := h9.symm); subst h8)
    refine bodyPost_ret (v := .tuple #[.agg #[.slice none 0 0], .int .i64 2]) (by simp [results, Try.results6, go_sem]) rfl ?_
    exact HK.out _ (by go_grown)

set_option maxHeartbeats 1600000 in
set_option maxRecDepth 4000 in
theorem aof_ok (n : Nat) (w : World) (h0 : 16 ≤ n) (h1 : n ≤ 64) (h2 : n % 2 = 0) :
    Calls Try.prog 6 #[.int .i64 n] w (OutA w ([(dvNew n 0).1, (dvNew n 0).1, (dvNew ((n : Int) / 2) 512).1], 0)) := by
  obtain ⟨W, hW⟩ : ∃ W, W = w.alloc (.cells #[.slice none 0 0] 24) := ⟨_, rfl⟩
  have hB : Below w.heap.size w W := by rw [hW]; exact (Below.refl _ w).alloc (Nat.le_refl _) _
  have hz : W.heap.size = w.heap.size + 1 := by rw [hW]; simp
  have c0 : W.cell? ⟨w.heap.size, 0, none⟩ = some (.slice none 0 0) := by rw [hW]; simp
  have f0 : W.frozen? ⟨w.heap.size, 0, none⟩ = false := by rw [hW]; simp
  have i1 := fun wx => in_any n 16 64 wx
  rw [decide_eq_true (show (16 : Int) ≤ n ∧ (n : Int) ≤ 64 by omega)] at i1
  have HI := hid i1
  have HP := hid (And.intro hB (And.intro hz (And.intro c0 f0)))
  have e2 : ((n : Int) % 2 == 1) = false := by rw [beq_eq_false_iff_ne]; omega
  have C1 := hid (fun wx => of_dev n 0 wx)
  have C3 := hid (fun wx => of_dev ((n : Int) / 2) 512 wx)
  generalize dvNew n 0 = r0 at C1
  generalize dvNew ((n : Int) / 2) 512 = r2 at C3
  clear i1 hB hz c0 f0 h2
  go_enter Try.func6, Try.ntmps6
  go_upto_region 3 with (go_at_call 11; refine (HI.out _).mono ?_; rintro _ w9 ⟨rfl, h9⟩; (have h8 := h9.symm); subst h8)
  rw [← hW]
  clear hW HI e2
  go_wp2_with fail
  refine (C1.out _).mono ?_
  rintro _ v1 ⟨x1, n1, e1, y1, m1, f1, rfl, hX, _, g1⟩
  go_upto_region 4 with fail
  obtain ⟨W1, hW1, b1, bx1⟩ := boxedx (e := e1) (e' := f1) hX
  rw [← hW1]
  have S1 := hid (And.intro (bel3 g1 b1) bx1)
  clear hW1 hX g1 b1 bx1
  generalize v1.heap.size = p1 at S1 ⊢
  go_wp2_with fail
  refine (C1.out _).mono ?_
  rintro _ v2 ⟨x2, n2, e2, y2, m2, f2, rfl, hX, _, g1⟩
  go_upto_region 5 with fail
  obtain ⟨W2, hW2, b1, bx1⟩ := boxedx (e := e2) (e' := f2) hX
  rw [← hW2]
  have S2 := hid (And.intro (bel3 (bel3 S1.out.1 g1) b1) (And.intro ((S1.out.2.below g1).below b1) bx1))
  clear hW2 hX g1 b1 bx1 S1 C1
  generalize v2.heap.size = p2 at S2 ⊢
  go_wp2_with fail
  refine (C3.out _).mono ?_
  rintro _ v3 ⟨x3, n3, e3, y3, m3, f3, rfl, hX, _, g1⟩
  go_upto_region 6 with fail
  obtain ⟨W3, hW3, b1, bx1⟩ := boxedx (e := e3) (e' := f3) hX
  rw [← hW3]
  have S3 := hid (And.intro (bel3 (bel3 S2.out.1 g1) b1) (And.intro ((S2.out.2.1.below g1).below b1) (And.intro ((S2.out.2.2.below g1).below b1) bx1)))
  clear hW3 hX g1 b1 bx1 S2 C3
  generalize v3.heap.size = p3 at S3 ⊢
  have q0 := S3.out.2.1.b.c0
  have q1 := S3.out.2.1.b.c1
  have q2 := S3.out.2.2.1.b.c0
  have q3 := S3.out.2.2.1.b.c1
  have q4 := S3.out.2.2.2.b.c0
  have q5 := S3.out.2.2.2.b.c1
  have hA := arr_new3 W3 ⟨x1, n1, e1, y1, m1, f1⟩ ⟨x2, n2, e2, y2, m2, f2⟩ ⟨x3, n3, e3, y3, m3, f3⟩ r0.1 r0.1 r2.1 S3.out.2.1.d S3.out.2.2.1.d S3.out.2.2.2.d
  obtain ⟨X, hX⟩ : ∃ X, X = W3.alloc (.cells #[.slice x1 n1 e1, .slice y1 m1 f1, .slice x2 n2 e2, .slice y2 m2 f2, .slice x3 n3 e3, .slice y3 m3 f3] 37) := ⟨_, rfl⟩
  have hBX : Below W3.heap.size W3 X := by rw [hX]; exact (Below.refl _ W3).alloc (Nat.le_refl _) _
  have hzW : w.heap.size < W3.heap.size := by have := S3.out.1.size; rw [HP.out.2.1] at this; omega
  have hBW : Below W.heap.size W X := bel3 S3.out.1 hBX
  have v0 := (hBW.cell (p := ⟨w.heap.size, 0, none⟩) (by show w.heap.size < W.heap.size; rw [HP.out.2.1]; omega)).trans HP.out.2.2.1
  have x0 := (hBW.frozen (p := ⟨w.heap.size, 0, none⟩) (by show w.heap.size < W.heap.size; rw [HP.out.2.1]; omega)).trans HP.out.2.2.2
  have y0 := World.cell?_setCell_same X ⟨w.heap.size, 0, none⟩ (.slice (some ⟨W3.heap.size, 0, none⟩) 3 3) v0
  have hA' := hA
  rw [← hX] at hA'
  have K := hid (And.intro (hA'.box (p := w.heap.size) (by omega) v0 (.slice (some ⟨W3.heap.size, 0, none⟩) 3 3)) (And.intro (show w.heap.size ≤ W3.heap.size by omega) ((HP.out.1.trans (hBW.mono HP.out.1.size)).setCell (p := ⟨w.heap.size, 0, none⟩) (Nat.le_refl _) (.slice (some ⟨W3.heap.size, 0, none⟩) 3 3))))
  rw [hX] at v0 x0 y0 K
  clear hA hA' hBX hBW hzW hX
  go_wp2
  refine bodyPost_ret (v := .tuple #[.agg #[.slice (some ⟨W3.heap.size, 0, none⟩) 3 3], .int .i64 0]) (by simp [results, Try.results6, go_sem, y0]) rfl ?_
  exact ⟨⟨_, 3, 3, rfl, .inr ⟨_, _, rfl, K.out.2.1, K.out.1⟩⟩, K.out.2.2⟩

theorem aof_any (n : Int) (w : World) : Calls Try.prog 6 #[.int .i64 n] w (OutA w (arNew n)) := by
  unfold arNew
  by_cases h : 16 ≤ n ∧ n ≤ 64 ∧ n % 2 = 0
  · rw [if_pos h]
    obtain ⟨N, rfl⟩ : ∃ N : Nat, n = N := ⟨n.toNat, by omega⟩
    exact aof_ok N w (by omega) (by omega) (by omega)
  · rw [if_neg h]
    exact aof_bad n w h
end Go.Proofs.Ytkhjmfngeidlcaa
