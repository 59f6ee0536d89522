/- What the document's own touched answers. -/
import Derived.Test.YtgholkjpbdcdiaaDevMay
namespace Go.Proofs.Ytgholkjpbdcdiaa
open Go.RowKit Go.Lib

theorem touched_any (a : Option Addr) (n c : Nat) (a' : Option Addr) (m c' : Nat) (i : Int) (D : Dv) (w : World) (h : DevAt w a n a' m D) :
    Calls Try.prog 55 #[.agg #[.slice a n c, .slice a' m c'], .int .i64 i] w fun e w' => e = .returned (.int .i64 (dvTouch D i)) ∧ Below w.heap.size w w' := by
  have hM := may_any a n c a' m c' D _ (h.below ((Below.refl _ w).alloc (Nat.le_refl _) (.cells #[.slice a n c, .slice a' m c'] 40)))
  have hB : Below w.heap.size w (w.alloc (.cells #[.slice a n c, .slice a' m c'] 40)) := (Below.refl _ w).alloc (Nat.le_refl _) _
  have hz : (w.alloc (.cells #[.slice a n c, .slice a' m c'] 40)).heap.size = w.heap.size + 1 := by simp
  have hcell : (w.alloc (.cells #[.slice a n c, .slice a' m c'] 40)).cell? ⟨w.heap.size, 0, none⟩ = some (.slice a n c) := by simp
  unfold dvTouch
  rw [← h.sn]
  have hnb := h.nb
  unfold maxLen at hnb
  have HM := hid hM
  have HB := hid (And.intro hB (And.intro hz hcell))
  clear h hM hB hz hcell
  generalize dvMay D = r at HM
  cases r with
  | false =>
    rw [if_neg (by decide)]
    go_enter Try.func55, Try.ntmps55
    go_wp2_with fail
    refine HM.out.mono ?_
    rintro _ w1 ⟨rfl, g1⟩
    go_wp2
    go_ret
    exact ⟨rfl, HB.out.1.trans (g1.mono HB.out.1.size)⟩
  | true =>
    rw [if_pos rfl]
    have hi := fun wx => in_any i 0 ((n : Int) - 1) wx
    have hdd : decide ((0 : Int) ≤ i ∧ i ≤ (n : Int) - 1) = decide (0 ≤ i ∧ i < n) := by rw [decide_eq_decide]; omega
    rw [hdd] at hi
    have HI := hid hi
    clear hi hdd
    have w1 : wrap64 ((n : Int) - 1) = (n : Int) - 1 := IntWalk.wrap64_in _ (by omega)
    by_cases hin : 0 ≤ i ∧ i < n
    · rw [if_pos hin]
      rw [decide_eq_true hin] at HI
      go_enter Try.func55, Try.ntmps55
      go_wp2_with fail
      refine HM.out.mono ?_
      rintro _ w1 ⟨rfl, g1⟩
      have hc1 : w1.cell? ⟨w.heap.size, 0, none⟩ = some (.slice a n c) := (g1.cell (p := ⟨w.heap.size, 0, none⟩) (by rw [HB.out.2.1]; exact Nat.lt_succ_self _)).trans HB.out.2.2
      go_wp2_with fail
      refine (HI.out _).mono ?_
      rintro _ w2 ⟨rfl, e2⟩
      subst e2
      go_wp2
      go_ret
      exact ⟨rfl, HB.out.1.trans (g1.mono HB.out.1.size)⟩
    · rw [if_neg hin]
      rw [decide_eq_false hin] at HI
      go_enter Try.func55, Try.ntmps55
      go_wp2_with fail
      refine HM.out.mono ?_
      rintro _ w1 ⟨rfl, g1⟩
      have hc1 : w1.cell? ⟨w.heap.size, 0, none⟩ = some (.slice a n c) := (g1.cell (p := ⟨w.heap.size, 0, none⟩) (by rw [HB.out.2.1]; exact Nat.lt_succ_self _)).trans HB.out.2.2
      go_wp2_with fail
      refine (HI.out _).mono ?_
      rintro _ w2 ⟨rfl, e2⟩
      subst e2
      go_wp2
      go_ret
      exact ⟨rfl, HB.out.1.trans (g1.mono HB.out.1.size)⟩
end Go.Proofs.Ytgholkjpbdcdiaa
