/- A new device of which one sector after the other is lost. -/
import Derived.Test.YtgholkjpbdcdiaaDoorArrStore
namespace Go.Proofs.YtgholkjpbdcdiaaDoor
open Go.RowKit Go.Lib

def toBlank (D : Dv) (k : Nat) : Dv := (D.1, List.replicate k true ++ D.2.drop k)
theorem toBlank_none (D : Dv) : toBlank D 0 = D := by simp [toBlank]
theorem toBlank_all (D : Dv) : toBlank D D.2.length = blank D := by simp [toBlank, blank]
theorem toBlank_len (D : Dv) (k : Nat) (h : k ≤ D.2.length) : (toBlank D k).2.length = D.2.length := by simp [toBlank]; omega
theorem toBlank_step (D : Dv) (k : Nat) (h : k < D.2.length) : ((toBlank D k).1, (toBlank D k).2.set k true) = toBlank D (k + 1) := by
  unfold toBlank
  simp only
  rw [List.set_append_right _ _ (by simp), List.length_replicate, Nat.sub_self, List.drop_eq_getElem_cons h, List.set_cons_zero, List.replicate_succ', List.append_assoc]
  rfl
theorem DevNew.lose {B : Nat} {w : World} {x y : Option Addr} {D : Dv} (h : DevNew B w x y D) {q k : Nat} (hy : y = some ⟨q, 0, none⟩) (hk : k < D.2.length) : DevNew B (w.setCell ⟨q, k, none⟩ (.bool true)) x y (D.1, D.2.set k true) := by
  have hne : D.2 ≠ [] := fun e => by rw [e] at hk; exact absurd hk (Nat.not_lt_zero _)
  have hne' : D.2.set k true ≠ [] := fun e => by have := congrArg List.length e; simp at this; exact hne this
  refine ⟨?_, ?_, fun h1 h2 => h.apart h1 hne⟩
  · by_cases h1 : D.1 = []
    · exact .inl h1
    · rcases h.S with e | ⟨b, e, g, o⟩
      · exact .inl e
      · exact .inr ⟨b, e, g, o.other (p := ⟨q, k, none⟩) (h.apart h1 hne b q e hy) _⟩
  · rcases h.L with e | ⟨b, e, g, o⟩
    · exact absurd e hne
    · obtain rfl : b = q := by rw [hy] at e; cases e; rfl
      refine .inr ⟨b, e, g, ?_⟩
      have := o.set (i := k) (by simpa using hk) (.bool true)
      rwa [← List.map_set] at this
/-- Its row of lost sectors. -/
theorem DevNew.row {B : Nat} {w : World} {x y : Option Addr} {D : Dv} (h : DevNew B w x y D) {k : Nat} (hk : k < D.2.length) : ∃ q v, y = some ⟨q, 0, none⟩ ∧ B ≤ q ∧ q < w.heap.size ∧ w.cell? ⟨q, k, none⟩ = some (.bool v) ∧ w.frozen? ⟨q, k, none⟩ = false := by
  rcases h.L with e | ⟨q, e, g, o⟩
  · rw [e] at hk; exact absurd hk (Nat.not_lt_zero _)
  · exact ⟨q, D.2[k], e, g, o.lt, o.cell (by simp [hk]), o.free k⟩

/-- While it is lost: the device's box, its rows. -/
structure BlI (W3 : World) (px : Nat) (x : Option Addr) (n1 e1 : Nat) (y : Option Addr) (m1 e2 : Nat) (D : Dv) (k : Nat) (W : World) : Prop where
  bx : Box2 W px (.slice x n1 e1) (.slice y m1 e2)
  dn : DevNew W3.heap.size W x y (toBlank D k)
  ap : ∀ q, y = some ⟨q, 0, none⟩ → D.2 ≠ [] → q ≠ px
  below : Below W3.heap.size W3 W
theorem BlI.step {W3 W : World} {px n1 e1 m1 e2 k : Nat} {x y : Option Addr} {D : Dv} (H : BlI W3 px x n1 e1 y m1 e2 D k W) (hk : k < D.2.length) :
    ∃ q v, y = some ⟨q, 0, none⟩ ∧ W.cell? ⟨q, k, none⟩ = some (.bool v) ∧ W.frozen? ⟨q, k, none⟩ = false ∧ BlI W3 px x n1 e1 y m1 e2 D (k + 1) (W.setCell ⟨q, k, none⟩ (.bool true)) := by
  have hk' : k < (toBlank D k).2.length := by rw [toBlank_len D k (by omega)]; exact hk
  obtain ⟨q, v, e, g, _, c, f⟩ := H.dn.row hk'
  have hne : D.2 ≠ [] := fun e => by rw [e] at hk; exact absurd hk (Nat.not_lt_zero _)
  refine ⟨q, v, e, c, f, H.bx.other (q := ⟨q, k, none⟩) (fun h => H.ap q e hne h.symm) _, ?_, H.ap, H.below.setCell (p := ⟨q, k, none⟩) g _⟩
  rw [← toBlank_step D k hk]
  exact H.dn.lose e hk'
end Go.Proofs.YtgholkjpbdcdiaaDoor
