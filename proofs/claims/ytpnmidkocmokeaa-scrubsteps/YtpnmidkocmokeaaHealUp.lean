/- Arrays all of whose rows are new memory. -/
import Derived.Test.YtpnmidkocmokeaaHealSector
import Derived.Test.YtpnmidkocmokeaaArrRefCopy
namespace Go.Proofs.Ytpnmidkocmokeaa
open Go.RowKit Go.Lib

/-- An array that can be stored over, its rows in blocks from B on. -/
structure ArrUp (B : Nat) (w : World) (b o n : Nat) (h : Nat → Hd) (A : Ar) : Prop extends ArrFree w b o n h A where
  up : ∀ i, i < n → Up B (h i)
theorem ArrUp.below {B : Nat} {w w' : World} {b o n : Nat} {h : Nat → Hd} {A : Ar} (H : ArrUp B w b o n h A) (g : Below w.heap.size w w') : ArrUp B w' b o n h A := ⟨H.toArrFree.below g, H.up⟩
theorem up_fresh {B B' : Nat} {d : Hd} (h : Fresh B' d.x d.y) (hB : B ≤ B') : Up B d := ⟨fun b o e _ => Nat.le_trans hB (h b o (.inl e)), fun b o e _ => Nat.le_trans hB (h b o (.inr e))⟩
theorem storedU {B B' : Nat} {w w4 : World} {b o i : Nat} {h : Nat → Hd} {A : Ar} (H : ArrUp B w b o 3 h A) (hi : i < 3) (g : Below w.heap.size w w4) {x y : Option Addr} {p c q d : Nat} {D : Dv} (hD : DevAt w4 x p y q D) (hF : Fresh B' x y) (hB : B ≤ B') :
    (w4.cell? ⟨b, o + i * 2, none⟩ = some (.slice (h i).x (h i).p (h i).c) ∧ w4.cell? ⟨b, o + i * 2 + 1, none⟩ = some (.slice (h i).y (h i).q (h i).d) ∧ w4.frozen? ⟨b, o + i * 2, none⟩ = false ∧ w4.frozen? ⟨b, o + i * 2 + 1, none⟩ = false) ∧
    (∃ h', ArrUp B ((w4.setCell ⟨b, o + i * 2, none⟩ (.slice x p c)).setCell ⟨b, o + i * 2 + 1, none⟩ (.slice y q d)) b o 3 h' (A.set i D)) ∧ w.grownBy ((w4.setCell ⟨b, o + i * 2, none⟩ (.slice x p c)).setCell ⟨b, o + i * 2 + 1, none⟩ (.slice y q d)) (some b) := by
  have H4 := H.below g
  obtain ⟨k1, k2⟩ := H4.toArrFree.store i hi ⟨x, p, c, y, q, d⟩ D hD
  refine ⟨⟨H4.arr.c0 i hi, H4.arr.c1 i hi, H4.free _, H4.free _⟩, ⟨_, k1, fun j hj => ?_⟩, grown_trans (grown_below g) k2⟩
  by_cases e : j = i
  · subst e
    have : setH h j ⟨x, p, c, y, q, d⟩ j = ⟨x, p, c, y, q, d⟩ := by simp [setH]
    rw [this]
    exact up_fresh hF hB
  · have : setH h i ⟨x, p, c, y, q, d⟩ j = h j := by simp [setH, e]
    rw [this]
    exact H.up j hj
/-- While an array is written, its rows new. -/
structure WrU (w : World) (pr pc b cc : Nat) (A : Ar) (W : World) : Prop extends WrI w pr pc b cc A W where
  fru : ∃ h, ArrUp w.heap.size W b 0 3 h A
section
variable {w W W' : World} {pr pc b cc : Nat} {A A' : Ar}
theorem WrU.grown (H : WrU w pr pc b cc A W) (g : W.grownBy W' (some b)) (hf : ∃ h, ArrUp w.heap.size W' b 0 3 h A') : WrU w pr pc b cc A' W' := ⟨H.toWrI.grown g (by obtain ⟨h, hh⟩ := hf; exact ⟨h, hh.toArrFree⟩), hf⟩
theorem WrU.to (H : WrU w pr pc b cc A W) (g : Below W.heap.size W W') : WrU w pr pc b cc A W' := H.grown (grown_below g) (by obtain ⟨h, hh⟩ := H.fru; exact ⟨h, hh.below g⟩)
theorem WrU.drew (H : WrU w pr pc b cc A W) : WrU w pr pc b cc A W.drew := H.to ((Below.refl _ W).drew)
end
theorem wrU_start {w W w2 : World} {pr b cc : Nat} {h : Nat → Hd} {A : Ar} (H : WrI w pr w2.heap.size b cc A (w2.alloc (.cells #[.slice (some ⟨b, 0, none⟩) 3 cc] 24))) (hf : ArrFree w2 b 0 3 h A) (hu : ∀ i, i < 3 → Up W.heap.size (h i)) (hB : w.heap.size ≤ W.heap.size) :
    WrU w pr w2.heap.size b cc A (w2.alloc (.cells #[.slice (some ⟨b, 0, none⟩) 3 cc] 24)) :=
  ⟨H, h, hf.below ((Below.refl _ w2).alloc (Nat.le_refl _) _), fun i hi => ⟨fun b o e h0 => Nat.le_trans hB ((hu i hi).1 b o e h0), fun b o e h0 => Nat.le_trans hB ((hu i hi).2 b o e h0)⟩⟩
/-- An array that comes out of a call, all of it in new memory, with a number and an error. -/
def OutHu (w : World) (r : Ar × Int × Int) (e : Ending) (w' : World) : Prop :=
  (∃ a n c, e = .returned (.tuple #[.agg #[.slice a n c], .int .i64 r.2.1, .int .i64 r.2.2]) ∧ ((n = 0 ∧ r.1 = [] ∧ a = none) ∨ ∃ b h, a = some ⟨b, 0, none⟩ ∧ w.heap.size ≤ b ∧ ArrUp w.heap.size w' b 0 n h r.1)) ∧ Below w.heap.size w w'
theorem outHu_none {w w' : World} {x : Int} (g : Below w.heap.size w w') : OutHu w ([], 0, x) (.returned (.tuple #[.agg #[.slice none 0 0], .int .i64 0, .int .i64 x])) w' := ⟨⟨none, 0, 0, rfl, .inl ⟨rfl, rfl, rfl⟩⟩, g⟩
theorem OutHu.he {w w' : World} {r : Ar × Int × Int} {e : Ending} (h : OutHu w r e w') : OutHe w r e w' := by
  obtain ⟨⟨a, n, c, h1, h2⟩, h3⟩ := h
  refine ⟨⟨a, n, c, h1, ?_⟩, h3⟩
  rcases h2 with h2 | ⟨b, hd, k1, k2, k3⟩
  · exact .inl h2
  · exact .inr ⟨b, hd, k1, k2, k3.toArrFree⟩
theorem WrU.outHu {w W : World} {pr pc b cc : Nat} {A : Ar} (H : WrU w pr pc b cc A W) (m : Int) : OutHu w (A, m, 0) (.returned (.tuple #[.agg #[.slice (some ⟨b, 0, none⟩) 3 cc], .int .i64 m, .int .i64 0])) (W.setCell ⟨pr, 0, none⟩ (.slice (some ⟨b, 0, none⟩) 3 cc)) := by
  obtain ⟨h, hh⟩ := H.fru
  exact ⟨⟨_, 3, cc, rfl, .inr ⟨b, h, rfl, H.ge.2, hh.toArrFree.box H.ne.1 H.rc _, hh.up⟩⟩, H.below.setCell (p := ⟨pr, 0, none⟩) H.ge.1 _⟩
end Go.Proofs.Ytpnmidkocmokeaa
