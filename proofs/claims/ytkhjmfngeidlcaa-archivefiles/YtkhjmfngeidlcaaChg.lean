/- Memory in which but some blocks are changed. -/
import Derived.Test.YtkhjmfngeidlcaaDevBox
namespace Go.Proofs.Ytkhjmfngeidlcaa
open Go.RowKit Go.Lib

/-- Nothing that was there is another one, but blocks of which P says so. -/
structure Chg (P : Nat → Prop) (w w' : World) : Prop where
  os : w'.os = w.os
  tape : w'.tape = w.tape
  output : w'.output = w.output
  size : w.heap.size ≤ w'.heap.size
  block : ∀ k, k < w.heap.size → ¬ P k → w'.heap[k]? = w.heap[k]?
section
variable {P Q : Nat → Prop} {w w' w'' : World}
theorem Chg.refl (P : Nat → Prop) (w : World) : Chg P w w := ⟨rfl, rfl, rfl, Nat.le_refl _, fun _ _ _ => rfl⟩
theorem Chg.trans (h : Chg P w w') (h' : Chg Q w' w'') (hq : ∀ k, k < w.heap.size → Q k → P k) : Chg P w w'' :=
  ⟨h'.os.trans h.os, h'.tape.trans h.tape, h'.output.trans h.output, Nat.le_trans h.size h'.size, fun k hk hp => (h'.block k (Nat.lt_of_lt_of_le hk h.size) (fun q => hp (hq k hk q))).trans (h.block k hk hp)⟩
theorem Chg.step (h : Chg P w w') (h' : Chg P w' w'') : Chg P w w'' := h.trans h' (fun _ _ q => q)
theorem chg_below (P : Nat → Prop) (g : Below w.heap.size w w') : Chg P w w' := ⟨g.os, g.tape, g.output, g.size, fun k hk _ => g.block k hk⟩
theorem Chg.to (h : Chg P w w') (g : Below w'.heap.size w' w'') : Chg P w w'' := h.step (chg_below P g)
theorem Chg.alloc (h : Chg P w w') (o : Obj) : Chg P w (w'.alloc o) := h.to ((Below.refl _ w').alloc (Nat.le_refl _) o)
theorem Chg.drew (h : Chg P w w') : Chg P w w'.drew := ⟨h.os, h.tape, h.output, h.size, h.block⟩
theorem chg_grown {row : Option Nat} (g : w.grownBy w' row) : Chg (fun k => some k = row) w w' := ⟨g.os, g.tape, g.output, g.size, fun k hk hp => g.block k hk hp⟩
theorem chg_set (w : World) (p o : Nat) (v : Value) : Chg (fun k => k = p) w (w.setCell ⟨p, o, none⟩ v) := ⟨rfl, rfl, rfl, by simp [World.setCell], fun k _ hp => Below.heap_setCell w ⟨p, o, none⟩ v k hp⟩
theorem Chg.set (h : Chg P w w') {p : Nat} (hp : P p) (o : Nat) (v : Value) : Chg P w (w'.setCell ⟨p, o, none⟩ v) := h.trans (chg_set w' p o v) (fun k _ q => by rw [q]; exact hp)
theorem Chg.fresh (h : Chg P w w') {p : Nat} (hp : w.heap.size ≤ p) (o : Nat) (v : Value) : Chg P w (w'.setCell ⟨p, o, none⟩ v) := h.trans (chg_set w' p o v) (fun k hk q => by omega)
theorem Chg.below {B : Nat} (h : Chg P w w') (hB : B ≤ w.heap.size) (hp : ∀ k, k < B → ¬ P k) : Below B w w' := ⟨h.os, h.tape, h.output, h.size, fun k hk => h.block k (Nat.lt_of_lt_of_le hk hB) (hp k hk)⟩
theorem Chg.own (h : Chg P w w') {b : Nat} {t : TypeId} {V : List Value} (ho : Own w b t V) (hp : ¬ P b) : Own w' b t V := ho.of_block (h.block b ho.lt hp)
theorem Chg.row (h : Chg P w w') {base size n : Nat} {e : TypeId} {v : Value} {xs : List Value} (ho : w.ownsRow base e size v n xs) (hp : ∀ g, base ≤ g → ¬ P g) : w'.ownsRow base e size v n xs := by
  refine ⟨ho.1, ?_⟩
  rcases ho.2 with h0 | ⟨g, cap, cur, hv, hg, hh, h1, h2, h3, h4⟩
  · exact .inl h0
  · exact .inr ⟨g, cap, cur, hv, hg, (h.block g (lt_of_block hh) (hp g hg)).trans hh, h1, h2, h3, h4⟩
end
end Go.Proofs.Ytkhjmfngeidlcaa
