/- Catalogs in memory: where their cells stand. -/
import Derived.Test.YtelgpiedchnncabDoorCatRead
import Derived.Test.YtelgpiedchnncabDoorDevBox
namespace Go.Proofs.YtelgpiedchnncabDoor
open Go.RowKit Go.Lib

/-- The blocks stand there. -/
structure BlkAt (w : World) (a : Option Addr) (n : Nat) (L : List Bk) : Prop where
  sn : n = L.length
  nb : n ≤ maxLen
  c : ∀ i, i < n → ∃ b o, a = some ⟨b, o, none⟩ ∧ b < w.heap.size ∧ w.cell? ⟨b, o + i * 2, none⟩ = some (.int .i64 (bk L i).f) ∧ w.cell? ⟨b, o + i * 2 + 1, none⟩ = some (.int .i64 (bk L i).n)
/-- The entries stand there. -/
structure EntAt (w : World) (a : Option Addr) (n : Nat) (E : List En) : Prop where
  sn : n = E.length
  nb : n ≤ maxLen
  nm : ∀ i, i < n → (en E i).s.size ≤ maxLen
  c : ∀ i, i < n → ∃ b o, a = some ⟨b, o, none⟩ ∧ b < w.heap.size ∧ w.cell? ⟨b, o + i * 4, none⟩ = some (.string (en E i).s) ∧ w.cell? ⟨b, o + i * 4 + 1, none⟩ = some (.int .i64 (en E i).b) ∧ w.cell? ⟨b, o + i * 4 + 2, none⟩ = some (.int .i64 (en E i).a) ∧ w.cell? ⟨b, o + i * 4 + 3, none⟩ = some (.int .i64 (en E i).n)
/-- A catalog's two lists stand there. -/
structure CatAt (w : World) (a : Option Addr) (n c : Nat) (a' : Option Addr) (m : Nat) (C : Ct) : Prop where
  cap : n ≤ c
  B : BlkAt w a n C.1
  E : EntAt w a' m C.2

section
variable {w w' : World} {a a' : Option Addr} {n m : Nat} {L : List Bk} {E : List En} {C : Ct}
theorem BlkAt.below (h : BlkAt w a n L) (g : Below w.heap.size w w') : BlkAt w' a n L := by
  refine ⟨h.sn, h.nb, fun i hi => ?_⟩
  obtain ⟨b, o, e, hb, c0, c1⟩ := h.c i hi
  exact ⟨b, o, e, Nat.lt_of_lt_of_le hb g.size, (g.cell (p := ⟨b, o + i * 2, none⟩) hb).trans c0, (g.cell (p := ⟨b, o + i * 2 + 1, none⟩) hb).trans c1⟩
theorem EntAt.below (h : EntAt w a n E) (g : Below w.heap.size w w') : EntAt w' a n E := by
  refine ⟨h.sn, h.nb, h.nm, fun i hi => ?_⟩
  obtain ⟨b, o, e, hb, c0, c1, c2, c3⟩ := h.c i hi
  exact ⟨b, o, e, Nat.lt_of_lt_of_le hb g.size, (g.cell (p := ⟨b, o + i * 4, none⟩) hb).trans c0, (g.cell (p := ⟨b, o + i * 4 + 1, none⟩) hb).trans c1, (g.cell (p := ⟨b, o + i * 4 + 2, none⟩) hb).trans c2, (g.cell (p := ⟨b, o + i * 4 + 3, none⟩) hb).trans c3⟩
theorem CatAt.below {c : Nat} (h : CatAt w a n c a' m C) (g : Below w.heap.size w w') : CatAt w' a n c a' m C := ⟨h.cap, h.B.below g, h.E.below g⟩
theorem BlkAt.take (h : BlkAt w a n L) (k : Nat) (hk : k ≤ n) : BlkAt w a k (L.take k) := by
  refine ⟨by rw [List.length_take, ← h.sn]; omega, Nat.le_trans hk h.nb, fun i hi => ?_⟩
  have e : bk (L.take k) i = bk L i := by simp [bk, hi]
  rw [e]
  exact h.c i (by omega)
theorem blkAt_none (w : World) (a : Option Addr) : BlkAt w a 0 [] := ⟨rfl, Nat.zero_le _, fun _ hi => absurd hi (Nat.not_lt_zero _)⟩
theorem entAt_none (w : World) (a : Option Addr) : EntAt w a 0 [] := ⟨rfl, Nat.zero_le _, fun _ hi => absurd hi (Nat.not_lt_zero _), fun _ hi => absurd hi (Nat.not_lt_zero _)⟩
theorem catAt_none (w : World) (a a' : Option Addr) (c : Nat) : CatAt w a 0 c a' 0 nilC := ⟨Nat.zero_le _, blkAt_none w a, entAt_none w a'⟩
end
end Go.Proofs.YtelgpiedchnncabDoor
