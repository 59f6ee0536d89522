/- Boxes of two cells, in which a device lies; a device that comes out of a call. -/
import Derived.Test.YtkhjmfngeidlcaaDevMem
import Derived.Handy
namespace Go.Proofs.Ytkhjmfngeidlcaa
open Go.RowKit Go.Lib

theorem put_strs (D : Dv) (k : Nat) (s : ByteArray) (l : Bool) : (D.1.map Value.string).set k (.string s) = (dvPut D k s l).1.map .string ∧ (D.2.map Value.bool).set k (.bool l) = (dvPut D k s l).2.map .bool := by
  simp [dvPut, List.map_set]
theorem undrew {W w' : World} (g : Below W.drew.heap.size W.drew w') : Below W.heap.size W w' := ⟨g.os, g.tape, g.output, g.size, g.block⟩
theorem cell_lt {w : World} {a : Addr} {v : Value} (h : w.cell? a = some v) : a.block < w.heap.size := by
  unfold World.cell? at h
  split at h
  · rename_i c t f hc
    exact lt_of_block hc
  · cases h

/-- A box of two cells that may be written. -/
structure Box2 (w : World) (p : Nat) (d1 d2 : Value) : Prop where
  c0 : w.cell? ⟨p, 0, none⟩ = some d1
  c1 : w.cell? ⟨p, 1, none⟩ = some d2
  f0 : w.frozen? ⟨p, 0, none⟩ = false
  f1 : w.frozen? ⟨p, 1, none⟩ = false
  lt : p < w.heap.size
section
variable {w w' : World} {p : Nat} {d1 d2 : Value}
theorem Box2.below (h : Box2 w p d1 d2) (g : Below w.heap.size w w') : Box2 w' p d1 d2 :=
  ⟨(g.cell (p := ⟨p, 0, none⟩) h.lt).trans h.c0, (g.cell (p := ⟨p, 1, none⟩) h.lt).trans h.c1, (g.frozen (p := ⟨p, 0, none⟩) h.lt).trans h.f0, (g.frozen (p := ⟨p, 1, none⟩) h.lt).trans h.f1, Nat.lt_of_lt_of_le h.lt g.size⟩
theorem Box2.below2 {B : Nat} (h : Box2 w p d1 d2) (g : Below B w w') (hp : p < B) : Box2 w' p d1 d2 :=
  ⟨(g.cell (p := ⟨p, 0, none⟩) hp).trans h.c0, (g.cell (p := ⟨p, 1, none⟩) hp).trans h.c1, (g.frozen (p := ⟨p, 0, none⟩) hp).trans h.f0, (g.frozen (p := ⟨p, 1, none⟩) hp).trans h.f1, Nat.lt_of_lt_of_le h.lt g.size⟩
theorem Box2.store (h : Box2 w p d1 d2) (v0 v1 : Value) : Box2 ((w.setCell ⟨p, 0, none⟩ v0).setCell ⟨p, 1, none⟩ v1) p v0 v1 := by
  obtain ⟨y0, y1⟩ := ret_box v0 v1 h.c0 h.c1
  refine ⟨?_, y1, ?_, ?_, ?_⟩
  · rw [World.cell?_setCell_other _ _ _ _ (by simp)]; exact y0
  · rw [World.frozen?_setCell, World.frozen?_setCell]; exact h.f0
  · rw [World.frozen?_setCell, World.frozen?_setCell]; exact h.f1
  · have := h.lt
    simpa [World.setCell] using this
theorem Box2.other (h : Box2 w p d1 d2) {q : Addr} (hq : p ≠ q.block) (v : Value) : Box2 (w.setCell q v) p d1 d2 := by
  have e : (w.setCell q v).heap[p]? = w.heap[p]? := Below.heap_setCell w q v p hq
  exact ⟨(World.cell?_of_block (a := ⟨p, 0, none⟩) e).trans h.c0, (World.cell?_of_block (a := ⟨p, 1, none⟩) e).trans h.c1, (World.frozen?_of_block (a := ⟨p, 0, none⟩) e).trans h.f0, (World.frozen?_of_block (a := ⟨p, 1, none⟩) e).trans h.f1, by have := h.lt; simpa [World.setCell] using this⟩
end

theorem box2_of {w : World} {p : Nat} {d1 d2 : Value} {t : TypeId} (h : Own w p t [d1, d2]) : Box2 w p d1 d2 := ⟨h.cell rfl, h.cell rfl, h.free 0, h.free 1, h.lt⟩

/-- Addresses from block B on. -/
def Fresh (B : Nat) (a a' : Option Addr) : Prop := ∀ b o, a = some ⟨b, o, none⟩ ∨ a' = some ⟨b, o, none⟩ → B ≤ b
theorem fresh_none (B : Nat) : Fresh B none none := by
  rintro b o (h | h) <;> cases h
theorem fresh_some {B b b' : Nat} (h : B ≤ b) (h' : B ≤ b') : Fresh B (some ⟨b, 0, none⟩) (some ⟨b', 0, none⟩) := by
  rintro x o (e | e) <;> cases e <;> assumption
/-- A device that comes out of a call in new memory, with an error. -/
def OutE (w : World) (r : Dv × Int) (e : Ending) (w' : World) : Prop := ∃ a n c a' m c', e = .returned (.tuple #[.agg #[.slice a n c, .slice a' m c'], .int .i64 r.2]) ∧ DevAt w' a n a' m r.1 ∧ Fresh w.heap.size a a' ∧ Below w.heap.size w w'

/-- .. that may be written. -/
def OutN (w : World) (r : Dv × Int) (e : Ending) (w' : World) : Prop := ∃ a n c a' m c', e = .returned (.tuple #[.agg #[.slice a n c, .slice a' m c'], .int .i64 r.2]) ∧ DevNew w.heap.size w' a a' r.1 ∧ (n = r.1.1.length ∧ m = r.1.2.length ∧ n ≤ maxLen ∧ m ≤ maxLen) ∧ Fresh w.heap.size a a' ∧ Below w.heap.size w w'
theorem OutN.outE {w w' : World} {r : Dv × Int} {e : Ending} (h : OutN w r e w') : OutE w r e w' := by
  obtain ⟨a, n, c, a', m, c', h1, h2, ⟨h3, h4, h5, h6⟩, h7, h8⟩ := h
  exact ⟨a, n, c, a', m, c', h1, h2.at h3 h4 h5 h6, h7, h8⟩
theorem outN_none {w w' : World} {x : Int} (g : Below w.heap.size w w') : OutN w (nil2, x) (.returned (.tuple #[.agg #[.slice none 0 0, .slice none 0 0], .int .i64 x])) w' :=
  ⟨none, 0, 0, none, 0, 0, rfl, ⟨.inl rfl, .inl rfl, fun h => absurd rfl h⟩, ⟨rfl, rfl, Nat.zero_le _, Nat.zero_le _⟩, fresh_none _, g⟩

/-- A device's answer, stored into the result's box. -/
theorem out_store {w W w1 : World} {p : Nat} {a a' : Option Addr} {n c m c' : Nat} {D : Dv} (hD : DevAt w1 a n a' m D) (hf : Fresh W.heap.size a a') (g : Below w.heap.size w w1) (hp : w.heap.size ≤ p) (hp' : p < W.heap.size) (hw : w.heap.size ≤ W.heap.size) :
    DevAt ((w1.setCell ⟨p, 0, none⟩ (.slice a n c)).setCell ⟨p, 1, none⟩ (.slice a' m c')) a n a' m D ∧ Fresh w.heap.size a a' ∧ Below w.heap.size w ((w1.setCell ⟨p, 0, none⟩ (.slice a n c)).setCell ⟨p, 1, none⟩ (.slice a' m c')) := by
  have other : ∀ {V : List Value} {x : Option Addr}, RowAt w1 x V → (∀ b o, x = some ⟨b, o, none⟩ → b ≠ p) → RowAt ((w1.setCell ⟨p, 0, none⟩ (.slice a n c)).setCell ⟨p, 1, none⟩ (.slice a' m c')) x V := by
    intro V x hr hx i v hv
    obtain ⟨b, o, e, hlt, hc⟩ := hr i v hv
    have hne := hx b o e
    refine ⟨b, o, e, by simpa [World.setCell] using hlt, ?_⟩
    rw [World.cell?_setCell_other _ _ _ _ (fun h => hne (congrArg Addr.block h).symm), World.cell?_setCell_other _ _ _ _ (fun h => hne (congrArg Addr.block h).symm)]
    exact hc
  refine ⟨⟨hD.sn, hD.sm, other hD.S (fun b o h => ?_), other hD.L (fun b o h => ?_), hD.nb, hD.mb⟩, fun b o h => Nat.le_trans hw (hf b o h), (g.setCell (by exact hp) _).setCell (by exact hp) _⟩
  · have := hf b o (.inl h); omega
  · have := hf b o (.inr h); omega

theorem DevNew.other {B : Nat} {w : World} {a a' : Option Addr} {D : Dv} (h : DevNew B w a a' D) {p : Addr} (hp : p.block < B) (v : Value) : DevNew B (w.setCell p v) a a' D := by
  refine ⟨?_, ?_, h.apart⟩
  · rcases h.S with h | ⟨b, h1, h2, h3⟩
    · exact .inl h
    · exact .inr ⟨b, h1, h2, h3.other (by omega) v⟩
  · rcases h.L with h | ⟨b, h1, h2, h3⟩
    · exact .inl h
    · exact .inr ⟨b, h1, h2, h3.other (by omega) v⟩
theorem DevNew.less {B B' : Nat} {w : World} {a a' : Option Addr} {D : Dv} (h : DevNew B w a a' D) (hb : B' ≤ B) : DevNew B' w a a' D := by
  refine ⟨?_, ?_, h.apart⟩
  · rcases h.S with h | ⟨b, h1, h2, h3⟩
    · exact .inl h
    · exact .inr ⟨b, h1, Nat.le_trans hb h2, h3⟩
  · rcases h.L with h | ⟨b, h1, h2, h3⟩
    · exact .inl h
    · exact .inr ⟨b, h1, Nat.le_trans hb h2, h3⟩

theorem DevNew.below' {B : Nat} {w w' : World} {x y : Option Addr} {D : Dv} (h : DevNew B w x y D) (g : Below w.heap.size w w') : DevNew B w' x y D := by
  refine ⟨?_, ?_, h.apart⟩
  · rcases h.S with e | ⟨b, h1, h2, h3⟩
    · exact .inl e
    · exact .inr ⟨b, h1, h2, h3.below' g⟩
  · rcases h.L with e | ⟨b, h1, h2, h3⟩
    · exact .inl e
    · exact .inr ⟨b, h1, h2, h3.below' g⟩

end Go.Proofs.Ytkhjmfngeidlcaa
