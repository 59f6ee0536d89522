/- Joined texts: DevChange, DevWrite. -/
import Derived.Test.YtkhjmfngeidlcaaDoorMem2
import Derived.Test.YtkhjmfngeidlcaaDoorDevA
import Derived.Test.YtkhjmfngeidlcaaDoorDevB
import Derived.Deep.RegionHeld3
import Derived.Test.YtkhjmfngeidlcaaDoorSecA
/- What the program's device.change answers, whatever its closure makes of a sector. -/
namespace Go.Proofs.YtkhjmfngeidlcaaDoor
open Go.RowKit Go.Lib

/-- What the change leaves: the device in its box, in memory of its own. -/
def Changed (w w' : World) (pc n m : Nat) (D : Dv) : Prop :=
  ∃ b b', Box2 w' pc (.slice (some ⟨b, 0, none⟩) n n) (.slice (some ⟨b', 0, none⟩) m m) ∧ pc < b ∧ pc < b' ∧ b ≠ b' ∧ Own w' b 9 (D.1.map .string) ∧ Own w' b' 4 (D.2.map .bool) ∧ Below pc w w'



/-- Behind the call that clones: what the two stores want, and what they leave. -/
theorem later4 {w W w4 : World} {pc pn b b' n m k : Nat} {D : Dv} {x y : Value} (h : Box2 W pc (.slice (some ⟨b, 0, none⟩) n n) (.slice (some ⟨b', 0, none⟩) m m) ∧ Own W b 9 (D.1.map .string) ∧ Own W b' 4 (D.2.map .bool) ∧ W.cell? ⟨pn, 0, none⟩ = some (.int .i64 k) ∧ Below pc w W ∧ (pc < b ∧ pc < b' ∧ b ≠ b') ∧ (pn ≠ b ∧ pn ≠ b'))
    (hx : (D.1.map Value.string)[k]? = some x ∧ (D.2.map Value.bool)[k]? = some y) (g : Below W.heap.size W w4) (s2 : ByteArray) (l2 : Bool) :
    w4.cell? ⟨pc, 0, none⟩ = some (.slice (some ⟨b, 0, none⟩) n n) ∧ w4.cell? ⟨pc, 1, none⟩ = some (.slice (some ⟨b', 0, none⟩) m m) ∧ w4.cell? ⟨pn, 0, none⟩ = some (.int .i64 k) ∧ w4.cell? ⟨b, k, none⟩ = some x ∧ w4.frozen? ⟨b, k, none⟩ = false ∧
    (w4.setCell ⟨b, k, none⟩ (.string s2)).cell? ⟨pc, 0, none⟩ = some (.slice (some ⟨b, 0, none⟩) n n) ∧ (w4.setCell ⟨b, k, none⟩ (.string s2)).cell? ⟨pc, 1, none⟩ = some (.slice (some ⟨b', 0, none⟩) m m) ∧ (w4.setCell ⟨b, k, none⟩ (.string s2)).cell? ⟨pn, 0, none⟩ = some (.int .i64 k) ∧
    (w4.setCell ⟨b, k, none⟩ (.string s2)).cell? ⟨b', k, none⟩ = some y ∧ (w4.setCell ⟨b, k, none⟩ (.string s2)).frozen? ⟨b', k, none⟩ = false ∧
    ((w4.setCell ⟨b, k, none⟩ (.string s2)).setCell ⟨b', k, none⟩ (.bool l2)).cell? ⟨pc, 0, none⟩ = some (.slice (some ⟨b, 0, none⟩) n n) ∧ ((w4.setCell ⟨b, k, none⟩ (.string s2)).setCell ⟨b', k, none⟩ (.bool l2)).cell? ⟨pc, 1, none⟩ = some (.slice (some ⟨b', 0, none⟩) m m) ∧ ((w4.setCell ⟨b, k, none⟩ (.string s2)).setCell ⟨b', k, none⟩ (.bool l2)).cell? ⟨pn, 0, none⟩ = some (.int .i64 k) ∧
    Changed w ((w4.setCell ⟨b, k, none⟩ (.string s2)).setCell ⟨b', k, none⟩ (.bool l2)) pc n m (dvPut D k s2 l2) := by
  obtain ⟨h1, h2, h3, h4, h5, ⟨h6, h7, h8⟩, h9, h10⟩ := h
  have B5 := h1.below g
  have N5 := (g.cell (p := ⟨pn, 0, none⟩) (cell_lt h4)).trans h4
  have O5 := h2.below' g
  have O6 := h3.below' g
  have B6 := B5.other (q := ⟨b, k, none⟩) (Nat.ne_of_lt h6) (.string s2)
  have N6 := (World.cell?_setCell_other w4 ⟨b, k, none⟩ ⟨pn, 0, none⟩ (.string s2) (fun e => h9 (congrArg Addr.block e).symm)).trans N5
  have O7 := O6.other (p := ⟨b, k, none⟩) (fun e => h8 e.symm) (.string s2)
  have hk : k < (D.1.map Value.string).length := by
    rcases Nat.lt_or_ge k (D.1.map Value.string).length with h | h
    · exact h
    · rw [List.getElem?_eq_none h] at hx; cases hx.1
  have hk' : k < (D.2.map Value.bool).length := by
    rcases Nat.lt_or_ge k (D.2.map Value.bool).length with h | h
    · exact h
    · rw [List.getElem?_eq_none h] at hx; cases hx.2
  have P6 := O5.set hk (.string s2)
  have B7 := B6.other (q := ⟨b', k, none⟩) (Nat.ne_of_lt h7) (.bool l2)
  have N7 := (World.cell?_setCell_other (w4.setCell ⟨b, k, none⟩ (.string s2)) ⟨b', k, none⟩ ⟨pn, 0, none⟩ (.bool l2) (fun e => h10 (congrArg Addr.block e).symm)).trans N6
  have P7 := P6.other (p := ⟨b', k, none⟩) h8 (.bool l2)
  have Q7 := O7.set hk' (.bool l2)
  rw [(put_strs D k s2 l2).1] at P7
  rw [(put_strs D k s2 l2).2] at Q7
  exact ⟨B5.c0, B5.c1, N5, O5.cell hx.1, O5.free k, B6.c0, B6.c1, N6, O7.cell hx.2, O7.free k, B7.c0, B7.c1, N7, b, b', B7, h6, h7, h8, P7, Q7, ((h5.trans (g.mono (Nat.le_of_lt h1.lt))).setCell (Nat.le_of_lt h6) _).setCell (Nat.le_of_lt h7) _⟩

/-- The five boxes of change. -/
structure ChgD (w W : World) (d1 d2 fv : Value) (i : Int) : Prop where
  below : Below w.heap.size w W
  size : W.heap.size = w.heap.size + 5
  d : Box2 W w.heap.size d1 d2
  n : W.cell? ⟨w.heap.size + 1, 0, none⟩ = some (.int .i64 i)
  f : W.cell? ⟨w.heap.size + 1 + 1, 0, none⟩ = some fv
  r : Box2 W (w.heap.size + 1 + 1 + 1) (.slice none 0 0) (.slice none 0 0)
  c : Box2 W (w.heap.size + 1 + 1 + 1 + 1) (.slice none 0 0) (.slice none 0 0)
theorem chg_start (w : World) (d1 d2 fv : Value) (i : Int) (t1 t2 t3 t4 t5 : TypeId) : ChgD w (((((w.alloc (.cells #[d1, d2] t1)).alloc (.cells #[.int .i64 i] t2)).alloc (.cells #[fv] t3)).alloc (.cells #[.slice none 0 0, .slice none 0 0] t4)).alloc (.cells #[.slice none 0 0, .slice none 0 0] t5)) d1 d2 fv i := by
  have o1 : Own (w.alloc (.cells #[d1, d2] t1)) w.heap.size t1 [d1, d2] := Own.made w t1 [d1, d2]
  obtain ⟨w1, e1⟩ : ∃ w1, w1 = w.alloc (.cells #[d1, d2] t1) := ⟨_, rfl⟩
  have z1 : w1.heap.size = w.heap.size + 1 := by rw [e1]; simp
  have b1 : Below w.heap.size w w1 := by rw [e1]; exact (Below.refl _ w).alloc (Nat.le_refl _) _
  rw [← e1] at o1 ⊢
  clear e1
  have o2 : Own (w1.alloc (.cells #[.int .i64 i] t2)) w1.heap.size t2 [.int .i64 i] := Own.made w1 t2 [.int .i64 i]
  replace o1 := o1.alloc (.cells #[.int .i64 i] t2)
  obtain ⟨w2, e2⟩ : ∃ w2, w2 = w1.alloc (.cells #[.int .i64 i] t2) := ⟨_, rfl⟩
  have z2 : w2.heap.size = w.heap.size + 1 + 1 := by rw [e2]; simp [z1]
  have b2 : Below w.heap.size w w2 := by rw [e2]; exact b1.alloc b1.size _
  rw [← e2] at o1 o2 ⊢
  clear e2
  have o3 : Own (w2.alloc (.cells #[fv] t3)) w2.heap.size t3 [fv] := Own.made w2 t3 [fv]
  replace o1 := o1.alloc (.cells #[fv] t3)
  replace o2 := o2.alloc (.cells #[fv] t3)
  obtain ⟨w3, e3⟩ : ∃ w3, w3 = w2.alloc (.cells #[fv] t3) := ⟨_, rfl⟩
  have z3 : w3.heap.size = w.heap.size + 1 + 1 + 1 := by rw [e3]; simp [z2]
  have b3 : Below w.heap.size w w3 := by rw [e3]; exact b2.alloc b2.size _
  rw [← e3] at o1 o2 o3 ⊢
  clear e3
  have o4 : Own (w3.alloc (.cells #[.slice none 0 0, .slice none 0 0] t4)) w3.heap.size t4 [.slice none 0 0, .slice none 0 0] := Own.made w3 t4 [.slice none 0 0, .slice none 0 0]
  replace o1 := o1.alloc (.cells #[.slice none 0 0, .slice none 0 0] t4)
  replace o2 := o2.alloc (.cells #[.slice none 0 0, .slice none 0 0] t4)
  replace o3 := o3.alloc (.cells #[.slice none 0 0, .slice none 0 0] t4)
  obtain ⟨w4, e4⟩ : ∃ w4, w4 = w3.alloc (.cells #[.slice none 0 0, .slice none 0 0] t4) := ⟨_, rfl⟩
  have z4 : w4.heap.size = w.heap.size + 1 + 1 + 1 + 1 := by rw [e4]; simp [z3]
  have b4 : Below w.heap.size w w4 := by rw [e4]; exact b3.alloc b3.size _
  rw [← e4] at o1 o2 o3 o4 ⊢
  clear e4
  have o5 : Own (w4.alloc (.cells #[.slice none 0 0, .slice none 0 0] t5)) w4.heap.size t5 [.slice none 0 0, .slice none 0 0] := Own.made w4 t5 [.slice none 0 0, .slice none 0 0]
  replace o1 := o1.alloc (.cells #[.slice none 0 0, .slice none 0 0] t5)
  replace o2 := o2.alloc (.cells #[.slice none 0 0, .slice none 0 0] t5)
  replace o3 := o3.alloc (.cells #[.slice none 0 0, .slice none 0 0] t5)
  replace o4 := o4.alloc (.cells #[.slice none 0 0, .slice none 0 0] t5)
  rw [z1] at o2
  rw [z2] at o3
  rw [z3] at o4
  rw [z4] at o5
  exact ⟨b4.alloc b4.size _, by simp [z4], box2_of o1, o2.cell rfl, o3.cell rfl, box2_of o4, box2_of o5⟩

end Go.Proofs.YtkhjmfngeidlcaaDoor

/- What the program's device.Write and device.Lose answer. -/
namespace Go.Proofs.YtkhjmfngeidlcaaDoor
open Go.RowKit Go.Lib

theorem encd_size (no : Int) (l : List UInt8) : (str (encd no l).1).size ≤ 281474976710656 := by
  rw [str_size]
  unfold encd
  split
  · simp
  · split
    · simp
    · rename_i h2
      have : l.length ≤ 24 := by omega
      show (sealed (body no l)).length ≤ _
      rw [sealed_length, body_length no l this]
      omega

end Go.Proofs.YtkhjmfngeidlcaaDoor
