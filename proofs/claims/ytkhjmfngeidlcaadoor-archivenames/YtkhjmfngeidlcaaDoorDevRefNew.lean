/- What the document's own DeviceOf answers. -/
import Derived.Test.YtkhjmfngeidlcaaDoorMem2
import Derived.Test.YtkhjmfngeidlcaaDoorSecA
import Derived.OneCell
import Derived.Deep.DeepCutAuto
namespace Go.Proofs.YtkhjmfngeidlcaaDoor
open Go.RowKit Go.Lib

theorem info_strN : (Tryd.prog.info? 9).map (fun i => (i.zero, i.size, i.bytes)) = some (some (.string ⟨#[]⟩), 1, 16) := by kernel_rfl
theorem info_boolN : (Tryd.prog.info? 4).map (fun i => (i.zero, i.size, i.bytes)) = some (some (.bool false), 1, 1) := by kernel_rfl

/-- Two rows of other types lie in other blocks. -/
theorem rows_apart {w : World} {base e e' : Nat} {v v' : Value} {n n' : Nat} {xs xs' : List Value} (h : w.ownsRow base e 1 v n xs) (h' : w.ownsRow base e' 1 v' n' xs') (he : e ≠ e') : v.ownBlock = none ∨ v.ownBlock ≠ v'.ownBlock := by
  rcases h.2 with ⟨rfl, _⟩ | ⟨g, cap, cur, rfl, _, hg, _⟩
  · exact .inl rfl
  · rcases h'.2 with ⟨rfl, _⟩ | ⟨g', cap', cur', rfl, _, hg', _⟩
    · exact .inr (by simp [Value.ownBlock])
    · refine .inr (fun e0 => ?_)
      have : g = g' := by simpa [Value.ownBlock] using e0
      subst this
      rw [hg] at hg'
      cases hg'
      exact he rfl
theorem grown_of_below {w w' : World} (g : Below w.heap.size w w') : w.grownBy w' none := ⟨g.os, g.tape, g.output, g.size, fun k hk _ => g.block k hk⟩

/-- append of one cell onto a row of the call's own: what it answers, written out. -/
theorem wpList_append1 (w : World) {ops : Array Oper} {rest : List Oper} {o : Oper} {a : Act} {Q : Exit → Act → World → Prop} (hgd : o.guard = none) (s x : Operand) (t e : TypeId) (z : Value) (bytes : Nat)
    (ho : o.op = .call { callee := .builtin .append, args := #[s, x], argTypes := #[t, t] }) (ht : Tryd.prog.underlying t = some (.slice e)) (hinfo : (Tryd.prog.info? e).map (fun i => (i.zero, i.size, i.bytes)) = some (some z, 1, bytes)) (hz : z.cells.size = 1)
    (base : Nat) (v : Value) (n : Nat) (xs : List Value) (hs : a.eval s = v) (hown : w.ownsRow base e 1 v n xs)
    (ad : Addr) (u : Value) (hx : a.eval x = .slice (some ad) 1 1) (hu : w.cell? ad = some u) (h1 : u.oneCell' = true) (h63 : n + 1 ≤ maxLen) (hb : (n + 1) * bytes ≤ 140737488355328) (hbase : base ≤ w.heap.size)
    (h : ∀ g m cap w', Hid (m = n + 1) → base ≤ g → w'.ownsRow base e 1 (.slice (some ⟨g, 0, none⟩) m cap) m (xs ++ [u]) → w.grownBy w' v.ownBlock → wpList Tryd.prog ops Q rest (a.put o.dst (.slice (some ⟨g, 0, none⟩) m cap)) w') :
    wpList Tryd.prog ops Q (o :: rest) a w := by
  obtain ⟨i0, hi, hz0, hz1, hz2⟩ := info_parts hinfo
  refine wpList_append_own w hgd s x t ho base e i0 z 1 bytes ht hi hz0 hz1 hz2 hz (by decide) v n xs hs hown ad 1 1 [u] hx rfl (fun j y hj => ?_) (by simpa using h1) h63 hb hbase ?_
  · match j, hj with
    | 0, hj => simp at hj; subst hj; exact hu
  · intro v' w' r1 r2 _
    obtain ⟨g, cap, rfl, hg⟩ := owns_form r1 (by omega)
    exact h g _ cap w' rfl hg r1 r2

/-- While the document's device grows. -/
structure OfI (w : World) (a : Option Addr) (n c : Nat) (a' : Option Addr) (n' c' : Nat) (V V' : List Value) (W : World) : Prop where
  res : Box2 W w.heap.size (.slice none 0 0) (.slice none 0 0)
  dbox : Box2 W (w.heap.size + 1) (.slice a n c) (.slice a' n' c')
  s : W.ownsRow (w.heap.size + 2) 9 1 (.slice a n c) n V
  l : W.ownsRow (w.heap.size + 2) 4 1 (.slice a' n' c') n' V'
  below : Below w.heap.size w W
section
variable {w W W' : World} {a a' : Option Addr} {n c n' c' : Nat} {V V' : List Value}
theorem OfI.size (h : OfI w a n c a' n' c' V V' W) : w.heap.size + 2 ≤ W.heap.size := h.dbox.lt
theorem OfI.to (h : OfI w a n c a' n' c' V V' W) (g : Below W.heap.size W W') : OfI w a n c a' n' c' V V' W' := by
  refine ⟨h.res.below g, h.dbox.below g, h.s.kept (grown_of_below g) ?_, h.l.kept (grown_of_below g) ?_, h.below.trans (g.mono h.below.size)⟩
  · cases hv : (Value.slice a n c).ownBlock
    · exact .inl rfl
    · exact .inr (by simp)
  · cases hv : (Value.slice a' n' c').ownBlock
    · exact .inl rfl
    · exact .inr (by simp)
theorem OfI.alloc (h : OfI w a n c a' n' c' V V' W) (o : Obj) : OfI w a n c a' n' c' V V' (W.alloc o) := h.to ((Below.refl _ W).alloc (Nat.le_refl _) o)
/-- Boxes stay where a row has grown. -/
theorem box_grown {p : Nat} {d1 d2 v : Value} {base e : Nat} {xs : List Value} {k : Nat} (h : Box2 W p d1 d2) (hv : W.ownsRow base e 1 v k xs) (hp : p < base) (g : W.grownBy W' v.ownBlock) : Box2 W' p d1 d2 := by
  have e : W'.heap[p]? = W.heap[p]? := g.block p h.lt (fun e => by have := (hv.lt p e.symm).1; omega)
  exact ⟨(World.cell?_of_block (a := ⟨p, 0, none⟩) e).trans h.c0, (World.cell?_of_block (a := ⟨p, 1, none⟩) e).trans h.c1, (World.frozen?_of_block (a := ⟨p, 0, none⟩) e).trans h.f0, (World.frozen?_of_block (a := ⟨p, 1, none⟩) e).trans h.f1, Nat.lt_of_lt_of_le h.lt g.size⟩
theorem below_grown {base e : Nat} {v : Value} {xs : List Value} {k : Nat} (h : Below w.heap.size w W) (hv : W.ownsRow base e 1 v k xs) (hb : w.heap.size ≤ base) (g : W.grownBy W' v.ownBlock) : Below w.heap.size w W' :=
  h.grown g h.size (fun k hk => by have := (hv.lt k hk).1; omega)
theorem box_set0 {p : Nat} {d1 d2 : Value} (h : Box2 W p d1 d2) (v : Value) : Box2 (W.setCell ⟨p, 0, none⟩ v) p v d2 := by
  refine ⟨World.cell?_setCell_same _ _ _ h.c0, ?_, ?_, ?_, ?_⟩
  · rw [World.cell?_setCell_other _ _ _ _ (by simp)]; exact h.c1
  · rw [World.frozen?_setCell]; exact h.f0
  · rw [World.frozen?_setCell]; exact h.f1
  · have := h.lt; simpa [World.setCell] using this
theorem box_set1 {p : Nat} {d1 d2 : Value} (h : Box2 W p d1 d2) (v : Value) : Box2 (W.setCell ⟨p, 1, none⟩ v) p d1 v := by
  refine ⟨?_, World.cell?_setCell_same _ _ _ h.c1, ?_, ?_, ?_⟩
  · rw [World.cell?_setCell_other _ _ _ _ (by simp)]; exact h.c0
  · rw [World.frozen?_setCell]; exact h.f0
  · rw [World.frozen?_setCell]; exact h.f1
  · have := h.lt; simpa [World.setCell] using this
/-- Behind an append onto the texts: the device's box for the store; and behind the store. -/
theorem OfI.putS (h : OfI w a n c a' n' c' V V' W) {a2 : Option Addr} {n2 c2 : Nat} {V2 : List Value} (g : W.grownBy W' (Value.slice a n c).ownBlock) (ho : W'.ownsRow (w.heap.size + 2) 9 1 (.slice a2 n2 c2) n2 V2) :
    Box2 W' (w.heap.size + 1) (.slice a n c) (.slice a' n' c') ∧ OfI w a2 n2 c2 a' n' c' V2 V' (W'.setCell ⟨w.heap.size + 1, 0, none⟩ (.slice a2 n2 c2)) := by
  have b1 := box_grown h.dbox h.s (by omega) g
  have b0 := box_grown h.res h.s (by omega) g
  have l1 := h.l.kept g (rows_apart h.l h.s (by decide))
  exact ⟨b1, b0.other (by show w.heap.size ≠ w.heap.size + 1; omega) _, box_set0 b1 _, ownsRow_setCell_below ho (by show w.heap.size + 1 < w.heap.size + 2; omega) _, ownsRow_setCell_below l1 (by show w.heap.size + 1 < w.heap.size + 2; omega) _, (below_grown h.below h.s (by omega) g).setCell (by show w.heap.size ≤ w.heap.size + 1; omega) _⟩
theorem OfI.putL (h : OfI w a n c a' n' c' V V' W) {a2 : Option Addr} {n2 c2 : Nat} {V2 : List Value} (g : W.grownBy W' (Value.slice a' n' c').ownBlock) (ho : W'.ownsRow (w.heap.size + 2) 4 1 (.slice a2 n2 c2) n2 V2) :
    Box2 W' (w.heap.size + 1) (.slice a n c) (.slice a' n' c') ∧ OfI w a n c a2 n2 c2 V V2 (W'.setCell ⟨w.heap.size + 1, 1, none⟩ (.slice a2 n2 c2)) := by
  have b1 := box_grown h.dbox h.l (by omega) g
  have b0 := box_grown h.res h.l (by omega) g
  have l1 := h.s.kept g (rows_apart h.s h.l (by decide))
  exact ⟨b1, b0.other (by show w.heap.size ≠ w.heap.size + 1; omega) _, box_set1 b1 _, ownsRow_setCell_below l1 (by show w.heap.size + 1 < w.heap.size + 2; omega) _, ownsRow_setCell_below ho (by show w.heap.size + 1 < w.heap.size + 2; omega) _, (below_grown h.below h.l (by omega) g).setCell (by show w.heap.size ≤ w.heap.size + 1; omega) _⟩
end
theorem ofI_start (w : World) : OfI w none 0 0 none 0 0 [] [] ((w.alloc (.cells #[.slice none 0 0, .slice none 0 0] 77)).alloc (.cells #[.slice none 0 0, .slice none 0 0] 77)) := by
  have o1 : Own (w.alloc (.cells #[.slice none 0 0, .slice none 0 0] 77)) w.heap.size 77 [.slice none 0 0, .slice none 0 0] := Own.made w 77 [.slice none 0 0, .slice none 0 0]
  have o2 := Own.made (w.alloc (.cells #[.slice none 0 0, .slice none 0 0] 77)) 77 [.slice none 0 0, .slice none 0 0]
  rw [show (w.alloc (.cells #[.slice none 0 0, .slice none 0 0] 77)).heap.size = w.heap.size + 1 by simp] at o2
  exact ⟨box2_of (o1.alloc _), box2_of o2, World.ownsRow_nil _ _ _ _, World.ownsRow_nil _ _ _ _, by go_grown⟩
/-- A row of an append is a row of cells. -/
theorem row_owns {w : World} {base e : Nat} {a : Option Addr} {n c : Nat} {V : List Value} (h : w.ownsRow base e 1 (.slice a n c) n V) : RowAt w a V ∧ ∀ b o, a = some ⟨b, o, none⟩ → base ≤ b := by
  rcases h.2 with ⟨hv, h0⟩ | ⟨g, cap, cur, hv, hg, _⟩
  · cases hv
    have : V = [] := List.eq_nil_of_length_eq_zero (by have := h.1; omega)
    exact ⟨by rw [this]; exact RowAt.nil, fun b o e => by cases e⟩
  · cases hv
    exact ⟨(own_row h).1.row, fun b o e => by cases e; exact hg⟩

/-- The texts of the first k sectors. -/
def ofV (start : Int) (k : Nat) : List Value := (List.range k).map fun (i : Nat) => .string (str (encd (start + i) []).1)
theorem ofV_step (start : Int) (k : Nat) : ofV start (k + 1) = ofV start k ++ [.string (str (encd (start + k) []).1)] := by
  unfold ofV
  rw [List.range_succ, List.map_append]
  rfl

end Go.Proofs.YtkhjmfngeidlcaaDoor
