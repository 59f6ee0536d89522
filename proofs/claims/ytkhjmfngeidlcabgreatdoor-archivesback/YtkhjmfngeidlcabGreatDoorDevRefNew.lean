/- What the document's own DeviceOf answers. -/
import Derived.Test.YtkhjmfngeidlcabGreatDoorMem2
import Derived.Test.YtkhjmfngeidlcabGreatDoorSecA
import Derived.OneCell
import Derived.Deep.DeepCutAuto
namespace Go.Proofs.YtkhjmfngeidlcabGreatDoor
open Go.RowKit Go.Lib

theorem info_strN : (Tryz.prog.info? 9).map (fun i => (i.zero, i.size, i.bytes)) = some (some (.string ⟨#[]⟩), 1, 16) := by kernel_rfl
theorem grown_of_below {w w' : World} (g : Below w.heap.size w w') : w.grownBy w' none := ⟨g.os, g.tape, g.output, g.size, fun k hk _ => g.block k hk⟩

/-- append of one cell onto a row of the call's own: what it answers, written out. -/
theorem wpList_append1 (w : World) {ops : Array Oper} {rest : List Oper} {o : Oper} {a : Act} {Q : Exit → Act → World → Prop} (hgd : o.guard = none) (s x : Operand) (t e : TypeId) (z : Value) (bytes : Nat)
    (ho : o.op = .call { callee := .builtin .append, args := #[s, x], argTypes := #[t, t] }) (ht : Tryz.prog.underlying t = some (.slice e)) (hinfo : (Tryz.prog.info? e).map (fun i => (i.zero, i.size, i.bytes)) = some (some z, 1, bytes)) (hz : z.cells.size = 1)
    (base : Nat) (v : Value) (n : Nat) (xs : List Value) (hs : a.eval s = v) (hown : w.ownsRow base e 1 v n xs)
    (ad : Addr) (u : Value) (hx : a.eval x = .slice (some ad) 1 1) (hu : w.cell? ad = some u) (h1 : u.oneCell' = true) (h63 : n + 1 ≤ maxLen) (hb : (n + 1) * bytes ≤ 140737488355328) (hbase : base ≤ w.heap.size)
    (h : ∀ g m cap w', Hid (m = n + 1) → base ≤ g → w'.ownsRow base e 1 (.slice (some ⟨g, 0, none⟩) m cap) m (xs ++ [u]) → w.grownBy w' v.ownBlock → wpList Tryz.prog ops Q rest (a.put o.dst (.slice (some ⟨g, 0, none⟩) m cap)) w') :
    wpList Tryz.prog ops Q (o :: rest) a w := by
  obtain ⟨i0, hi, hz0, hz1, hz2⟩ := info_parts hinfo
  refine wpList_append_own w hgd s x t ho base e i0 z 1 bytes ht hi hz0 hz1 hz2 hz (by decide) v n xs hs hown ad 1 1 [u] hx rfl (fun j y hj => ?_) (by simpa using h1) h63 hb hbase ?_
  · match j, hj with
    | 0, hj => simp at hj; subst hj; exact hu
  · intro v' w' r1 r2 _
    obtain ⟨g, cap, rfl, hg⟩ := owns_form r1 (by omega)
    exact h g _ cap w' rfl hg r1 r2

section
variable {w W W' : World} {a a' : Option Addr} {n c n' c' : Nat} {V V' : List Value}
theorem below_grown {base e : Nat} {v : Value} {xs : List Value} {k : Nat} (h : Below w.heap.size w W) (hv : W.ownsRow base e 1 v k xs) (hb : w.heap.size ≤ base) (g : W.grownBy W' v.ownBlock) : Below w.heap.size w W' :=
  h.grown g h.size (fun k hk => by have := (hv.lt k hk).1; omega)
end
/-- A row of an append is a row of cells. -/
theorem row_owns {w : World} {base e : Nat} {a : Option Addr} {n c : Nat} {V : List Value} (h : w.ownsRow base e 1 (.slice a n c) n V) : RowAt w a V ∧ ∀ b o, a = some ⟨b, o, none⟩ → base ≤ b := by
  rcases h.2 with ⟨hv, h0⟩ | ⟨g, cap, cur, hv, hg, _⟩
  · cases hv
    have : V = [] := List.eq_nil_of_length_eq_zero (by have := h.1; omega)
    exact ⟨by rw [this]; exact RowAt.nil, fun b o e => by cases e⟩
  · cases hv
    exact ⟨(own_row h).1.row, fun b o e => by cases e; exact hg⟩

end Go.Proofs.YtkhjmfngeidlcabGreatDoor
