/- Bytes of the call's own: more of them; other memory stays while they grow. -/
import Derived.Test.YtelgpiedchnncabDoorBytes
import Derived.Test.YtelgpiedchnncabDoorDevMem
namespace Go.Proofs.YtelgpiedchnncabDoor
open Go.RowKit Go.Lib

theorem own_cell {w : World} {base g m cap : Nat} {O : List UInt8} (h : ownsB w base (.slice (some ⟨g, 0, none⟩) m cap) O) (j : Nat) (hj : j < O.length) : w.cell? ⟨g, j, none⟩ = some (.int .u8 (bat O j).toNat) := by
  have := World.ownsRow.cells h (g := g) rfl j (.int .u8 (bat O j).toNat) (by simp [bytesV, bat_lt _ _ hj, hj])
  rw [Addr.add_lit, Nat.zero_add] at this
  exact this
theorem own_len {w : World} {base g m cap : Nat} {O : List UInt8} (h : ownsB w base (.slice (some ⟨g, 0, none⟩) m cap) O) : m = O.length ∧ O.length ≤ cap ∧ base ≤ g := by
  rcases h.2 with ⟨h0, _⟩ | ⟨g', cap', cur, h0, hb, _, hc, _⟩
  · cases h0
  · cases h0; exact ⟨rfl, hc, hb⟩
theorem below_own {w w0 w1 : World} {base B : Nat} {v : Value} {O : List UInt8} (hown : ownsB w base v O) (hB : B ≤ base) (hs : B ≤ w.heap.size) (hb : Below B w0 w) (hg : w.grownBy w1 v.ownBlock) : Below B w0 w1 :=
  hb.grown hg hs (fun k hk => by have := (World.ownsRow.lt hown k hk).1; omega)
theorem ownsB_alloc {w : World} {base : Nat} {v : Value} {O : List UInt8} (h : ownsB w base v O) (o : Obj) : ownsB (w.alloc o) base v O := World.ownsRow.alloc h o
theorem byt_nat8 (c : UInt8) : byt (c.toNat : Int) = c := byt_of c
theorem new_byte (w : World) (c : UInt8) (t : TypeId) : ∀ j u, (bytesV [c])[j]? = some u → (w.alloc (.cells #[.int .u8 (c.toNat : Int)] t)).cell? ((⟨w.heap.size, 0, none⟩ : Addr).add j) = some u := by
  have := new_one w (c.toNat : Int) (by omega) (by have := c.toNat_lt; omega) t
  rw [byt_of] at this
  exact this

/-- Blocks of other types than bytes stay as they were. -/
def Keeps (w w' : World) : Prop := ∀ (k : Nat) (cs : Array Value) (t : TypeId) (fz : Nat × Nat), t ≠ 5 → w.heap[k]? = some (.cells cs t fz) → w'.heap[k]? = some (.cells cs t fz)
section
variable {w w' w'' : World}
theorem Keeps.refl (w : World) : Keeps w w := fun _ _ _ _ _ h => h
theorem Keeps.trans (h : Keeps w w') (h' : Keeps w' w'') : Keeps w w'' := fun k cs t fz ht hk => h' k cs t fz ht (h k cs t fz ht hk)
theorem Keeps.alloc (h : Keeps w w') (o : Obj) : Keeps w (w'.alloc o) := fun k cs t fz ht hk => by
  have := h k cs t fz ht hk
  rw [Below.heap_alloc _ _ _ (lt_of_block this)]; exact this
theorem Keeps.drew (h : Keeps w w') : Keeps w w'.drew := h
theorem keeps_below (g : Below w.heap.size w w') : Keeps w w' := fun k cs t fz _ hk => by rw [g.block k (lt_of_block hk)]; exact hk
theorem keeps_append {base : Nat} {v : Value} {O : List UInt8} (hown : ownsB w base v O) (hg : w.grownBy w' v.ownBlock) : Keeps w w' := by
  intro k cs t fz ht hk
  have hlt := lt_of_block hk
  have hne : some k ≠ v.ownBlock := by
    intro e
    rcases hown.2 with ⟨rfl, _⟩ | ⟨g, cap, cur, rfl, _, hh, _⟩
    · cases e
    · cases e
      rw [hh] at hk
      cases hk
      exact ht rfl
  rw [hg.block k hlt hne]; exact hk
theorem Own.keeps {b : Nat} {t : TypeId} {V : List Value} (h : Own w b t V) (k : Keeps w w') (ht : t ≠ 5) : Own w' b t V := by
  obtain ⟨R, h⟩ := h
  exact ⟨R, k _ _ _ _ ht h⟩
end

/-- append of bytes that lie at an address onto bytes of the call's own, as one step of a region that draws its order. -/
theorem step_appendB {ops : Array Oper} {o : Oper} {a : Act} {w : World} {K : Act → World → Prop} {Q : Exit → Act → World → Prop} {E : Prop}
    (hg : o.guard = none) (sl x : Operand) (hop : o.op = Op.call { callee := Callee.builtin Builtin.append, args := #[sl, x], argTypes := #[56, 56] })
    (base : Nat) (v : Value) (l : List UInt8) (hs : a.eval sl = v) (hown : ownsB w base v l) (ad : Addr) (c : Nat) (N : List UInt8) (hx : a.eval x = .slice (some ad) N.length c) (hnews : ∀ j u, (bytesV N)[j]? = some u → w.cell? (ad.add j) = some u)
    (hN : 0 < N.length) (hbd : l.length + N.length ≤ 140737488355328) (hbase : base ≤ w.heap.size)
    (hK : ∀ g m cap w', Hid (m = (l ++ N).length) → base ≤ g → ownsB w' base (.slice (some ⟨g, 0, none⟩) m cap) (l ++ N) → w.grownBy w' v.ownBlock → K (a.put o.dst (.slice (some ⟨g, 0, none⟩) m cap)) w') :
    if Region.wanted o (yielded ops a.tmps) = true then Oper.wp Tryd.prog o a w K Q else E := by
  obtain ⟨i0, hi, hz0, hz1, hz2⟩ := info_parts info_u8
  have hw : Region.wanted o (yielded ops a.tmps) = true := by simp [Region.wanted, hg]
  rw [if_pos hw]
  obtain ⟨v', w', hrun, r1, r2, _⟩ := run_append_own (P := Tryd.prog) w base 56 o.type 5 i0 (.int .u8 0) 1 1 Tryd.underlying56 hi hz0 hz1 hz2 rfl (by decide) v l.length (bytesV l) hown ad N.length c (bytesV N) (by rw [bytesV_length, Nat.mul_one]) hnews (oneCell_bytes N) (by unfold maxLen; omega) (by omega) hbase
  unfold Oper.wp
  simp [execOp, hop, resolve, invoke, builtin, hs, hx, hrun, Result.andThen]
  rw [← bytesV_app, ← List.length_append] at r1
  obtain ⟨g, cap, rfl, hg⟩ := owns_form r1 (by simp; omega)
  exact hK g _ cap w' rfl hg r1 r2
end Go.Proofs.YtelgpiedchnncabDoor
