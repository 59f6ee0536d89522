/- Bytes in memory that the call itself made: what is owned, what an append leaves, what becomes a text. -/
import Derived.Test.YtkhjmfngeidlcaaRows
import Derived.Test.YtkhjmfngeidlcaaLow
import Derived.WalkKit
import Derived.WalkLawsBesides
import Derived.WalkSmall
import Derived.Laws.IdiomStrings
import Derived.Lib.AppendStr
import Derived.OneCell
import Derived.Deep.RegionLaw
import Derived.Deep.LoopGhost
namespace Go.Proofs.Ytkhjmfngeidlcaa
open Go.RowKit Go.Lib

theorem info_u8 : (Try.prog.info? 5).map (fun i => (i.zero, i.size, i.bytes)) = some (some (.int .u8 0), 1, 1) := by kernel_rfl

/-- Bytes as cells. -/
def bytesV (l : List UInt8) : List Value := l.map fun b => Value.int .u8 b.toNat
theorem bytesV_app (a b : List UInt8) : bytesV (a ++ b) = bytesV a ++ bytesV b := by simp [bytesV]
theorem bytesV_length (l : List UInt8) : (bytesV l).length = l.length := by simp [bytesV]
theorem strCells_eq (s : ByteArray) : strCells s = bytesV s.data.toList := rfl
theorem bytesV_byt (n : Int) (h0 : 0 ≤ n) (h1 : n < 256) : bytesV [byt n] = [.int .u8 n] := by simp [bytesV, byt_nat n h0 h1]
theorem bytesV_byt2 (n m : Int) (h0 : 0 ≤ n) (h1 : n < 256) (g0 : 0 ≤ m) (g1 : m < 256) : bytesV [byt n, byt m] = [.int .u8 n, .int .u8 m] := by simp [bytesV, byt_nat n h0 h1, byt_nat m g0 g1]

/-- The slice v owns these bytes, from block 'base' on. -/
def ownsB (w : World) (base : Nat) (v : Value) (l : List UInt8) : Prop := w.ownsRow base 5 1 v l.length (bytesV l)

set_option maxRecDepth 20000 in
/-- Owned bytes as a text. -/
theorem conv_own {w : World} {base : Nat} {v : Value} {l : List UInt8} (h : ownsB w base v l) : (convert 52 9 v).run Try.prog w = .ok (.string (str l)) w := by
  rcases h.2 with ⟨rfl, h0⟩ | ⟨g, cap, cur, rfl, hg, hh, hnc, hcp, hcs, htake⟩
  · obtain rfl : l = [] := List.eq_nil_of_length_eq_zero h0
    rfl
  · refine run_convert_bytes_back (P := Try.prog) w 52 9 5 ⟨g, 0, none⟩ cap l Try.underlying52 Try.underlying5 Try.underlying9 ?_
    intro j hj
    exact World.ownsRow.cells h (g := g) rfl j _ (by simp [bytesV, hj])

theorem owns_form {w : World} {base size n : Nat} {e : TypeId} {v : Value} {xs : List Value} (h : w.ownsRow base e size v n xs) (hn : 0 < n) : ∃ g cap, v = .slice (some ⟨g, 0, none⟩) n cap ∧ base ≤ g := by
  rcases h.2 with ⟨_, h0⟩ | ⟨g, cap, _, hv, hb, _⟩
  · omega
  · exact ⟨g, cap, hv, hb⟩

theorem oneCell_bytes (l : List UInt8) : ∀ u ∈ bytesV l, u.oneCell' = true := by
  intro u hu
  simp only [bytesV, List.mem_map] at hu
  obtain ⟨b, _, rfl⟩ := hu
  rfl
theorem new_one (w : World) (n : Int) (h0 : 0 ≤ n) (h1 : n < 256) (t : TypeId) : ∀ j u, (bytesV [byt n])[j]? = some u → (w.alloc (.cells #[.int .u8 n] t)).cell? ((⟨w.heap.size, 0, none⟩ : Addr).add j) = some u := by
  intro j u hj
  rw [bytesV_byt n h0 h1] at hj
  match j, hj with
  | 0, hj => simp at hj; subst hj; simp [Addr.add]
  | j + 1, hj => simp at hj
theorem new_two (w : World) (n m : Int) (h0 : 0 ≤ n) (h1 : n < 256) (g0 : 0 ≤ m) (g1 : m < 256) (t : TypeId) : ∀ j u, (bytesV [byt n, byt m])[j]? = some u → (w.alloc (.cells #[.int .u8 n, .int .u8 m] t)).cell? ((⟨w.heap.size, 0, none⟩ : Addr).add j) = some u := by
  rw [bytesV_byt2 n m h0 h1 g0 g1]
  exact cell_two_new w _ _ t

/-- append of bytes that lie at an address onto bytes of the call's own: what it answers, written out. -/
theorem wpList_appendB (w : World) {ops : Array Oper} {rest : List Oper} {o : Oper} {a : Act} {Q : Exit → Act → World → Prop} (hgd : o.guard = none) (s x : Operand)
    (ho : o.op = .call { callee := .builtin .append, args := #[s, x], argTypes := #[52, 52] })
    (base : Nat) (v : Value) (l : List UInt8) (hs : a.eval s = v) (hown : ownsB w base v l)
    (ad : Addr) (c : Nat) (N : List UInt8) (hx : a.eval x = .slice (some ad) N.length c) (hnews : ∀ j u, (bytesV N)[j]? = some u → w.cell? (ad.add j) = some u)
    (hN : 0 < N.length) (hbd : l.length + N.length ≤ 140737488355328) (hbase : base ≤ w.heap.size)
    (h : ∀ g m cap w', Hid (m = (l ++ N).length) → base ≤ g → ownsB w' base (.slice (some ⟨g, 0, none⟩) m cap) (l ++ N) → w.grownBy w' v.ownBlock → wpList Try.prog ops Q rest (a.put o.dst (.slice (some ⟨g, 0, none⟩) m cap)) w') :
    wpList Try.prog ops Q (o :: rest) a w := by
  obtain ⟨i0, hi, hz0, hz1, hz2⟩ := info_parts info_u8
  refine wpList_append_own w hgd s x 52 ho base 5 i0 (.int .u8 0) 1 1 Try.underlying52 hi hz0 hz1 hz2 rfl (by decide) v l.length (bytesV l) hs hown ad N.length c (bytesV N) hx (by rw [bytesV_length, Nat.mul_one]) hnews (oneCell_bytes N) (by unfold maxLen; omega) (by omega) hbase ?_
  intro v' w' h1 h2 _
  rw [← bytesV_app, ← List.length_append] at h1
  obtain ⟨g, cap, rfl, hg⟩ := owns_form h1 (by simp; omega)
  exact h g _ cap w' rfl hg h1 h2
theorem wpList_appendS (w : World) {ops : Array Oper} {rest : List Oper} {o : Oper} {a : Act} {Q : Exit → Act → World → Prop} (hgd : o.guard = none) (sl x : Operand)
    (ho : o.op = .call { callee := .builtin .append, args := #[sl, x], argTypes := #[52, 9] })
    (base : Nat) (v : Value) (l : List UInt8) (hs : a.eval sl = v) (hown : ownsB w base v l) (s : ByteArray) (hx : a.eval x = .string s)
    (hN : 0 < s.size) (hbd : l.length + s.size ≤ 140737488355328) (hbase : base ≤ w.heap.size)
    (h : ∀ g m cap w', Hid (m = (l ++ s.data.toList).length) → base ≤ g → ownsB w' base (.slice (some ⟨g, 0, none⟩) m cap) (l ++ s.data.toList) → w.grownBy w' v.ownBlock → wpList Try.prog ops Q rest (a.put o.dst (.slice (some ⟨g, 0, none⟩) m cap)) w') :
    wpList Try.prog ops Q (o :: rest) a w := by
  obtain ⟨i0, hi, hz0, hz1, hz2⟩ := info_parts info_u8
  refine wpList_append_own_string w hgd sl x 52 9 ho base 5 i0 Try.underlying52 Try.underlying9 hi hz0 hz1 hz2 v l.length (bytesV l) hs hown s hx (by unfold maxLen; omega) (by omega) hbase ?_
  intro v' w' h1 h2 _
  rw [strCells_eq, ← bytesV_app, show l.length + s.size = (l ++ s.data.toList).length by simp] at h1
  obtain ⟨g, cap, rfl, hg⟩ := owns_form h1 (by simp; omega)
  exact h g _ cap w' rfl hg h1 h2
/-- append of a text onto bytes of the call's own, as one step of a region that draws its order. -/
theorem step_appendS {ops : Array Oper} {o : Oper} {a : Act} {w : World} {K : Act → World → Prop} {Q : Exit → Act → World → Prop} {E : Prop}
    (hg : o.guard = none) (sl x : Operand) (hop : o.op = Op.call { callee := Callee.builtin Builtin.append, args := #[sl, x], argTypes := #[52, 9] })
    (base : Nat) (v : Value) (l : List UInt8) (hs : a.eval sl = v) (hown : ownsB w base v l) (s : ByteArray) (hx : a.eval x = .string s)
    (hN : 0 < s.size) (hbd : l.length + s.size ≤ 140737488355328) (hbase : base ≤ w.heap.size)
    (hK : ∀ g m cap w', Hid (m = (l ++ s.data.toList).length) → base ≤ g → ownsB w' base (.slice (some ⟨g, 0, none⟩) m cap) (l ++ s.data.toList) → w.grownBy w' v.ownBlock → K (a.put o.dst (.slice (some ⟨g, 0, none⟩) m cap)) w') :
    if Region.wanted o (yielded ops a.tmps) = true then Oper.wp Try.prog o a w K Q else E := by
  obtain ⟨i0, hi, hz0, hz1, hz2⟩ := info_parts info_u8
  have hw : Region.wanted o (yielded ops a.tmps) = true := by simp [Region.wanted, hg]
  rw [if_pos hw]
  obtain ⟨v', w', hrun, r1, r2, _⟩ := run_append_own_string (P := Try.prog) w base 52 9 o.type 5 i0 Try.underlying52 Try.underlying9 hi hz0 hz1 hz2 v l.length (bytesV l) hown s (by unfold maxLen; omega) hbd hbase
  unfold Oper.wp
  simp [execOp, hop, resolve, invoke, builtin, hs, hx, hrun, Result.andThen]
  rw [strCells_eq, ← bytesV_app, show l.length + s.size = (l ++ s.data.toList).length by simp] at r1
  obtain ⟨g, cap, rfl, hg⟩ := owns_form r1 (by simp; omega)
  exact hK g _ cap w' rfl hg r1 r2

/-- One byte's slice as a text, wherever it lies. -/
theorem conv_at1 (n : Int) (h0 : 0 ≤ n) (h1 : n < 256) (w : World) (b : Nat) (hc : w.cell? ⟨b, 0, none⟩ = some (.int .u8 n)) :
    (convert 52 9 (.slice (some ⟨b, 0, none⟩) 1 1)).run Try.prog w = .ok (.string (str [byt n])) w := by
  have h := run_convert_bytes_back (P := Try.prog) w 52 9 5 ⟨b, 0, none⟩ 1 [byt n] Try.underlying52 Try.underlying5 Try.underlying9 (by
    intro j hj
    match j, hj with
    | 0, _ => simp [Addr.add, hc, byt_nat n h0 h1])
  exact h
theorem conv_at2 (n m : Int) (h0 : 0 ≤ n) (h1 : n < 256) (g0 : 0 ≤ m) (g1 : m < 256) (w : World) (b : Nat) (hc : w.cell? ⟨b, 0, none⟩ = some (.int .u8 n)) (hd : w.cell? ⟨b, 1, none⟩ = some (.int .u8 m)) :
    (convert 52 9 (.slice (some ⟨b, 0, none⟩) 2 2)).run Try.prog w = .ok (.string (str [byt n, byt m])) w := by
  have h := run_convert_bytes_back (P := Try.prog) w 52 9 5 ⟨b, 0, none⟩ 2 [byt n, byt m] Try.underlying52 Try.underlying5 Try.underlying9 (by
    intro j hj
    match j, hj with
    | 0, _ => simp [Addr.add, hc, byt_nat n h0 h1]
    | 1, _ => simp [Addr.add, hd, byt_nat m g0 g1])
  exact h
end Go.Proofs.Ytkhjmfngeidlcaa
