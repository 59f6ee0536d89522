/- Rows of blocks and of entries that the call itself made. -/
import Derived.Test.YtelgpiedchnncabDoorCatRow
import Derived.Test.YtelgpiedchnncabDoorChg
import Derived.Test.YtelgpiedchnncabDoorBytes
namespace Go.Proofs.YtelgpiedchnncabDoor
open Go.RowKit Go.Lib

/-- The slice v owns these blocks, these entries, from block 'base' on. -/
def ownsK (w : World) (base : Nat) (v : Value) (L : List Bk) : Prop := w.ownsRow base 41 2 v L.length (blkV L)
def ownsE (w : World) (base : Nat) (v : Value) (E : List En) : Prop := w.ownsRow base 44 4 v E.length (entV E)
theorem ownsK_nil (w : World) (base : Nat) : ownsK w base (.slice none 0 0) [] := ⟨rfl, .inl ⟨rfl, rfl⟩⟩
theorem ownsE_nil (w : World) (base : Nat) : ownsE w base (.slice none 0 0) [] := ⟨rfl, .inl ⟨rfl, rfl⟩⟩
theorem ownsK_at {w : World} {base : Nat} {ao : Option Addr} {m cap : Nat} {L : List Bk} (h : ownsK w base (.slice ao m cap) L) (hL : L.length ≤ maxLen) : m = L.length ∧ m ≤ cap ∧ BlkAt w ao m L := by
  rcases h.2 with ⟨h0, h1⟩ | ⟨g, cap', cur, h0, hb, hh, hc, hm, hs, ht⟩
  · cases h0
    have : L = [] := List.eq_nil_of_length_eq_zero h1
    subst this
    exact ⟨rfl, Nat.le_refl _, blkAt_none w none⟩
  · cases h0
    have ho : Own w g 41 (blkV L) := ⟨cur.toList.drop (L.length * 2), by rw [← ht, List.take_append_drop]; exact hh⟩
    exact ⟨rfl, hc, ho.blkAt hL⟩
theorem ownsE_at {w : World} {base : Nat} {ao : Option Addr} {m cap : Nat} {E : List En} (h : ownsE w base (.slice ao m cap) E) (hL : E.length ≤ maxLen) (hs : ∀ i, i < E.length → (en E i).s.size ≤ maxLen) : m = E.length ∧ m ≤ cap ∧ EntAt w ao m E := by
  rcases h.2 with ⟨h0, h1⟩ | ⟨g, cap', cur, h0, hb, hh, hc, hm, hs', ht⟩
  · cases h0
    have : E = [] := List.eq_nil_of_length_eq_zero h1
    subst this
    exact ⟨rfl, Nat.le_refl _, entAt_none w none⟩
  · cases h0
    have ho : Own w g 44 (entV E) := ⟨cur.toList.drop (E.length * 4), by rw [← ht, List.take_append_drop]; exact hh⟩
    exact ⟨rfl, hc, ho.entAt hL hs⟩

theorem new_blk (w : World) (f n : Int) (t : TypeId) : ∀ j u, (blkV [⟨f, n⟩])[j]? = some u → (w.alloc (.cells #[.int .i64 f, .int .i64 n] t)).cell? ((⟨w.heap.size, 0, none⟩ : Addr).add j) = some u := cell_two_new w _ _ t
theorem new_ent (w : World) (x : En) (t : TypeId) : ∀ j u, (entV [x])[j]? = some u → (w.alloc (.cells #[.string x.s, .int .i64 x.b, .int .i64 x.a, .int .i64 x.n] t)).cell? ((⟨w.heap.size, 0, none⟩ : Addr).add j) = some u := by
  intro j u hj
  match j, hj with
  | 0, hj => simp [entV, entC] at hj; subst hj; simp [Addr.add]
  | 1, hj => simp [entV, entC] at hj; subst hj; simp [Addr.add]
  | 2, hj => simp [entV, entC] at hj; subst hj; simp [Addr.add]
  | 3, hj => simp [entV, entC] at hj; subst hj; simp [Addr.add]
  | j + 4, hj => simp [entV, entC] at hj

/-- append of one block, of one entry onto a row of the call's own: what it answers, written out. -/
theorem wpList_appendK (w : World) {ops : Array Oper} {rest : List Oper} {o : Oper} {a : Act} {Q : Exit → Act → World → Prop} (hgd : o.guard = none) (s x : Operand)
    (ho : o.op = .call { callee := .builtin .append, args := #[s, x], argTypes := #[22, 22] })
    (base : Nat) (v : Value) (L : List Bk) (hs : a.eval s = v) (hown : ownsK w base v L)
    (ad : Addr) (c : Nat) (b : Bk) (hx : a.eval x = .slice (some ad) 1 c) (hnews : ∀ j u, (blkV [b])[j]? = some u → w.cell? (ad.add j) = some u)
    (hbd : L.length ≤ 100000) (hbase : base ≤ w.heap.size)
    (h : ∀ g m cap w', Hid (m = (L ++ [b]).length) → base ≤ g → ownsK w' base (.slice (some ⟨g, 0, none⟩) m cap) (L ++ [b]) → w.grownBy w' v.ownBlock → wpList Tryd.prog ops Q rest (a.put o.dst (.slice (some ⟨g, 0, none⟩) m cap)) w') :
    wpList Tryd.prog ops Q (o :: rest) a w := by
  obtain ⟨i0, hi, hz0, hz1, hz2⟩ := info_parts info_blk
  refine wpList_append_own w hgd s x 22 ho base 41 i0 _ 2 16 Tryd.underlying22 hi hz0 hz1 hz2 rfl (by decide) v L.length (blkV L) hs hown ad 1 c (blkV [b]) hx rfl hnews (oneCell_blk [b]) (by unfold maxLen; omega) (by omega) hbase ?_
  intro v' w' h1 h2 _
  have h1' : w'.ownsRow base 41 2 v' (L ++ [b]).length (blkV (L ++ [b])) := by rw [blkV_app, List.length_append]; exact h1
  obtain ⟨g, cap, rfl, hg⟩ := owns_form h1' (by simp)
  exact h g _ cap w' rfl hg h1' h2
theorem wpList_appendE (w : World) {ops : Array Oper} {rest : List Oper} {o : Oper} {a : Act} {Q : Exit → Act → World → Prop} (hgd : o.guard = none) (s x : Operand)
    (ho : o.op = .call { callee := .builtin .append, args := #[s, x], argTypes := #[23, 23] })
    (base : Nat) (v : Value) (L : List En) (hs : a.eval s = v) (hown : ownsE w base v L)
    (ad : Addr) (c : Nat) (b : En) (hx : a.eval x = .slice (some ad) 1 c) (hnews : ∀ j u, (entV [b])[j]? = some u → w.cell? (ad.add j) = some u)
    (hbd : L.length ≤ 100000) (hbase : base ≤ w.heap.size)
    (h : ∀ g m cap w', Hid (m = (L ++ [b]).length) → base ≤ g → ownsE w' base (.slice (some ⟨g, 0, none⟩) m cap) (L ++ [b]) → w.grownBy w' v.ownBlock → wpList Tryd.prog ops Q rest (a.put o.dst (.slice (some ⟨g, 0, none⟩) m cap)) w') :
    wpList Tryd.prog ops Q (o :: rest) a w := by
  obtain ⟨i0, hi, hz0, hz1, hz2⟩ := info_parts info_ent
  refine wpList_append_own w hgd s x 23 ho base 44 i0 _ 4 40 Tryd.underlying23 hi hz0 hz1 hz2 rfl (by decide) v L.length (entV L) hs hown ad 1 c (entV [b]) hx rfl hnews (by rw [show entV [b] = entC b by simp [entV]]; exact oneCell_ent b) (by unfold maxLen; omega) (by omega) hbase ?_
  intro v' w' h1 h2 _
  have h1' : w'.ownsRow base 44 4 v' (L ++ [b]).length (entV (L ++ [b])) := by rw [entV_app, List.length_append]; exact h1
  obtain ⟨g, cap, rfl, hg⟩ := owns_form h1' (by simp)
  exact h g _ cap w' rfl hg h1' h2
end Go.Proofs.YtelgpiedchnncabDoor
