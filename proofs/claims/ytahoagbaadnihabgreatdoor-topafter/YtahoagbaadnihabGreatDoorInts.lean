/- Rows of whole numbers: in memory, of the call's own, one more of them; two that are the same. -/
import Derived.Test.YtahoagbaadnihabGreatDoorMem
import Derived.Test.YtahoagbaadnihabGreatDoorMem2
import Derived.Handy
import Derived.Deep.QuietTactic
import Derived.BigQuiet
namespace Go.Proofs.YtahoagbaadnihabGreatDoor
open Go.RowKit Go.Lib

theorem info_int : (Tryz.prog.info? 3).map (fun i => (i.zero, i.size, i.bytes)) = some (some (.int .i64 0), 1, 8) := by kernel_rfl
def intsV (L : List Int) : List Value := L.map (Value.int .i64)
theorem intsV_snoc (L : List Int) (k : Int) : intsV (L ++ [k]) = intsV L ++ [.int .i64 k] := by simp [intsV]
theorem intsV_length (L : List Int) : (intsV L).length = L.length := by simp [intsV]
/-- These numbers stand there. -/
structure IntsAt (w : World) (a : Option Addr) (n : Nat) (L : List Int) : Prop where
  sn : n = L.length
  nb : n ≤ maxLen
  R : RowAt w a (intsV L)
theorem IntsAt.below {w w' : World} {a : Option Addr} {n : Nat} {L : List Int} (h : IntsAt w a n L) (g : Below w.heap.size w w') : IntsAt w' a n L := ⟨h.sn, h.nb, h.R.below g⟩
theorem IntsAt.cell {w : World} {a : Option Addr} {n : Nat} {L : List Int} (h : IntsAt w a n L) (k : Nat) (hk : k < n) : ∃ b o, a = some ⟨b, o, none⟩ ∧ b < w.heap.size ∧ w.cell? ⟨b, o + k, none⟩ = some (.int .i64 (L[k]?.getD 0)) := by
  have hk' : k < L.length := by rw [← h.sn]; exact hk
  exact h.R k _ (by simp [intsV, hk'])
theorem intsAt_none (w : World) (a : Option Addr) : IntsAt w a 0 [] := ⟨rfl, Nat.zero_le _, RowAt.nil⟩
/-- The slice v owns these numbers, from block 'base' on. -/
def ownsI (w : World) (base : Nat) (v : Value) (L : List Int) : Prop := w.ownsRow base 3 1 v L.length (intsV L)
theorem ownsI_nil (w : World) (base : Nat) : ownsI w base (.slice none 0 0) [] := World.ownsRow_nil _ _ _ _
theorem ownsI_at {w : World} {base : Nat} {v : Value} {L : List Int} (h : ownsI w base v L) (hL : L.length ≤ 1000) : ∃ a m c, v = .slice a m c ∧ IntsAt w a m L := by
  by_cases h0 : L.length = 0
  · have e := List.eq_nil_of_length_eq_zero h0
    subst e
    rcases h.2 with ⟨e, _⟩ | ⟨g, cap, cur, e, _⟩
    · exact ⟨none, 0, 0, e, intsAt_none _ _⟩
    · exact ⟨_, _, _, e, intsAt_none _ _⟩
  · obtain ⟨g, cap, e, _⟩ := owns_form h (by omega)
    subst e
    exact ⟨_, _, _, rfl, rfl, by unfold maxLen; omega, (own_row h).1.row⟩
theorem oneCell_ints (L : List Int) : ∀ u ∈ intsV L, u.oneCell' = true := by
  intro u hu
  simp only [intsV, List.mem_map] at hu
  obtain ⟨b, _, rfl⟩ := hu
  rfl
/-- append of one number. -/
theorem wpList_appendI (w : World) {ops : Array Oper} {rest : List Oper} {o : Oper} {a : Act} {Q : Exit → Act → World → Prop} (hgd : o.guard = none) (s x : Operand)
    (ho : o.op = .call { callee := .builtin .append, args := #[s, x], argTypes := #[40, 40] })
    (base : Nat) (v : Value) (L : List Int) (k : Int) (hs : a.eval s = v) (hown : ownsI w base v L)
    (ad : Addr) (hx : a.eval x = .slice (some ad) 1 1) (hu : w.cell? ad = some (.int .i64 k)) (hbd : L.length ≤ 1000) (hbase : base ≤ w.heap.size)
    (h : ∀ g m cap w', Hid (m = (L ++ [k]).length) → ownsI w' base (.slice (some ⟨g, 0, none⟩) m cap) (L ++ [k]) → w.grownBy w' v.ownBlock → wpList Tryz.prog ops Q rest (a.put o.dst (.slice (some ⟨g, 0, none⟩) m cap)) w') :
    wpList Tryz.prog ops Q (o :: rest) a w := by
  obtain ⟨i0, hi, hz0, hz1, hz2⟩ := info_parts info_int
  refine wpList_append_own w hgd s x 40 ho base 3 i0 _ 1 8 Tryz.underlying40 hi hz0 hz1 hz2 rfl (by decide) v L.length (intsV L) hs hown ad 1 1 (intsV [k]) hx rfl (fun j u hj => ?_) (oneCell_ints _) (by unfold maxLen; omega) (by omega) hbase ?_
  · match j, hj with
    | 0, hj => simp [intsV] at hj; subst hj; exact hu
    | j + 1, hj => simp [intsV] at hj
  intro v' w' r1 r2 _
  rw [show intsV [k] = [.int .i64 k] from rfl, ← intsV_snoc, show L.length + 1 = (L ++ [k]).length by simp] at r1
  obtain ⟨g, cap, rfl, hg⟩ := owns_form r1 (by simp)
  exact h g _ cap w' rfl r1 r2
/-- What is owned stays where nothing is written but new memory. -/
theorem ownsI_below {w w' : World} {base : Nat} {v : Value} {L : List Int} (h : ownsI w base v L) (g : Below w.heap.size w w') : ownsI w' base v L := by
  refine World.ownsRow.kept h ⟨g.os, g.tape, g.output, g.size, fun k hk _ => g.block k hk⟩ (row := none) ?_
  cases v.ownBlock
  · exact .inl rfl
  · exact .inr (by simp)
/-- .. or in another block. -/
theorem ownsI_grown {w w' : World} {base b : Nat} {v : Value} {L : List Int} (h : ownsI w base v L) (g : w.grownBy w' (some b)) (hb : b < base) : ownsI w' base v L := by
  refine World.ownsRow.kept h g ?_
  cases e : v.ownBlock with
  | none => exact .inl rfl
  | some x =>
    refine .inr (fun h2 => ?_)
    have := (World.ownsRow.lt h x e).1
    cases h2
    omega

theorem cell_flat {w : World} {a : Addr} {v : Value} (h : w.cell? a = some v) : a.spot = none ∧ a.block < w.heap.size := by
  unfold World.cell? at h
  split at h
  · rename_i c t f hc
    refine ⟨?_, lt_of_block hc⟩
    by_cases hs : a.spot.isSome = true
    · rw [if_pos hs] at h; cases h
    · simpa using hs
  · cases h
theorem setCell_size (w : World) (p : Addr) (v : Value) : (w.setCell p v).heap.size = w.heap.size := by simp [World.setCell]
/-- An array's rows stay where the blocks that hold something else than numbers stay. -/
theorem RowAt.keeps {w w' : World} {x : Option Addr} {V : List Value} (h : RowAt w x V) (hV : ∀ v ∈ V, ∀ n, v ≠ .int .i64 n) (hs : w.heap.size ≤ w'.heap.size) (hk : ∀ p u, w.cell? p = some u → (∀ n, u ≠ .int .i64 n) → w'.cell? p = some u) : RowAt w' x V := by
  intro i v hv
  obtain ⟨b, o, e, hlt, hc⟩ := h i v hv
  exact ⟨b, o, e, Nat.lt_of_lt_of_le hlt hs, hk _ _ hc (hV v (List.mem_of_getElem? hv))⟩
theorem Arr.keeps {w w' : World} {b o n : Nat} {h : Nat → Hd} {A : Ar} (H : Arr w b o n h A) (hs : w.heap.size ≤ w'.heap.size) (hk : ∀ p u, w.cell? p = some u → (∀ n, u ≠ .int .i64 n) → w'.cell? p = some u) : Arr w' b o n h A := by
  refine ⟨H.sn, H.nb, Nat.lt_of_lt_of_le H.lt hs, fun i hi => hk _ _ (H.c0 i hi) (fun _ e => by cases e), fun i hi => hk _ _ (H.c1 i hi) (fun _ e => by cases e), fun i hi => ?_⟩
  have d := H.dv i hi
  refine ⟨d.sn, d.sm, d.S.keeps ?_ hs hk, d.L.keeps ?_ hs hk, d.nb, d.mb⟩
  · intro v hv n e
    obtain ⟨s, _, rfl⟩ := List.mem_map.1 hv
    cases e
  · intro v hv n e
    obtain ⟨s, _, rfl⟩ := List.mem_map.1 hv
    cases e
/-- .. where a number is stored over a number. -/
theorem Arr.number {w : World} {b o n : Nat} {h : Nat → Hd} {A : Ar} (H : Arr w b o n h A) {p : Addr} {x : Int} (hp : w.cell? p = some (.int .i64 x)) (u : Value) : Arr (w.setCell p u) b o n h A :=
  H.keeps (by rw [setCell_size]; exact Nat.le_refl _) (fun q v hq hv => by
    rw [World.cell?_setCell_other _ _ _ _ (fun e => ?_)]
    · exact hq
    · rw [e, hq] at hp
      exact hv x (Option.some.inj hp))
/-- .. where a slice is stored over a slice of another block. -/
theorem Arr.box {w : World} {b o n p : Nat} {h : Nat → Hd} {A : Ar} (H : Arr w b o n h A) (hp : p ≠ b) {a : Option Addr} {k c : Nat} (hc : w.cell? ⟨p, 0, none⟩ = some (.slice a k c)) (v : Value) : Arr (w.setCell ⟨p, 0, none⟩ v) b o n h A := by
  refine ⟨H.sn, H.nb, by rw [setCell_size]; exact H.lt, fun i hi => ?_, fun i hi => ?_, fun i hi => (H.dv i hi).slices hc v⟩
  · rw [World.cell?_setCell_other _ _ _ _ (fun e => hp (congrArg Addr.block e))]; exact H.c0 i hi
  · rw [World.cell?_setCell_other _ _ _ _ (fun e => hp (congrArg Addr.block e))]; exact H.c1 i hi

end Go.Proofs.YtahoagbaadnihabGreatDoor
