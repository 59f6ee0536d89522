/- Rows of whole numbers: in memory, of the call's own, one more of them; two that are the same. -/
import Derived.Test.YtpnmidkocmokeaaDevMem
import Derived.Test.YtpnmidkocmokeaaDevBox
import Derived.Handy
import Derived.Deep.QuietTactic
import Derived.BigQuiet
namespace Go.Proofs.Ytpnmidkocmokeaa
open Go.RowKit Go.Lib

theorem info_int : (Try.prog.info? 3).map (fun i => (i.zero, i.size, i.bytes)) = some (some (.int .i64 0), 1, 8) := by kernel_rfl
def intsV (L : List Int) : List Value := L.map (Value.int .i64)
theorem intsV_snoc (L : List Int) (k : Int) : intsV (L ++ [k]) = intsV L ++ [.int .i64 k] := by simp [intsV]
theorem intsV_length (L : List Int) : (intsV L).length = L.length := by simp [intsV]
/-- These numbers stand there. -/
structure IntsAt (w : World) (a : Option Addr) (n : Nat) (L : List Int) : Prop where
  sn : n = L.length
  nb : n ≤ maxLen
  R : RowAt w a (intsV L)
theorem IntsAt.below {w w' : World} {a : Option Addr} {n : Nat} {L : List Int} (h : IntsAt w a n L) (g : Below w.heap.size w w') : IntsAt w' a n L := ⟨h.sn, h.nb, h.R.below g⟩
theorem IntsAt.cell {w : World} {a : Option Addr} {n : Nat} {L : List Int} (h : IntsAt w a n L) (k : Nat) (hk : k < n) : ∃ b o, a = some ⟨b, o, none⟩ ∧ b < w.heap.size ∧ w.cell? ⟨b, o + k, none⟩ = some (.int .i64 (L[k]?.getD 0)) := by
  have hk' : k < L.length := by rw [← h.sn]; exact hk
  exact h.R k _ (by simp [intsV, hk'])
theorem intsAt_none (w : World) (a : Option Addr) : IntsAt w a 0 [] := ⟨rfl, Nat.zero_le _, RowAt.nil⟩
/-- The slice v owns these numbers, from block 'base' on. -/
def ownsI (w : World) (base : Nat) (v : Value) (L : List Int) : Prop := w.ownsRow base 3 1 v L.length (intsV L)
theorem ownsI_nil (w : World) (base : Nat) : ownsI w base (.slice none 0 0) [] := World.ownsRow_nil _ _ _ _
theorem ownsI_at {w : World} {base : Nat} {v : Value} {L : List Int} (h : ownsI w base v L) (hL : L.length ≤ 1000) : ∃ a m c, v = .slice a m c ∧ IntsAt w a m L := by
  by_cases h0 : L.length = 0
  · have e := List.eq_nil_of_length_eq_zero h0
    subst e
    rcases h.2 with ⟨e, _⟩ | ⟨g, cap, cur, e, _⟩
    · exact ⟨none, 0, 0, e, intsAt_none _ _⟩
    · exact ⟨_, _, _, e, intsAt_none _ _⟩
  · obtain ⟨g, cap, e, _⟩ := owns_form h (by omega)
    subst e
    exact ⟨_, _, _, rfl, rfl, by unfold maxLen; omega, (own_row h).1.row⟩
theorem oneCell_ints (L : List Int) : ∀ u ∈ intsV L, u.oneCell' = true := by
  intro u hu
  simp only [intsV, List.mem_map] at hu
  obtain ⟨b, _, rfl⟩ := hu
  rfl
/-- append of one number. -/
theorem wpList_appendI (w : World) {ops : Array Oper} {rest : List Oper} {o : Oper} {a : Act} {Q : Exit → Act → World → Prop} (hgd : o.guard = none) (s x : Operand)
    (ho : o.op = .call { callee := .builtin .append, args := #[s, x], argTypes := #[28, 28] })
    (base : Nat) (v : Value) (L : List Int) (k : Int) (hs : a.eval s = v) (hown : ownsI w base v L)
    (ad : Addr) (hx : a.eval x = .slice (some ad) 1 1) (hu : w.cell? ad = some (.int .i64 k)) (hbd : L.length ≤ 1000) (hbase : base ≤ w.heap.size)
    (h : ∀ g m cap w', Hid (m = (L ++ [k]).length) → ownsI w' base (.slice (some ⟨g, 0, none⟩) m cap) (L ++ [k]) → w.grownBy w' v.ownBlock → wpList Try.prog ops Q rest (a.put o.dst (.slice (some ⟨g, 0, none⟩) m cap)) w') :
    wpList Try.prog ops Q (o :: rest) a w := by
  obtain ⟨i0, hi, hz0, hz1, hz2⟩ := info_parts info_int
  refine wpList_append_own w hgd s x 28 ho base 3 i0 _ 1 8 Try.underlying28 hi hz0 hz1 hz2 rfl (by decide) v L.length (intsV L) hs hown ad 1 1 (intsV [k]) hx rfl (fun j u hj => ?_) (oneCell_ints _) (by unfold maxLen; omega) (by omega) hbase ?_
  · match j, hj with
    | 0, hj => simp [intsV] at hj; subst hj; exact hu
    | j + 1, hj => simp [intsV] at hj
  intro v' w' r1 r2 _
  rw [show intsV [k] = [.int .i64 k] from rfl, ← intsV_snoc, show L.length + 1 = (L ++ [k]).length by simp] at r1
  obtain ⟨g, cap, rfl, hg⟩ := owns_form r1 (by simp)
  exact h g _ cap w' rfl r1 r2
/-- What is owned stays where nothing is written but new memory. -/
theorem ownsI_below {w w' : World} {base : Nat} {v : Value} {L : List Int} (h : ownsI w base v L) (g : Below w.heap.size w w') : ownsI w' base v L := by
  refine World.ownsRow.kept h ⟨g.os, g.tape, g.output, g.size, fun k hk _ => g.block k hk⟩ (row := none) ?_
  cases v.ownBlock
  · exact .inl rfl
  · exact .inr (by simp)
/-- .. or in another block. -/
theorem ownsI_grown {w w' : World} {base b : Nat} {v : Value} {L : List Int} (h : ownsI w base v L) (g : w.grownBy w' (some b)) (hb : b < base) : ownsI w' base v L := by
  refine World.ownsRow.kept h g ?_
  cases e : v.ownBlock with
  | none => exact .inl rfl
  | some x =>
    refine .inr (fun h2 => ?_)
    have := (World.ownsRow.lt h x e).1
    cases h2
    omega

set_option maxHeartbeats 1600000 in
set_option maxRecDepth 4000 in
theorem sameints_any (a : Option Addr) (n c : Nat) (b : Option Addr) (d : Nat) (L : List Int) (w : World) (h : IntsAt w a n L) (h2 : IntsAt w b n L) :
    Calls Try.prog 8 #[.slice a n c, .slice b n d] w fun e w' => e = .returned (.bool true) ∧ Below w.heap.size w w' := by
  have H := hid (And.intro h h2)
  have hn := h.nb
  unfold maxLen at hn
  have n1 : ((n : Int) != n) = false := bne_self_eq_false _
  clear h h2
  go_enter Try.func8, Try.ntmps8
  go_wp2_with fail
  clear n1
  go_loopw [5] (fun i wr => ∃ k q : Nat, k ≤ n ∧ i = .int .i64 k ∧ wr = w.drewN q) (fun i _ => n - (intOf i).toNat)
  case atStart => exact ⟨0, 0, Nat.zero_le _, rfl, rfl⟩
  case round =>
    obtain ⟨k, q, hk, rfl, rfl⟩ := hrel
    by_cases hlt : k < n
    · have hlt' : (k : Int) < n := by omega
      obtain ⟨p, o, rfl, _, e1⟩ := H.out.1.cell k hlt
      obtain ⟨p2, o2, rfl, _, e2⟩ := H.out.2.cell k hlt
      generalize L[k]?.getD 0 = s at e1 e2
      clear H
      go_wp2_with fail
      go_quiet (fail)
      go_wp2
      go_roundw
      case rel => exact ⟨k + 1, _, by omega, by go_num, rfl⟩
      case measure => simp [intOf]; omega
    · have hlt' : ¬ (k : Int) < n := by omega
      go_wp2
      go_ret
      exact ⟨rfl, below_drewN (Below.refl _ _) q⟩
end Go.Proofs.Ytpnmidkocmokeaa
