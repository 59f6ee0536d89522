/- What the document's own ArrayCopy answers: the same array in memory of its own. -/
import Derived.Test.YtkhjmfngeidlcaaGreatDoorMem2
import Derived.Test.YtkhjmfngeidlcaaGreatDoorRefA
import Derived.Deep.RegionLaw
import Derived.Deep.RegionWith
import Derived.Deep.DeepCutAuto
namespace Go.Proofs.YtkhjmfngeidlcaaGreatDoor
open Go.RowKit Go.Lib

/-- The cells of the first k devices. -/
def hdCells (h : Nat → Hd) (k : Nat) : List Value := (List.range k).flatMap fun i => [.slice (h i).x (h i).p (h i).c, .slice (h i).y (h i).q (h i).d]
theorem hdCells_succ (h : Nat → Hd) (k : Nat) : hdCells h (k + 1) = hdCells h k ++ [.slice (h k).x (h k).p (h k).c, .slice (h k).y (h k).q (h k).d] := by
  unfold hdCells
  rw [List.range_succ, List.flatMap_append]
  simp
theorem hdCells_len (h : Nat → Hd) : ∀ k, (hdCells h k).length = k * 2
  | 0 => rfl
  | k + 1 => by rw [hdCells_succ, List.length_append, hdCells_len h k]; simp; omega
theorem hdCells_at (h : Nat → Hd) : ∀ (k i : Nat), i < k → (hdCells h k)[i * 2]? = some (.slice (h i).x (h i).p (h i).c) ∧ (hdCells h k)[i * 2 + 1]? = some (.slice (h i).y (h i).q (h i).d)
  | 0, i, hi => absurd hi (Nat.not_lt_zero _)
  | k + 1, i, hi => by
    rw [hdCells_succ]
    by_cases e : i < k
    · obtain ⟨h1, h2⟩ := hdCells_at h k i e
      rw [List.getElem?_append_left (by rw [hdCells_len]; omega), List.getElem?_append_left (by rw [hdCells_len]; omega)]
      exact ⟨h1, h2⟩
    · obtain rfl : i = k := by omega
      rw [List.getElem?_append_right (by rw [hdCells_len]; omega), List.getElem?_append_right (by rw [hdCells_len]; omega), hdCells_len]
      have e1 : i * 2 - i * 2 = 0 := by omega
      have e2 : i * 2 + 1 - i * 2 = 1 := by omega
      rw [e1, e2]
      exact ⟨rfl, rfl⟩
theorem hdCells_congr (h h' : Nat → Hd) (k : Nat) (e : ∀ i, i < k → h i = h' i) : hdCells h k = hdCells h' k := by
  induction k with
  | zero => rfl
  | succ k ih =>
    rw [hdCells_succ, hdCells_succ, ih (fun i hi => e i (by omega)), e k (by omega)]

/-- A device's own rows stay where a row of devices grows. -/
theorem DevNew.grown {B : Nat} {w w' : World} {x y : Option Addr} {D : Dv} (h : DevNew B w x y D) {base k : Nat} {v : Value} {xs : List Value} (hv : w.ownsRow base 35 2 v k xs) (g : w.grownBy w' v.ownBlock) : DevNew B w' x y D := by
  have keep : ∀ {b t : Nat} {V : List Value}, Own w b t V → t ≠ 35 → Own w' b t V := by
    intro b t V ho ht
    refine ho.of_block (g.block b ho.lt (fun e => ?_))
    rcases hv.2 with ⟨rfl, _⟩ | ⟨g', cap, cur, rfl, _, hg, _⟩
    · simp [Value.ownBlock] at e
    · have : b = g' := by simpa [Value.ownBlock] using e
      subst this
      obtain ⟨R, hR⟩ := ho
      rw [hg] at hR
      cases hR
      exact ht rfl
  refine ⟨?_, ?_, h.apart⟩
  · rcases h.S with e | ⟨b, h1, h2, h3⟩
    · exact .inl e
    · exact .inr ⟨b, h1, h2, keep h3 (by decide)⟩
  · rcases h.L with e | ⟨b, h1, h2, h3⟩
    · exact .inl e
    · exact .inr ⟨b, h1, h2, keep h3 (by decide)⟩
/-- append of one device onto a row of the call's own, as one step of a region that draws its order. -/
theorem step_append2 {ops : Array Oper} {o : Oper} {a : Act} {w : World} {K : Act → World → Prop} {Q : Exit → Act → World → Prop} {E : Prop}
    (hg : o.guard = none) (sl x : Operand) (hop : o.op = Op.call { callee := Callee.builtin Builtin.append, args := #[sl, x], argTypes := #[22, 22] })
    (base : Nat) (v : Value) (n : Nat) (xs : List Value) (hs : a.eval sl = v) (hown : w.ownsRow base 35 2 v n xs) (ad : Addr) (u0 u1 : Value) (hx : a.eval x = .slice (some ad) 1 1) (hu : ∀ j u, [u0, u1][j]? = some u → w.cell? (ad.add j) = some u) (h1 : ∀ u ∈ [u0, u1], u.oneCell' = true)
    (hbd : (n + 1) * 48 ≤ 140737488355328) (hbase : base ≤ w.heap.size)
    (hK : ∀ g m cap w', Hid (m = n + 1) → base ≤ g → w'.ownsRow base 35 2 (.slice (some ⟨g, 0, none⟩) m cap) (n + 1) (xs ++ [u0, u1]) → w.grownBy w' v.ownBlock → K (a.put o.dst (.slice (some ⟨g, 0, none⟩) m cap)) w') :
    if Region.wanted o (yielded ops a.tmps) = true then Oper.wp Tryz.prog o a w K Q else E := by
  obtain ⟨i0, hi, hz0, hz1, hz2⟩ := info_parts info_dev
  have hw : Region.wanted o (yielded ops a.tmps) = true := by simp [Region.wanted, hg]
  rw [if_pos hw]
  obtain ⟨v', w', hrun, r1, r2, _⟩ := run_append_own (P := Tryz.prog) w base 22 o.type 35 i0 (.agg #[.slice none 0 0, .slice none 0 0]) 2 48 Tryz.underlying22 hi hz0 hz1 hz2 rfl (by decide) v n xs hown ad 1 1 [u0, u1] rfl hu h1 (by unfold maxLen; omega) hbd hbase
  unfold Oper.wp
  simp [execOp, hop, resolve, invoke, builtin, hs, hx, hrun, Result.andThen]
  obtain ⟨g, cap, rfl, hg⟩ := owns_form r1 (by omega)
  exact hK g _ cap w' rfl hg r1 r2

/-- While it copies. -/
structure CpI (w : World) (a : Option Addr) (n c : Nat) (A : Ar) (h : Nat → Hd) (k : Nat) (v : Value) (W : World) : Prop where
  ab : W.cell? ⟨w.heap.size, 0, none⟩ = some (.slice a n c)
  rc : W.cell? ⟨w.heap.size + 1, 0, none⟩ = some (.slice none 0 0)
  rf : W.frozen? ⟨w.heap.size + 1, 0, none⟩ = false
  oc : W.cell? ⟨w.heap.size + 1 + 1, 0, none⟩ = some v
  of : W.frozen? ⟨w.heap.size + 1 + 1, 0, none⟩ = false
  lt : w.heap.size + 3 ≤ W.heap.size
  own : W.ownsRow (w.heap.size + 3) 35 2 v k (hdCells h k)
  dn : ∀ i, i < k → DevNew (w.heap.size + 3) W (h i).x (h i).y (dev A i) ∧ (h i).p = (dev A i).1.length ∧ (h i).q = (dev A i).2.length ∧ (h i).p ≤ maxLen ∧ (h i).q ≤ maxLen
  below : Below w.heap.size w W
section
variable {w W W' : World} {a : Option Addr} {n c : Nat} {A : Ar} {h : Nat → Hd} {k : Nat} {v : Value}
theorem CpI.to (H : CpI w a n c A h k v W) (g : Below W.heap.size W W') : CpI w a n c A h k v W' := by
  have l := H.lt
  refine ⟨(g.cell (p := ⟨w.heap.size, 0, none⟩) (by show w.heap.size < _; omega)).trans H.ab, (g.cell (p := ⟨w.heap.size + 1, 0, none⟩) (by show w.heap.size + 1 < _; omega)).trans H.rc, (g.frozen (p := ⟨w.heap.size + 1, 0, none⟩) (by show w.heap.size + 1 < _; omega)).trans H.rf,
    (g.cell (p := ⟨w.heap.size + 1 + 1, 0, none⟩) (by show w.heap.size + 1 + 1 < _; omega)).trans H.oc, (g.frozen (p := ⟨w.heap.size + 1 + 1, 0, none⟩) (by show w.heap.size + 1 + 1 < _; omega)).trans H.of, Nat.le_trans l g.size, ?_, fun i hi => ⟨(H.dn i hi).1.below' g, (H.dn i hi).2⟩, H.below.trans (g.mono H.below.size)⟩
  refine H.own.kept ⟨g.os, g.tape, g.output, g.size, fun k hk _ => g.block k hk⟩ (row := none) ?_
  cases v.ownBlock
  · exact .inl rfl
  · exact .inr (by simp)
/-- Behind the append: the out box for the store, and behind the store. -/
theorem CpI.put (H : CpI w a n c A h k v W) {g0 m cap : Nat} {d : Hd} (g : W.grownBy W' v.ownBlock) (hm : m = k + 1) (ho : W'.ownsRow (w.heap.size + 3) 35 2 (.slice (some ⟨g0, 0, none⟩) m cap) (k + 1) (hdCells h k ++ [.slice d.x d.p d.c, .slice d.y d.q d.d]))
    (hd : DevNew (w.heap.size + 3) W d.x d.y (dev A k) ∧ d.p = (dev A k).1.length ∧ d.q = (dev A k).2.length ∧ d.p ≤ maxLen ∧ d.q ≤ maxLen) :
    (W'.cell? ⟨w.heap.size + 1 + 1, 0, none⟩ = some v ∧ W'.frozen? ⟨w.heap.size + 1 + 1, 0, none⟩ = false) ∧ CpI w a n c A (setH h k d) (k + 1) (.slice (some ⟨g0, 0, none⟩) m cap) (W'.setCell ⟨w.heap.size + 1 + 1, 0, none⟩ (.slice (some ⟨g0, 0, none⟩) m cap)) := by
  have l := H.lt
  have blk : ∀ b, b < w.heap.size + 3 → W'.heap[b]? = W.heap[b]? := fun b hb => g.block b (by omega) (fun e => by have := (H.own.lt b e.symm).1; omega)
  have cc : ∀ b, b < w.heap.size + 3 → W'.cell? ⟨b, 0, none⟩ = W.cell? ⟨b, 0, none⟩ ∧ W'.frozen? ⟨b, 0, none⟩ = W.frozen? ⟨b, 0, none⟩ := fun b hb => ⟨World.cell?_of_block (a := ⟨b, 0, none⟩) (blk b hb), World.frozen?_of_block (a := ⟨b, 0, none⟩) (blk b hb)⟩
  have oc' := (cc (w.heap.size + 1 + 1) (by omega)).1.trans H.oc
  have of' := (cc (w.heap.size + 1 + 1) (by omega)).2.trans H.of
  refine ⟨⟨oc', of'⟩, ?_, ?_, ?_, World.cell?_setCell_same _ _ _ oc', ?_, ?_, ?_, fun i hi => ?_, ?_⟩
  · rw [World.cell?_setCell_other _ _ _ _ (fun e => by have := congrArg Addr.block e; simp at this; omega)]
    exact (cc w.heap.size (by omega)).1.trans H.ab
  · rw [World.cell?_setCell_other _ _ _ _ (fun e => by have := congrArg Addr.block e; simp at this)]
    exact (cc (w.heap.size + 1) (by omega)).1.trans H.rc
  · rw [World.frozen?_setCell]
    exact (cc (w.heap.size + 1) (by omega)).2.trans H.rf
  · rw [World.frozen?_setCell]; exact of'
  · have := g.size; simp [World.setCell]; omega
  · rw [hdCells_succ, hdCells_congr (setH h k d) h k (fun i hi => by simp [setH]; omega)]
    have e : setH h k d k = d := by simp [setH]
    rw [e]
    exact ownsRow_setCell_below ho (by show w.heap.size + 1 + 1 < w.heap.size + 3; omega) _
  · have tr : ∀ {x y : Option Addr} {D : Dv}, DevNew (w.heap.size + 3) W x y D → DevNew (w.heap.size + 3) (W'.setCell ⟨w.heap.size + 1 + 1, 0, none⟩ (.slice (some ⟨g0, 0, none⟩) m cap)) x y D := fun hx => (hx.grown H.own g).other (by show w.heap.size + 1 + 1 < w.heap.size + 3; omega) _
    by_cases e : i = k
    · subst e
      have e2 : setH h i d i = d := by simp [setH]
      rw [e2]
      exact ⟨tr hd.1, hd.2⟩
    · have e2 : setH h k d i = h i := by simp [setH, e]
      rw [e2]
      exact ⟨tr (H.dn i (by omega)).1, (H.dn i (by omega)).2⟩
  · exact (H.below.grown g H.below.size (fun b hb => by have := (H.own.lt b hb).1; omega)).setCell (by show w.heap.size ≤ w.heap.size + 1 + 1; omega) _
end
/-- Behind the call that copies a device, and the slice of one device that is laid. -/
theorem cp_new {w W W' : World} {a : Option Addr} {n c : Nat} {A : Ar} {h : Nat → Hd} {k : Nat} {v : Value} {x y : Option Addr} {p q : Nat} (I : CpI w a n c A h k v W') (hN : DevNew W.drew.heap.size W' x y (dev A k)) (_g : Below W.heap.size W W') (hl : w.heap.size + 3 ≤ W.heap.size) (hq : p = (dev A k).1.length ∧ q = (dev A k).2.length ∧ p ≤ maxLen ∧ q ≤ maxLen) (e f : Nat) :
    CpI w a n c A h k v (W'.alloc (.cells #[.slice x p e, .slice y q f] 35)) ∧ (∀ j u, [Value.slice x p e, Value.slice y q f][j]? = some u → (W'.alloc (.cells #[.slice x p e, .slice y q f] 35)).cell? ((⟨W'.heap.size, 0, none⟩ : Addr).add j) = some u) ∧
    (DevNew (w.heap.size + 3) (W'.alloc (.cells #[.slice x p e, .slice y q f] 35)) x y (dev A k) ∧ p = (dev A k).1.length ∧ q = (dev A k).2.length ∧ p ≤ maxLen ∧ q ≤ maxLen) := by
  have hb : Below W'.heap.size W' (W'.alloc (.cells #[.slice x p e, .slice y q f] 35)) := (Below.refl _ W').alloc (Nat.le_refl _) _
  have ho := Own.made W' 35 [.slice x p e, .slice y q f]
  refine ⟨I.to hb, fun j u hj => ?_, ⟨(hN.less (by exact hl)).below' hb, hq⟩⟩
  rw [Addr.add_lit, Nat.zero_add]
  exact ho.cell hj
/-- A device's rows lie in blocks from B on. -/
def Up (B : Nat) (d : Hd) : Prop := (∀ b o, d.x = some ⟨b, o, none⟩ → 0 < d.p → B ≤ b) ∧ ∀ b o, d.y = some ⟨b, o, none⟩ → 0 < d.q → B ≤ b
theorem up_new {B B' : Nat} {w : World} {d : Hd} {D : Dv} (h : DevNew B w d.x d.y D) (hp : d.p = D.1.length) (hq : d.q = D.2.length) (hB : B' ≤ B) : Up B' d := by
  refine ⟨fun b o e h0 => ?_, fun b o e h0 => ?_⟩
  · rcases h.S with e1 | ⟨b', e1, e2, _⟩
    · rw [hp, e1] at h0; cases h0
    · rw [e1] at e; cases e; omega
  · rcases h.L with e1 | ⟨b', e1, e2, _⟩
    · rw [hq, e1] at h0; cases h0
    · rw [e1] at e; cases e; omega
/-- An array that comes out alone, all of it in new memory. -/
def OutCU (w : World) (n : Nat) (A : Ar) (e : Ending) (w' : World) : Prop :=
  ∃ a' c', e = .returned (.agg #[.slice a' n c']) ∧ ((n = 0 ∧ A = []) ∨ ∃ b h, a' = some ⟨b, 0, none⟩ ∧ w.heap.size ≤ b ∧ ArrFree w' b 0 n h A ∧ ∀ i, i < n → Up w.heap.size (h i)) ∧ Below w.heap.size w w'
theorem OutCU.out {w w' : World} {n : Nat} {A : Ar} {e : Ending} (h : OutCU w n A e w') : OutC w n A e w' := by
  obtain ⟨a', c', h1, h2, h3⟩ := h
  refine ⟨a', c', h1, ?_, h3⟩
  rcases h2 with h2 | ⟨b, hd, k1, k2, k3, _⟩
  · exact .inl h2
  · exact .inr ⟨b, hd, k1, k2, k3⟩
/-- All is copied. -/
theorem cp_end {w W : World} {a : Option Addr} {n c : Nat} {A : Ar} {h : Nat → Hd} {ao : Option Addr} {cap : Nat} (I : CpI w a n c A h n (.slice ao n cap) W) (nb : n ≤ maxLen) (sn : n = A.length) :
    ((n = 0 ∧ A = []) ∨ ∃ b h, ao = some ⟨b, 0, none⟩ ∧ w.heap.size ≤ b ∧ ArrFree (W.setCell ⟨w.heap.size + 1, 0, none⟩ (.slice ao n cap)) b 0 n h A ∧ ∀ i, i < n → Up w.heap.size (h i)) ∧ Below w.heap.size w (W.setCell ⟨w.heap.size + 1, 0, none⟩ (.slice ao n cap)) := by
  refine ⟨?_, I.below.setCell (by show w.heap.size ≤ w.heap.size + 1; omega) _⟩
  by_cases h0 : n = 0
  · exact .inl ⟨h0, List.eq_nil_of_length_eq_zero (by omega)⟩
  · right
    obtain ⟨g, cap', e, hg⟩ := owns_form I.own (by omega)
    cases e
    refine ⟨g, h, rfl, by omega, ?_, fun i hi => up_new (I.dn i hi).1 (I.dn i hi).2.1 (I.dn i hi).2.2.1 (by omega)⟩
    have hc : ∀ j u, (hdCells h n)[j]? = some u → W.cell? ⟨g, j, none⟩ = some u := fun j u hj => by
      have := World.ownsRow.cells I.own (g := g) rfl j u hj
      rwa [Addr.add_lit, Nat.zero_add] at this
    have hlt : g < W.heap.size := (I.own.lt g rfl).2
    have hne : w.heap.size + 1 ≠ g := by omega
    refine ⟨⟨sn, nb, by simpa [World.setCell] using hlt, fun i hi => ?_, fun i hi => ?_, fun i hi => ?_⟩, fun j => ?_⟩
    · rw [World.cell?_setCell_other _ _ _ _ (fun e => hne (congrArg Addr.block e)), Nat.zero_add]
      exact hc _ _ (hdCells_at h n i hi).1
    · rw [World.cell?_setCell_other _ _ _ _ (fun e => hne (congrArg Addr.block e)), Nat.zero_add]
      exact hc _ _ (hdCells_at h n i hi).2
    · obtain ⟨d1, d2, d3, d4, d5⟩ := I.dn i hi
      exact (d1.at d2 d3 d4 d5).slices I.rc _
    · rw [World.frozen?_setCell]
      exact World.ownsRow.frozenAt I.own j
theorem cpI_start (w : World) (a : Option Addr) (n c : Nat) (A : Ar) (h : Nat → Hd) : CpI w a n c A h 0 (.slice none 0 0) (((w.alloc (.cells #[.slice a n c] 24)).alloc (.cells #[.slice none 0 0] 24)).alloc (.cells #[.slice none 0 0] 24)) :=
  ⟨by simp [go_sem], by simp [go_sem], by simp [go_sem], by simp [go_sem], by simp [go_sem], by simp, World.ownsRow_nil _ _ _ _, fun i hi => absurd hi (Nat.not_lt_zero _), by go_grown⟩

set_option maxHeartbeats 1600000 in
set_option maxRecDepth 4000 in
theorem acopy_up (a : Option Addr) (n c : Nat) (A : Ar) (w : World) (H : ArrAt w a n A) (hf : ArrFits n A) :
    Calls Tryz.prog 4 #[.agg #[.slice a n c]] w (OutCU w n A) := by
  have HS := hid (cpI_start w a n c A (fun _ => ⟨none, 0, 0, none, 0, 0⟩))
  have hnb := H.nb
  unfold maxLen at hnb
  have HH := hid H
  have HF := hid hf
  clear H hf
  go_enter Tryz.func4, Tryz.ntmps4
  go_wp2_with fail
  go_loopw [4] (fun i wr => ∃ (k : Nat) (ao : Option Addr) (m cap : Nat) (h : Nat → Hd), k ≤ n ∧ i = .int .i64 k ∧ Hid (m = k) ∧ CpI w a n c A h k (.slice ao m cap) wr) (fun i _ => n - (intOf i).toNat)
  case atStart => exact ⟨0, none, 0, 0, _, Nat.zero_le _, rfl, rfl, HS.out⟩
  case round =>
    obtain ⟨k, ao, m, cap, h, hk, rfl, HM, hI⟩ := hrel
    clear HS
    have ab := hI.ab
    by_cases hlt : k < n
    · have hlt' : (k : Int) < n := by omega
      have oc := hI.oc
      have of := hI.of
      rcases HH.out with ⟨h0, _⟩ | ⟨b, o, h2, rfl, HA⟩
      · omega
      have HA' := HA.below hI.below
      have d0 := HA'.c0 k hlt
      have d1 := HA'.c1 k hlt
      have fit := HF.out.each k hlt
      have fn := HF.out.big
      have sp := (HA'.dv k hlt).sn
      have sq := (HA'.dv k hlt).sm
      have sb := (HA'.dv k hlt).nb
      have sb' := (HA'.dv k hlt).mb
      have C1 := hid (refcopy_any (h2 k).x (h2 k).p (h2 k).c (h2 k).y (h2 k).q (h2 k).d (dev A k) wr.drew ((HA'.dv k hlt).below ((Below.refl _ _).drew)) (by rw [sp]; omega) (by rw [sq]; omega))
      have HI := hid hI
      have HQ := hid (And.intro sp (And.intro sq (And.intro sb sb')))
      clear hI HA HA' sp sq sb sb' fit
      go_wp2_with fail
      go_region_law (first
        | (refine step_append2 rfl (.tmp 14) (.tmp 21) rfl (w.heap.size + 3) (.slice ao m cap) k (hdCells h k) rfl HV.out.1.own ⟨w4.heap.size, 0, none⟩ (.slice x4 (h2 k).p e4) (.slice y4 (h2 k).q f4) rfl HV.out.2.1 (by simp [Value.oneCell']) (by omega) (by have := HV.out.1.lt; omega) ?_; intro g5 m5 cap5 w5 hm5 hg5 hown5 hgrow5; (have P5 := HV.out.1.put (d := ⟨x4, (h2 k).p, e4, y4, (h2 k).q, f4⟩) hgrow5 hm5.out hown5 HV.out.2.2); (have p0 := P5.1.1); (have p1 := P5.1.2); (have H5 := hid (And.intro P5.2 hm5.out)); clear P5 hown5 hgrow5)
        | (go_simp; go_at_call 8; go_wp2_with (go_at_call 8; refine C1.out.mono ?_; rintro _ w4 ⟨x4, e4, y4, f4, rfl, hN, g4⟩; (have I4 := HI.out.to (undrew g4)); (have a4 := I4.ab); (have o4 := I4.oc); (have HV := hid (cp_new I4 hN (undrew g4) HI.out.lt HQ.out e4 f4)); (have o5 := HV.out.1.oc); (have a5 := HV.out.1.ab); clear I4 hN g4)))
      all_goals go_wp2
      all_goals go_roundw
      all_goals (first | (case rel => exact ⟨k + 1, some ⟨g5, 0, none⟩, m5, cap5, _, by omega, by go_num, H5.out.2, H5.out.1⟩) | skip)
      all_goals (simp [intOf]; omega)
    · obtain rfl : k = n := by omega
      have hnl : ¬ (k : Int) < k := by omega
      obtain rfl : m = k := HM.out
      have oc := hI.oc
      have rc := hI.rc
      have rf := hI.rf
      have y0 := World.cell?_setCell_same wr ⟨w.heap.size + 1, 0, none⟩ (.slice ao m cap) rc
      have K := hid (show OutCU w m A _ _ from ⟨ao, cap, rfl, cp_end hI (HH.out.nb) HH.out.len⟩)
      clear hI
      go_wp2
      refine bodyPost_ret (v := .agg #[.slice ao m cap]) (by simp [results, Tryz.results4, go_sem, y0]) rfl ?_
      exact K.out
theorem acopy_any (a : Option Addr) (n c : Nat) (A : Ar) (w : World) (H : ArrAt w a n A) (hf : ArrFits n A) :
    Calls Tryz.prog 4 #[.agg #[.slice a n c]] w (OutC w n A) := (acopy_up a n c A w H hf).mono fun _ _ h => h.out
end Go.Proofs.YtkhjmfngeidlcaaGreatDoor
