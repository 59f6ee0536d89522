/- Joined texts: KeepPow, KeepMap, KeepHurts. -/
import Derived.Test.YtahoagbaadnihabGreatDoorKeepFH
import Derived.Test.YtahoagbaadnihabGreatDoorKeepBase
import Derived.MapKept
import Derived.WideMake
import Derived.Deep.RegionLaw
import Derived.Test.YtahoagbaadnihabGreatDoorKeepData
/- Acts that a call lays. -/
namespace Go.Proofs.YtahoagbaadnihabGreatDoor
open Go.RowKit Go.Lib

/-- An act's seven cells. -/
def actV (x : Hact) : List Value := [.int .i64 x.kind, .slice none 0 0, .string ⟨#[]⟩, .int .i64 x.d, .int .i64 x.n, .int .i64 x.at_, .int .i64 x.by_]
def actsV (L : List Hact) : List Value := L.flatMap actV
theorem actsV_at (L : List Hact) : ∀ (i : Nat), i < L.length → ∀ j, j < 7 → (actsV L)[i * 7 + j]? = (actV (act L i))[j]? := by
  induction L with
  | nil => intro i hi; exact absurd hi (Nat.not_lt_zero _)
  | cons x L ih =>
    intro i hi j hj
    have e : actsV (x :: L) = actV x ++ actsV L := rfl
    rw [e]
    cases i with
    | zero =>
      rw [Nat.zero_mul, Nat.zero_add, List.getElem?_append_left (by show j < 7; exact hj)]
      rfl
    | succ i =>
      have := ih i (by simpa using hi) j hj
      rw [List.getElem?_append_right (by show 7 ≤ _; omega), show (i + 1) * 7 + j - (actV x).length = i * 7 + j by show (i + 1) * 7 + j - 7 = _; omega, this]
      simp [act]
/-- Acts that stand at the head of a block. -/
theorem acts_cells {w : World} {b : Nat} {L : List Hact} (h : ∀ j u, (actsV L)[j]? = some u → w.cell? ⟨b, j, none⟩ = some u) (hlt : b < w.heap.size) (hL : L.length ≤ maxLen) : Acts w b 0 L.length L := by
  have at_ : ∀ i, i < L.length → ∀ j v, j < 7 → (actV (act L i))[j]? = some v → w.cell? ⟨b, 0 + i * 7 + j, none⟩ = some v := fun i hi j v hj hv => by
    rw [Nat.zero_add]
    exact h _ _ ((actsV_at L i hi j hj).trans hv)
  exact ⟨rfl, hL, hlt, fun i hi => at_ i hi 0 _ (by omega) rfl, fun i hi => at_ i hi 1 _ (by omega) rfl, fun i hi => at_ i hi 2 _ (by omega) rfl, fun i hi => at_ i hi 3 _ (by omega) rfl, fun i hi => at_ i hi 4 _ (by omega) rfl, fun i hi => at_ i hi 5 _ (by omega) rfl, fun i hi => at_ i hi 6 _ (by omega) rfl⟩
end Go.Proofs.YtahoagbaadnihabGreatDoor

/- A set of numbers as a map; a row of acts that grows. -/
namespace Go.Proofs.YtahoagbaadnihabGreatDoor
open Go.RowKit Go.Lib Go.MapKept

/-- The map's keys are these numbers, each with true. -/
def SetIs (w : World) (r : Nat) (T : List Int) : Prop :=
  ∃ es clock, w.heap[r]? = some (.map es clock) ∧ (∀ x ∈ es.toList, ∃ n, x.key = .int .i64 n ∧ x.val = .bool true ∧ n ∈ T) ∧ ∀ n ∈ T, ∃ x ∈ es.toList, x.key = .int .i64 n
theorem SetIs.of_block {w w' : World} {r : Nat} {T : List Int} (h : SetIs w r T) (e : w'.heap[r]? = w.heap[r]?) : SetIs w' r T := by
  obtain ⟨es, c, h1, h2⟩ := h
  exact ⟨es, c, e.trans h1, h2⟩
theorem SetIs.lt {w : World} {r : Nat} {T : List Int} (h : SetIs w r T) : r < w.heap.size := by
  obtain ⟨es, c, h1, _⟩ := h
  exact lt_of_block h1
theorem set_new (w : World) : SetIs (w.alloc (.map #[] 0)) w.heap.size [] := ⟨#[], 0, heap_alloc_new w _, fun x hx => by simp at hx, fun n hn => by cases hn⟩
theorem set_keys {es : Array MapEntry} {T : List Int} (h : ∀ x ∈ es.toList, ∃ n, x.key = .int .i64 n ∧ x.val = .bool true ∧ n ∈ T) : ∀ x ∈ es.toList, IsKey (.int .i64) x.key := fun x hx => by
  obtain ⟨n, h1, _⟩ := h x hx
  rw [h1]; exact rfl
theorem set_look {w : World} {r : Nat} {T : List Int} (h : SetIs w r T) (n : Int) : (Instr.lookup 68 (.map (some r)) (.int .i64 n) false).run Tryz.prog w = .ok (.bool (decide (n ∈ T))) w := by
  obtain ⟨es, c, h1, h2, h3⟩ := h
  have hz : (zeroValue 4).run Tryz.prog w = .ok (.bool false) w := by simp [go_sem, Tryz.zeroValue4]
  have hk : IsKey (.int .i64) (.int .i64 n) := rfl
  rcases findNow_spec hk es.toList 0 (set_keys h2) with ⟨f1, f2⟩ | ⟨j, e, f1, f2, f3⟩
  · have hn : n ∉ T := fun hn => by obtain ⟨x, hx, hxk⟩ := h3 n hn; exact f2 x hx hxk
    simp [Instr.lookup, run_underlying Tryz.underlying68, Go.MapKept.run_getObj_map h1, Go.MapKept.run_checkKey Tryz.underlying3 hk, Go.MapKept.run_findKey Tryz.underlying3 f1, Result.andThen, hz, hn]
  · obtain ⟨m, k1, k2, k3⟩ := h2 e (List.mem_of_getElem? f2)
    have hm : m = n := by rw [k1] at f3; cases f3; rfl
    subst hm
    simp [Instr.lookup, run_underlying Tryz.underlying68, Go.MapKept.run_getObj_map h1, Go.MapKept.run_checkKey Tryz.underlying3 hk, Go.MapKept.run_findKey Tryz.underlying3 f1, Result.andThen, k2, k3]
theorem set_put {w : World} {r : Nat} {T : List Int} (h : SetIs w r T) (n : Int) (hn : n ∉ T) : ∃ w', (Instr.mapUpdate 68 (.map (some r)) (.int .i64 n) (.bool true)).run Tryz.prog w = .ok () w' ∧ SetIs w' r (n :: T) ∧ w.grownBy w' (some r) := by
  obtain ⟨es, c, h1, h2, h3⟩ := h
  have hk : IsKey (.int .i64) (.int .i64 n) := rfl
  rcases findNow_spec hk es.toList 0 (set_keys h2) with ⟨f1, f2⟩ | ⟨j, e, f1, f2, f3⟩
  · refine ⟨{ w with heap := w.heap.setIfInBounds r (.map (es.push ⟨.int .i64 n, .bool true, c⟩) (c + 1)) }, ?_, ⟨_, _, (heap_set h1).1, fun x hx => ?_, fun m hm => ?_⟩, ⟨rfl, rfl, rfl, by simp, fun k _ hk2 => (heap_set h1).2 k (fun e => hk2 (by rw [e]))⟩⟩
    · simp [Instr.mapUpdate, run_underlying Tryz.underlying68, Go.MapKept.run_getObj_map h1, Go.MapKept.run_checkKey Tryz.underlying3 hk, Go.MapKept.run_findKey Tryz.underlying3 f1, Go.MapKept.run_setObj_map _ h1, Result.andThen]
    · simp only [Array.toList_push, List.mem_append, List.mem_singleton] at hx
      rcases hx with hx | rfl
      · obtain ⟨m, k1, k2, k3⟩ := h2 x hx
        exact ⟨m, k1, k2, List.mem_cons_of_mem _ k3⟩
      · exact ⟨n, rfl, rfl, List.mem_cons_self⟩
    · simp only [Array.toList_push, List.mem_append, List.mem_singleton]
      rcases List.mem_cons.1 hm with rfl | hm
      · exact ⟨_, .inr rfl, rfl⟩
      · obtain ⟨x, hx, hxk⟩ := h3 m hm
        exact ⟨x, .inl hx, hxk⟩
  · obtain ⟨m, k1, _, k3⟩ := h2 e (List.mem_of_getElem? f2)
    rw [k1] at f3; cases f3
    exact absurd k3 hn

theorem info_act : (Tryz.prog.info? 29).map (fun i => (i.zero, i.size, i.bytes)) = some (some (.agg #[.int .i64 0, .slice none 0 0, .string ⟨#[]⟩, .int .i64 0, .int .i64 0, .int .i64 0, .int .i64 0]), 7, 80) := by kernel_rfl
theorem actV_one (X : Hact) : ∀ u ∈ actV X, u.oneCell' = true := by
  intro u hu
  simp only [actV, List.mem_cons, List.not_mem_nil, or_false] at hu
  rcases hu with rfl | rfl | rfl | rfl | rfl | rfl | rfl <;> rfl
theorem actsV_snoc (L : List Hact) (X : Hact) : actsV (L ++ [X]) = actsV L ++ actV X := by simp [actsV]
/-- append of one act. -/
theorem wpList_appendA (w : World) {ops : Array Oper} {rest : List Oper} {o : Oper} {a : Act} {Q : Exit → Act → World → Prop} (hgd : o.guard = none) (s x : Operand)
    (ho : o.op = .call { callee := .builtin .append, args := #[s, x], argTypes := #[23, 23] })
    (base : Nat) (v : Value) (L : List Hact) (X : Hact) (hs : a.eval s = v) (hown : w.ownsRow base 29 7 v L.length (actsV L))
    (ad : Addr) (hx : a.eval x = .slice (some ad) 1 1) (hu : ∀ j u, (actV X)[j]? = some u → w.cell? (ad.add j) = some u) (hbd : L.length ≤ 1000) (hbase : base ≤ w.heap.size)
    (h : ∀ g m cap w', Hid (m = (L ++ [X]).length) → w'.ownsRow base 29 7 (.slice (some ⟨g, 0, none⟩) m cap) (L ++ [X]).length (actsV (L ++ [X])) → w.grownBy w' v.ownBlock → wpList Tryz.prog ops Q rest (a.put o.dst (.slice (some ⟨g, 0, none⟩) m cap)) w') :
    wpList Tryz.prog ops Q (o :: rest) a w := by
  obtain ⟨i0, hi, hz0, hz1, hz2⟩ := info_parts info_act
  refine wpList_append_own w hgd s x 23 ho base 29 i0 _ 7 80 Tryz.underlying23 hi hz0 hz1 hz2 rfl (by decide) v L.length (actsV L) hs hown ad 1 1 (actV X) hx rfl hu (actV_one X) (by unfold maxLen; omega) (by omega) hbase ?_
  intro v' w' r1 r2 _
  rw [← actsV_snoc, show L.length + 1 = (L ++ [X]).length by simp] at r1
  obtain ⟨g, cap, rfl, hg⟩ := owns_form r1 (by simp)
  exact h g _ cap w' rfl r1 r2
theorem step_appendA {ops : Array Oper} {o : Oper} {a : Act} {w : World} {K : Act → World → Prop} {Q : Exit → Act → World → Prop} {E : Prop}
    (hg : o.guard = none) (sl x : Operand) (hop : o.op = Op.call { callee := Callee.builtin Builtin.append, args := #[sl, x], argTypes := #[23, 23] })
    (base : Nat) (v : Value) (L : List Hact) (X : Hact) (hs : a.eval sl = v) (hown : w.ownsRow base 29 7 v L.length (actsV L)) (ad : Addr) (hx : a.eval x = .slice (some ad) 1 1) (hu : ∀ j u, (actV X)[j]? = some u → w.cell? (ad.add j) = some u)
    (hbd : L.length ≤ 1000) (hbase : base ≤ w.heap.size)
    (hK : ∀ g m cap w', Hid (m = (L ++ [X]).length) → w'.ownsRow base 29 7 (.slice (some ⟨g, 0, none⟩) m cap) (L ++ [X]).length (actsV (L ++ [X])) → w.grownBy w' v.ownBlock → K (a.put o.dst (.slice (some ⟨g, 0, none⟩) m cap)) w') :
    if Region.wanted o (yielded ops a.tmps) = true then Oper.wp Tryz.prog o a w K Q else E := by
  obtain ⟨i0, hi, hz0, hz1, hz2⟩ := info_parts info_act
  have hw : Region.wanted o (yielded ops a.tmps) = true := by simp [Region.wanted, hg]
  rw [if_pos hw]
  obtain ⟨v', w', hrun, r1, r2, _⟩ := run_append_own (P := Tryz.prog) w base 23 o.type 29 i0 _ 7 80 Tryz.underlying23 hi hz0 hz1 hz2 rfl (by decide) v L.length (actsV L) hown ad 1 1 (actV X) rfl hu (actV_one X) (by unfold maxLen; omega) (by omega) hbase
  unfold Oper.wp
  simp [execOp, hop, resolve, invoke, builtin, hs, hx, hrun, Result.andThen]
  rw [← actsV_snoc, show L.length + 1 = (L ++ [X]).length by simp] at r1
  obtain ⟨g, cap, rfl, hg⟩ := owns_form r1 (by simp)
  exact hK g _ cap w' rfl r1 r2

/-- While acts are made: the set, the row. -/
structure HtI (w : World) (T : List Int) (v : Value) (L : List Hact) (W : World) : Prop where
  st : SetIs W w.heap.size T
  own : W.ownsRow (w.heap.size + 1) 29 7 v L.length (actsV L)
  lt : w.heap.size + 1 ≤ W.heap.size
  below : Below w.heap.size w W
section
variable {w W W' : World} {T : List Int} {v : Value} {L : List Hact}
theorem HtI.to (H : HtI w T v L W) (g : Below W.heap.size W W') : HtI w T v L W' := by
  refine ⟨H.st.of_block (g.block _ H.st.lt), ?_, Nat.le_trans H.lt g.size, bel3 H.below g⟩
  refine H.own.kept ⟨g.os, g.tape, g.output, g.size, fun k hk _ => g.block k hk⟩ (row := none) ?_
  cases v.ownBlock
  · exact .inl rfl
  · exact .inr (by simp)
theorem HtI.put (H : HtI w T v L W) {v' : Value} {L' : List Hact} (ho : W'.ownsRow (w.heap.size + 1) 29 7 v' L'.length (actsV L')) (g : W.grownBy W' v.ownBlock) : HtI w T v' L' W' :=
  ⟨H.st.of_block (g.block _ H.st.lt (fun e => by have := (H.own.lt _ e.symm).1; omega)), ho, Nat.le_trans H.lt g.size, H.below.grown g H.below.size (fun b hb => by have := (H.own.lt b hb).1; omega)⟩
theorem HtI.mark (H : HtI w T v L W) {T' : List Int} (hs : SetIs W' w.heap.size T') (g : W.grownBy W' (some w.heap.size)) : HtI w T' v L W' := by
  refine ⟨hs, H.own.kept g ?_, Nat.le_trans H.lt g.size, H.below.grown g H.below.size (fun b hb => by cases hb; exact Nat.le_refl _)⟩
  cases e : v.ownBlock with
  | none => exact .inl rfl
  | some b =>
    refine .inr (fun h => ?_)
    have := (H.own.lt b e).1
    cases h
    omega
theorem HtI.acts (H : HtI w T v L W) (hL : L.length ≤ 1000) : ∃ a m c, v = .slice a m c ∧ ActsAt W a m L := by
  by_cases h0 : L.length = 0
  · rcases H.own.2 with ⟨e, _⟩ | ⟨g, cap, cur, e, _⟩
    · exact ⟨none, 0, 0, e, .inl ⟨rfl, List.eq_nil_of_length_eq_zero h0⟩⟩
    · exact ⟨_, _, _, e, .inl ⟨h0, List.eq_nil_of_length_eq_zero h0⟩⟩
  · obtain ⟨g, cap, e, _⟩ := owns_form H.own (by omega)
    refine ⟨_, _, _, e, .inr ⟨g, 0, rfl, acts_cells (fun j u hj => ?_) (H.own.lt g (by rw [e]; rfl)).2 (by unfold maxLen; omega)⟩⟩
    subst e
    have := World.ownsRow.cells H.own (g := g) rfl j u hj
    rwa [Addr.add_lit, Nat.zero_add] at this
end
end Go.Proofs.YtahoagbaadnihabGreatDoor

/- What 'Hurts' answers: acts of raw numbers. -/
namespace Go.Proofs.YtahoagbaadnihabGreatDoor
open Go.RowKit Go.Lib

theorem drop_raw (R : List Raw4) (most k : Nat) (h1 : k < R.length) (h2 : k < most) : (R.take most).drop k = raw R k :: (R.take most).drop (k + 1) := by
  have hk : k < (R.take most).length := by simp; omega
  rw [List.drop_eq_getElem_cons hk]
  congr 1
  simp [raw, h1]
/-- A slice of one act, laid behind the raw thing's box. -/
theorem act_laid {w V : World} {T : List Int} {v : Value} {L : List Hact} (H : HtI w T v L V) (X : Hact) : HtI w T v L (V.alloc (.cells (actV X).toArray 29)) ∧ (∀ j u, (actV X)[j]? = some u → (V.alloc (.cells (actV X).toArray 29)).cell? ((⟨V.heap.size, 0, none⟩ : Addr).add j) = some u) ∧ w.heap.size + 1 ≤ (V.alloc (.cells (actV X).toArray 29)).heap.size := by
  have hb : Below V.heap.size V (V.alloc (.cells (actV X).toArray 29)) := (Below.refl _ V).alloc (Nat.le_refl _) _
  refine ⟨H.to hb, fun j u hj => ?_, Nat.le_trans H.lt hb.size⟩
  rw [Addr.add_lit, Nat.zero_add]
  exact (Own.made V 29 (actV X)).cell hj

theorem hurtsGo_cons (d m : Int) (r : Raw4) (l : List Raw4) (T : List Int) : hurtsGo d m (r :: l) T = if pick r.kind 12 < 5 then ⟨4, d, pick r.a m, 0, 0⟩ :: hurtsGo d m l T
    else if pick r.kind 12 < 11 ∧ pick r.a m ∉ T then ⟨5, d, pick r.a m, pick r.b 30, pick r.c 256⟩ :: hurtsGo d m l (pick r.a m :: T)
    else if pick r.kind 12 = 11 then ⟨6, d, 0, 0, 0⟩ :: hurtsGo d m l T
    else hurtsGo d m l T := rfl
/-- How far it is. -/
structure HtK (w : World) (R : List Raw4) (K M most k : Nat) (v : Value) (W : World) : Prop where
  ex : ∃ T L, HtI w T v L W ∧ L.length ≤ k ∧ hurtsGo K M (R.take most) [] = L ++ hurtsGo K M ((R.take most).drop k) T

/-- The same, with the row. -/
def OutActsO (w : World) (L : List Hact) (e : Ending) (w' : World) : Prop := ∃ x m cap, e = .returned (.slice x m cap) ∧ ActsAt w' x m L ∧ w'.ownsRow (w.heap.size + 1) 29 7 (.slice x m cap) L.length (actsV L) ∧ Below w.heap.size w w'

set_option maxHeartbeats 3200000 in
set_option maxRecDepth 8000 in
theorem hurts_own (a : Option Addr) (n c : Nat) (R : List Raw4) (K N most : Nat) (w : World) (H : RawsAt w a n R) (_hK : K < 3) (h1 : 16 ≤ N) (h2 : N ≤ 64) (hmost : most ≤ 100) :
    Calls Tryz.prog 15 #[.slice a n c, .int .i64 K, .int .i64 N, .int .i64 most] w (OutActsO w (hurtsOf R K N most)) := by
  obtain ⟨M, hM⟩ : ∃ M : Nat, M = if K = 2 then N / 2 else N := ⟨_, rfl⟩
  have hM1 : 1 ≤ M := by rw [hM]; split <;> omega
  have hM2 : M ≤ 64 := by rw [hM]; split <;> omega
  have hof : hurtsOf R K N most = hurtsGo K M (R.take most) [] := by
    rw [hurtsOf]
    congr 1
    rw [hM]
    by_cases e : K = 2
    · rw [if_pos e, if_pos (by omega)]; omega
    · rw [if_neg e, if_neg (by omega)]
  rw [hof]
  have mk : (Instr.makeMap 68 none).run Tryz.prog w = .ok (.map (some w.heap.size)) (w.alloc (.map #[] 0)) := run_makeMap_plain w _
  obtain ⟨W, hW⟩ : ∃ W, W = w.alloc (.map #[] 0) := ⟨_, rfl⟩
  have S0 : HtK w R K M most 0 (.slice none 0 0) W := by
    refine ⟨[], [], ⟨by rw [hW]; exact set_new w, World.ownsRow_nil _ _ _ _, by rw [hW]; simp, by rw [hW]; exact (Below.refl _ w).alloc (Nat.le_refl _) _⟩, Nat.le_refl _, by simp⟩
  have HS := hid S0
  have hnb := H.nb
  unfold maxLen at hnb
  have HH := hid (And.intro H H.len)
  rw [← hW] at mk
  clear S0 H hW hof
  go_enter Tryz.func15, Tryz.ntmps15
  go_upto_region 3 with fail
  clear mk
  by_cases e : K = 2
  · have e' : ((K : Int) == 2) = true := by rw [beq_iff_eq]; omega
    have hM3 : (N : Int) / 2 = (M : Int) := by rw [hM, if_pos e]; omega
    clear e hM
    go_wp2_with fail
    try rw [hM3]
    clear hM3
    go_loopw [9, 11] (fun v i wr => ∃ k : Nat, i = .int .i64 k ∧ k ≤ n ∧ k ≤ most ∧ Hid (HtK w R K M most k v wr)) (fun _ i _ => n - (intOf i).toNat)
    case atStart => exact ⟨0, rfl, Nat.zero_le _, Nat.zero_le _, HS.out⟩
    case round =>
      obtain ⟨k, rfl, hkn, hkm, HI⟩ := hrel
      clear HS
      by_cases hlt : k < n
      · have hlt' : (k : Int) < n := by omega
        by_cases hlm : k < most
        · have hlm' : (k : Int) < most := by omega
          obtain ⟨T, L, hI, hL1, hL2⟩ := HI.out.ex
          rw [drop_raw R most k (by rw [← HH.out.2]; exact hlt) hlm, hurtsGo_cons] at hL2
          rcases HH.out.1 with ⟨h0, _⟩ | ⟨b0, o0, rfl, HR⟩
          · omega
          have HR' := HR.below hI.below
          have r0 := HR'.c0 k hlt
          have r1 := HR'.c1 k hlt
          have r2 := HR'.c2 k hlt
          have r3 := HR'.c3 k hlt
          obtain ⟨q0, q1, q2, q3⟩ := HR.ok k hlt
          have HL := hid (And.intro hL1 hL2)
          clear HR HR' hL1 hL2 HI
          generalize raw R k = rr at r0 r1 r2 r3 q0 q1 q2 q3 HL
          obtain ⟨rk, ra, rb, rd⟩ := rr
          simp only at r0 r1 r2 r3 q0 q1 q2 q3 HL
          obtain ⟨V, hV⟩ : ∃ V, V = wr.alloc (.cells #[.int .i64 rk, .int .i64 ra, .int .i64 rb, .int .i64 rd] 70) := ⟨_, rfl⟩
          have bV : Below wr.heap.size wr V := by rw [hV]; exact (Below.refl _ wr).alloc (Nat.le_refl _) _
          have IV := hI.to bV
          have x0 : V.cell? ⟨wr.heap.size, 0, none⟩ = some (.int .i64 rk) := by rw [hV]; simp [go_sem]
          have x1 : V.cell? ⟨wr.heap.size, 1, none⟩ = some (.int .i64 ra) := by rw [hV]; simp [go_sem]
          have x2 : V.cell? ⟨wr.heap.size, 2, none⟩ = some (.int .i64 rb) := by rw [hV]; simp [go_sem]
          have x3 : V.cell? ⟨wr.heap.size, 3, none⟩ = some (.int .i64 rd) := by rw [hV]; simp [go_sem]
          have zV : wr.heap.size < V.heap.size := by rw [hV]; simp
          have HV := hid (And.intro IV (And.intro zV (And.intro (show ∀ b, u9.ownBlock = some b → b < wr.heap.size from fun b hb => (hI.own.lt b hb).2) (show w.heap.size < wr.heap.size from hI.lt))))
          have pu := pick_bd rk 12 (by omega)
          have pq := pick_bd ra M (by omega)
          obtain ⟨u, hu⟩ : ∃ u : Int, pick rk 12 = u := ⟨_, rfl⟩
          obtain ⟨q, hq⟩ : ∃ q : Int, pick ra M = q := ⟨_, rfl⟩
          rw [hu, hq] at HL
          rw [hu] at pu
          rw [hq] at pq
          clear hI IV bV zV
          go_upto_region 9 with fail
          rw [← hV]
          clear hV r0 r1 r2 r3
          generalize wr.heap.size = px at HV x0 x1 x2 x3 ⊢
          by_cases c5 : u < 5
          · rw [if_pos c5] at HL
            have JA := hid (show HtI w T u9 L (V.alloc (.cells #[.int .i64 4, .slice none 0 0, .string ⟨#[]⟩, .int .i64 (K : Int), .int .i64 q, .int .i64 0, .int .i64 0] 29)) ∧ (∀ j u, (actV ⟨4, K, q, 0, 0⟩)[j]? = some u → (V.alloc (.cells #[.int .i64 4, .slice none 0 0, .string ⟨#[]⟩, .int .i64 (K : Int), .int .i64 q, .int .i64 0, .int .i64 0] 29)).cell? ((⟨V.heap.size, 0, none⟩ : Addr).add j) = some u) ∧ w.heap.size + 1 ≤ (V.alloc (.cells #[.int .i64 4, .slice none 0 0, .string ⟨#[]⟩, .int .i64 (K : Int), .int .i64 q, .int .i64 0, .int .i64 0] 29)).heap.size from act_laid HV.out.1 ⟨4, K, q, 0, 0⟩)
            go_wp2_with (first | (go_at_call 24; refine (picked_gen _ _ _ (by assumption) (by omega)).mono ?_; rintro _ w9 ⟨rfl, h9⟩; (have h8 := h9.symm); subst h8) | (at_builtin; (refine wpList_appendA _ rfl (.tmp 45) (.tmp 49) rfl (w.heap.size + 1) u9 L ⟨4, K, q, 0, 0⟩ rfl JA.out.1.own ⟨V.heap.size, 0, none⟩ rfl JA.out.2.1 (by have := HL.out.1; omega) JA.out.2.2 ?_; intro g2 m2 cap2 w2 hm2 hown2 hgrow2; (have J2 := hid (JA.out.1.put hown2 hgrow2)); clear hown2 hgrow2 hm2)))
            go_roundw
            case rel => exact ⟨k + 1, by go_num, by omega, by omega, ⟨T, L ++ [⟨4, K, q, 0, 0⟩], J2.out, by have := HL.out.1; simp; omega, by rw [List.append_assoc]; exact HL.out.2⟩⟩
            case measure => simp [intOf]; omega
          · have c5' : ¬ u < 5 := c5
            rw [if_neg c5] at HL
            by_cases c11 : u < 11
            · have e11 : (u == 11) = false := by rw [beq_eq_false_iff_ne]; omega
              by_cases hT : q ∈ T
              · rw [if_neg (fun h => h.2 hT), if_neg (by omega)] at HL
                have hl := set_look HV.out.1.st q
                rw [decide_eq_true hT] at hl
                go_wp2_with (go_at_call 24; refine (picked_gen _ _ _ (by assumption) (by omega)).mono ?_; rintro _ w9 ⟨rfl, h9⟩; (have h8 := h9.symm); subst h8)
                go_roundw
                case rel => exact ⟨k + 1, by go_num, by omega, by omega, ⟨T, L, HV.out.1, by have := HL.out.1; omega, HL.out.2⟩⟩
                case measure => simp [intOf]; omega
              · rw [if_pos ⟨c11, hT⟩] at HL
                have hl := set_look HV.out.1.st q
                rw [decide_eq_false hT] at hl
                obtain ⟨V3, hp3, s3, g3⟩ := set_put HV.out.1.st q hT
                have I3 := HV.out.1.mark s3 g3
                have npx : w.heap.size ≠ px := by have := HV.out.2.2.2; omega
                have y2 := (World.cell?_of_block (a := ⟨px, 2, none⟩) (g3.block px HV.out.2.1 (fun e => npx (Option.some.inj e).symm))).trans x2
                have y3 := (World.cell?_of_block (a := ⟨px, 3, none⟩) (g3.block px HV.out.2.1 (fun e => npx (Option.some.inj e).symm))).trans x3
                have l3 : px < V3.heap.size := Nat.lt_of_lt_of_le HV.out.2.1 g3.size
                have AL := act_laid I3 ⟨5, K, q, pick rb 30, pick rd 256⟩
                have JB := hid (show HtI w (q :: T) u9 L ((V3.alloc (.cells #[.int .i64 5, .slice none 0 0, .string ⟨#[]⟩, .int .i64 (K : Int), .int .i64 q, .int .i64 (pick rb 30), .int .i64 (pick rd 256)] 29)).drew) ∧ (∀ j u, (actV ⟨5, K, q, pick rb 30, pick rd 256⟩)[j]? = some u → ((V3.alloc (.cells #[.int .i64 5, .slice none 0 0, .string ⟨#[]⟩, .int .i64 (K : Int), .int .i64 q, .int .i64 (pick rb 30), .int .i64 (pick rd 256)] 29)).drew).cell? ((⟨V3.heap.size, 0, none⟩ : Addr).add j) = some u) ∧ w.heap.size + 1 ≤ ((V3.alloc (.cells #[.int .i64 5, .slice none 0 0, .string ⟨#[]⟩, .int .i64 (K : Int), .int .i64 q, .int .i64 (pick rb 30), .int .i64 (pick rd 256)] 29)).drew).heap.size from ⟨AL.1.to ((Below.refl _ _).drew), AL.2.1, AL.2.2⟩)
                have z2 : ((V3.alloc (.cells #[.int .i64 5, .slice none 0 0, .string ⟨#[]⟩, .int .i64 (K : Int), .int .i64 q, .int .i64 (pick rb 30), .int .i64 (pick rd 256)] 29)).drew).cell? ⟨px, 2, none⟩ = some (.int .i64 rb) := (((Below.refl _ V3).alloc (Nat.le_refl _) _).drew.cell (p := ⟨px, 2, none⟩) l3).trans y2
                have z3 : ((V3.alloc (.cells #[.int .i64 5, .slice none 0 0, .string ⟨#[]⟩, .int .i64 (K : Int), .int .i64 q, .int .i64 (pick rb 30), .int .i64 (pick rd 256)] 29)).drew).cell? ⟨px, 3, none⟩ = some (.int .i64 rd) := (((Below.refl _ V3).alloc (Nat.le_refl _) _).drew.cell (p := ⟨px, 3, none⟩) l3).trans y3
                have HZ := hid (And.intro z2 (And.intro z3 (show px < ((V3.alloc (.cells #[.int .i64 5, .slice none 0 0, .string ⟨#[]⟩, .int .i64 (K : Int), .int .i64 q, .int .i64 (pick rb 30), .int .i64 (pick rd 256)] 29)).drew).heap.size from Nat.lt_of_lt_of_le l3 ((Below.refl V3.heap.size V3).alloc (Nat.le_refl _) _).size)))
                have n2 := World.new_ne V3 ⟨px, 2, none⟩ y2
                have n3 := World.new_ne V3 ⟨px, 3, none⟩ y3
                clear AL I3 s3 g3 z2 z3 l3
                go_upto_region 15 with (go_at_call 24; refine (picked_gen _ _ _ (by assumption) (by omega)).mono ?_; rintro _ w9 ⟨rfl, h9⟩; (have h8 := h9.symm); subst h8)
                clear hl hp3 x0 x1 x2 x3
                go_region_held3 (fun w' => w'.cell? ⟨px, 2, none⟩ = some (.int .i64 rb) ∧ w'.cell? ⟨px, 3, none⟩ = some (.int .i64 rd)) (go_keep)
                  (first | (go_at_call 24; refine (picked_gen _ _ _ (by assumption) (by omega)).mono ?_; rintro _ w9 ⟨rfl, h9⟩; (have h8 := h9.symm); subst h8) | (refine step_appendA rfl (.tmp 62) (.tmp 72) rfl (w.heap.size + 1) u9 L ⟨5, K, q, pick rb 30, pick rd 256⟩ rfl JB.out.1.own ⟨V3.heap.size, 0, none⟩ rfl JB.out.2.1 (by have := HL.out.1; omega) JB.out.2.2 ?_; intro g5 m5 cap5 w5 hm5 hown5 hgrow5; (have J5 := hid (JB.out.1.put hown5 hgrow5)); (have k2 := (World.cell?_of_block (a := ⟨px, 2, none⟩) (hgrow5.block px HZ.out.2.2 (fun e => by have := HV.out.2.2.1 px e.symm; omega))).trans HZ.out.1); (have k3 := (World.cell?_of_block (a := ⟨px, 3, none⟩) (hgrow5.block px HZ.out.2.2 (fun e => by have := HV.out.2.2.1 px e.symm; omega))).trans HZ.out.2.1); clear hown5 hgrow5 hm5))
                all_goals go_wp2
                all_goals go_roundw
                all_goals (first | (case rel => exact ⟨k + 1, by go_num, by omega, by omega, ⟨q :: T, L ++ [⟨5, K, q, pick rb 30, pick rd 256⟩], J5.out, by have := HL.out.1; simp; omega, by rw [List.append_assoc]; exact HL.out.2⟩⟩) | skip)
                all_goals (simp [intOf]; omega)
            · have e12 : u = 11 := by omega
              have e11 : (u == 11) = true := by rw [beq_iff_eq]; omega
              rw [if_neg (fun h => c11 h.1), if_pos e12] at HL
              clear e12
              have JA := hid (show HtI w T u9 L (V.alloc (.cells #[.int .i64 6, .slice none 0 0, .string ⟨#[]⟩, .int .i64 (K : Int), .int .i64 0, .int .i64 0, .int .i64 0] 29)) ∧ (∀ j u, (actV ⟨6, K, 0, 0, 0⟩)[j]? = some u → (V.alloc (.cells #[.int .i64 6, .slice none 0 0, .string ⟨#[]⟩, .int .i64 (K : Int), .int .i64 0, .int .i64 0, .int .i64 0] 29)).cell? ((⟨V.heap.size, 0, none⟩ : Addr).add j) = some u) ∧ w.heap.size + 1 ≤ (V.alloc (.cells #[.int .i64 6, .slice none 0 0, .string ⟨#[]⟩, .int .i64 (K : Int), .int .i64 0, .int .i64 0, .int .i64 0] 29)).heap.size from act_laid HV.out.1 ⟨6, K, 0, 0, 0⟩)
              go_wp2_with (first | (go_at_call 24; refine (picked_gen _ _ _ (by assumption) (by omega)).mono ?_; rintro _ w9 ⟨rfl, h9⟩; (have h8 := h9.symm); subst h8) | (at_builtin; (refine wpList_appendA _ rfl (.tmp 77) (.tmp 80) rfl (w.heap.size + 1) u9 L ⟨6, K, 0, 0, 0⟩ rfl JA.out.1.own ⟨V.heap.size, 0, none⟩ rfl JA.out.2.1 (by have := HL.out.1; omega) JA.out.2.2 ?_; intro g2 m2 cap2 w2 hm2 hown2 hgrow2; (have J2 := hid (JA.out.1.put hown2 hgrow2)); clear hown2 hgrow2 hm2)))
              go_roundw
              case rel => exact ⟨k + 1, by go_num, by omega, by omega, ⟨T, L ++ [⟨6, K, 0, 0, 0⟩], J2.out, by have := HL.out.1; simp; omega, by rw [List.append_assoc]; exact HL.out.2⟩⟩
              case measure => simp [intOf]; omega
        · have hlm' : ¬ (k : Int) < most := by omega
          obtain ⟨T, L, hI, hL1, hL2⟩ := HI.out.ex
          have e0 : (R.take most).drop k = [] := List.drop_eq_nil_of_le (by have := HH.out.2; simp; omega)
          rw [e0, show hurtsGo K M [] T = [] from rfl, List.append_nil] at hL2
          obtain ⟨xx, mm, cap, hv, hA⟩ := hI.acts (by omega)
          have HX := hid (And.intro hL2 (And.intro hA (And.intro hI.own hI.below)))
          subst hv
          clear hL2 hA hI e0 HI
          go_wp2
          go_ret
          exact ⟨xx, mm, cap, rfl, by rw [HX.out.1]; exact HX.out.2.1, by rw [HX.out.1]; exact HX.out.2.2.1, HX.out.2.2.2⟩
      · have hlt' : ¬ (k : Int) < n := by omega
        obtain ⟨T, L, hI, hL1, hL2⟩ := HI.out.ex
        have e0 : (R.take most).drop k = [] := List.drop_eq_nil_of_le (by have := HH.out.2; simp; omega)
        rw [e0, show hurtsGo K M [] T = [] from rfl, List.append_nil] at hL2
        obtain ⟨xx, mm, cap, hv, hA⟩ := hI.acts (by omega)
        have HX := hid (And.intro hL2 (And.intro hA (And.intro hI.own hI.below)))
        subst hv
        clear hL2 hA hI e0 HI
        go_wp2
        go_ret
        exact ⟨xx, mm, cap, rfl, by rw [HX.out.1]; exact HX.out.2.1, by rw [HX.out.1]; exact HX.out.2.2.1, HX.out.2.2.2⟩
  · have e' : ((K : Int) == 2) = false := by rw [beq_eq_false_iff_ne]; omega
    obtain rfl : M = N := by rw [hM, if_neg e]
    clear e hM
    go_wp2_with fail
    go_loopw [9, 11] (fun v i wr => ∃ k : Nat, i = .int .i64 k ∧ k ≤ n ∧ k ≤ most ∧ Hid (HtK w R K M most k v wr)) (fun _ i _ => n - (intOf i).toNat)
    case atStart => exact ⟨0, rfl, Nat.zero_le _, Nat.zero_le _, HS.out⟩
    case round =>
      obtain ⟨k, rfl, hkn, hkm, HI⟩ := hrel
      clear HS
      by_cases hlt : k < n
      · have hlt' : (k : Int) < n := by omega
        by_cases hlm : k < most
        · have hlm' : (k : Int) < most := by omega
          obtain ⟨T, L, hI, hL1, hL2⟩ := HI.out.ex
          rw [drop_raw R most k (by rw [← HH.out.2]; exact hlt) hlm, hurtsGo_cons] at hL2
          rcases HH.out.1 with ⟨h0, _⟩ | ⟨b0, o0, rfl, HR⟩
          · omega
          have HR' := HR.below hI.below
          have r0 := HR'.c0 k hlt
          have r1 := HR'.c1 k hlt
          have r2 := HR'.c2 k hlt
          have r3 := HR'.c3 k hlt
          obtain ⟨q0, q1, q2, q3⟩ := HR.ok k hlt
          have HL := hid (And.intro hL1 hL2)
          clear HR HR' hL1 hL2 HI
          generalize raw R k = rr at r0 r1 r2 r3 q0 q1 q2 q3 HL
          obtain ⟨rk, ra, rb, rd⟩ := rr
          simp only at r0 r1 r2 r3 q0 q1 q2 q3 HL
          obtain ⟨V, hV⟩ : ∃ V, V = wr.alloc (.cells #[.int .i64 rk, .int .i64 ra, .int .i64 rb, .int .i64 rd] 70) := ⟨_, rfl⟩
          have bV : Below wr.heap.size wr V := by rw [hV]; exact (Below.refl _ wr).alloc (Nat.le_refl _) _
          have IV := hI.to bV
          have x0 : V.cell? ⟨wr.heap.size, 0, none⟩ = some (.int .i64 rk) := by rw [hV]; simp [go_sem]
          have x1 : V.cell? ⟨wr.heap.size, 1, none⟩ = some (.int .i64 ra) := by rw [hV]; simp [go_sem]
          have x2 : V.cell? ⟨wr.heap.size, 2, none⟩ = some (.int .i64 rb) := by rw [hV]; simp [go_sem]
          have x3 : V.cell? ⟨wr.heap.size, 3, none⟩ = some (.int .i64 rd) := by rw [hV]; simp [go_sem]
          have zV : wr.heap.size < V.heap.size := by rw [hV]; simp
          have HV := hid (And.intro IV (And.intro zV (And.intro (show ∀ b, u9.ownBlock = some b → b < wr.heap.size from fun b hb => (hI.own.lt b hb).2) (show w.heap.size < wr.heap.size from hI.lt))))
          have pu := pick_bd rk 12 (by omega)
          have pq := pick_bd ra M (by omega)
          obtain ⟨u, hu⟩ : ∃ u : Int, pick rk 12 = u := ⟨_, rfl⟩
          obtain ⟨q, hq⟩ : ∃ q : Int, pick ra M = q := ⟨_, rfl⟩
          rw [hu, hq] at HL
          rw [hu] at pu
          rw [hq] at pq
          clear hI IV bV zV
          go_upto_region 9 with fail
          rw [← hV]
          clear hV r0 r1 r2 r3
          generalize wr.heap.size = px at HV x0 x1 x2 x3 ⊢
          by_cases c5 : u < 5
          · rw [if_pos c5] at HL
            have JA := hid (show HtI w T u9 L (V.alloc (.cells #[.int .i64 4, .slice none 0 0, .string ⟨#[]⟩, .int .i64 (K : Int), .int .i64 q, .int .i64 0, .int .i64 0] 29)) ∧ (∀ j u, (actV ⟨4, K, q, 0, 0⟩)[j]? = some u → (V.alloc (.cells #[.int .i64 4, .slice none 0 0, .string ⟨#[]⟩, .int .i64 (K : Int), .int .i64 q, .int .i64 0, .int .i64 0] 29)).cell? ((⟨V.heap.size, 0, none⟩ : Addr).add j) = some u) ∧ w.heap.size + 1 ≤ (V.alloc (.cells #[.int .i64 4, .slice none 0 0, .string ⟨#[]⟩, .int .i64 (K : Int), .int .i64 q, .int .i64 0, .int .i64 0] 29)).heap.size from act_laid HV.out.1 ⟨4, K, q, 0, 0⟩)
            go_wp2_with (first | (go_at_call 24; refine (picked_gen _ _ _ (by assumption) (by omega)).mono ?_; rintro _ w9 ⟨rfl, h9⟩; (have h8 := h9.symm); subst h8) | (at_builtin; (refine wpList_appendA _ rfl (.tmp 45) (.tmp 49) rfl (w.heap.size + 1) u9 L ⟨4, K, q, 0, 0⟩ rfl JA.out.1.own ⟨V.heap.size, 0, none⟩ rfl JA.out.2.1 (by have := HL.out.1; omega) JA.out.2.2 ?_; intro g2 m2 cap2 w2 hm2 hown2 hgrow2; (have J2 := hid (JA.out.1.put hown2 hgrow2)); clear hown2 hgrow2 hm2)))
            go_roundw
            case rel => exact ⟨k + 1, by go_num, by omega, by omega, ⟨T, L ++ [⟨4, K, q, 0, 0⟩], J2.out, by have := HL.out.1; simp; omega, by rw [List.append_assoc]; exact HL.out.2⟩⟩
            case measure => simp [intOf]; omega
          · have c5' : ¬ u < 5 := c5
            rw [if_neg c5] at HL
            by_cases c11 : u < 11
            · have e11 : (u == 11) = false := by rw [beq_eq_false_iff_ne]; omega
              by_cases hT : q ∈ T
              · rw [if_neg (fun h => h.2 hT), if_neg (by omega)] at HL
                have hl := set_look HV.out.1.st q
                rw [decide_eq_true hT] at hl
                go_wp2_with (go_at_call 24; refine (picked_gen _ _ _ (by assumption) (by omega)).mono ?_; rintro _ w9 ⟨rfl, h9⟩; (have h8 := h9.symm); subst h8)
                go_roundw
                case rel => exact ⟨k + 1, by go_num, by omega, by omega, ⟨T, L, HV.out.1, by have := HL.out.1; omega, HL.out.2⟩⟩
                case measure => simp [intOf]; omega
              · rw [if_pos ⟨c11, hT⟩] at HL
                have hl := set_look HV.out.1.st q
                rw [decide_eq_false hT] at hl
                obtain ⟨V3, hp3, s3, g3⟩ := set_put HV.out.1.st q hT
                have I3 := HV.out.1.mark s3 g3
                have npx : w.heap.size ≠ px := by have := HV.out.2.2.2; omega
                have y2 := (World.cell?_of_block (a := ⟨px, 2, none⟩) (g3.block px HV.out.2.1 (fun e => npx (Option.some.inj e).symm))).trans x2
                have y3 := (World.cell?_of_block (a := ⟨px, 3, none⟩) (g3.block px HV.out.2.1 (fun e => npx (Option.some.inj e).symm))).trans x3
                have l3 : px < V3.heap.size := Nat.lt_of_lt_of_le HV.out.2.1 g3.size
                have AL := act_laid I3 ⟨5, K, q, pick rb 30, pick rd 256⟩
                have JB := hid (show HtI w (q :: T) u9 L ((V3.alloc (.cells #[.int .i64 5, .slice none 0 0, .string ⟨#[]⟩, .int .i64 (K : Int), .int .i64 q, .int .i64 (pick rb 30), .int .i64 (pick rd 256)] 29)).drew) ∧ (∀ j u, (actV ⟨5, K, q, pick rb 30, pick rd 256⟩)[j]? = some u → ((V3.alloc (.cells #[.int .i64 5, .slice none 0 0, .string ⟨#[]⟩, .int .i64 (K : Int), .int .i64 q, .int .i64 (pick rb 30), .int .i64 (pick rd 256)] 29)).drew).cell? ((⟨V3.heap.size, 0, none⟩ : Addr).add j) = some u) ∧ w.heap.size + 1 ≤ ((V3.alloc (.cells #[.int .i64 5, .slice none 0 0, .string ⟨#[]⟩, .int .i64 (K : Int), .int .i64 q, .int .i64 (pick rb 30), .int .i64 (pick rd 256)] 29)).drew).heap.size from ⟨AL.1.to ((Below.refl _ _).drew), AL.2.1, AL.2.2⟩)
                have z2 : ((V3.alloc (.cells #[.int .i64 5, .slice none 0 0, .string ⟨#[]⟩, .int .i64 (K : Int), .int .i64 q, .int .i64 (pick rb 30), .int .i64 (pick rd 256)] 29)).drew).cell? ⟨px, 2, none⟩ = some (.int .i64 rb) := (((Below.refl _ V3).alloc (Nat.le_refl _) _).drew.cell (p := ⟨px, 2, none⟩) l3).trans y2
                have z3 : ((V3.alloc (.cells #[.int .i64 5, .slice none 0 0, .string ⟨#[]⟩, .int .i64 (K : Int), .int .i64 q, .int .i64 (pick rb 30), .int .i64 (pick rd 256)] 29)).drew).cell? ⟨px, 3, none⟩ = some (.int .i64 rd) := (((Below.refl _ V3).alloc (Nat.le_refl _) _).drew.cell (p := ⟨px, 3, none⟩) l3).trans y3
                have HZ := hid (And.intro z2 (And.intro z3 (show px < ((V3.alloc (.cells #[.int .i64 5, .slice none 0 0, .string ⟨#[]⟩, .int .i64 (K : Int), .int .i64 q, .int .i64 (pick rb 30), .int .i64 (pick rd 256)] 29)).drew).heap.size from Nat.lt_of_lt_of_le l3 ((Below.refl V3.heap.size V3).alloc (Nat.le_refl _) _).size)))
                have n2 := World.new_ne V3 ⟨px, 2, none⟩ y2
                have n3 := World.new_ne V3 ⟨px, 3, none⟩ y3
                clear AL I3 s3 g3 z2 z3 l3
                go_upto_region 15 with (go_at_call 24; refine (picked_gen _ _ _ (by assumption) (by omega)).mono ?_; rintro _ w9 ⟨rfl, h9⟩; (have h8 := h9.symm); subst h8)
                clear hl hp3 x0 x1 x2 x3
                go_region_held3 (fun w' => w'.cell? ⟨px, 2, none⟩ = some (.int .i64 rb) ∧ w'.cell? ⟨px, 3, none⟩ = some (.int .i64 rd)) (go_keep)
                  (first | (go_at_call 24; refine (picked_gen _ _ _ (by assumption) (by omega)).mono ?_; rintro _ w9 ⟨rfl, h9⟩; (have h8 := h9.symm); subst h8) | (refine step_appendA rfl (.tmp 62) (.tmp 72) rfl (w.heap.size + 1) u9 L ⟨5, K, q, pick rb 30, pick rd 256⟩ rfl JB.out.1.own ⟨V3.heap.size, 0, none⟩ rfl JB.out.2.1 (by have := HL.out.1; omega) JB.out.2.2 ?_; intro g5 m5 cap5 w5 hm5 hown5 hgrow5; (have J5 := hid (JB.out.1.put hown5 hgrow5)); (have k2 := (World.cell?_of_block (a := ⟨px, 2, none⟩) (hgrow5.block px HZ.out.2.2 (fun e => by have := HV.out.2.2.1 px e.symm; omega))).trans HZ.out.1); (have k3 := (World.cell?_of_block (a := ⟨px, 3, none⟩) (hgrow5.block px HZ.out.2.2 (fun e => by have := HV.out.2.2.1 px e.symm; omega))).trans HZ.out.2.1); clear hown5 hgrow5 hm5))
                all_goals go_wp2
                all_goals go_roundw
                all_goals (first | (case rel => exact ⟨k + 1, by go_num, by omega, by omega, ⟨q :: T, L ++ [⟨5, K, q, pick rb 30, pick rd 256⟩], J5.out, by have := HL.out.1; simp; omega, by rw [List.append_assoc]; exact HL.out.2⟩⟩) | skip)
                all_goals (simp [intOf]; omega)
            · have e12 : u = 11 := by omega
              have e11 : (u == 11) = true := by rw [beq_iff_eq]; omega
              rw [if_neg (fun h => c11 h.1), if_pos e12] at HL
              clear e12
              have JA := hid (show HtI w T u9 L (V.alloc (.cells #[.int .i64 6, .slice none 0 0, .string ⟨#[]⟩, .int .i64 (K : Int), .int .i64 0, .int .i64 0, .int .i64 0] 29)) ∧ (∀ j u, (actV ⟨6, K, 0, 0, 0⟩)[j]? = some u → (V.alloc (.cells #[.int .i64 6, .slice none 0 0, .string ⟨#[]⟩, .int .i64 (K : Int), .int .i64 0, .int .i64 0, .int .i64 0] 29)).cell? ((⟨V.heap.size, 0, none⟩ : Addr).add j) = some u) ∧ w.heap.size + 1 ≤ (V.alloc (.cells #[.int .i64 6, .slice none 0 0, .string ⟨#[]⟩, .int .i64 (K : Int), .int .i64 0, .int .i64 0, .int .i64 0] 29)).heap.size from act_laid HV.out.1 ⟨6, K, 0, 0, 0⟩)
              go_wp2_with (first | (go_at_call 24; refine (picked_gen _ _ _ (by assumption) (by omega)).mono ?_; rintro _ w9 ⟨rfl, h9⟩; (have h8 := h9.symm); subst h8) | (at_builtin; (refine wpList_appendA _ rfl (.tmp 77) (.tmp 80) rfl (w.heap.size + 1) u9 L ⟨6, K, 0, 0, 0⟩ rfl JA.out.1.own ⟨V.heap.size, 0, none⟩ rfl JA.out.2.1 (by have := HL.out.1; omega) JA.out.2.2 ?_; intro g2 m2 cap2 w2 hm2 hown2 hgrow2; (have J2 := hid (JA.out.1.put hown2 hgrow2)); clear hown2 hgrow2 hm2)))
              go_roundw
              case rel => exact ⟨k + 1, by go_num, by omega, by omega, ⟨T, L ++ [⟨6, K, 0, 0, 0⟩], J2.out, by have := HL.out.1; simp; omega, by rw [List.append_assoc]; exact HL.out.2⟩⟩
              case measure => simp [intOf]; omega
        · have hlm' : ¬ (k : Int) < most := by omega
          obtain ⟨T, L, hI, hL1, hL2⟩ := HI.out.ex
          have e0 : (R.take most).drop k = [] := List.drop_eq_nil_of_le (by have := HH.out.2; simp; omega)
          rw [e0, show hurtsGo K M [] T = [] from rfl, List.append_nil] at hL2
          obtain ⟨xx, mm, cap, hv, hA⟩ := hI.acts (by omega)
          have HX := hid (And.intro hL2 (And.intro hA (And.intro hI.own hI.below)))
          subst hv
          clear hL2 hA hI e0 HI
          go_wp2
          go_ret
          exact ⟨xx, mm, cap, rfl, by rw [HX.out.1]; exact HX.out.2.1, by rw [HX.out.1]; exact HX.out.2.2.1, HX.out.2.2.2⟩
      · have hlt' : ¬ (k : Int) < n := by omega
        obtain ⟨T, L, hI, hL1, hL2⟩ := HI.out.ex
        have e0 : (R.take most).drop k = [] := List.drop_eq_nil_of_le (by have := HH.out.2; simp; omega)
        rw [e0, show hurtsGo K M [] T = [] from rfl, List.append_nil] at hL2
        obtain ⟨xx, mm, cap, hv, hA⟩ := hI.acts (by omega)
        have HX := hid (And.intro hL2 (And.intro hA (And.intro hI.own hI.below)))
        subst hv
        clear hL2 hA hI e0 HI
        go_wp2
        go_ret
        exact ⟨xx, mm, cap, rfl, by rw [HX.out.1]; exact HX.out.2.1, by rw [HX.out.1]; exact HX.out.2.2.1, HX.out.2.2.2⟩
end Go.Proofs.YtahoagbaadnihabGreatDoor
