/- Joined texts: KeepPow, KeepMap. -/
import Derived.Test.YtpnmidkocmokeaaGreatDoorKeepHurt
import Derived.MapKept
import Derived.WideMake
import Derived.Deep.RegionLaw
/- From the listed variables to the table; acts that a call lays. -/
namespace Go.Proofs.YtpnmidkocmokeaaGreatDoor
open Go.RowKit Go.Lib

theorem tab_data : (Rows.laid_internal_strconv_uint64pow10 : DataW Unit) = tabData .u64 pow10Tab := by kernel_rfl
theorem pow_tab {W : World} {g : Nat} {t : TypeId} {cs : Array Value} {fuel : Nat} {p : List MemPlace} (hg : Tryz.prog.globalNamed "internal/strconv.uint64pow10" = some g) (ht : (Tryz.prog.globals[g]?).map (·.type) = some t) (hv : W.var? Tryz.prog "internal/strconv.uint64pow10" = some cs)
    (hd : DataW.trod (H := Unit) (fun _ => ()) Tryz.prog W 0 (fun _ => true) false fuel t cs.toList = some (Rows.laid_internal_strconv_uint64pow10, p)) : Pow W := by
  rw [tab_data] at hd
  have e1 : Tryz.prog.globalNamed "internal/strconv.uint64pow10" = some 1 := by kernel_rfl
  obtain rfl := Option.some.inj (hg.symm.trans e1)
  have e2 : (Tryz.prog.globals[1]?).map (·.type) = some 157 := by kernel_rfl
  obtain rfl := Option.some.inj (ht.symm.trans e2)
  have := cells_of_tab Tryz.underlying157 Tryz.underlying114 (by kernel_rfl) (by kernel_rfl) hd
  unfold Pow TabIs
  rw [hv, ← this]
theorem pow_laid {W : World} {x1 x2 : String × DataW Unit} (h : laidMet Tryz.prog [x1, x2, ("internal/strconv.uint64pow10", Rows.laid_internal_strconv_uint64pow10)] W) : Pow W := by
  obtain ⟨ps, h0, _⟩ := h
  obtain ⟨n1, d1⟩ := x1
  obtain ⟨n2, d2⟩ := x2
  obtain ⟨_, _, _, _, _, _, _, _, _, _, h1, _⟩ := h0
  obtain ⟨_, _, _, _, _, _, _, _, _, _, h2, _⟩ := h1
  obtain ⟨g, t, cs, fuel, p, q, hg, ht, hv, hd, _, _⟩ := h2
  exact pow_tab hg ht hv hd

/-- An act's seven cells. -/
def actV (x : Hact) : List Value := [.int .i64 x.kind, .slice none 0 0, .string ⟨#[]⟩, .int .i64 x.d, .int .i64 x.n, .int .i64 x.at_, .int .i64 x.by_]
def actsV (L : List Hact) : List Value := L.flatMap actV
theorem actsV_at (L : List Hact) : ∀ (i : Nat), i < L.length → ∀ j, j < 7 → (actsV L)[i * 7 + j]? = (actV (act L i))[j]? := by
  induction L with
  | nil => intro i hi; exact absurd hi (Nat.not_lt_zero _)
  | cons x L ih =>
    intro i hi j hj
    have e : actsV (x :: L) = actV x ++ actsV L := rfl
    rw [e]
    cases i with
    | zero =>
      rw [Nat.zero_mul, Nat.zero_add, List.getElem?_append_left (by show j < 7; exact hj)]
      rfl
    | succ i =>
      have := ih i (by simpa using hi) j hj
      rw [List.getElem?_append_right (by show 7 ≤ _; omega), show (i + 1) * 7 + j - (actV x).length = i * 7 + j by show (i + 1) * 7 + j - 7 = _; omega, this]
      simp [act]
/-- Acts that stand at the head of a block. -/
theorem acts_cells {w : World} {b : Nat} {L : List Hact} (h : ∀ j u, (actsV L)[j]? = some u → w.cell? ⟨b, j, none⟩ = some u) (hlt : b < w.heap.size) (hL : L.length ≤ maxLen) : Acts w b 0 L.length L := by
  have at_ : ∀ i, i < L.length → ∀ j v, j < 7 → (actV (act L i))[j]? = some v → w.cell? ⟨b, 0 + i * 7 + j, none⟩ = some v := fun i hi j v hj hv => by
    rw [Nat.zero_add]
    exact h _ _ ((actsV_at L i hi j hj).trans hv)
  exact ⟨rfl, hL, hlt, fun i hi => at_ i hi 0 _ (by omega) rfl, fun i hi => at_ i hi 1 _ (by omega) rfl, fun i hi => at_ i hi 2 _ (by omega) rfl, fun i hi => at_ i hi 3 _ (by omega) rfl, fun i hi => at_ i hi 4 _ (by omega) rfl, fun i hi => at_ i hi 5 _ (by omega) rfl, fun i hi => at_ i hi 6 _ (by omega) rfl⟩
theorem acts_own {w : World} {b : Nat} {t : TypeId} {L : List Hact} (h : Own w b t (actsV L)) (hL : L.length ≤ maxLen) : Acts w b 0 L.length L := acts_cells (fun _ _ hj => h.cell hj) h.lt hL
theorem acts_made (w : World) (L : List Hact) (hL : L.length ≤ maxLen) : ActsAt (w.alloc (.cells (actsV L).toArray 54)) (some ⟨w.heap.size, 0, none⟩) L.length L := .inr ⟨_, 0, rfl, acts_own (Own.made w 54 (actsV L)) hL⟩
end Go.Proofs.YtpnmidkocmokeaaGreatDoor

/- A set of numbers as a map; a row of acts that grows. -/
namespace Go.Proofs.YtpnmidkocmokeaaGreatDoor
open Go.RowKit Go.Lib Go.MapKept

/-- The map's keys are these numbers, each with true. -/
def SetIs (w : World) (r : Nat) (T : List Int) : Prop :=
  ∃ es clock, w.heap[r]? = some (.map es clock) ∧ (∀ x ∈ es.toList, ∃ n, x.key = .int .i64 n ∧ x.val = .bool true ∧ n ∈ T) ∧ ∀ n ∈ T, ∃ x ∈ es.toList, x.key = .int .i64 n
theorem SetIs.of_block {w w' : World} {r : Nat} {T : List Int} (h : SetIs w r T) (e : w'.heap[r]? = w.heap[r]?) : SetIs w' r T := by
  obtain ⟨es, c, h1, h2⟩ := h
  exact ⟨es, c, e.trans h1, h2⟩
theorem SetIs.lt {w : World} {r : Nat} {T : List Int} (h : SetIs w r T) : r < w.heap.size := by
  obtain ⟨es, c, h1, _⟩ := h
  exact lt_of_block h1
theorem set_new (w : World) : SetIs (w.alloc (.map #[] 0)) w.heap.size [] := ⟨#[], 0, heap_alloc_new w _, fun x hx => by simp at hx, fun n hn => by cases hn⟩
theorem set_keys {es : Array MapEntry} {T : List Int} (h : ∀ x ∈ es.toList, ∃ n, x.key = .int .i64 n ∧ x.val = .bool true ∧ n ∈ T) : ∀ x ∈ es.toList, IsKey (.int .i64) x.key := fun x hx => by
  obtain ⟨n, h1, _⟩ := h x hx
  rw [h1]; exact rfl
theorem set_look {w : World} {r : Nat} {T : List Int} (h : SetIs w r T) (n : Int) : (Instr.lookup 63 (.map (some r)) (.int .i64 n) false).run Tryz.prog w = .ok (.bool (decide (n ∈ T))) w := by
  obtain ⟨es, c, h1, h2, h3⟩ := h
  have hz : (zeroValue 4).run Tryz.prog w = .ok (.bool false) w := by simp [go_sem, Tryz.zeroValue4]
  have hk : IsKey (.int .i64) (.int .i64 n) := rfl
  rcases findNow_spec hk es.toList 0 (set_keys h2) with ⟨f1, f2⟩ | ⟨j, e, f1, f2, f3⟩
  · have hn : n ∉ T := fun hn => by obtain ⟨x, hx, hxk⟩ := h3 n hn; exact f2 x hx hxk
    simp [Instr.lookup, run_underlying Tryz.underlying63, Go.MapKept.run_getObj_map h1, Go.MapKept.run_checkKey Tryz.underlying3 hk, Go.MapKept.run_findKey Tryz.underlying3 f1, Result.andThen, hz, hn]
  · obtain ⟨m, k1, k2, k3⟩ := h2 e (List.mem_of_getElem? f2)
    have hm : m = n := by rw [k1] at f3; cases f3; rfl
    subst hm
    simp [Instr.lookup, run_underlying Tryz.underlying63, Go.MapKept.run_getObj_map h1, Go.MapKept.run_checkKey Tryz.underlying3 hk, Go.MapKept.run_findKey Tryz.underlying3 f1, Result.andThen, k2, k3]
theorem set_put {w : World} {r : Nat} {T : List Int} (h : SetIs w r T) (n : Int) (hn : n ∉ T) : ∃ w', (Instr.mapUpdate 63 (.map (some r)) (.int .i64 n) (.bool true)).run Tryz.prog w = .ok () w' ∧ SetIs w' r (n :: T) ∧ w.grownBy w' (some r) := by
  obtain ⟨es, c, h1, h2, h3⟩ := h
  have hk : IsKey (.int .i64) (.int .i64 n) := rfl
  rcases findNow_spec hk es.toList 0 (set_keys h2) with ⟨f1, f2⟩ | ⟨j, e, f1, f2, f3⟩
  · refine ⟨{ w with heap := w.heap.setIfInBounds r (.map (es.push ⟨.int .i64 n, .bool true, c⟩) (c + 1)) }, ?_, ⟨_, _, (heap_set h1).1, fun x hx => ?_, fun m hm => ?_⟩, ⟨rfl, rfl, rfl, by simp, fun k _ hk2 => (heap_set h1).2 k (fun e => hk2 (by rw [e]))⟩⟩
    · simp [Instr.mapUpdate, run_underlying Tryz.underlying63, Go.MapKept.run_getObj_map h1, Go.MapKept.run_checkKey Tryz.underlying3 hk, Go.MapKept.run_findKey Tryz.underlying3 f1, Go.MapKept.run_setObj_map _ h1, Result.andThen]
    · simp only [Array.toList_push, List.mem_append, List.mem_singleton] at hx
      rcases hx with hx | rfl
      · obtain ⟨m, k1, k2, k3⟩ := h2 x hx
        exact ⟨m, k1, k2, List.mem_cons_of_mem _ k3⟩
      · exact ⟨n, rfl, rfl, List.mem_cons_self⟩
    · simp only [Array.toList_push, List.mem_append, List.mem_singleton]
      rcases List.mem_cons.1 hm with rfl | hm
      · exact ⟨_, .inr rfl, rfl⟩
      · obtain ⟨x, hx, hxk⟩ := h3 m hm
        exact ⟨x, .inl hx, hxk⟩
  · obtain ⟨m, k1, _, k3⟩ := h2 e (List.mem_of_getElem? f2)
    rw [k1] at f3; cases f3
    exact absurd k3 hn

theorem info_act : (Tryz.prog.info? 54).map (fun i => (i.zero, i.size, i.bytes)) = some (some (.agg #[.int .i64 0, .slice none 0 0, .string ⟨#[]⟩, .int .i64 0, .int .i64 0, .int .i64 0, .int .i64 0]), 7, 80) := by kernel_rfl
theorem actV_one (X : Hact) : ∀ u ∈ actV X, u.oneCell' = true := by
  intro u hu
  simp only [actV, List.mem_cons, List.not_mem_nil, or_false] at hu
  rcases hu with rfl | rfl | rfl | rfl | rfl | rfl | rfl <;> rfl
theorem actsV_snoc (L : List Hact) (X : Hact) : actsV (L ++ [X]) = actsV L ++ actV X := by simp [actsV]
/-- append of one act. -/
theorem wpList_appendA (w : World) {ops : Array Oper} {rest : List Oper} {o : Oper} {a : Act} {Q : Exit → Act → World → Prop} (hgd : o.guard = none) (s x : Operand)
    (ho : o.op = .call { callee := .builtin .append, args := #[s, x], argTypes := #[31, 31] })
    (base : Nat) (v : Value) (L : List Hact) (X : Hact) (hs : a.eval s = v) (hown : w.ownsRow base 54 7 v L.length (actsV L))
    (ad : Addr) (hx : a.eval x = .slice (some ad) 1 1) (hu : ∀ j u, (actV X)[j]? = some u → w.cell? (ad.add j) = some u) (hbd : L.length ≤ 1000) (hbase : base ≤ w.heap.size)
    (h : ∀ g m cap w', Hid (m = (L ++ [X]).length) → w'.ownsRow base 54 7 (.slice (some ⟨g, 0, none⟩) m cap) (L ++ [X]).length (actsV (L ++ [X])) → w.grownBy w' v.ownBlock → wpList Tryz.prog ops Q rest (a.put o.dst (.slice (some ⟨g, 0, none⟩) m cap)) w') :
    wpList Tryz.prog ops Q (o :: rest) a w := by
  obtain ⟨i0, hi, hz0, hz1, hz2⟩ := info_parts info_act
  refine wpList_append_own w hgd s x 31 ho base 54 i0 _ 7 80 Tryz.underlying31 hi hz0 hz1 hz2 rfl (by decide) v L.length (actsV L) hs hown ad 1 1 (actV X) hx rfl hu (actV_one X) (by unfold maxLen; omega) (by omega) hbase ?_
  intro v' w' r1 r2 _
  rw [← actsV_snoc, show L.length + 1 = (L ++ [X]).length by simp] at r1
  obtain ⟨g, cap, rfl, hg⟩ := owns_form r1 (by simp)
  exact h g _ cap w' rfl r1 r2
theorem step_appendA {ops : Array Oper} {o : Oper} {a : Act} {w : World} {K : Act → World → Prop} {Q : Exit → Act → World → Prop} {E : Prop}
    (hg : o.guard = none) (sl x : Operand) (hop : o.op = Op.call { callee := Callee.builtin Builtin.append, args := #[sl, x], argTypes := #[31, 31] })
    (base : Nat) (v : Value) (L : List Hact) (X : Hact) (hs : a.eval sl = v) (hown : w.ownsRow base 54 7 v L.length (actsV L)) (ad : Addr) (hx : a.eval x = .slice (some ad) 1 1) (hu : ∀ j u, (actV X)[j]? = some u → w.cell? (ad.add j) = some u)
    (hbd : L.length ≤ 1000) (hbase : base ≤ w.heap.size)
    (hK : ∀ g m cap w', Hid (m = (L ++ [X]).length) → w'.ownsRow base 54 7 (.slice (some ⟨g, 0, none⟩) m cap) (L ++ [X]).length (actsV (L ++ [X])) → w.grownBy w' v.ownBlock → K (a.put o.dst (.slice (some ⟨g, 0, none⟩) m cap)) w') :
    if Region.wanted o (yielded ops a.tmps) = true then Oper.wp Tryz.prog o a w K Q else E := by
  obtain ⟨i0, hi, hz0, hz1, hz2⟩ := info_parts info_act
  have hw : Region.wanted o (yielded ops a.tmps) = true := by simp [Region.wanted, hg]
  rw [if_pos hw]
  obtain ⟨v', w', hrun, r1, r2, _⟩ := run_append_own (P := Tryz.prog) w base 31 o.type 54 i0 _ 7 80 Tryz.underlying31 hi hz0 hz1 hz2 rfl (by decide) v L.length (actsV L) hown ad 1 1 (actV X) rfl hu (actV_one X) (by unfold maxLen; omega) (by omega) hbase
  unfold Oper.wp
  simp [execOp, hop, resolve, invoke, builtin, hs, hx, hrun, Result.andThen]
  rw [← actsV_snoc, show L.length + 1 = (L ++ [X]).length by simp] at r1
  obtain ⟨g, cap, rfl, hg⟩ := owns_form r1 (by simp)
  exact hK g _ cap w' rfl r1 r2

/-- While acts are made: the set, the row. -/
structure HtI (w : World) (T : List Int) (v : Value) (L : List Hact) (W : World) : Prop where
  st : SetIs W w.heap.size T
  own : W.ownsRow (w.heap.size + 1) 54 7 v L.length (actsV L)
  lt : w.heap.size + 1 ≤ W.heap.size
  below : Below w.heap.size w W
section
variable {w W W' : World} {T : List Int} {v : Value} {L : List Hact}
theorem HtI.to (H : HtI w T v L W) (g : Below W.heap.size W W') : HtI w T v L W' := by
  refine ⟨H.st.of_block (g.block _ H.st.lt), ?_, Nat.le_trans H.lt g.size, bel3 H.below g⟩
  refine H.own.kept ⟨g.os, g.tape, g.output, g.size, fun k hk _ => g.block k hk⟩ (row := none) ?_
  cases v.ownBlock
  · exact .inl rfl
  · exact .inr (by simp)
theorem HtI.put (H : HtI w T v L W) {v' : Value} {L' : List Hact} (ho : W'.ownsRow (w.heap.size + 1) 54 7 v' L'.length (actsV L')) (g : W.grownBy W' v.ownBlock) : HtI w T v' L' W' :=
  ⟨H.st.of_block (g.block _ H.st.lt (fun e => by have := (H.own.lt _ e.symm).1; omega)), ho, Nat.le_trans H.lt g.size, H.below.grown g H.below.size (fun b hb => by have := (H.own.lt b hb).1; omega)⟩
theorem HtI.mark (H : HtI w T v L W) {T' : List Int} (hs : SetIs W' w.heap.size T') (g : W.grownBy W' (some w.heap.size)) : HtI w T' v L W' := by
  refine ⟨hs, H.own.kept g ?_, Nat.le_trans H.lt g.size, H.below.grown g H.below.size (fun b hb => by cases hb; exact Nat.le_refl _)⟩
  cases e : v.ownBlock with
  | none => exact .inl rfl
  | some b =>
    refine .inr (fun h => ?_)
    have := (H.own.lt b e).1
    cases h
    omega
theorem HtI.acts (H : HtI w T v L W) (hL : L.length ≤ 1000) : ∃ a m c, v = .slice a m c ∧ ActsAt W a m L := by
  by_cases h0 : L.length = 0
  · rcases H.own.2 with ⟨e, _⟩ | ⟨g, cap, cur, e, _⟩
    · exact ⟨none, 0, 0, e, .inl ⟨rfl, List.eq_nil_of_length_eq_zero h0⟩⟩
    · exact ⟨_, _, _, e, .inl ⟨h0, List.eq_nil_of_length_eq_zero h0⟩⟩
  · obtain ⟨g, cap, e, _⟩ := owns_form H.own (by omega)
    refine ⟨_, _, _, e, .inr ⟨g, 0, rfl, acts_cells (fun j u hj => ?_) (H.own.lt g (by rw [e]; rfl)).2 (by unfold maxLen; omega)⟩⟩
    subst e
    have := World.ownsRow.cells H.own (g := g) rfl j u hj
    rwa [Addr.add_lit, Nat.zero_add] at this
end
end Go.Proofs.YtpnmidkocmokeaaGreatDoor
