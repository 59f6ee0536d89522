/- What the document's own DeviceCopy answers: the same device in memory of its own. -/
import Derived.Test.YtgholkjpbdcdiaaDevBox
import Derived.Handy
import Derived.Deep.RegionLaw
import Derived.BigRegion
namespace Go.Proofs.Ytgholkjpbdcdiaa
open Go.RowKit Go.Lib

theorem info_strR : (Try.prog.info? 9).map (fun i => (i.zero, i.size, i.bytes)) = some (some (.string ⟨#[]⟩), 1, 16) := by kernel_rfl
theorem info_boolR : (Try.prog.info? 4).map (fun i => (i.zero, i.size, i.bytes)) = some (some (.bool false), 1, 1) := by kernel_rfl

/-- A new row, if there is anything in it. -/
def NewRow (B : Nat) (w : World) (a : Option Addr) (e : TypeId) (V : List Value) : Prop := V = [] ∨ ∃ b, a = some ⟨b, 0, none⟩ ∧ B ≤ b ∧ Own w b e V

theorem run_append_new (w : World) (t e ty : TypeId) (z : Value) (bytes : Nat) (ht : Try.prog.underlying t = some (.slice e)) (hinfo : (Try.prog.info? e).map (fun i => (i.zero, i.size, i.bytes)) = some (some z, 1, bytes)) (hz : z.cells.size = 1)
    (ao : Option Addr) (n c : Nat) (V : List Value) (hV : V.length = n) (hr : RowAt w ao V) (h1 : ∀ v ∈ V, v.oneCell' = true) (h63 : n ≤ maxLen) (hb : n * bytes ≤ 140737488355328) :
    ∃ ao' c' w', (Builtin.append_ #[t, t] ty #[.slice none 0 0, .slice ao n c]).run Try.prog w = .ok (.slice ao' n c') w' ∧ NewRow w.heap.size w' ao' e V ∧ Below w.heap.size w w' := by
  obtain ⟨i0, hi, hz0, hz1, hz2⟩ := info_parts hinfo
  cases ao with
  | none =>
    have h0 : n = 0 := by
      rcases Nat.eq_zero_or_pos n with h | h
      · exact h
      · obtain ⟨b, o, e, _⟩ := hr 0 (V[0]'(by omega)) (List.getElem?_eq_getElem (by omega))
        cases e
    subst h0
    refine ⟨none, 0, w, ?_, .inl (List.eq_nil_of_length_eq_zero hV), Below.refl _ _⟩
    simp [Builtin.append_, run_underlying ht, sizeOf, typeInfo, hi, Builtin.lenOf, Builtin.firstCells]
  | some ad =>
    obtain ⟨v', w', hrun, r1, r2, _⟩ := run_append_own (P := Try.prog) w w.heap.size t ty e i0 z 1 bytes ht hi hz0 hz1 hz2 hz (by decide) (.slice none 0 0) 0 [] (World.ownsRow_nil w _ e 1) ad n c V (by rw [hV, Nat.mul_one]) (fun j u hj => by
      obtain ⟨b, o, e, _, hc⟩ := hr j u hj
      cases e
      rw [Addr.add_lit]; exact hc) h1 (by omega) (by rw [Nat.zero_add]; exact hb) (Nat.le_refl _)
    rw [Nat.zero_add, List.nil_append] at r1
    have hbel : Below w.heap.size w w' := (Below.refl _ w).grown r2 (Nat.le_refl _) (fun k hk => by cases hk)
    rcases r1.2 with ⟨rfl, h0⟩ | ⟨g, cap, cur, rfl, hg, _⟩
    · subst h0
      exact ⟨none, 0, w', hrun, .inl (List.eq_nil_of_length_eq_zero hV), hbel⟩
    · obtain ⟨k1, k2⟩ := own_row r1
      exact ⟨_, cap, w', hrun, .inr ⟨g, rfl, k2, k1⟩, hbel⟩

/-- append onto nothing, as one step of a region that draws its order. -/
theorem step_append_new {ops : Array Oper} {o : Oper} {a : Act} {w : World} {K : Act → World → Prop} {Q : Exit → Act → World → Prop} {E : Prop}
    (t e : TypeId) (z : Value) (bytes : Nat) (ht : Try.prog.underlying t = some (.slice e)) (hinfo : (Try.prog.info? e).map (fun i => (i.zero, i.size, i.bytes)) = some (some z, 1, bytes)) (hz : z.cells.size = 1)
    (hg : o.guard = none) (x : Operand) (hop : o.op = Op.call { callee := Callee.builtin Builtin.append, args := #[.const (.slice none 0 0), x], argTypes := #[t, t] })
    (w0 : World) (ao : Option Addr) (n c : Nat) (V : List Value) (hx : a.eval x = .slice ao n c) (hV : V.length = n) (hr : RowAt w0 ao V) (h1 : ∀ v ∈ V, v.oneCell' = true) (h63 : n ≤ maxLen) (hb : n * bytes ≤ 140737488355328) (hB : Below w0.heap.size w0 w)
    (hK : ∀ ao' c' w', NewRow w.heap.size w' ao' e V → Below w.heap.size w w' → Below w0.heap.size w0 w' → K (a.put o.dst (.slice ao' n c')) w') :
    if Region.wanted o (yielded ops a.tmps) = true then Oper.wp Try.prog o a w K Q else E := by
  have hw : Region.wanted o (yielded ops a.tmps) = true := by simp [Region.wanted, hg]
  rw [if_pos hw]
  obtain ⟨ao', c', w', hrun, r1, r2⟩ := run_append_new w t e o.type z bytes ht hinfo hz ao n c V hV (hr.below hB) h1 h63 hb
  have hc : a.eval (.const (.slice none 0 0)) = .slice none 0 0 := rfl
  unfold Oper.wp
  simp [execOp, hop, resolve, invoke, builtin, hx, hc, hrun, Result.andThen]
  exact hK ao' c' w' r1 r2 (hB.trans (r2.mono hB.size))

theorem one_strs (S : List ByteArray) : ∀ v ∈ S.map Value.string, v.oneCell' = true := by
  intro v hv; obtain ⟨x, _, rfl⟩ := List.mem_map.1 hv; rfl
theorem one_bools (L : List Bool) : ∀ v ∈ L.map Value.bool, v.oneCell' = true := by
  intro v hv; obtain ⟨x, _, rfl⟩ := List.mem_map.1 hv; rfl

theorem NewRow.below {B : Nat} {w w' : World} {a : Option Addr} {e : TypeId} {V : List Value} (h : NewRow B w a e V) (hb : Below w.heap.size w w') : NewRow B w' a e V := by
  rcases h with h | ⟨b, h1, h2, h3⟩
  · exact .inl h
  · exact .inr ⟨b, h1, h2, h3.below' hb⟩
theorem NewRow.less {B B' : Nat} {w : World} {a : Option Addr} {e : TypeId} {V : List Value} (h : NewRow B w a e V) (hb : B' ≤ B) : NewRow B' w a e V := by
  rcases h with h | ⟨b, h1, h2, h3⟩
  · exact .inl h
  · exact .inr ⟨b, h1, Nat.le_trans hb h2, h3⟩
theorem NewRow.other {B : Nat} {w : World} {a : Option Addr} {e : TypeId} {V : List Value} (h : NewRow B w a e V) {p : Addr} (hp : p.block < B) (v : Value) : NewRow B (w.setCell p v) a e V := by
  rcases h with h | ⟨b, h1, h2, h3⟩
  · exact .inl h
  · exact .inr ⟨b, h1, h2, h3.other (by omega) v⟩
theorem rows_dev {B B1 : Nat} {w1 w2 : World} {a a' : Option Addr} {D : Dv} (h1 : NewRow B w1 a 9 (D.1.map .string)) (h2 : NewRow B1 w2 a' 4 (D.2.map .bool)) (hb : Below w1.heap.size w1 w2) (hB : B ≤ B1) (hw : w1.heap.size ≤ B1) : DevNew B w2 a a' D := by
  refine ⟨?_, ?_, ?_⟩
  · rcases h1.below hb with h | h
    · exact .inl (List.map_eq_nil_iff.1 h)
    · exact .inr h
  · rcases h2.less hB with h | h
    · exact .inl (List.map_eq_nil_iff.1 h)
    · exact .inr h
  · intro n1 n2 b b' e1 e2
    rcases h1 with h | ⟨b1, k1, _, k2⟩
    · exact absurd (List.map_eq_nil_iff.1 h) n1
    · rcases h2 with h | ⟨b2, q1, q2, _⟩
      · exact absurd (List.map_eq_nil_iff.1 h) n2
      · have := k2.lt
        subst e1; subst e2
        cases k1; cases q1
        omega
set_option maxHeartbeats 1600000 in
set_option maxRecDepth 4000 in
theorem refcopy_any (a : Option Addr) (n c : Nat) (a' : Option Addr) (m c' : Nat) (D : Dv) (w : World) (h : DevAt w a n a' m D) (hn : n * 16 ≤ 140737488355328) (hm : m ≤ 140737488355328) :
    Calls Try.prog 15 #[.agg #[.slice a n c, .slice a' m c']] w fun e w' => ∃ ao c1 ao' c2, e = .returned (.agg #[.slice ao n c1, .slice ao' m c2]) ∧ DevNew w.heap.size w' ao ao' D ∧ Below w.heap.size w w' := by
  obtain ⟨W, hW⟩ : ∃ W, W = ((w.alloc (.cells #[.slice a n c, .slice a' m c'] 40)).alloc (.cells #[.slice none 0 0, .slice none 0 0] 40)).drew := ⟨_, rfl⟩
  have hz : W.heap.size = w.heap.size + 2 := by rw [hW]; simp
  have hB : Below w.heap.size w W := by rw [hW]; go_grown
  have c1 : W.cell? ⟨w.heap.size, 0, none⟩ = some (.slice a n c) := by rw [hW]; simp
  have c2 : W.cell? ⟨w.heap.size, 1, none⟩ = some (.slice a' m c') := by rw [hW]; simp
  have r0 : W.cell? ⟨w.heap.size + 1, 0, none⟩ = some (.slice none 0 0) := by rw [hW]; simp
  have r1 : W.cell? ⟨w.heap.size + 1, 1, none⟩ = some (.slice none 0 0) := by rw [hW]; simp
  have f0 : ∀ o, W.frozen? ⟨w.heap.size + 1, o, none⟩ = false := by intro o; rw [hW]; simp
  have HD := hid (h.below hB)
  have hlen : (D.1.map Value.string).length = n := by rw [List.length_map, h.sn]
  have hlen' : (D.2.map Value.bool).length = m := by rw [List.length_map, h.sm]
  have HL := hid (And.intro hlen hlen')
  have HW := hid (And.intro hz (And.intro hB (And.intro c1 (And.intro c2 (And.intro r0 (And.intro r1 f0))))))
  have HE := hid hW
  have HM := hid (And.intro h.nb h.mb)
  clear hlen hlen' h hz hB c1 c2 r0 r1 f0 hW
  go_enter Try.func15, Try.ntmps15
  go_wp2_with fail
  go_region_law (first
    | (refine step_append_new 37 9 (.string ⟨#[]⟩) 16 Try.underlying37 info_strR rfl rfl (.tmp 4) rfl W a n c (D.1.map .string) rfl HL.out.1 HD.out.S (one_strs _) HM.out.1 hn ?_ ?_; (first | (rw [HE.out]; exact Below.refl _ _) | assumption); intro ao1 q1 w1 hN1 hB1 hC1; (have cS2 := (hC1.cell (p := ⟨w.heap.size, 1, none⟩) (by show w.heap.size < W.heap.size; rw [HW.out.1]; omega)).trans HW.out.2.2.2.1); (have cS3 := (hC1.cell (p := ⟨w.heap.size + 1, 0, none⟩) (by show w.heap.size + 1 < W.heap.size; rw [HW.out.1]; omega)).trans HW.out.2.2.2.2.1); (have cS4 := (hC1.cell (p := ⟨w.heap.size + 1, 1, none⟩) (by show w.heap.size + 1 < W.heap.size; rw [HW.out.1]; omega)).trans HW.out.2.2.2.2.2.1); (have fS := fun o => (hC1.frozen (p := ⟨w.heap.size + 1, o, none⟩) (by show w.heap.size + 1 < W.heap.size; rw [HW.out.1]; omega)).trans (HW.out.2.2.2.2.2.2 o)); (have HS := hid (And.intro hN1 (And.intro hB1 hC1))); clear hN1 hB1)
    | (refine step_append_new 38 4 (.bool false) 1 Try.underlying38 info_boolR rfl rfl (.tmp 7) rfl W a' m c' (D.2.map .bool) rfl HL.out.2 HD.out.L (one_bools _) HM.out.2 (by omega) ?_ ?_; (first | (rw [HE.out]; exact Below.refl _ _) | assumption); intro ao2 q2 w2 hN2 hB2 hC2; (have cL1 := (hC2.cell (p := ⟨w.heap.size, 0, none⟩) (by show w.heap.size < W.heap.size; rw [HW.out.1]; omega)).trans HW.out.2.2.1); (have cL3 := (hC2.cell (p := ⟨w.heap.size + 1, 0, none⟩) (by show w.heap.size + 1 < W.heap.size; rw [HW.out.1]; omega)).trans HW.out.2.2.2.2.1); (have cL4 := (hC2.cell (p := ⟨w.heap.size + 1, 1, none⟩) (by show w.heap.size + 1 < W.heap.size; rw [HW.out.1]; omega)).trans HW.out.2.2.2.2.2.1); (have fL := fun o => (hC2.frozen (p := ⟨w.heap.size + 1, o, none⟩) (by show w.heap.size + 1 < W.heap.size; rw [HW.out.1]; omega)).trans (HW.out.2.2.2.2.2.2 o)); (have HLL := hid (And.intro hN2 (And.intro hB2 hC2))); clear hN2 hB2))
  all_goals
    obtain ⟨y0, y1⟩ := ret_box (.slice ao1 n q1) (.slice ao2 m q2) cL3 cL4
    have k1 := HS.out.1
    rw [← HE.out, HW.out.1] at k1
    have k2 := rows_dev k1 HLL.out.1 HLL.out.2.1 (by have := hC1.size; rw [HW.out.1] at this; exact this) (Nat.le_refl _)
    have k3 := ((k2.other (p := ⟨w.heap.size + 1, 0, none⟩) (by show w.heap.size + 1 < w.heap.size + 2; omega) (.slice ao1 n q1)).other (p := ⟨w.heap.size + 1, 1, none⟩) (by show w.heap.size + 1 < w.heap.size + 2; omega) (.slice ao2 m q2)).less (show w.heap.size ≤ w.heap.size + 2 by omega)
    have k4 : Below w.heap.size w w2 := HW.out.2.1.trans (hC2.mono HW.out.2.1.size)
    have k5 := (k4.setCell (p := ⟨w.heap.size + 1, 0, none⟩) (by show w.heap.size ≤ w.heap.size + 1; omega) (.slice ao1 n q1)).setCell (p := ⟨w.heap.size + 1, 1, none⟩) (by show w.heap.size ≤ w.heap.size + 1; omega) (.slice ao2 m q2)
    have K := hid (And.intro k3 k5)
    clear k1 k2 k3 k4 k5 HS HLL hC1 hC2 cS2 cS3 cS4 fS cL1 cL3 cL4 fL
    go_wp2_with fail
    refine bodyPost_ret (v := .agg #[.slice ao1 n q1, .slice ao2 m q2]) (by simp [results, Try.results15, go_sem, y0, y1]) rfl ?_
    exact ⟨ao1, q1, ao2, q2, rfl, K.out.1, K.out.2⟩
end Go.Proofs.Ytgholkjpbdcdiaa
