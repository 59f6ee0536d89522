/- Joined texts: ArcTog, ArcTak. -/
import Derived.Test.YtkhjmfngeidlcaaGreatDoorFilB
import Derived.Test.YtkhjmfngeidlcaaGreatDoorBld
import Derived.Test.YtkhjmfngeidlcaaGreatDoorMem2
import Derived.Test.YtkhjmfngeidlcaaGreatDoorStraight
import Derived.Deep.DeepCutAuto
import Derived.Test.YtkhjmfngeidlcaaGreatDoorCatDecs
/- The bytes and the entries of files that are added together. -/
namespace Go.Proofs.YtkhjmfngeidlcaaGreatDoor
open Go.RowKit Go.Lib

/-- append of one entry onto a row of the call's own, as one step of a region that draws its order. -/
theorem step_appendE1 {ops : Array Oper} {o : Oper} {a : Act} {w : World} {K : Act → World → Prop} {Q : Exit → Act → World → Prop} {Z : Prop}
    (hg : o.guard = none) (sl x : Operand) (hop : o.op = Op.call { callee := Callee.builtin Builtin.append, args := #[sl, x], argTypes := #[38, 38] })
    (base : Nat) (v : Value) (L : List En) (hs : a.eval sl = v) (hown : ownsE w base v L) (ad : Addr) (c : Nat) (b : En) (hx : a.eval x = .slice (some ad) 1 c) (hnews : ∀ j u, (entV [b])[j]? = some u → w.cell? (ad.add j) = some u)
    (hbd : L.length ≤ 100000) (hbase : base ≤ w.heap.size)
    (hK : ∀ g m cap w', Hid (m = (L ++ [b]).length) → base ≤ g → ownsE w' base (.slice (some ⟨g, 0, none⟩) m cap) (L ++ [b]) → w.grownBy w' v.ownBlock → K (a.put o.dst (.slice (some ⟨g, 0, none⟩) m cap)) w') :
    if Region.wanted o (yielded ops a.tmps) = true then Oper.wp Tryz.prog o a w K Q else Z := by
  obtain ⟨i0, hi, hz0, hz1, hz2⟩ := info_parts info_ent
  have hw : Region.wanted o (yielded ops a.tmps) = true := by simp [Region.wanted, hg]
  rw [if_pos hw]
  obtain ⟨v', w', hrun, r1, r2, _⟩ := run_append_own (P := Tryz.prog) w base 38 o.type 56 i0 _ 4 40 Tryz.underlying38 hi hz0 hz1 hz2 rfl (by decide) v L.length (entV L) hown ad 1 c (entV [b]) rfl hnews (by rw [show entV [b] = entC b by simp [entV]]; exact oneCell_ent b) (by unfold maxLen; omega) (by omega) hbase
  unfold Oper.wp
  simp [execOp, hop, resolve, invoke, builtin, hs, hx, hrun, Result.andThen]
  have r1' : w'.ownsRow base 56 4 v' (L ++ [b]).length (entV (L ++ [b])) := by rw [entV_app, List.length_append]; exact r1
  obtain ⟨g, cap, rfl, hg⟩ := owns_form r1' (by simp)
  exact hK g _ cap w' rfl hg r1' r2
/-- Blocks of other types stay where a row of entries has grown. -/
theorem ent_grown {w w' : World} {base : Nat} {v : Value} {L : List En} (h : ownsE w base v L) (g : w.grownBy w' v.ownBlock) (k : Nat) (cs : Array Value) (t : TypeId) (fz : Nat × Nat) (ht : t ≠ 56) (hk : w.heap[k]? = some (.cells cs t fz)) : w'.heap[k]? = some (.cells cs t fz) := by
  rw [g.block k (lt_of_block hk)]
  · exact hk
  · intro e
    rcases h.2 with ⟨h0, _⟩ | ⟨q, cap, cur, h0, _, hh, _⟩
    · rw [h0] at e; cases e
    · rw [h0] at e
      cases e
      rw [hh] at hk
      cases hk
      exact ht rfl
theorem Own.entGrown {w w' : World} {base p : Nat} {v : Value} {L : List En} {t : TypeId} {V : List Value} (ho : Own w p t V) (h : ownsE w base v L) (g : w.grownBy w' v.ownBlock) (ht : t ≠ 56) : Own w' p t V := by
  obtain ⟨R, ho⟩ := ho
  exact ⟨R, ent_grown h g _ _ _ _ ht ho⟩

/-- While files are put together: the builder, the box of the entries, the block's number, the entries. -/
structure TogI (w0 : World) (F : List Fi) (B k : Nat) (v : Value) (w : World) : Prop where
  bld : BldK (w0.heap.size + 1) (datN F k) w
  box : Own w (w0.heap.size + 1 + 1) 38 [v]
  blk : Own w w0.heap.size 3 [.int .i64 B]
  row : ownsE w (w0.heap.size + 1 + 1 + 1) v (entsN F B k)
  below : Below w0.heap.size w0 w
section
variable {w0 w w' : World} {F : List Fi} {B k : Nat} {v : Value}
theorem TogI.size (h : TogI w0 F B k v w) : w0.heap.size + 1 + 1 + 1 ≤ w.heap.size := h.box.lt
theorem TogI.to (h : TogI w0 F B k v w) (g : Below w.heap.size w w') : TogI w0 F B k v w' :=
  ⟨h.bld.below g, h.box.below' g, h.blk.below' g, (chg_below (fun _ => False) g).row h.row (fun _ _ q => q), h.below.trans (g.mono h.below.size)⟩
/-- Behind the append and the store: the entries are one more, the bytes not yet. -/
structure TogJ (w0 : World) (F : List Fi) (B k : Nat) (v : Value) (w : World) : Prop where
  bld : BldK (w0.heap.size + 1) (datN F k) w
  box : Own w (w0.heap.size + 1 + 1) 38 [v]
  blk : Own w w0.heap.size 3 [.int .i64 B]
  row : ownsE w (w0.heap.size + 1 + 1 + 1) v (entsN F B (k + 1))
  below : Below w0.heap.size w0 w
theorem TogI.app (h : TogI w0 F B k v w) {v' : Value} (ho : ownsE w' (w0.heap.size + 1 + 1 + 1) v' (entsN F B k ++ [entOf F B k])) (g : w.grownBy w' v.ownBlock) :
    Own w' (w0.heap.size + 1 + 1) 38 [v] ∧ TogJ w0 F B k v' (w'.setCell ⟨w0.heap.size + 1 + 1, 0, none⟩ v') := by
  have b1 := h.box.entGrown h.row g (by decide)
  have b2 := h.blk.entGrown h.row g (by decide)
  have b3 : BldK (w0.heap.size + 1) (datN F k) w' := h.bld.keep fun q cs t fz ht hq => ent_grown h.row g q cs t fz (by rcases ht with rfl | rfl <;> decide) hq
  have b4 : Below w0.heap.size w0 w' := h.below.grown g h.below.size (fun q hq => by have := (World.ownsRow.lt h.row q hq).1; omega)
  refine ⟨b1, ?_, b1.set (i := 0) (by simp) v', b2.other (by show w0.heap.size ≠ w0.heap.size + 1 + 1; omega) _, ?_, b4.setCell (by show w0.heap.size ≤ w0.heap.size + 1 + 1; omega) _⟩
  · obtain ⟨R, hR⟩ := b1
    exact b3.keep fun q cs t fz ht hq => by
      rw [Below.heap_setCell _ _ _ _ (fun e => by have e' : q = w0.heap.size + 1 + 1 := e; subst e'; rw [hR] at hq; cases hq; rcases ht with h | h <;> exact absurd h (by decide))]
      exact hq
  · exact (chg_set w' (w0.heap.size + 1 + 1) 0 v').row ho (fun q hq => by omega)
theorem TogI.mid (h : TogI w0 F B k v w) (g : w.grownBy w' v.ownBlock) : Own w' w0.heap.size 3 [.int .i64 B] ∧ BldK (w0.heap.size + 1) (datN F k) w' :=
  ⟨h.blk.entGrown h.row g (by decide), h.bld.keep fun q cs t fz ht hq => ent_grown h.row g q cs t fz (by rcases ht with rfl | rfl <;> decide) hq⟩
theorem TogJ.to (h : TogJ w0 F B k v w) (g : Below w.heap.size w w') : TogJ w0 F B k v w' :=
  ⟨h.bld.below g, h.box.below' g, h.blk.below' g, (chg_below (fun _ => False) g).row h.row (fun _ _ q => q), h.below.trans (g.mono h.below.size)⟩
theorem TogJ.write (h : TogJ w0 F B k v w) (hb : BldK (w0.heap.size + 1) (datN F k ++ (fi F k).d.data.toList) w') (g : Below (w0.heap.size + 1) w w') (q : Lib.OthersKept 5 (some (w0.heap.size + 1)) w w') : TogI w0 F B (k + 1) v w' :=
  ⟨hb, h.box.kept q (by decide) (by omega), h.blk.kept q (by decide) (by omega), rowKept h.row q (by decide) (by omega), h.below.trans (g.mono (by omega))⟩
end

set_option maxHeartbeats 3200000 in
set_option maxRecDepth 4000 in
theorem seetog_any (a : Option Addr) (n c : Nat) (F : List Fi) (B k : Nat) (v : Value) (w0 w : World) (I : TogI w0 F B k v w) (hs : sumF F k ≤ 100000) (hd : (fi F k).d.size ≤ 100000) (hk : k ≤ 1000) :
    Calls Tryz.prog 35 #[.slice a n c, .agg #[.string (fi F k).s, .string (fi F k).d], .pointer (some ⟨w0.heap.size + 1 + 1, 0, none⟩), .pointer (some ⟨w0.heap.size, 0, none⟩), .pointer (some ⟨w0.heap.size + 1, 0, none⟩)] w fun e w' => e = .returned (.int .i64 0) ∧ ∃ v', TogI w0 F B (k + 1) v' w' := by
  obtain ⟨W, hW⟩ : ∃ W, W = w.alloc (.cells #[.string (fi F k).s, .string (fi F k).d] 54) := ⟨_, rfl⟩
  have hB : Below w.heap.size w W := by rw [hW]; go_grown
  have k1 : Own W w.heap.size 54 [.string (fi F k).s, .string (fi F k).d] := by rw [hW]; exact Own.made w _ _
  have HI := hid (I.to hB)
  have hfq : w0.heap.size + 1 + 1 < w.heap.size := I.box.lt
  have HN : Hid ((entsN F B k).length ≤ 100000) := by show _ ≤ _; rw [entsN_len]; omega
  have HE : Hid ((⟨(fi F k).s, B, sumF F k, (fi F k).d.size⟩ : En) = entOf F B k) := rfl
  have HL : Hid (datN F k = datN F k ∧ (datN F k).length = sumF F k) := ⟨rfl, datN_len F k⟩
  have HK1 := hid k1
  obtain ⟨d, hdd⟩ : ∃ d, (fi F k).d = d := ⟨_, rfl⟩
  obtain ⟨s, hss⟩ : ∃ s, (fi F k).s = s := ⟨_, rfl⟩
  have HD := hid hdd
  rw [hdd] at k1 HE hd hW
  rw [hss] at k1 HE hW
  rw [hss, hdd]
  clear hdd hss hB I
  have HK1 := hid k1
  have s0 := k1.cell (i := 0) rfl
  have s1 := k1.cell (i := 1) rfl
  have b0 := HI.out.blk.cell (i := 0) rfl
  have e0 := HI.out.box.cell (i := 0) rfl
  have h0 := HI.out.bld
  have hl0 : w.heap.size < W.heap.size := k1.lt
  have hl1 : w0.heap.size < W.heap.size := HI.out.blk.lt
  have hl2 : w0.heap.size + 1 + 1 < W.heap.size := HI.out.box.lt
  have JR := hid (HI.out.to (show Below W.heap.size W (W.drew.alloc (.cells #[.string s, .int .i64 B, .int .i64 (sumF F k), .int .i64 d.size] 56)) by go_grown))
  have KR := hid (k1.below' (show Below W.heap.size W (W.drew.alloc (.cells #[.string s, .int .i64 B, .int .i64 (sumF F k), .int .i64 d.size] 56)) by go_grown))
  have NB := hid (new_ent W.drew ⟨s, B, sumF F k, d.size⟩ 56)
  clear k1
  go_enter Tryz.func35, Tryz.ntmps35
  go_upto_region 1 with fail
  rw [← hW]
  clear hW
  generalize w.heap.size = pf at s0 s1 hl0 hfq HK1 KR ⊢
  refine wp_region_till (fun w' => w'.cell? ⟨pf, 0, none⟩ = some (.string s) ∧ w'.cell? ⟨pf, 1, none⟩ = some (.string d) ∧ w'.cell? ⟨w0.heap.size, 0, none⟩ = some (.int .i64 B) ∧ BldK (w0.heap.size + 1) (datN F k) w') (fun w' => w'.cell? ⟨w0.heap.size + 1 + 1, 0, none⟩ = some v) 10 (by kernel_rfl) ⟨s0, s1, b0, h0.below ((Below.refl _ W).drew)⟩ e0 (fun hT => ?_)
  refine wpTill_late (i := 0) (v := ?v0) rfl (by kernel_rfl) (by kernel_rfl) (by kernel_rfl) (fun _ _ _ h => h) (by rfl) ?hy0 hT ?rest0
  case hy0 => (intro w hSw; (try dsimp only at hSw); go_simp; (first | done | with_reducible rfl))
  clear hT; intro hT; try simp only [Act.put, List.setIfInBounds_toArray, List.set_cons_zero, List.set_cons_succ]
  refine wpTill_take (i := 1) (v := ?v1) rfl (by kernel_rfl) (by kernel_rfl) (by kernel_rfl) (fun _ _ _ h => h) (by rfl) ?hy1 hT ?rest1
  case hy1 => (intro w hSw; (try dsimp only at hSw); go_simp; (first | done | with_reducible rfl))
  clear hT; intro hT; try simp only [Act.put, List.setIfInBounds_toArray, List.set_cons_zero, List.set_cons_succ]
  refine wpTill_take (i := 2) (v := ?v2) rfl (by kernel_rfl) (by kernel_rfl) (by kernel_rfl) (fun _ _ _ h => h) (by rfl) ?hy2 hT ?rest2
  case hy2 => (intro w hSw; (try dsimp only at hSw); go_simp; (first | done | with_reducible rfl))
  clear hT; intro hT; try simp only [Act.put, List.setIfInBounds_toArray, List.set_cons_zero, List.set_cons_succ]
  refine wpTill_take (i := 3) (v := ?v3) rfl (by kernel_rfl) (by kernel_rfl) (by kernel_rfl) (fun _ _ _ h => h) (by rfl) ?hy3 hT ?rest3
  case hy3 => (intro w hSw; (try dsimp only at hSw); go_simp; (first | done | with_reducible rfl))
  clear hT; intro hT; try simp only [Act.put, List.setIfInBounds_toArray, List.set_cons_zero, List.set_cons_succ]
  refine wpTill_callA (i := 4) (v := .int .i64 (sumF F k)) (f := 36) (args := #[.pointer (some ⟨w0.heap.size + 1, 0, none⟩)]) rfl (by kernel_rfl) (by kernel_rfl) (by kernel_rfl) (fun _ _ _ h => h) (by rfl) ?hy4 ?hc4 hT ?rest4
  case hy4 => (intro w hSw; (try dsimp only at hSw); go_simp; (first | done | with_reducible rfl))
  case hc4 => (intro w hSw; have := blenK_any _ _ w hSw.2.2.2; rw [datN_len] at this; exact this)
  clear hT; intro hT; try simp only [Act.put, List.setIfInBounds_toArray, List.set_cons_zero, List.set_cons_succ]
  refine wpTill_take (i := 5) (v := ?v5) rfl (by kernel_rfl) (by kernel_rfl) (by kernel_rfl) (fun _ _ _ h => h) (by rfl) ?hy5 hT ?rest5
  case hy5 => (intro w hSw; (try dsimp only at hSw); go_simp; (first | done | with_reducible rfl))
  clear hT; intro hT; try simp only [Act.put, List.setIfInBounds_toArray, List.set_cons_zero, List.set_cons_succ]
  refine wpTill_take (i := 6) (v := ?v6) rfl (by kernel_rfl) (by kernel_rfl) (by kernel_rfl) (fun _ _ _ h => h) (by rfl) ?hy6 hT ?rest6
  case hy6 => (intro w hSw; (try dsimp only at hSw); go_simp; (first | done | with_reducible rfl))
  clear hT; intro hT; try simp only [Act.put, List.setIfInBounds_toArray, List.set_cons_zero, List.set_cons_succ]
  refine wpTill_take (i := 7) (v := ?v7) rfl (by kernel_rfl) (by kernel_rfl) (by kernel_rfl) (fun _ _ _ h => h) (by rfl) ?hy7 hT ?rest7
  case hy7 => (intro w hSw; (try dsimp only at hSw); go_simp; (first | done | with_reducible rfl))
  clear hT; intro hT; try simp only [Act.put, List.setIfInBounds_toArray, List.set_cons_zero, List.set_cons_succ]
  refine wpTill_take (i := 8) (v := ?v8) rfl (by kernel_rfl) (by kernel_rfl) (by kernel_rfl) (fun _ _ _ h => h) (by rfl) ?hy8 hT ?rest8
  case hy8 => (intro w hSw; (try dsimp only at hSw); go_simp; (first | done | with_reducible rfl))
  clear hT; intro hT; try simp only [Act.put, List.setIfInBounds_toArray, List.set_cons_zero, List.set_cons_succ]
  refine wpTill_step (i := 9) rfl (by kernel_rfl) (fun K hK => ?_)
  go_simp
  refine hK.out _ _ ?hS9 ?rest9
  case hS9 => exact ⟨⟨KR.out.cell (i := 0) rfl, KR.out.cell (i := 1) rfl, JR.out.blk.cell (i := 0) rfl, JR.out.bld⟩, fun _ => JR.out.box.cell (i := 0) rfl⟩
  clear hT hK K; intro hT; try simp only [Act.put, List.setIfInBounds_toArray, List.set_cons_zero, List.set_cons_succ]
  refine wpTill_step (i := 10) rfl (by kernel_rfl) (fun K hK => ?_)
  (refine step_appendE1 (by rfl) _ _ (by rfl) (w0.heap.size + 1 + 1 + 1) _ (entsN F B k) (by rfl) JR.out.row ⟨W.heap.size, 0, none⟩ 1 ⟨s, B, sumF F k, d.size⟩ (by rfl) NB.out HN.out JR.out.size ?_; intro g8 m8 cap8 w8 hm8 hg8 hown8 hgrow8; (rw [HE.out] at hown8); (have A8 := JR.out.app hown8 hgrow8); (have M8 := JR.out.mid hgrow8); (have X8 := KR.out.entGrown JR.out.row hgrow8 (by decide)); (have t0 := A8.1.cell (i := 0) rfl); (have t1 := A8.1.free 0); (have J8 := hid A8.2); (have X9 := hid (X8.other (p := ⟨w0.heap.size + 1 + 1, 0, none⟩) (by show pf ≠ w0.heap.size + 1 + 1; omega) (.slice (some ⟨g8, 0, none⟩) m8 cap8))))
  refine hK.out _ _ ?hS10 ?rest10
  case hS10 => exact ⟨⟨X8.cell (i := 0) rfl, X8.cell (i := 1) rfl, M8.1.cell (i := 0) rfl, M8.2⟩, fun h => (by cases h)⟩
  clear hT hK K hown8 hgrow8 A8 M8 X8; intro hT; try simp only [Act.put, List.setIfInBounds_toArray, List.set_cons_zero, List.set_cons_succ]
  refine wpTill_step (i := 11) rfl (by kernel_rfl) (fun K hK => ?_)
  go_simp
  refine hK.out _ _ ?hS11 ?rest11
  case hS11 => exact ⟨⟨X9.out.cell (i := 0) rfl, X9.out.cell (i := 1) rfl, J8.out.blk.cell (i := 0) rfl, J8.out.bld⟩, fun h => (by cases h)⟩
  clear hT hK K; intro hT; try simp only [Act.put, List.setIfInBounds_toArray, List.set_cons_zero, List.set_cons_succ]
  refine wpTill_done (by kernel_rfl) ?_ _
  obtain ⟨W9, hW9⟩ : ∃ W9, W9 = w8.setCell ⟨w0.heap.size + 1 + 1, 0, none⟩ (.slice (some ⟨g8, 0, none⟩) m8 cap8) := ⟨_, rfl⟩
  rw [← hW9] at J8 X9 ⊢
  clear hW9 s0 s1 b0 e0 h0 t0 t1 JR KR NB
  have s1 := X9.out.cell (i := 1) rfl
  have CW := hid (bwriteK_any (w0.heap.size + 1) (datN F k) d W9 J8.out.bld (by rw [datN_len]; omega))
  go_wp2_with fail
  refine CW.out.mono ?_
  rintro _ w9 ⟨rfl, q1, q2, q3⟩
  have FIN := hid (J8.out.write (by rw [HD.out]; exact q1) q2 q3)
  clear q1 q2 q3 s1 CW
  go_wp2
  go_ret
  exact ⟨rfl, _, FIN.out⟩

theorem togI_start (w0 : World) (F : List Fi) (B : Nat) : TogI w0 F B 0 (.slice none 0 0) (((w0.alloc (.cells #[.int .i64 B] 3)).alloc (.cells #[.pointer none, .slice none 0 0] 77)).alloc (.cells #[.slice none 0 0] 38)) := by
  have k0 := Own.made w0 3 [.int .i64 B]
  have k1 := bldK_new (w0.alloc (.cells #[.int .i64 B] 3))
  have k2 := Own.made ((w0.alloc (.cells #[.int .i64 B] 3)).alloc (.cells #[.pointer none, .slice none 0 0] 77)) 38 [.slice none 0 0]
  rw [show (w0.alloc (.cells #[.int .i64 B] 3)).heap.size = w0.heap.size + 1 by simp] at k1
  rw [show ((w0.alloc (.cells #[.int .i64 B] 3)).alloc (.cells #[.pointer none, .slice none 0 0] 77)).heap.size = w0.heap.size + 1 + 1 by simp] at k2
  exact ⟨k1.below (by go_grown), k2, (k0.alloc _).alloc _, ownsE_nil _ _, by go_grown⟩
/-- The bytes of all files and their entries. -/
def OutTg (w : World) (F : List Fi) (B n : Nat) (e : Ending) (w' : World) : Prop := ∃ ao m cap, e = .returned (.tuple #[.string (str (datN F n)), .slice ao m cap]) ∧ EntAt w' ao m (entsN F B n) ∧ Below w.heap.size w w'
theorem ents_nm (F : List Fi) (B k : Nat) (h : ∀ j, j < k → (fi F j).s.size ≤ maxLen) : ∀ i, i < (entsN F B k).length → (en (entsN F B k) i).s.size ≤ maxLen := by
  intro i hi
  rw [en_lt _ i hi]
  obtain ⟨j, hj, e⟩ := entsN_mem F B k _ (List.getElem_mem hi)
  rw [e]
  exact h j hj

set_option maxHeartbeats 1600000 in
set_option maxRecDepth 4000 in
theorem together_any (a : Option Addr) (n c : Nat) (F : List Fi) (B : Nat) (w : World) (H : FilAt w a n F) (hc : n ≤ c) (hF : filChk F = 0) :
    Calls Tryz.prog 12 #[.slice a n c, .int .i64 B] w fun e w' => OutTg w F B n e w' := by
  obtain ⟨f1, f2, f3, f4⟩ := chk_files F hF
  have hsn := H.sn
  obtain ⟨W, hW⟩ : ∃ W, W = ((w.alloc (.cells #[.int .i64 B] 3)).alloc (.cells #[.pointer none, .slice none 0 0] 77)).alloc (.cells #[.slice none 0 0] 38) := ⟨_, rfl⟩
  have I0 : TogI w F B 0 (.slice none 0 0) W := by rw [hW]; exact togI_start w F B
  have CL := flook_gen a n c F 35 #[.pointer (some ⟨w.heap.size + 1 + 1, 0, none⟩), .pointer (some ⟨w.heap.size, 0, none⟩), .pointer (some ⟨w.heap.size + 1, 0, none⟩)] W (fun k wx => FilAt w a n F ∧ ∃ v, TogI w F B k v wx) (fun _ _ => False) hc (enters_of Tryz.func35 (by kernel_rfl) rfl)
    (fun k wx h => by obtain ⟨h1, v, h2⟩ := h; exact h1.below h2.below) (fun k wx w' h g => by obtain ⟨h1, v, h2⟩ := h; exact ⟨h1, v, h2.to g⟩)
    (fun k wx hk h => by
      obtain ⟨h1, v, h2⟩ := h
      have q1 := sumF_le F k F.length (by omega)
      have q2 := (f4 k (by omega)).2.1
      refine (seetog_any a k c F B k v w wx h2 (by omega) (by omega) (by omega)).mono ?_
      rintro e w' ⟨rfl, v', h3⟩
      exact ⟨0, rfl, fun _ => ⟨h1, v', h3⟩, fun q => absurd rfl q⟩) ⟨H, _, I0⟩
  have HL := hid CL
  have HW := hid hW
  rw [hW] at HL
  have HM := hid (ents_nm F B n (fun j hj => (H.nm j hj).1))
  have hn10 : n ≤ 10 := by omega
  clear CL hW I0 H hsn f1 f2 f3 f4
  go_enter Tryz.func12, Tryz.ntmps12
  go_wp2_with fail
  refine HL.out.mono ?_
  rintro _ w5 ⟨x, rfl, k1, k2⟩
  by_cases hx : x = 0
  · obtain ⟨_, v, I5⟩ := k1 hx
    clear k1 k2 HL
    have e0 := I5.box.cell (i := 0) rfl
    have I6 := hid I5
    have CS := hid (bstringK_any (w.heap.size + 1) (datN F n) w5.drew (I5.to ((Below.refl _ w5).drew)).bld)
    have hlt := I5.box.lt
    clear I5
    obtain ⟨ao, m, cap, rfl⟩ : ∃ ao m cap, v = .slice ao m cap := by
      rcases I6.out.row.2 with ⟨h0, _⟩ | ⟨g, cap, cur, h0, _⟩
      · exact ⟨_, _, _, h0⟩
      · exact ⟨_, _, _, h0⟩
    have HO := hid (fun w6 (q1 : Below (w.heap.size + 1) w5.drew w6) (q2 : Lib.OthersKept 5 (some (w.heap.size + 1)) w5.drew w6) => show OutTg w F B n (.returned (.tuple #[.string (str (datN F n)), .slice ao m cap])) w6 from by
      have r := rowKept (show ownsE w5.drew (w.heap.size + 1 + 1 + 1) (.slice ao m cap) (entsN F B n) from I6.out.row) q2 (by decide) (by omega)
      obtain ⟨_, _, r3⟩ := ownsE_at r (by rw [entsN_len]; unfold maxLen; omega) HM.out
      exact ⟨ao, m, cap, rfl, r3, (I6.out.below.drew).trans (q1.mono (by omega))⟩)
    generalize str (datN F n) = Z at CS HO
    go_wp2_with fail
    go_region_with (go_at_call 38; refine CS.out.mono ?_; rintro _ w6 ⟨rfl, q1, q2⟩; (have t0 := ((I6.out.box.drew).kept q2 (by decide) (by omega)).cell (i := 0) rfl); (have K6 := hid (HO.out w6 q1 q2)); clear q1 q2)
    all_goals go_wp2
    all_goals go_ret2
    all_goals exact K6.out
  · exact absurd (k2 hx) id
end Go.Proofs.YtkhjmfngeidlcaaGreatDoor

/- Has a catalog the name of one of these files? -/
namespace Go.Proofs.YtkhjmfngeidlcaaGreatDoor
open Go.RowKit Go.Lib

theorem findN_has (E : List En) (s : ByteArray) (k : Nat) (hk : k ≤ E.length) : (findN E s k).isSome = hasE (E.take k) s := by
  induction k with
  | zero => rfl
  | succ k ih =>
    rw [en_take E k (by omega), hasE_app, ← ih (by omega), findN]
    cases hf : findN E s k with
    | some i => simp
    | none => simp only [Option.isSome_none, Bool.false_or]; cases he : ((en E k).s.toList == s.toList) <;> simp [hasE, he]
theorem find_has (C : Ct) (h : catChk C = 0) (s : ByteArray) : ((catFind C s).2 == 0) = hasE C.2 s := by
  have := findN_has C.2 s C.2.length (Nat.le_refl _)
  rw [List.take_length] at this
  rw [catFind, if_pos h, ← this]
  cases findN C.2 s C.2.length <;> rfl
theorem tak_any (C : Ct) (h : catChk C = 0) (F : List Fi) (k : Nat) : anyF F (fun x => (catFind C x.s).2 == 0) k = takN C F k := by
  induction k with
  | zero => rfl
  | succ k ih => rw [anyF, takN, ih, find_has C h]

set_option maxHeartbeats 1000000 in
set_option maxRecDepth 4000 in
theorem seetaken_any (x : Fi) (q : Nat) (a : Option Addr) (n c : Nat) (a' : Option Addr) (m c' : Nat) (C : Ct) (w : World) (H : CatAt w a n c a' m C) (hq : Own w q 40 [.slice a n c, .slice a' m c']) :
    Calls Tryz.prog 33 #[.agg #[.string x.s, .string x.d], .pointer (some ⟨q, 0, none⟩)] w fun e w' => e = .returned (.bool ((catFind C x.s).2 == 0)) ∧ Below w.heap.size w w' := by
  obtain ⟨W, hW⟩ : ∃ W, W = w.alloc (.cells #[.string x.s, .string x.d] 54) := ⟨_, rfl⟩
  have hB : Below w.heap.size w W := by rw [hW]; go_grown
  have c0 := (hq.below' hB).cell (i := 0) rfl
  have c1 := (hq.below' hB).cell (i := 1) rfl
  have k1 : Own W w.heap.size 54 [.string x.s, .string x.d] := by rw [hW]; exact Own.made w _ _
  have d0 := k1.cell (i := 0) rfl
  have CF := cfind_any a n c a' m c' C x.s W (H.below hB)
  obtain ⟨R, hR⟩ : ∃ R, catFind C x.s = R := ⟨_, rfl⟩
  rw [hR] at CF ⊢
  obtain ⟨X, F⟩ := R
  change Calls Tryz.prog _ _ W fun e w' => e = .returned (.tuple #[.agg #[.string X.s, .int .i64 X.b, .int .i64 X.a, .int .i64 X.n], .int .i64 F]) ∧ Below W.heap.size W w' at CF
  have H1 := hid CF
  have HP := hid hB
  clear CF hR hB H hq k1
  go_enter Tryz.func33, Tryz.ntmps33
  go_upto_region 1 with fail
  rw [← hW]
  clear hW
  go_wp2_with fail
  refine H1.out.mono ?_
  rintro _ w5 ⟨rfl, g5⟩
  have G := hid ((HP.out.trans (g5.mono HP.out.size)).alloc (HP.out.trans (g5.mono HP.out.size)).size (.cells #[.string X.s, .int .i64 X.b, .int .i64 X.a, .int .i64 X.n] 56))
  clear g5 c0 c1 d0 H1
  go_wp2
  go_ret
  exact ⟨rfl, G.out⟩

set_option maxHeartbeats 1000000 in
set_option maxRecDepth 4000 in
theorem taken_any (a : Option Addr) (n c : Nat) (a' : Option Addr) (m c' : Nat) (C : Ct) (b : Option Addr) (k d : Nat) (F : List Fi) (w : World) (H : CatAt w a n c a' m C) (HF : FilAt w b k F) (hc : catChk C = 0) :
    Calls Tryz.prog 11 #[.agg #[.slice a n c, .slice a' m c'], .slice b k d] w fun e w' => e = .returned (.bool (takN C F k)) ∧ Below w.heap.size w w' := by
  obtain ⟨W, hW⟩ : ∃ W, W = w.alloc (.cells #[.slice a n c, .slice a' m c'] 40) := ⟨_, rfl⟩
  have hB : Below w.heap.size w W := by rw [hW]; go_grown
  have k1 : Own W w.heap.size 40 [.slice a n c, .slice a' m c'] := by rw [hW]; exact Own.made w _ _
  have CC := fcontains_gen b k d F (fun x => (catFind C x.s).2 == 0) 33 #[.pointer (some ⟨w.heap.size, 0, none⟩)] W (HF.below hB) (enters_of Tryz.func33 (by kernel_rfl) rfl) (fun x wx _ g => seetaken_any x w.heap.size a n c a' m c' C wx ((H.below hB).below g) (k1.below' g))
  rw [tak_any C hc] at CC
  generalize takN C F k = T at CC
  rw [hW] at CC
  have H1 := hid CC
  have HP := hid (And.intro hB hW)
  clear CC hB hW H HF k1
  go_enter Tryz.func11, Tryz.ntmps11
  go_wp2_with fail
  refine H1.out.mono ?_
  rintro _ w5 ⟨rfl, g5⟩
  rw [← HP.out.2] at g5
  go_wp2
  go_ret
  exact ⟨rfl, HP.out.1.trans (g5.mono HP.out.1.size)⟩
end Go.Proofs.YtkhjmfngeidlcaaGreatDoor
