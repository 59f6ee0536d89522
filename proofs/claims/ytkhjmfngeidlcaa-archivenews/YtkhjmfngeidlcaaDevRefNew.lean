/- What the document's own DeviceOf answers. -/
import Derived.Test.YtkhjmfngeidlcaaDevBox
import Derived.Test.YtkhjmfngeidlcaaSectorRef
import Derived.OneCell
import Derived.Deep.DeepCutAuto
namespace Go.Proofs.Ytkhjmfngeidlcaa
open Go.RowKit Go.Lib

theorem info_strN : (Try.prog.info? 9).map (fun i => (i.zero, i.size, i.bytes)) = some (some (.string ⟨#[]⟩), 1, 16) := by kernel_rfl
theorem info_boolN : (Try.prog.info? 4).map (fun i => (i.zero, i.size, i.bytes)) = some (some (.bool false), 1, 1) := by kernel_rfl

/-- Two rows of other types lie in other blocks. -/
theorem rows_apart {w : World} {base e e' : Nat} {v v' : Value} {n n' : Nat} {xs xs' : List Value} (h : w.ownsRow base e 1 v n xs) (h' : w.ownsRow base e' 1 v' n' xs') (he : e ≠ e') : v.ownBlock = none ∨ v.ownBlock ≠ v'.ownBlock := by
  rcases h.2 with ⟨rfl, _⟩ | ⟨g, cap, cur, rfl, _, hg, _⟩
  · exact .inl rfl
  · rcases h'.2 with ⟨rfl, _⟩ | ⟨g', cap', cur', rfl, _, hg', _⟩
    · exact .inr (by simp [Value.ownBlock])
    · refine .inr (fun e0 => ?_)
      have : g = g' := by simpa [Value.ownBlock] using e0
      subst this
      rw [hg] at hg'
      cases hg'
      exact he rfl
theorem grown_of_below {w w' : World} (g : Below w.heap.size w w') : w.grownBy w' none := ⟨g.os, g.tape, g.output, g.size, fun k hk _ => g.block k hk⟩

/-- append of one cell onto a row of the call's own: what it answers, written out. -/
theorem wpList_append1 (w : World) {ops : Array Oper} {rest : List Oper} {o : Oper} {a : Act} {Q : Exit → Act → World → Prop} (hgd : o.guard = none) (s x : Operand) (t e : TypeId) (z : Value) (bytes : Nat)
    (ho : o.op = .call { callee := .builtin .append, args := #[s, x], argTypes := #[t, t] }) (ht : Try.prog.underlying t = some (.slice e)) (hinfo : (Try.prog.info? e).map (fun i => (i.zero, i.size, i.bytes)) = some (some z, 1, bytes)) (hz : z.cells.size = 1)
    (base : Nat) (v : Value) (n : Nat) (xs : List Value) (hs : a.eval s = v) (hown : w.ownsRow base e 1 v n xs)
    (ad : Addr) (u : Value) (hx : a.eval x = .slice (some ad) 1 1) (hu : w.cell? ad = some u) (h1 : u.oneCell' = true) (h63 : n + 1 ≤ maxLen) (hb : (n + 1) * bytes ≤ 140737488355328) (hbase : base ≤ w.heap.size)
    (h : ∀ g m cap w', Hid (m = n + 1) → base ≤ g → w'.ownsRow base e 1 (.slice (some ⟨g, 0, none⟩) m cap) m (xs ++ [u]) → w.grownBy w' v.ownBlock → wpList Try.prog ops Q rest (a.put o.dst (.slice (some ⟨g, 0, none⟩) m cap)) w') :
    wpList Try.prog ops Q (o :: rest) a w := by
  obtain ⟨i0, hi, hz0, hz1, hz2⟩ := info_parts hinfo
  refine wpList_append_own w hgd s x t ho base e i0 z 1 bytes ht hi hz0 hz1 hz2 hz (by decide) v n xs hs hown ad 1 1 [u] hx rfl (fun j y hj => ?_) (by simpa using h1) h63 hb hbase ?_
  · match j, hj with
    | 0, hj => simp at hj; subst hj; exact hu
  · intro v' w' r1 r2 _
    obtain ⟨g, cap, rfl, hg⟩ := owns_form r1 (by omega)
    exact h g _ cap w' rfl hg r1 r2

/-- While the document's device grows. -/
structure OfI (w : World) (a : Option Addr) (n c : Nat) (a' : Option Addr) (n' c' : Nat) (V V' : List Value) (W : World) : Prop where
  res : Box2 W w.heap.size (.slice none 0 0) (.slice none 0 0)
  dbox : Box2 W (w.heap.size + 1) (.slice a n c) (.slice a' n' c')
  s : W.ownsRow (w.heap.size + 2) 9 1 (.slice a n c) n V
  l : W.ownsRow (w.heap.size + 2) 4 1 (.slice a' n' c') n' V'
  below : Below w.heap.size w W
section
variable {w W W' : World} {a a' : Option Addr} {n c n' c' : Nat} {V V' : List Value}
theorem OfI.size (h : OfI w a n c a' n' c' V V' W) : w.heap.size + 2 ≤ W.heap.size := h.dbox.lt
theorem OfI.to (h : OfI w a n c a' n' c' V V' W) (g : Below W.heap.size W W') : OfI w a n c a' n' c' V V' W' := by
  refine ⟨h.res.below g, h.dbox.below g, h.s.kept (grown_of_below g) ?_, h.l.kept (grown_of_below g) ?_, h.below.trans (g.mono h.below.size)⟩
  · cases hv : (Value.slice a n c).ownBlock
    · exact .inl rfl
    · exact .inr (by simp)
  · cases hv : (Value.slice a' n' c').ownBlock
    · exact .inl rfl
    · exact .inr (by simp)
theorem OfI.alloc (h : OfI w a n c a' n' c' V V' W) (o : Obj) : OfI w a n c a' n' c' V V' (W.alloc o) := h.to ((Below.refl _ W).alloc (Nat.le_refl _) o)
/-- Boxes stay where a row has grown. -/
theorem box_grown {p : Nat} {d1 d2 v : Value} {base e : Nat} {xs : List Value} {k : Nat} (h : Box2 W p d1 d2) (hv : W.ownsRow base e 1 v k xs) (hp : p < base) (g : W.grownBy W' v.ownBlock) : Box2 W' p d1 d2 := by
  have e : W'.heap[p]? = W.heap[p]? := g.block p h.lt (fun e => by have := (hv.lt p e.symm).1; omega)
  exact ⟨(World.cell?_of_block (a := ⟨p, 0, none⟩) e).trans h.c0, (World.cell?_of_block (a := ⟨p, 1, none⟩) e).trans h.c1, (World.frozen?_of_block (a := ⟨p, 0, none⟩) e).trans h.f0, (World.frozen?_of_block (a := ⟨p, 1, none⟩) e).trans h.f1, Nat.lt_of_lt_of_le h.lt g.size⟩
theorem below_grown {base e : Nat} {v : Value} {xs : List Value} {k : Nat} (h : Below w.heap.size w W) (hv : W.ownsRow base e 1 v k xs) (hb : w.heap.size ≤ base) (g : W.grownBy W' v.ownBlock) : Below w.heap.size w W' :=
  h.grown g h.size (fun k hk => by have := (hv.lt k hk).1; omega)
theorem box_set0 {p : Nat} {d1 d2 : Value} (h : Box2 W p d1 d2) (v : Value) : Box2 (W.setCell ⟨p, 0, none⟩ v) p v d2 := by
  refine ⟨World.cell?_setCell_same _ _ _ h.c0, ?_, ?_, ?_, ?_⟩
  · rw [World.cell?_setCell_other _ _ _ _ (by simp)]; exact h.c1
  · rw [World.frozen?_setCell]; exact h.f0
  · rw [World.frozen?_setCell]; exact h.f1
  · have := h.lt; simpa [World.setCell] using this
theorem box_set1 {p : Nat} {d1 d2 : Value} (h : Box2 W p d1 d2) (v : Value) : Box2 (W.setCell ⟨p, 1, none⟩ v) p d1 v := by
  refine ⟨?_, World.cell?_setCell_same _ _ _ h.c1, ?_, ?_, ?_⟩
  · rw [World.cell?_setCell_other _ _ _ _ (by simp)]; exact h.c0
  · rw [World.frozen?_setCell]; exact h.f0
  · rw [World.frozen?_setCell]; exact h.f1
  · have := h.lt; simpa [World.setCell] using this
/-- Behind an append onto the texts: the device's box for the store; and behind the store. -/
theorem OfI.putS (h : OfI w a n c a' n' c' V V' W) {a2 : Option Addr} {n2 c2 : Nat} {V2 : List Value} (g : W.grownBy W' (Value.slice a n c).ownBlock) (ho : W'.ownsRow (w.heap.size + 2) 9 1 (.slice a2 n2 c2) n2 V2) :
    Box2 W' (w.heap.size + 1) (.slice a n c) (.slice a' n' c') ∧ OfI w a2 n2 c2 a' n' c' V2 V' (W'.setCell ⟨w.heap.size + 1, 0, none⟩ (.slice a2 n2 c2)) := by
  have b1 := box_grown h.dbox h.s (by omega) g
  have b0 := box_grown h.res h.s (by omega) g
  have l1 := h.l.kept g (rows_apart h.l h.s (by decide))
  exact ⟨b1, b0.other (by show w.heap.size ≠ w.heap.size + 1; omega) _, box_set0 b1 _, ownsRow_setCell_below ho (by show w.heap.size + 1 < w.heap.size + 2; omega) _, ownsRow_setCell_below l1 (by show w.heap.size + 1 < w.heap.size + 2; omega) _, (below_grown h.below h.s (by omega) g).setCell (by show w.heap.size ≤ w.heap.size + 1; omega) _⟩
theorem OfI.putL (h : OfI w a n c a' n' c' V V' W) {a2 : Option Addr} {n2 c2 : Nat} {V2 : List Value} (g : W.grownBy W' (Value.slice a' n' c').ownBlock) (ho : W'.ownsRow (w.heap.size + 2) 4 1 (.slice a2 n2 c2) n2 V2) :
    Box2 W' (w.heap.size + 1) (.slice a n c) (.slice a' n' c') ∧ OfI w a n c a2 n2 c2 V V2 (W'.setCell ⟨w.heap.size + 1, 1, none⟩ (.slice a2 n2 c2)) := by
  have b1 := box_grown h.dbox h.l (by omega) g
  have b0 := box_grown h.res h.l (by omega) g
  have l1 := h.s.kept g (rows_apart h.s h.l (by decide))
  exact ⟨b1, b0.other (by show w.heap.size ≠ w.heap.size + 1; omega) _, box_set1 b1 _, ownsRow_setCell_below l1 (by show w.heap.size + 1 < w.heap.size + 2; omega) _, ownsRow_setCell_below ho (by show w.heap.size + 1 < w.heap.size + 2; omega) _, (below_grown h.below h.l (by omega) g).setCell (by show w.heap.size ≤ w.heap.size + 1; omega) _⟩
end
theorem ofI_start (w : World) : OfI w none 0 0 none 0 0 [] [] ((w.alloc (.cells #[.slice none 0 0, .slice none 0 0] 37)).alloc (.cells #[.slice none 0 0, .slice none 0 0] 37)) := by
  have o1 : Own (w.alloc (.cells #[.slice none 0 0, .slice none 0 0] 37)) w.heap.size 37 [.slice none 0 0, .slice none 0 0] := Own.made w 37 [.slice none 0 0, .slice none 0 0]
  have o2 := Own.made (w.alloc (.cells #[.slice none 0 0, .slice none 0 0] 37)) 37 [.slice none 0 0, .slice none 0 0]
  rw [show (w.alloc (.cells #[.slice none 0 0, .slice none 0 0] 37)).heap.size = w.heap.size + 1 by simp] at o2
  exact ⟨box2_of (o1.alloc _), box2_of o2, World.ownsRow_nil _ _ _ _, World.ownsRow_nil _ _ _ _, by go_grown⟩
/-- A row of an append is a row of cells. -/
theorem row_owns {w : World} {base e : Nat} {a : Option Addr} {n c : Nat} {V : List Value} (h : w.ownsRow base e 1 (.slice a n c) n V) : RowAt w a V ∧ ∀ b o, a = some ⟨b, o, none⟩ → base ≤ b := by
  rcases h.2 with ⟨hv, h0⟩ | ⟨g, cap, cur, hv, hg, _⟩
  · cases hv
    have : V = [] := List.eq_nil_of_length_eq_zero (by have := h.1; omega)
    exact ⟨by rw [this]; exact RowAt.nil, fun b o e => by cases e⟩
  · cases hv
    exact ⟨(own_row h).1.row, fun b o e => by cases e; exact hg⟩

theorem of_bad (many start : Int) (w : World) (h : ¬ (1 ≤ many ∧ many ≤ 64 ∧ 0 ≤ start ∧ start ≤ 512)) :
    Calls Try.prog 12 #[.int .i64 many, .int .i64 start] w (OutN w (nil2, 2)) := by
  have hK : ∀ w', Below w.heap.size w w' → OutN w (nil2, 2) (.returned (.tuple #[.agg #[.slice none 0 0, .slice none 0 0], .int .i64 2])) w' := fun w' g => outN_none g
  have HK := hid hK
  have i1 := fun wx => in_any many 1 64 wx
  have i2 := fun wx => in_any start 0 512 wx
  clear hK
  by_cases h1 : 1 ≤ many ∧ many ≤ 64
  · have h2 : ¬ (0 ≤ start ∧ start ≤ 512) := by omega
    rw [decide_eq_true h1] at i1
    rw [decide_eq_false h2] at i2
    have HI := hid (And.intro i1 i2)
    clear i1 i2 h h1 h2
    go_enter Try.func12, Try.ntmps12
    go_wp2_with (first | (go_at_call_of 11 (Value.int IntKind.i64 64); refine (HI.out.1 _).mono ?_; rintro _ w9 ⟨rfl, h9⟩; subst h9) | (go_at_call_of 11 (Value.int IntKind.i64 512); refine (HI.out.2 _).mono ?_; rintro _ w9 ⟨rfl, h9⟩; subst h9))
    refine bodyPost_ret (v := .tuple #[.agg #[.slice none 0 0, .slice none 0 0], .int .i64 2]) (by simp [results, Try.results12, go_sem]) rfl ?_
    exact HK.out _ (by go_grown)
  · rw [decide_eq_false h1] at i1
    have HI := hid i1
    clear i1 i2 h h1
    go_enter Try.func12, Try.ntmps12
    go_wp2_with (go_at_call_of 11 (Value.int IntKind.i64 64); refine (HI.out _).mono ?_; rintro _ w9 ⟨rfl, h9⟩; subst h9)
    refine bodyPost_ret (v := .tuple #[.agg #[.slice none 0 0, .slice none 0 0], .int .i64 2]) (by simp [results, Try.results12, go_sem]) rfl ?_
    exact HK.out _ (by go_grown)

/-- The texts of the first k sectors. -/
def ofV (start : Int) (k : Nat) : List Value := (List.range k).map fun (i : Nat) => .string (str (encd (start + i) []).1)
theorem ofV_step (start : Int) (k : Nat) : ofV start (k + 1) = ofV start k ++ [.string (str (encd (start + k) []).1)] := by
  unfold ofV
  rw [List.range_succ, List.map_append]
  rfl

set_option maxHeartbeats 1600000 in
set_option maxRecDepth 4000 in
theorem of_ok (M : Nat) (start : Int) (w : World) (h0 : 1 ≤ M) (h1 : M ≤ 64) (h2 : 0 ≤ start) (h3 : start ≤ 512) :
    Calls Try.prog 12 #[.int .i64 M, .int .i64 start] w (OutN w ((((List.range M).map fun (i : Nat) => str (encd (start + i) []).1), List.replicate M false), 0)) := by
  have i1 := fun wx => in_any M 1 64 wx
  have i2 := fun wx => in_any start 0 512 wx
  rw [decide_eq_true (show (1 : Int) ≤ M ∧ (M : Int) ≤ 64 by omega)] at i1
  rw [decide_eq_true (show 0 ≤ start ∧ start ≤ 512 by omega)] at i2
  have HI := hid (And.intro i1 i2)
  have HS := hid (ofI_start w)
  clear i1 i2
  go_enter Try.func12, Try.ntmps12
  go_wp2_with (first | (go_at_call_of 11 (Value.int IntKind.i64 64); refine (HI.out.1 _).mono ?_; rintro _ w9 ⟨rfl, h9⟩; subst h9) | (go_at_call_of 11 (Value.int IntKind.i64 512); refine (HI.out.2 _).mono ?_; rintro _ w9 ⟨rfl, h9⟩; subst h9))
  go_loopw [7] (fun i wr => ∃ (k : Nat) (a : Option Addr) (n c : Nat) (a' : Option Addr) (n' c' : Nat), k ≤ M ∧ i = .int .i64 k ∧ Hid (n = k ∧ n' = k) ∧ OfI w a n c a' n' c' (ofV start k) (List.replicate k (.bool false)) wr) (fun i _ => M - (intOf i).toNat)
  case atStart => exact ⟨0, none, 0, 0, none, 0, 0, Nat.zero_le _, rfl, ⟨rfl, rfl⟩, HS.out⟩
  case round =>
    obtain ⟨k, a, n, c, a', n', c', hk, rfl, HN, hI⟩ := hrel
    clear HS HI
    by_cases hlt : k < M
    · have hlt' : (k : Int) < M := by omega
      have hE := fun wx => bytes_any (start + k) ⟨#[]⟩ wx
      have HV := hid (ofV_step start k)
      change ∀ wx, Calls Try.prog 20 _ wx (fun e w' => e = .returned (.tuple #[.string (str (encd (start + k) []).1), .int .i64 (encd (start + k) []).2]) ∧ Below wx.heap.size wx w') at hE
      generalize encd (start + (k : Int)) [] = r at hE HV
      have u1 : wrap64 (start + (k : Int)) = start + (k : Int) := IntWalk.wrap64_in _ (by omega)
      have HE := hid hE
      have HI := hid hI
      clear hE hI
      go_wp2_with fail
      refine (HE.out _).mono ?_
      rintro _ w1 ⟨rfl, g1⟩
      have I1 := HI.out.to g1
      have d0 := I1.dbox.c0
      have J1 := hid (And.intro (I1.alloc (.cells #[.string (str r.1)] 9)) I1.size)
      clear g1 I1 HE HI
      go_upto_region 9 with (at_builtin; (refine wpList_append1 _ rfl (.tmp 33) (.tmp 35) 34 9 (.string ⟨#[]⟩) 16 rfl Try.underlying34 info_strN rfl (w.heap.size + 2) (.slice a n c) n (ofV start k) rfl J1.out.1.s ⟨w1.heap.size, 0, none⟩ (.string (str r.1)) rfl ?_ rfl ?_ ?_ ?_ ?_; (simp [go_sem]); (have := HN.out; unfold maxLen; omega); (have := HN.out; omega); (exact J1.out.1.size); intro g2 m2 cap2 w2 hm2 hg2 hown2 hgrow2; (have P2 := J1.out.1.putS hgrow2 hown2); (have e0 := P2.1.c0); (have e1 := P2.1.f0); (have J2 := hid P2.2); (have M2 := hid hm2); clear P2 hown2 hgrow2 hm2))
      clear d0 e0 e1
      generalize w2.setCell ⟨w.heap.size + 1, 0, none⟩ (.slice (some ⟨g2, 0, none⟩) m2 cap2) = W2 at J2
      have d1 := J2.out.dbox.c1
      have J3 := hid (J2.out.alloc (.cells #[.bool false] 4))
      go_wp2_with (at_builtin; (refine wpList_append1 _ rfl (.tmp 39) (.tmp 40) 35 4 (.bool false) 1 rfl Try.underlying35 info_boolN rfl (w.heap.size + 2) (.slice a' n' c') n' (List.replicate k (.bool false)) rfl J3.out.l ⟨W2.heap.size, 0, none⟩ (.bool false) rfl ?_ rfl ?_ ?_ ?_ ?_; (simp [go_sem]); (have := HN.out; unfold maxLen; omega); (have := HN.out; omega); (exact J3.out.size); intro g4 m4 cap4 w4 hm4 hg4 hown4 hgrow4; (have P4 := J3.out.putL hgrow4 hown4); (have e0 := P4.1.c1); (have e1 := P4.1.f1); (have J4 := hid P4.2); (have M4 := hid hm4); clear P4 hown4 hgrow4 hm4))
      go_roundw
      case rel =>
        have x := J4.out
        rw [← HV.out, ← List.replicate_succ'] at x
        exact ⟨k + 1, some ⟨g2, 0, none⟩, m2, cap2, some ⟨g4, 0, none⟩, m4, cap4, by omega, by go_num, ⟨by have := M2.out.out; have := HN.out; omega, by have := M4.out.out; have := HN.out; omega⟩, x⟩
      case measure => simp [intOf]; omega
    · obtain rfl : k = M := by omega
      have hnl : ¬ (k : Int) < k := by omega
      have u0 := hI.dbox.c0
      have u1 := hI.dbox.c1
      have v0 := hI.res.c0
      have v1 := hI.res.c1
      have x0 := hI.res.f0
      have x1 := hI.res.f1
      obtain ⟨y0, y1⟩ := ret_box (.slice a n c) (.slice a' n' c') v0 v1
      have s1 := ownsRow_setCell_below (ownsRow_setCell_below hI.s (a := ⟨w.heap.size, 0, none⟩) (by show w.heap.size < w.heap.size + 2; omega) (.slice a n c)) (a := ⟨w.heap.size, 1, none⟩) (by show w.heap.size < w.heap.size + 2; omega) (.slice a' n' c')
      have s2 := ownsRow_setCell_below (ownsRow_setCell_below hI.l (a := ⟨w.heap.size, 0, none⟩) (by show w.heap.size < w.heap.size + 2; omega) (.slice a n c)) (a := ⟨w.heap.size, 1, none⟩) (by show w.heap.size < w.heap.size + 2; omega) (.slice a' n' c')
      have s3 := (hI.below.setCell (p := ⟨w.heap.size, 0, none⟩) (Nat.le_refl _) (.slice a n c)).setCell (p := ⟨w.heap.size, 1, none⟩) (Nat.le_refl _) (.slice a' n' c')
      obtain ⟨t1, t2⟩ := row_owns s1
      obtain ⟨t3, t4⟩ := row_owns s2
      have K : OutN w ((((List.range k).map fun (i : Nat) => str (encd (start + i) []).1), List.replicate k false), 0) (.returned (.tuple #[.agg #[.slice a n c, .slice a' n' c'], .int .i64 0])) ((wr.setCell ⟨w.heap.size, 0, none⟩ (.slice a n c)).setCell ⟨w.heap.size, 1, none⟩ (.slice a' n' c')) := by
        obtain ⟨g1, cap1, e1, hg1⟩ := owns_form s1 (by have := HN.out; omega)
        obtain ⟨g2, cap2, e2, hg2⟩ := owns_form s2 (by have := HN.out; omega)
        cases e1
        cases e2
        refine ⟨_, n, c, _, n', c', rfl, ⟨.inr ⟨g1, rfl, by omega, ?_⟩, .inr ⟨g2, rfl, by omega, ?_⟩, fun _ _ x y hx hy => ?_⟩, ⟨by have := HN.out; simp; omega, by have := HN.out; simp; omega, by have := HN.out; unfold maxLen; omega, by have := HN.out; unfold maxLen; omega⟩, ?_, s3⟩
        · show Own _ g1 _ (List.map Value.string (List.map _ _))
          rw [List.map_map]; exact (own_row s1).1
        · show Own _ g2 _ (List.map Value.bool (List.replicate k false))
          rw [List.map_replicate]; exact (own_row s2).1
        · cases hx
          cases hy
          rcases rows_apart s1 s2 (by decide) with h | h
          · simp [Value.ownBlock] at h
          · intro e; exact h (by rw [e]; rfl)
        · rintro b o (e | e)
          · have := t2 b o e; omega
          · have := t4 b o e; omega
      have HK := hid K
      clear hI s1 s2 s3 t1 t2 t3 t4 K
      go_wp2
      refine bodyPost_ret (v := .tuple #[.agg #[.slice a n c, .slice a' n' c'], .int .i64 0]) (by simp [results, Try.results12, go_sem, y0, y1]) rfl ?_
      exact HK.out

theorem of_own (many start : Int) (w : World) : Calls Try.prog 12 #[.int .i64 many, .int .i64 start] w (OutN w (dvNew many start)) := by
  unfold dvNew
  by_cases h : 1 ≤ many ∧ many ≤ 64 ∧ 0 ≤ start ∧ start ≤ 512
  · rw [if_pos h]
    obtain ⟨M, rfl⟩ : ∃ M : Nat, many = M := ⟨many.toNat, by omega⟩
    have e : (M : Int).toNat = M := by omega
    rw [e]
    exact of_ok M start w (by omega) (by omega) h.2.2.1 h.2.2.2
  · rw [if_neg h]
    exact of_bad many start w h
theorem of_dev (many start : Int) (w : World) : Calls Try.prog 12 #[.int .i64 many, .int .i64 start] w (OutE w (dvNew many start)) := (of_own many start w).mono fun _ _ h => h.outE
end Go.Proofs.Ytkhjmfngeidlcaa
