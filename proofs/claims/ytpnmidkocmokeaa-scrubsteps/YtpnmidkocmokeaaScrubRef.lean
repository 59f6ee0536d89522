/- Joined texts: ScrubRefMem, ScrubRefStep. -/
import Derived.Test.YtpnmidkocmokeaaScrubOwn
import Derived.Test.YtpnmidkocmokeaaHealedRef
import Derived.Test.YtpnmidkocmokeaaScrubStep
import Derived.Test.YtpnmidkocmokeaaArrRefMay
import Derived.Test.YtpnmidkocmokeaaSectorRef
/- What lies in memory while the document's own SteppedOf goes on. -/
namespace Go.Proofs.Ytpnmidkocmokeaa
open Go.RowKit Go.Lib

/-- A row of bools. -/
def boolsV (N : Nat) (f : Nat → Bool) : List Value := (List.range N).map fun i => Value.bool (f i)
theorem boolsV_len (N : Nat) (f : Nat → Bool) : (boolsV N f).length = N := by simp [boolsV]
theorem boolsV_at (N : Nat) (f : Nat → Bool) (i : Nat) (hi : i < N) : (boolsV N f)[i]? = some (.bool (f i)) := by simp [boolsV, hi]
theorem boolsV_set (N : Nat) (f : Nat → Bool) (i : Nat) (v : Bool) : (boolsV N f).set i (.bool v) = boolsV N (upd f i v) := by
  apply List.ext_getElem?
  intro j
  by_cases hj : j < N
  · by_cases e : i = j
    · subst e
      rw [List.getElem?_set_self (by rw [boolsV_len]; exact hj), boolsV_at _ _ _ hj]
      simp [upd]
    · rw [List.getElem?_set_ne e, boolsV_at _ _ _ hj, boolsV_at _ _ _ hj]
      have : ¬ j = i := fun x => e x.symm
      simp [upd, this]
  · rw [List.getElem?_eq_none (by rw [List.length_set, boolsV_len]; omega), List.getElem?_eq_none (by rw [boolsV_len]; omega)]
/-- Rows of bools of an array's devices lie in other blocks. -/
def Offs (bl : Nat) (h : Nat → Hd) : Prop := ∀ i, i < 3 → ∀ b o, (h i).y = some ⟨b, o, none⟩ → 0 < (h i).q → b ≠ bl
/-- A bool is stored over a bool, in another block than the array's. -/
theorem Arr.mark {w : World} {b : Nat} {h : Nat → Hd} {A : Ar} (H : Arr w b 0 3 h A) {bl j : Nat} (ho : Offs bl h) {x : Bool} (hp : w.cell? ⟨bl, j, none⟩ = some (.bool x)) (u : Value) : Arr (w.setCell ⟨bl, j, none⟩ u) b 0 3 h A := by
  have ne : ∀ {q : Addr} {v : Value}, w.cell? q = some v → (∀ y, v ≠ .bool y) → (w.setCell ⟨bl, j, none⟩ u).cell? q = some v := fun {q v} hq hv => by
    rw [World.cell?_setCell_other _ _ _ _ (fun e => ?_)]
    · exact hq
    · rw [e, hq] at hp
      exact hv x (Option.some.inj hp)
  refine ⟨H.sn, H.nb, by rw [setCell_size]; exact H.lt, fun i hi => ne (H.c0 i hi) (fun _ e => by cases e), fun i hi => ne (H.c1 i hi) (fun _ e => by cases e), fun i hi => ?_⟩
  have d := H.dv i hi
  refine ⟨d.sn, d.sm, fun k v hv => ?_, fun k v hv => ?_, d.nb, d.mb⟩
  · obtain ⟨b1, o1, e1, hlt, hc⟩ := d.S k v hv
    refine ⟨b1, o1, e1, by rw [setCell_size]; exact hlt, ne hc (fun y e => ?_)⟩
    obtain ⟨s, _, hs⟩ := List.mem_map.1 (List.mem_of_getElem? hv)
    rw [e] at hs
    cases hs
  · obtain ⟨b1, o1, e1, hlt, hc⟩ := d.L k v hv
    refine ⟨b1, o1, e1, by rw [setCell_size]; exact hlt, ?_⟩
    have hq : 0 < (h i).q := by
      rw [d.sm]
      rcases Nat.eq_zero_or_pos (dev A i).2.length with z | z
      · rw [List.eq_nil_of_length_eq_zero z] at hv; simp at hv
      · exact z
    rw [World.cell?_setCell_other _ _ _ _ (fun e => ho i hi b1 o1 e1 hq (congrArg Addr.block e).symm)]
    exact hc

/-- While the document's step goes on: as the program's; which could not be read, as bools. -/
structure StL (w : World) (pw b cw : Nat) (A : Ar) (x r : Int) (bl N : Nat) (lo : Nat → Bool) (wr : World) : Prop where
  st : StB w pw b cw A x r wr
  of : ∃ h, Arr wr b 0 3 h A ∧ Offs bl h
  lo : Own wr bl 4 (boolsV N lo)
  bl : w.heap.size + 4 ≤ bl ∧ pw ≠ bl
section
variable {w wr w' : World} {pw b cw bl N : Nat} {A : Ar} {x r : Int} {lo : Nat → Bool} {v : Value} {L : List Int}
theorem StL.to (H : StL w pw b cw A x r bl N lo wr) (g : Below wr.heap.size wr w') : StL w pw b cw A x r bl N lo w' := by
  obtain ⟨h, hA, hO⟩ := H.of
  exact ⟨H.st.to g, ⟨h, hA.below g, hO⟩, H.lo.below' g, H.bl⟩
theorem StL.grown (H : StL w pw b cw A x r bl N lo wr) (hN : 0 < N) (hO : OwnN wr (w.heap.size + 4) v L) (g : wr.grownBy w' v.ownBlock) : StL w pw b cw A x r bl N lo w' := by
  obtain ⟨h, hA, hf⟩ := H.of
  have hk : ∀ p u, wr.cell? p = some u → (∀ n, u ≠ .int .i64 n) → w'.heap[p.block]? = wr.heap[p.block]? := fun p u hc hu => g.block p.block (cell_flat hc).2 (fun e => hO.apart hc hu e.symm)
  exact ⟨H.st.grown hO g, ⟨h, hA.keeps g.size (fun p u hc hu => (World.cell?_of_block (a := p) (hk p u hc hu)).trans hc), hf⟩, H.lo.of_block (hk ⟨bl, 0, none⟩ _ (H.lo.cell (boolsV_at N lo 0 hN)) (fun _ e => by cases e)), H.bl⟩
/-- The array is another one, its rows new. -/
theorem StL.put (H : StL w pw b cw A x r bl N lo wr) {B b' : Nat} (c' : Nat) {h' : Nat → Hd} {A' : Ar} (hA : ArrUp B wr b' 0 3 h' A') (hB : bl < B) (hp : pw ≠ b') (hb : w.heap.size + 4 ≤ b') : StL w pw b' c' A' x r bl N lo (wr.setCell ⟨pw, 0, none⟩ (.slice (some ⟨b', 0, none⟩) 3 c')) :=
  ⟨H.st.put c' hA.arr hp hb, ⟨h', hA.arr.box hp H.st.bx.c0 _, fun i hi b o e hq => by have := (hA.up i hi).2 b o e hq; omega⟩, H.lo.other (fun e => H.bl.2 e.symm) _, H.bl⟩
theorem StB.next (H : StB w pw b cw A x r wr) (x' : Int) : StB w pw b cw A x' r (wr.setCell ⟨w.heap.size + 1, 0, none⟩ (.int .i64 x')) := by
  have pb := H.pb
  obtain ⟨h, hA⟩ := H.ar
  refine ⟨H.bx.other (by show pw ≠ w.heap.size + 1; omega) _, ⟨h, hA.number H.cu.c0 _⟩, H.bb, ⟨World.cell?_setCell_same _ _ _ H.cu.c0, ?_, by rw [World.frozen?_setCell]; exact H.cu.f0, by rw [World.frozen?_setCell]; exact H.cu.f1, by rw [setCell_size]; exact H.cu.lt⟩, H.r6.other (by show w.heap.size + 2 ≠ w.heap.size + 1; omega) _, H.r7.other (by show w.heap.size + 3 ≠ w.heap.size + 1; omega) _, pb, by rw [setCell_size]; exact H.lt, H.below.setCell (by show w.heap.size ≤ w.heap.size + 1; omega) _⟩
  rw [World.cell?_setCell_other _ _ _ _ (by simp)]
  exact H.cu.c1
theorem StB.turn (H : StB w pw b cw A x r wr) (r' : Int) : StB w pw b cw A x r' (wr.setCell ⟨w.heap.size + 1, 1, none⟩ (.int .i64 r')) := by
  have pb := H.pb
  obtain ⟨h, hA⟩ := H.ar
  refine ⟨H.bx.other (by show pw ≠ w.heap.size + 1; omega) _, ⟨h, hA.number H.cu.c1 _⟩, H.bb, ⟨?_, World.cell?_setCell_same _ _ _ H.cu.c1, by rw [World.frozen?_setCell]; exact H.cu.f0, by rw [World.frozen?_setCell]; exact H.cu.f1, by rw [setCell_size]; exact H.cu.lt⟩, H.r6.other (by show w.heap.size + 2 ≠ w.heap.size + 1; omega) _, H.r7.other (by show w.heap.size + 3 ≠ w.heap.size + 1; omega) _, pb, by rw [setCell_size]; exact H.lt, H.below.setCell (by show w.heap.size ≤ w.heap.size + 1; omega) _⟩
  rw [World.cell?_setCell_other _ _ _ _ (by simp)]
  exact H.cu.c0
theorem StL.next (H : StL w pw b cw A x r bl N lo wr) (x' : Int) : StL w pw b cw A x' r bl N lo (wr.setCell ⟨w.heap.size + 1, 0, none⟩ (.int .i64 x')) := by
  obtain ⟨h, hA, hO⟩ := H.of
  exact ⟨H.st.next x', ⟨h, hA.number H.st.cu.c0 _, hO⟩, H.lo.other (by have := H.bl.1; show bl ≠ w.heap.size + 1; omega) _, H.bl⟩
theorem StL.turn (H : StL w pw b cw A x r bl N lo wr) (r' : Int) : StL w pw b cw A x r' bl N lo (wr.setCell ⟨w.heap.size + 1, 1, none⟩ (.int .i64 r')) := by
  obtain ⟨h, hA, hO⟩ := H.of
  exact ⟨H.st.turn r', ⟨h, hA.number H.st.cu.c1 _, hO⟩, H.lo.other (by have := H.bl.1; show bl ≠ w.heap.size + 1; omega) _, H.bl⟩
/-- One more that could not be read. -/
theorem StL.mark (H : StL w pw b cw A x r bl N lo wr) (j : Nat) (hj : j < N) : StL w pw b cw A x r bl N (upd lo j true) (wr.setCell ⟨bl, j, none⟩ (.bool true)) := by
  obtain ⟨h, hA, hO⟩ := H.of
  have hb := H.bl
  have hA' := hA.mark hO (H.lo.cell (boolsV_at N lo j hj)) (.bool true)
  have ho := H.lo.set (i := j) (by rw [boolsV_len]; exact hj) (.bool true)
  rw [boolsV_set] at ho
  refine ⟨⟨H.st.bx.other (by show pw ≠ bl; exact hb.2) _, ⟨h, hA'⟩, H.st.bb, H.st.cu.other (by show w.heap.size + 1 ≠ bl; omega) _, H.st.r6.other (by show w.heap.size + 2 ≠ bl; omega) _, H.st.r7.other (by show w.heap.size + 3 ≠ bl; omega) _, H.st.pb, by rw [setCell_size]; exact H.st.lt, H.st.below.setCell (by show w.heap.size ≤ bl; omega) _⟩, ⟨h, hA', hO⟩, ho, hb⟩
end
/-- At the loop's head: the row of bools is new. -/
theorem stL_start {w W2 : World} {pw b cw N : Nat} {A : Ar} {x r : Int} (H : StB w pw b cw A x r W2) : StL w pw b cw A x r W2.heap.size N (fun _ => false) (W2.alloc (.cells (List.replicate N (Value.bool false)).toArray 4)) := by
  have ga : Below W2.heap.size W2 (W2.alloc (.cells (List.replicate N (Value.bool false)).toArray 4)) := (Below.refl _ W2).alloc (Nat.le_refl _) _
  obtain ⟨h, hA⟩ := H.ar
  refine ⟨H.to ga, ⟨h, hA.below ga, fun i hi b o e hq => ?_⟩, ?_, H.lt, by have := H.bx.lt; omega⟩
  · have d := hA.dv i hi
    have hl : 0 < (dev A i).2.length := by rw [← d.sm]; exact hq
    obtain ⟨b1, o1, e1, hlt, _⟩ := d.L 0 (.bool ((dev A i).2[0])) (by simp [hl])
    rw [e] at e1
    cases e1
    omega
  · have := Own.made W2 4 (List.replicate N (Value.bool false))
    have e : List.replicate N (Value.bool false) = boolsV N (fun _ => false) := by
      unfold boolsV
      rw [List.map_const', List.length_range]
    rw [e] at this ⊢
    exact this
end Go.Proofs.Ytpnmidkocmokeaa

/- What the document's own SteppedOf answers. -/
namespace Go.Proofs.Ytpnmidkocmokeaa
open Go.RowKit Go.Lib

set_option maxHeartbeats 1600000 in
set_option maxRecDepth 4000 in
theorem refstep_no (a : Option Addr) (n c : Nat) (A : Ar) (x r m : Int) (w : World) (H : ArrAt w a n A) (ht : stepChk A x r m ≠ 0) :
    Calls Try.prog 7 #[.agg #[.slice a n c], .agg #[.int .i64 x, .int .i64 r], .int .i64 m] w (OutSt w (stepNo (stepChk A x r m))) := by
  obtain ⟨W, hW⟩ : ∃ W, W = (((w.alloc (.cells #[.slice a n c] 24)).alloc (.cells #[.int .i64 x, .int .i64 r] 26)).alloc (.cells #[.slice none 0 0] 24)).alloc (.cells #[.int .i64 0, .int .i64 0] 26) := ⟨_, rfl⟩
  have hB : Below w.heap.size w W := by rw [hW]; go_grown
  have hz : W.heap.size = w.heap.size + 4 := by rw [hW]; simp
  have c0 : W.cell? ⟨w.heap.size, 0, none⟩ = some (.slice a n c) := by rw [hW]; simp [go_sem]
  have cu : Box2 W (w.heap.size + 1) (.int .i64 x) (.int .i64 r) := ⟨by rw [hW]; simp [go_sem], by rw [hW]; simp [go_sem], by rw [hW]; simp [go_sem], by rw [hW]; simp [go_sem], by omega⟩
  have r6 : Box1 W (w.heap.size + 2) (.slice none 0 0) := ⟨by rw [hW]; simp [go_sem], by rw [hW]; simp [go_sem], by omega⟩
  have r7 : Box2 W (w.heap.size + 3) (.int .i64 0) (.int .i64 0) := ⟨by rw [hW]; simp [go_sem], by rw [hW]; simp [go_sem], by rw [hW]; simp [go_sem], by rw [hW]; simp [go_sem], by omega⟩
  have C1 := armay_any a n c A W (H.below hB)
  rw [hW] at C1
  have HH := hid (H.below hB)
  have HP := hid (And.intro hB (And.intro hW (And.intro hz (And.intro c0 (And.intro cu (And.intro r6 r7))))))
  have CI := hid (fun n a b wx => in_any n a b wx)
  cases hm : arMay A with
  | false =>
    have et : stepChk A x r m = 9 := by rw [stepChk, if_neg (by rw [hm]; decide)]
    rw [et]
    rw [hm] at C1
    have H1 := hid C1
    clear C1 hB hz r6 r7 cu c0 H hW ht hm et HH CI
    go_enter Try.func7, Try.ntmps7
    go_wp2_with fail
    refine H1.out.mono ?_
    rintro _ w1 ⟨rfl, g1⟩
    rw [← HP.out.2.1] at g1
    have b6 := HP.out.2.2.2.2.2.1.below g1
    have b7 := HP.out.2.2.2.2.2.2.below g1
    have c6 := b6.c0
    have f6 := b6.f0
    have c70 := b7.c0
    have c71 := b7.c1
    have f70 := b7.f0
    have f71 := b7.f1
    have z6 := (b6.store (.slice none 0 0)).other (q := ⟨w.heap.size + 3, 0, none⟩) (by show w.heap.size + 2 ≠ w.heap.size + 3; omega) (.int .i64 0)
    have z6' := z6.other (q := ⟨w.heap.size + 3, 1, none⟩) (by show w.heap.size + 2 ≠ w.heap.size + 3; omega) (.int .i64 0)
    have z7 := (b7.other (q := ⟨w.heap.size + 2, 0, none⟩) (by show w.heap.size + 3 ≠ w.heap.size + 2; omega) (.slice none 0 0)).store (.int .i64 0) (.int .i64 0)
    have y0 := z6'.c0
    have y1 := z7.c0
    have y2 := z7.c1
    have HO := hid (outSt_none (x := 9) ((((bel3 HP.out.1 g1).setCell (p := ⟨w.heap.size + 2, 0, none⟩) (by show w.heap.size ≤ w.heap.size + 2; omega) (.slice none 0 0)).setCell (p := ⟨w.heap.size + 3, 0, none⟩) (by show w.heap.size ≤ w.heap.size + 3; omega) (.int .i64 0)).setCell (p := ⟨w.heap.size + 3, 1, none⟩) (by show w.heap.size ≤ w.heap.size + 3; omega) (.int .i64 0)))
    clear b6 b7 z6 z6' z7 g1
    go_wp2
    refine bodyPost_ret (v := .tuple #[.agg #[.slice none 0 0], .agg #[.int .i64 0, .int .i64 0], .int .i64 0, .slice none 0 0, .int .i64 9]) (by simp [results, Try.results7, go_sem, y0, y1, y2]) rfl ?_
    exact HO.out
  | true =>
    rw [hm] at C1
    have hmm := (arMay_iff A).1 hm
    have hN : many A ≤ 64 := hmm.2.2.2.1
    have hN1 : 16 ≤ many A := hmm.2.2.1
    obtain ⟨rfl, b, o, h, rfl, HX⟩ := may_three H hm
    have hp : many A = (h 0).p := (HX.dv 0 (by omega)).sn.symm
    have HT := hid (And.intro (HX.below hB).lt ((HX.below hB).three.1.1))
    rw [stepChk, if_pos hm, hp] at ht
    rw [stepChk, if_pos hm, hp]
    rw [hp] at hN hN1
    have H1 := hid C1
    clear C1 hB hz r6 r7 cu c0 H hW hm HH HX hmm hp
    generalize (h 0).p = N at HT hN hN1 ht
    generalize (h 0).x = xx at HT
    generalize (h 0).c = cc at HT
    by_cases e1 : 0 ≤ x ∧ x ≤ (N : Int) - 1
    · have f1 : decide (0 ≤ x ∧ x ≤ (N : Int) - 1) = true := decide_eq_true e1
      by_cases e2 : 0 ≤ r ∧ r ≤ 1073741824
      · have f2 : decide (0 ≤ r ∧ r ≤ 1073741824) = true := decide_eq_true e2
        by_cases e3 : 0 ≤ m ∧ m ≤ 64
        · rw [if_pos (by omega), if_pos e3] at ht
          exact absurd rfl ht
        · have f3 : decide (0 ≤ m ∧ m ≤ 64) = false := decide_eq_false e3
          rw [if_pos (by omega), if_neg e3]
          have CA := hid (fun wx => CI.out x 0 ((N : Int) - 1) wx)
          rw [f1] at CA
          have CB := hid (fun wx => CI.out r 0 1073741824 wx)
          rw [f2] at CB
          have CM := hid (fun wx => CI.out m 0 64 wx)
          rw [f3] at CM
          clear ht e1 e2 e3 f1 f2 f3 CI
          go_enter Try.func7, Try.ntmps7
          go_wp2_with fail
          refine H1.out.mono ?_
          rintro _ w1 ⟨rfl, g1⟩
          rw [← HP.out.2.1] at g1
          have d0 := (g1.cell (p := ⟨w.heap.size, 0, none⟩) (by show w.heap.size < W.heap.size; rw [HP.out.2.2.1]; omega)).trans HP.out.2.2.2.1
          have t0 := (g1.cell (p := ⟨b, o, none⟩) HT.out.1).trans HT.out.2
          have d3 := (HP.out.2.2.2.2.1.below g1).c0
          have d4 := (HP.out.2.2.2.2.1.below g1).c1
          have b6 := HP.out.2.2.2.2.2.1.below g1
          have b7 := HP.out.2.2.2.2.2.2.below g1
          have c6 := b6.c0
          have f6 := b6.f0
          have c70 := b7.c0
          have c71 := b7.c1
          have f70 := b7.f0
          have f71 := b7.f1
          have z6 := (b6.store (.slice none 0 0)).other (q := ⟨w.heap.size + 3, 0, none⟩) (by show w.heap.size + 2 ≠ w.heap.size + 3; omega) (.int .i64 0)
          have z6' := z6.other (q := ⟨w.heap.size + 3, 1, none⟩) (by show w.heap.size + 2 ≠ w.heap.size + 3; omega) (.int .i64 0)
          have z7 := (b7.other (q := ⟨w.heap.size + 2, 0, none⟩) (by show w.heap.size + 3 ≠ w.heap.size + 2; omega) (.slice none 0 0)).store (.int .i64 0) (.int .i64 0)
          have y0 := z6'.c0
          have y1 := z7.c0
          have y2 := z7.c1
          have HO := hid (outSt_none (x := 2) ((((bel3 HP.out.1 g1).setCell (p := ⟨w.heap.size + 2, 0, none⟩) (by show w.heap.size ≤ w.heap.size + 2; omega) (.slice none 0 0)).setCell (p := ⟨w.heap.size + 3, 0, none⟩) (by show w.heap.size ≤ w.heap.size + 3; omega) (.int .i64 0)).setCell (p := ⟨w.heap.size + 3, 1, none⟩) (by show w.heap.size ≤ w.heap.size + 3; omega) (.int .i64 0)))
          clear b6 b7 z6 z6' z7 g1
          go_wp2_with (first | (go_at_call_of 20 (Value.int IntKind.i64 x); refine (CA.out _).mono ?_; rintro _ w9 ⟨rfl, h9⟩; (have h8 := h9.symm); subst h8) | (go_at_call_of 20 (Value.int IntKind.i64 r); refine (CB.out _).mono ?_; rintro _ w9 ⟨rfl, h9⟩; (have h8 := h9.symm); subst h8) | (go_at_call_of 20 (Value.int IntKind.i64 m); refine (CM.out _).mono ?_; rintro _ w9 ⟨rfl, h9⟩; (have h8 := h9.symm); subst h8))
          refine bodyPost_ret (v := .tuple #[.agg #[.slice none 0 0], .agg #[.int .i64 0, .int .i64 0], .int .i64 0, .slice none 0 0, .int .i64 2]) (by simp [results, Try.results7, go_sem, y0, y1, y2]) rfl ?_
          exact HO.out
      · have f2 : decide (0 ≤ r ∧ r ≤ 1073741824) = false := decide_eq_false e2
        rw [if_neg (by omega)]
        have CA := hid (fun wx => CI.out x 0 ((N : Int) - 1) wx)
        rw [f1] at CA
        have CB := hid (fun wx => CI.out r 0 1073741824 wx)
        rw [f2] at CB
        clear ht e1 e2 f1 f2 CI
        go_enter Try.func7, Try.ntmps7
        go_wp2_with fail
        refine H1.out.mono ?_
        rintro _ w1 ⟨rfl, g1⟩
        rw [← HP.out.2.1] at g1
        have d0 := (g1.cell (p := ⟨w.heap.size, 0, none⟩) (by show w.heap.size < W.heap.size; rw [HP.out.2.2.1]; omega)).trans HP.out.2.2.2.1
        have t0 := (g1.cell (p := ⟨b, o, none⟩) HT.out.1).trans HT.out.2
        have d3 := (HP.out.2.2.2.2.1.below g1).c0
        have d4 := (HP.out.2.2.2.2.1.below g1).c1
        have b6 := HP.out.2.2.2.2.2.1.below g1
        have b7 := HP.out.2.2.2.2.2.2.below g1
        have c6 := b6.c0
        have f6 := b6.f0
        have c70 := b7.c0
        have c71 := b7.c1
        have f70 := b7.f0
        have f71 := b7.f1
        have z6 := (b6.store (.slice none 0 0)).other (q := ⟨w.heap.size + 3, 0, none⟩) (by show w.heap.size + 2 ≠ w.heap.size + 3; omega) (.int .i64 0)
        have z6' := z6.other (q := ⟨w.heap.size + 3, 1, none⟩) (by show w.heap.size + 2 ≠ w.heap.size + 3; omega) (.int .i64 0)
        have z7 := (b7.other (q := ⟨w.heap.size + 2, 0, none⟩) (by show w.heap.size + 3 ≠ w.heap.size + 2; omega) (.slice none 0 0)).store (.int .i64 0) (.int .i64 0)
        have y0 := z6'.c0
        have y1 := z7.c0
        have y2 := z7.c1
        have HO := hid (outSt_none (x := 9) ((((bel3 HP.out.1 g1).setCell (p := ⟨w.heap.size + 2, 0, none⟩) (by show w.heap.size ≤ w.heap.size + 2; omega) (.slice none 0 0)).setCell (p := ⟨w.heap.size + 3, 0, none⟩) (by show w.heap.size ≤ w.heap.size + 3; omega) (.int .i64 0)).setCell (p := ⟨w.heap.size + 3, 1, none⟩) (by show w.heap.size ≤ w.heap.size + 3; omega) (.int .i64 0)))
        clear b6 b7 z6 z6' z7 g1
        go_wp2_with (first | (go_at_call_of 20 (Value.int IntKind.i64 x); refine (CA.out _).mono ?_; rintro _ w9 ⟨rfl, h9⟩; (have h8 := h9.symm); subst h8) | (go_at_call_of 20 (Value.int IntKind.i64 r); refine (CB.out _).mono ?_; rintro _ w9 ⟨rfl, h9⟩; (have h8 := h9.symm); subst h8))
        refine bodyPost_ret (v := .tuple #[.agg #[.slice none 0 0], .agg #[.int .i64 0, .int .i64 0], .int .i64 0, .slice none 0 0, .int .i64 9]) (by simp [results, Try.results7, go_sem, y0, y1, y2]) rfl ?_
        exact HO.out
    · have f1 : decide (0 ≤ x ∧ x ≤ (N : Int) - 1) = false := decide_eq_false e1
      rw [if_neg (by omega)]
      have CA := hid (fun wx => CI.out x 0 ((N : Int) - 1) wx)
      rw [f1] at CA
      clear ht e1 f1 CI
      go_enter Try.func7, Try.ntmps7
      go_wp2_with fail
      refine H1.out.mono ?_
      rintro _ w1 ⟨rfl, g1⟩
      rw [← HP.out.2.1] at g1
      have d0 := (g1.cell (p := ⟨w.heap.size, 0, none⟩) (by show w.heap.size < W.heap.size; rw [HP.out.2.2.1]; omega)).trans HP.out.2.2.2.1
      have t0 := (g1.cell (p := ⟨b, o, none⟩) HT.out.1).trans HT.out.2
      have d3 := (HP.out.2.2.2.2.1.below g1).c0
      have d4 := (HP.out.2.2.2.2.1.below g1).c1
      have b6 := HP.out.2.2.2.2.2.1.below g1
      have b7 := HP.out.2.2.2.2.2.2.below g1
      have c6 := b6.c0
      have f6 := b6.f0
      have c70 := b7.c0
      have c71 := b7.c1
      have f70 := b7.f0
      have f71 := b7.f1
      have z6 := (b6.store (.slice none 0 0)).other (q := ⟨w.heap.size + 3, 0, none⟩) (by show w.heap.size + 2 ≠ w.heap.size + 3; omega) (.int .i64 0)
      have z6' := z6.other (q := ⟨w.heap.size + 3, 1, none⟩) (by show w.heap.size + 2 ≠ w.heap.size + 3; omega) (.int .i64 0)
      have z7 := (b7.other (q := ⟨w.heap.size + 2, 0, none⟩) (by show w.heap.size + 3 ≠ w.heap.size + 2; omega) (.slice none 0 0)).store (.int .i64 0) (.int .i64 0)
      have y0 := z6'.c0
      have y1 := z7.c0
      have y2 := z7.c1
      have HO := hid (outSt_none (x := 9) ((((bel3 HP.out.1 g1).setCell (p := ⟨w.heap.size + 2, 0, none⟩) (by show w.heap.size ≤ w.heap.size + 2; omega) (.slice none 0 0)).setCell (p := ⟨w.heap.size + 3, 0, none⟩) (by show w.heap.size ≤ w.heap.size + 3; omega) (.int .i64 0)).setCell (p := ⟨w.heap.size + 3, 1, none⟩) (by show w.heap.size ≤ w.heap.size + 3; omega) (.int .i64 0)))
      clear b6 b7 z6 z6' z7 g1
      go_wp2_with (first | (go_at_call_of 20 (Value.int IntKind.i64 x); refine (CA.out _).mono ?_; rintro _ w9 ⟨rfl, h9⟩; (have h8 := h9.symm); subst h8))
      refine bodyPost_ret (v := .tuple #[.agg #[.slice none 0 0], .agg #[.int .i64 0, .int .i64 0], .int .i64 0, .slice none 0 0, .int .i64 9]) (by simp [results, Try.results7, go_sem, y0, y1, y2]) rfl ?_
      exact HO.out
theorem stepChk_ok (A : Ar) (x r m : Int) (h : stepChk A x r m = 0) : arMay A = true ∧ ((0 ≤ x ∧ x < many A) ∧ 0 ≤ r ∧ r ≤ 1073741824) ∧ 0 ≤ m ∧ m ≤ 64 := by
  have hm : arMay A = true := by
    unfold stepChk at h
    split at h
    · assumption
    · cases h
  rw [stepChk, if_pos hm] at h
  have h1 : (0 ≤ x ∧ x < many A) ∧ 0 ≤ r ∧ r ≤ 1073741824 := by
    split at h
    · assumption
    · cases h
  rw [if_pos h1] at h
  have h2 : 0 ≤ m ∧ m ≤ 64 := by
    split at h
    · assumption
    · cases h
  exact ⟨hm, h1, h2⟩
theorem stepChk_no (A : Ar) (x r m : Int) (h : stepChk A x r m ≠ 0) : arStep A x r m = stepNo (stepChk A x r m) := by
  unfold stepChk at h
  unfold arStep stepChk
  split
  · split
    · split
      · rename_i h1 h2 h3
        rw [if_pos h1, if_pos h2, if_pos h3] at h
        exact absurd rfl h
      · rfl
    · rfl
  · rfl

set_option maxHeartbeats 16000000 in
set_option maxRecDepth 8000 in
theorem refstep_ok (b o c : Nat) (h : Nat → Hd) (A : Ar) (x0 : Nat) (r0 : Int) (M : Nat) (w : World) (H : Arr w b o 3 h A) (hm : arMay A = true) (hx0 : x0 < many A) (hr0 : 0 ≤ r0) (hr1 : r0 ≤ 1073741824) (hM : M ≤ 64) :
    Calls Try.prog 7 #[.agg #[.slice (some ⟨b, o, none⟩) 3 c], .agg #[.int .i64 (x0 : Int), .int .i64 r0], .int .i64 (M : Int)] w (OutSt w (stepYes (many A) (scN (many A) (scBegin A x0 r0) M))) := by
  obtain ⟨W, hW⟩ : ∃ W, W = (((w.alloc (.cells #[.slice (some ⟨b, o, none⟩) 3 c] 24)).alloc (.cells #[.int .i64 (x0 : Int), .int .i64 r0] 26)).alloc (.cells #[.slice none 0 0] 24)).alloc (.cells #[.int .i64 0, .int .i64 0] 26) := ⟨_, rfl⟩
  have hB : Below w.heap.size w W := by rw [hW]; go_grown
  have hz : W.heap.size = w.heap.size + 4 := by rw [hW]; simp
  have c0 : W.cell? ⟨w.heap.size, 0, none⟩ = some (.slice (some ⟨b, o, none⟩) 3 c) := by rw [hW]; simp [go_sem]
  have cu : Box2 W (w.heap.size + 1) (.int .i64 (x0 : Int)) (.int .i64 r0) := ⟨by rw [hW]; simp [go_sem], by rw [hW]; simp [go_sem], by rw [hW]; simp [go_sem], by rw [hW]; simp [go_sem], by omega⟩
  have r6 : Box1 W (w.heap.size + 2) (.slice none 0 0) := ⟨by rw [hW]; simp [go_sem], by rw [hW]; simp [go_sem], by omega⟩
  have r7 : Box2 W (w.heap.size + 3) (.int .i64 0) (.int .i64 0) := ⟨by rw [hW]; simp [go_sem], by rw [hW]; simp [go_sem], by rw [hW]; simp [go_sem], by rw [hW]; simp [go_sem], by omega⟩
  have hmm := (arMay_iff A).1 hm
  have hN : many A ≤ 64 := hmm.2.2.2.1
  have hN1 : 16 ≤ many A := hmm.2.2.1
  have C1 := armay_any (some ⟨b, o, none⟩) 3 c A W (.inr ⟨b, o, h, rfl, H.below hB⟩)
  rw [hm, hW] at C1
  have CC := hid (fun wx (g : Below W.heap.size W wx) => acopy_any (some ⟨b, o, none⟩) 3 c A wx (.inr ⟨b, o, h, rfl, (H.below hB).below g⟩) (may_fits A hm))
  have HMay := hid (fun k => scN_may (many A) A x0 r0 hm rfl hx0 k)
  have HNx := hid (fun k => show (scN (many A) (scBegin A x0 r0) k).nx < many A by rw [scN_nx (many A) A x0 r0 hx0 k]; exact Nat.mod_lt _ (by omega))
  have HRd := hid (fun k => scN_rd_bd (many A) A x0 r0 k)
  have HCt := hid (fun k => scN_ct (many A) A x0 r0 k)
  have HS0 := hid (show (scN (many A) (scBegin A x0 r0) 0) = ⟨A, x0, r0, 0, fun _ => false⟩ from rfl)
  have HS1 := hid (fun k => show scN (many A) (scBegin A x0 r0) (k + 1) = scOne (many A) (scN (many A) (scBegin A x0 r0) k) from rfl)
  generalize scN (many A) (scBegin A x0 r0) = Z at HMay HNx HRd HCt HS0 HS1
  have hp : many A = (h 0).p := (H.dv 0 (by omega)).sn.symm
  have HT := hid (And.intro (H.below hB).lt ((H.below hB).three.1.1))
  have CA := hid (fun wx => in_any x0 0 ((many A : Int) - 1) wx)
  rw [show decide ((0 : Int) ≤ x0 ∧ (x0 : Int) ≤ (many A : Int) - 1) = true from decide_eq_true (by omega)] at CA
  have CB := hid (fun wx => in_any r0 0 1073741824 wx)
  rw [show decide ((0 : Int) ≤ r0 ∧ r0 ≤ 1073741824) = true from decide_eq_true ⟨hr0, hr1⟩] at CB
  have CM := hid (fun wx => in_any M 0 64 wx)
  rw [show decide ((0 : Int) ≤ M ∧ (M : Int) ≤ 64) = true from decide_eq_true (by omega)] at CM
  have mk := run_make_row' (P := Try.prog) 39 4 (.bool false) 1 Try.underlying39 info_bool rfl .i64 .i64 (many A) (by omega) (by omega)
  rw [made_one] at mk
  have H1 := hid C1
  have HP := hid (And.intro hB (And.intro hW (And.intro hz (And.intro c0 (And.intro cu (And.intro r6 r7))))))
  rw [← hp] at HT
  generalize many A = N at HMay HNx HS1 hN hN1 HT CA mk
  generalize (h 0).x = xx at HT
  generalize (h 0).c = cc at HT
  generalize hPP : OutSt w (stepYes N (Z M)) = PP
  have HPP := hid hPP
  clear C1 hB hW hz c0 cu r6 r7 H hm hmm hx0 hPP hp
  go_enter Try.func7, Try.ntmps7
  go_wp2_with fail
  refine H1.out.mono ?_
  rintro _ w1 ⟨rfl, g1⟩
  rw [← HP.out.2.1] at g1
  have d0 := (g1.cell (p := ⟨w.heap.size, 0, none⟩) (by show w.heap.size < W.heap.size; rw [HP.out.2.2.1]; omega)).trans HP.out.2.2.2.1
  have t0 := (g1.cell (p := ⟨b, o, none⟩) HT.out.1).trans HT.out.2
  have d3 := (HP.out.2.2.2.2.1.below g1).c0
  have d4 := (HP.out.2.2.2.2.1.below g1).c1
  have G1 := hid g1
  clear g1 H1
  go_wp2_with (first | (go_at_call_of 20 (Value.int IntKind.i64 (x0 : Int)); refine (CA.out _).mono ?_; rintro _ w9 ⟨rfl, h9⟩; (have h8 := h9.symm); subst h8) | (go_at_call_of 20 (Value.int IntKind.i64 r0); refine (CB.out _).mono ?_; rintro _ w9 ⟨rfl, h9⟩; (have h8 := h9.symm); subst h8) | (go_at_call_of 20 (Value.int IntKind.i64 (M : Int)); refine (CM.out _).mono ?_; rintro _ w9 ⟨rfl, h9⟩; (have h8 := h9.symm); subst h8))
  refine (CC.out _ G1.out).mono ?_
  rintro _ w3 ⟨a3, c3, rfl, h3, g3⟩
  rcases h3 with ⟨h30, _⟩ | ⟨b3, hd3, rfl, hb3, hf3⟩
  · omega
  have S3 := hid (stL_start (N := N) (stB_start (cc := c3) HP.out.1 HP.out.2.2.1 HP.out.2.2.2.2.1 HP.out.2.2.2.2.2.1 HP.out.2.2.2.2.2.2 (bel3 G1.out g3) (Nat.le_trans G1.out.size hb3) hf3.arr))
  clear hf3 hb3 g3 d0 t0 d3 d4 G1 CC CA CB CM
  go_wp2_with fail
  clear mk
  rw [show (w3.alloc (.cells #[.slice (some ⟨b3, 0, none⟩) 3 c3] 24)).heap.size = w3.heap.size + 1 by simp] at S3
  rw [List.toArray_replicate] at S3
  generalize w3.heap.size = pw at S3 ⊢
  generalize pw + 1 = bl at S3 ⊢
  generalize World.alloc (World.alloc w3 _) _ = W3 at S3 ⊢
  go_loopw [13, 15] (fun s13 s15 wr => ∃ k : Nat, k ≤ M ∧ s13 = .int .i64 (Z k).ct ∧ s15 = .int .i64 k ∧ ∃ b cw, Hid (StL w pw b cw (Z k).A (Z k).nx (Z k).rd bl N (Z k).lo wr)) (fun _ i _ => M - (intOf i).toNat)
  case atStart => exact ⟨0, Nat.zero_le _, by rw [HS0.out], rfl, b3, c3, by rw [HS0.out]; exact S3⟩
  case round =>
    obtain ⟨k, hk, rfl, rfl, bw, cw, HB⟩ := hrel
    clear S3
    have cb := HCt.out k
    by_cases hlt : k < M
    · have hlt' : (k : Int) < M := by omega
      have hx := HNx.out k
      have hrd := HRd.out k
      have hmk := HMay.out k
      have HE := hid (HS1.out k)
      have HF : Hid ((scOne N (Z k)).A = (if (arHeal (Z k).A (Z k).nx).2.2 = 0 then (arHeal (Z k).A (Z k).nx).1 else (Z k).A) ∧ (scOne N (Z k)).ct = (if (arHeal (Z k).A (Z k).nx).2.2 = 0 then (Z k).ct + (arHeal (Z k).A (Z k).nx).2.1 else (Z k).ct) ∧ (scOne N (Z k)).lo = (if (arHeal (Z k).A (Z k).nx).2.2 = 0 then (Z k).lo else upd (Z k).lo (Z k).nx true) ∧ (scOne N (Z k)).nx = (if (Z k).nx + 1 < N then (Z k).nx + 1 else 0) ∧ (scOne N (Z k)).rd = (if (Z k).nx + 1 < N then (Z k).rd else (Z k).rd + 1)) := ⟨rfl, rfl, rfl, rfl, rfl⟩
      have HH := hid (fun e => heal_may (Z k).A hmk.1 (Z k).nx (by rw [hmk.2]; exact hx) e)
      have HC1 := HCt.out (k + 1)
      obtain ⟨hw, hA⟩ := HB.out.st.ar
      have C2 := hid (refhealed_up (some ⟨bw, 0, none⟩) 3 cw (Z k).nx (Z k).A wr (.inr ⟨bw, 0, hw, rfl, hA⟩))
      have HMk := hid hmk
      clear hmk hA
      rw [HE.out] at HC1
      generalize scOne N (Z k) = Z1 at HE HF HC1
      generalize arHeal (Z k).A (Z k).nx = R at C2 HF HH
      generalize (Z k).A = Ak at C2 HF HH HMk HB
      generalize (Z k).nx = x at C2 HF HH hx HB
      generalize (Z k).rd = r at hrd HB HF
      generalize (Z k).lo = lo at HB HF
      generalize (Z k).ct = ct at HF cb ⊢
      have d2 := HB.out.st.bx.c0
      have d3 := HB.out.st.cu.c0
      go_wp2_with fail
      refine C2.out.mono ?_
      rintro _ w4 ⟨⟨a6, n6, c6, rfl, h6⟩, g6⟩
      go_upto_region 15 with fail
      obtain ⟨W5, hW5⟩ : ∃ W5, W5 = w4.alloc (.cells #[.slice a6 n6 c6] 24) := ⟨_, rfl⟩
      have b5 : Below w4.heap.size w4 W5 := by rw [hW5]; exact (Below.refl _ w4).alloc (Nat.le_refl _) _
      have p5 : W5.cell? ⟨w4.heap.size, 0, none⟩ = some (.slice a6 n6 c6) := by rw [hW5]; simp [go_sem]
      rw [← hW5]
      have g5 := bel3 g6 b5
      have S5 := hid (HB.out.to g5)
      have HLs := hid (And.intro HB.out.st.bx.lt (And.intro HB.out.lo.lt HB.out.st.lt))
      have Q6 := hid (And.intro h6 b5)
      clear hW5 g6 g5 b5 h6 d2 d3 C2
      by_cases e : R.2.2 = 0
      · have e' : (R.2.2 == 0) = true := beq_iff_eq.2 e
        have hmR := HH.out e
        have h3 := ((arMay_iff R.1).1 hmR.1).1
        rcases Q6.out.1 with ⟨_, hq, _⟩ | ⟨b6, hd6, rfl, hb6, hf6⟩
        · rw [hq] at h3; cases h3
        obtain rfl : n6 = 3 := by rw [hf6.arr.sn]; exact h3
        have HZ1 : Hid (Z1.A = R.1 ∧ Z1.ct = ct + R.2.1 ∧ Z1.lo = lo) := ⟨by rw [HF.out.1, if_pos e], by rw [HF.out.2.1, if_pos e], by rw [HF.out.2.2.1, if_pos e]⟩
        have hct : 0 ≤ ct + R.2.1 ∧ ct + R.2.1 ≤ 192 := by have := HZ1.out.2.1; omega
        have SN' := S5.out.put c6 (hf6.below Q6.out.2) (show bl < wr.heap.size from HLs.out.2.1) (show pw ≠ b6 by have := HLs.out.1; omega) (show w.heap.size + 4 ≤ b6 by have := HLs.out.2.2; omega)
        have d2 := S5.out.st.bx.c0
        have d2f := S5.out.st.bx.f0
        have SN := hid SN'
        clear e h3 hmR hf6 hb6 SN' HC1 cb HH S5 Q6 HB
        go_upto_region 19 with fail
        obtain ⟨W6, hW6⟩ : ∃ W6, W6 = W5.setCell ⟨pw, 0, none⟩ (.slice (some ⟨b6, 0, none⟩) 3 c6) := ⟨_, rfl⟩
        rw [← hW6] at SN ⊢
        clear hW6 p5 d2 d2f
        generalize R.2.1 = ra at HZ1 hct HF ⊢
        generalize R.1 = AR at HZ1 SN HF
        have d3 := SN.out.st.cu.c0
        have d4 := SN.out.st.cu.c1
        have d5 := SN.out.st.cu.f0
        have d6 := SN.out.st.cu.f1
        have SX := hid (SN.out.next ((x : Int) + 1))
        have k3 := SX.out.st.cu.c0
        have k4 := SX.out.st.cu.c1
        have k5 := SX.out.st.cu.f0
        have k6 := SX.out.st.cu.f1
        by_cases e2 : x + 1 < N
        · have e2' : ¬ ((N : Int) ≤ (x : Int) + 1) := by omega
          have HZ2 : Hid ((Z1.nx : Int) = (x : Int) + 1 ∧ Z1.rd = r) := ⟨by rw [HF.out.2.2.2.1, if_pos e2]; omega, by rw [HF.out.2.2.2.2, if_pos e2]⟩
          clear e2
          go_wp2
          go_roundw
          case rel => exact ⟨k + 1, by omega, by rw [HE.out, HZ1.out.2.1] <;> rfl, by go_num, b6, c6, by rw [HE.out, HZ1.out.1, HZ1.out.2.2, HZ2.out.1, HZ2.out.2]; exact hid SX.out⟩
          case measure => simp [intOf]; omega
        · have e2' : (N : Int) ≤ (x : Int) + 1 := by omega
          have HZ2 : Hid ((Z1.nx : Int) = 0 ∧ Z1.rd = r + 1) := ⟨by rw [HF.out.2.2.2.1, if_neg e2]; rfl, by rw [HF.out.2.2.2.2, if_neg e2]⟩
          clear e2
          have SY := hid (SX.out.next 0)
          have l3 := SY.out.st.cu.c0
          have l4 := SY.out.st.cu.c1
          have l6 := SY.out.st.cu.f1
          have ST := hid (SY.out.turn (r + 1))
          go_wp2
          go_roundw
          case rel => exact ⟨k + 1, by omega, by rw [HE.out, HZ1.out.2.1] <;> rfl, by go_num, b6, c6, by rw [HE.out, HZ1.out.1, HZ1.out.2.2, HZ2.out.1, HZ2.out.2]; exact hid ST.out⟩
          case measure => simp [intOf]; omega
      · have e' : (R.2.2 == 0) = false := beq_eq_false_iff_ne.2 e
        have HZ1 : Hid (Z1.A = Ak ∧ Z1.ct = ct ∧ Z1.lo = upd lo x true) := ⟨by rw [HF.out.1, if_neg e], by rw [HF.out.2.1, if_neg e], by rw [HF.out.2.2.1, if_neg e]⟩
        have SN := hid (S5.out.mark x hx)
        have d3 := S5.out.st.cu.c0
        have m0 := S5.out.lo.cell (boolsV_at N lo x hx)
        have m1 := S5.out.lo.free x
        have hx' : (x : Int) < N := by omega
        clear e HC1 HH S5 Q6 HB p5
        go_upto_region 19 with fail
        obtain ⟨W6, hW6⟩ : ∃ W6, W6 = W5.setCell ⟨bl, x, none⟩ (.bool true) := ⟨_, rfl⟩
        rw [← hW6] at SN ⊢
        clear hW6 d3 m0 m1
        have d3 := SN.out.st.cu.c0
        have d4 := SN.out.st.cu.c1
        have d5 := SN.out.st.cu.f0
        have d6 := SN.out.st.cu.f1
        have SX := hid (SN.out.next ((x : Int) + 1))
        have k3 := SX.out.st.cu.c0
        have k4 := SX.out.st.cu.c1
        have k5 := SX.out.st.cu.f0
        have k6 := SX.out.st.cu.f1
        by_cases e2 : x + 1 < N
        · have e2' : ¬ ((N : Int) ≤ (x : Int) + 1) := by omega
          have HZ2 : Hid ((Z1.nx : Int) = (x : Int) + 1 ∧ Z1.rd = r) := ⟨by rw [HF.out.2.2.2.1, if_pos e2]; omega, by rw [HF.out.2.2.2.2, if_pos e2]⟩
          clear e2
          go_wp2
          go_roundw
          case rel => exact ⟨k + 1, by omega, by rw [HE.out, HZ1.out.2.1] <;> rfl, by go_num, bw, cw, by rw [HE.out, HZ1.out.1, HZ1.out.2.2, HZ2.out.1, HZ2.out.2]; exact hid SX.out⟩
          case measure => simp [intOf]; omega
        · have e2' : (N : Int) ≤ (x : Int) + 1 := by omega
          have HZ2 : Hid ((Z1.nx : Int) = 0 ∧ Z1.rd = r + 1) := ⟨by rw [HF.out.2.2.2.1, if_neg e2]; rfl, by rw [HF.out.2.2.2.2, if_neg e2]⟩
          clear e2
          have SY := hid (SX.out.next 0)
          have l3 := SY.out.st.cu.c0
          have l4 := SY.out.st.cu.c1
          have l6 := SY.out.st.cu.f1
          have ST := hid (SY.out.turn (r + 1))
          go_wp2
          go_roundw
          case rel => exact ⟨k + 1, by omega, by rw [HE.out, HZ1.out.2.1] <;> rfl, by go_num, bw, cw, by rw [HE.out, HZ1.out.1, HZ1.out.2.2, HZ2.out.1, HZ2.out.2]; exact hid ST.out⟩
          case measure => simp [intOf]; omega
    · have hlt' : ¬ (k : Int) < M := by omega
      obtain rfl : k = M := by omega
      clear hlt hk
      have HRet := hid (fun wx a2 n2 c2 (E : StB w pw bw cw (Z k).A (Z k).nx (Z k).rd wx) (hI : IntsAt wx a2 n2 (ups (goneOf N (Z k).lo))) (hx2 : 0 < n2 → ∀ b o s, a2 = some ⟨b, o, s⟩ → w.heap.size + 4 ≤ b) => show PP (.returned (.tuple #[.agg #[.slice (some ⟨bw, 0, none⟩) 3 cw], .agg #[.int .i64 ((Z k).nx : Int), .int .i64 (Z k).rd], .int .i64 (Z k).ct, .slice a2 n2 c2, .int .i64 0])) _ by rw [← HPP.out]; exact E.out c2 hI hx2 (Z k).ct)
      generalize (Z k).A = Ak at HB HRet
      generalize ((Z k).nx : Int) = x at HB HRet
      generalize (Z k).rd = r at HB HRet
      generalize (Z k).lo = lo at HB HRet
      generalize (Z k).ct = ct at HRet cb ⊢
      clear HS0 HS1 HMay HNx HRd HCt HPP
      go_wp2_with fail
      go_loopw [19, 20] (fun v s20 wr => ∃ i : Nat, i ≤ N ∧ s20 = .int .i64 i ∧ Hid (StL w pw bw cw Ak x r bl N lo wr) ∧ Hid (OwnN wr (w.heap.size + 4) v (ups (goneOf i lo)))) (fun _ i _ => N - (intOf i).toNat)
      case atStart => exact ⟨0, Nat.zero_le _, rfl, HB, ownN_nil _ _⟩
      case round =>
        obtain ⟨i, hi, rfl, HI, HO⟩ := hrel
        clear HB
        by_cases hlt2 : i < N
        · have hlt2' : (i : Int) < N := by omega
          have m0 := HI.out.lo.cell (boolsV_at N lo i hlt2)
          have hgi := goneOf_len i lo
          cases hl : lo i with
          | false =>
            rw [hl] at m0
            have HU := hid (ups_goneOf_not i lo hl)
            clear hl
            go_wp2
            go_roundw
            case rel => exact ⟨i + 1, by omega, by go_num, HI, by rw [HU.out]; exact HO⟩
            case measure => simp [intOf]; omega
          | true =>
            rw [hl] at m0
            have HU := hid (ups_goneOf i lo hl)
            clear hl
            have S6 := hid (And.intro (HI.out.to ((Below.refl _ wr).alloc (Nat.le_refl _) (.cells #[.int .i64 (i : Int)] 3))) (HO.out.below ((Below.refl _ wr).alloc (Nat.le_refl _) (.cells #[.int .i64 (i : Int)] 3))))
            go_wp2_with (at_builtin; (refine wpList_appendN _ rfl (.tmp 100) (.tmp 102) rfl (w.heap.size + 4) u19 (ups (goneOf i lo)) (i : Int) rfl S6.out.2 ⟨wr.heap.size, 0, none⟩ rfl (laid_one wr i 3) (by rw [ups_length]; omega) S6.out.1.st.lt ?_; intro g7 m7 cap7 w7 hm7 hown7 hgrow7; (have SN := hid (And.intro (S6.out.1.grown (by omega) S6.out.2 hgrow7) hown7)); clear hown7 hgrow7 hm7))
            go_roundw
            case rel => exact ⟨i + 1, by omega, by go_num, hid SN.out.1, by rw [HU.out]; exact hid SN.out.2⟩
            case measure => simp [intOf]; omega
        · have hlt2' : ¬ (i : Int) < N := by omega
          obtain rfl : i = N := by omega
          clear hlt2 hi
          have hgi := goneOf_len i lo
          obtain ⟨a2, n2, c2, rfl, hI⟩ := ownsI_at HO.out.own (by rw [ups_length]; omega)
          have hx2 : 0 < n2 → ∀ b o s, a2 = some ⟨b, o, s⟩ → w.heap.size + 4 ≤ b := fun _ b o s e => (World.ownsRow.lt HO.out.own b (by rw [e]; rfl)).1
          have EB := hid (And.intro (HI.out.st.to ((Below.refl _ wr).drew)) (And.intro (hI.below ((Below.refl _ wr).drew)) hx2))
          have k0 := HI.out.st.bx.c0
          have k1 := HI.out.st.cu.c0
          have k2 := HI.out.st.cu.c1
          have k3 := HI.out.st.r6.c0
          have k4 := HI.out.st.r6.f0
          have k5 := HI.out.st.r7.c0
          have k6 := HI.out.st.r7.c1
          have k7 := HI.out.st.r7.f0
          have k8 := HI.out.st.r7.f1
          have z0 : (wr.setCell ⟨w.heap.size + 1 + 1, 0, none⟩ (.slice (some ⟨bw, 0, none⟩) 3 cw)).cell? ⟨w.heap.size + 1 + 1, 0, none⟩ = some (.slice (some ⟨bw, 0, none⟩) 3 cw) := World.cell?_setCell_same _ _ _ k3
          have z1 : ((wr.setCell ⟨w.heap.size + 1 + 1, 0, none⟩ (.slice (some ⟨bw, 0, none⟩) 3 cw)).setCell ⟨w.heap.size + 1 + 1 + 1, 0, none⟩ (.int .i64 x)).cell? ⟨w.heap.size + 1 + 1 + 1, 0, none⟩ = some (.int .i64 x) := World.cell?_setCell_same _ _ _ (HI.out.st.r7.other (q := ⟨w.heap.size + 1 + 1, 0, none⟩) (by show w.heap.size + 3 ≠ w.heap.size + 1 + 1; omega) (.slice (some ⟨bw, 0, none⟩) 3 cw)).c0
          have z2 : (((wr.setCell ⟨w.heap.size + 1 + 1, 0, none⟩ (.slice (some ⟨bw, 0, none⟩) 3 cw)).setCell ⟨w.heap.size + 1 + 1 + 1, 0, none⟩ (.int .i64 x)).setCell ⟨w.heap.size + 1 + 1 + 1, 1, none⟩ (.int .i64 r)).cell? ⟨w.heap.size + 1 + 1 + 1, 1, none⟩ = some (.int .i64 r) := ((HI.out.st.r7.other (q := ⟨w.heap.size + 1 + 1, 0, none⟩) (by show w.heap.size + 3 ≠ w.heap.size + 1 + 1; omega) (.slice (some ⟨bw, 0, none⟩) 3 cw)).store (.int .i64 x) (.int .i64 r)).c1
          clear hI hx2 HI HO
          go_wp2_with fail
          go_region
          all_goals go_wp2
          all_goals refine bodyPost_ret (v := .tuple #[.agg #[.slice (some ⟨bw, 0, none⟩) 3 cw], .agg #[.int .i64 x, .int .i64 r], .int .i64 ct, .slice a2 n2 c2, .int .i64 0]) (by simp [results, Try.results7, go_sem, z0, z1, z2]) rfl ?_
          all_goals exact HRet.out _ _ _ _ EB.out.1 EB.out.2.1 EB.out.2.2
theorem refstep_any (a : Option Addr) (n c : Nat) (A : Ar) (x r m : Int) (w : World) (H : ArrAt w a n A) :
    Calls Try.prog 7 #[.agg #[.slice a n c], .agg #[.int .i64 x, .int .i64 r], .int .i64 m] w (OutSt w (arStep A x r m)) := by
  by_cases h : stepChk A x r m = 0
  · obtain ⟨hm, h1, h2⟩ := stepChk_ok A x r m h
    rw [arStep, if_pos hm, if_pos h1, if_pos h2]
    obtain ⟨x', rfl⟩ : ∃ x' : Nat, x = x' := ⟨x.toNat, by omega⟩
    obtain ⟨m', rfl⟩ : ∃ m' : Nat, m = m' := ⟨m.toNat, by omega⟩
    obtain ⟨rfl, b, o, hd, rfl, HX⟩ := may_three H hm
    exact refstep_ok b o c hd A x' r m' w HX hm (by omega) h1.2.1 h1.2.2 (by omega)
  · rw [stepChk_no A x r m h]
    exact refstep_no a n c A x r m w H h
end Go.Proofs.Ytpnmidkocmokeaa
