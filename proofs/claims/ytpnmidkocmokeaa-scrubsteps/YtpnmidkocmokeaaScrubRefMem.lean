/- What lies in memory while the document's own SteppedOf goes on. -/
import Derived.Test.YtpnmidkocmokeaaScrubMem
import Derived.Test.YtpnmidkocmokeaaHealUp
namespace Go.Proofs.Ytpnmidkocmokeaa
open Go.RowKit Go.Lib

/-- A row of bools. -/
def boolsV (N : Nat) (f : Nat → Bool) : List Value := (List.range N).map fun i => Value.bool (f i)
theorem boolsV_len (N : Nat) (f : Nat → Bool) : (boolsV N f).length = N := by simp [boolsV]
theorem boolsV_at (N : Nat) (f : Nat → Bool) (i : Nat) (hi : i < N) : (boolsV N f)[i]? = some (.bool (f i)) := by simp [boolsV, hi]
theorem boolsV_set (N : Nat) (f : Nat → Bool) (i : Nat) (v : Bool) : (boolsV N f).set i (.bool v) = boolsV N (upd f i v) := by
  apply List.ext_getElem?
  intro j
  by_cases hj : j < N
  · by_cases e : i = j
    · subst e
      rw [List.getElem?_set_self (by rw [boolsV_len]; exact hj), boolsV_at _ _ _ hj]
      simp [upd]
    · rw [List.getElem?_set_ne e, boolsV_at _ _ _ hj, boolsV_at _ _ _ hj]
      have : ¬ j = i := fun x => e x.symm
      simp [upd, this]
  · rw [List.getElem?_eq_none (by rw [List.length_set, boolsV_len]; omega), List.getElem?_eq_none (by rw [boolsV_len]; omega)]
/-- Rows of bools of an array's devices lie in other blocks. -/
def Offs (bl : Nat) (h : Nat → Hd) : Prop := ∀ i, i < 3 → ∀ b o, (h i).y = some ⟨b, o, none⟩ → 0 < (h i).q → b ≠ bl
/-- A bool is stored over a bool, in another block than the array's. -/
theorem Arr.mark {w : World} {b : Nat} {h : Nat → Hd} {A : Ar} (H : Arr w b 0 3 h A) {bl j : Nat} (ho : Offs bl h) {x : Bool} (hp : w.cell? ⟨bl, j, none⟩ = some (.bool x)) (u : Value) : Arr (w.setCell ⟨bl, j, none⟩ u) b 0 3 h A := by
  have ne : ∀ {q : Addr} {v : Value}, w.cell? q = some v → (∀ y, v ≠ .bool y) → (w.setCell ⟨bl, j, none⟩ u).cell? q = some v := fun {q v} hq hv => by
    rw [World.cell?_setCell_other _ _ _ _ (fun e => ?_)]
    · exact hq
    · rw [e, hq] at hp
      exact hv x (Option.some.inj hp)
  refine ⟨H.sn, H.nb, by rw [setCell_size]; exact H.lt, fun i hi => ne (H.c0 i hi) (fun _ e => by cases e), fun i hi => ne (H.c1 i hi) (fun _ e => by cases e), fun i hi => ?_⟩
  have d := H.dv i hi
  refine ⟨d.sn, d.sm, fun k v hv => ?_, fun k v hv => ?_, d.nb, d.mb⟩
  · obtain ⟨b1, o1, e1, hlt, hc⟩ := d.S k v hv
    refine ⟨b1, o1, e1, by rw [setCell_size]; exact hlt, ne hc (fun y e => ?_)⟩
    obtain ⟨s, _, hs⟩ := List.mem_map.1 (List.mem_of_getElem? hv)
    rw [e] at hs
    cases hs
  · obtain ⟨b1, o1, e1, hlt, hc⟩ := d.L k v hv
    refine ⟨b1, o1, e1, by rw [setCell_size]; exact hlt, ?_⟩
    have hq : 0 < (h i).q := by
      rw [d.sm]
      rcases Nat.eq_zero_or_pos (dev A i).2.length with z | z
      · rw [List.eq_nil_of_length_eq_zero z] at hv; simp at hv
      · exact z
    rw [World.cell?_setCell_other _ _ _ _ (fun e => ho i hi b1 o1 e1 hq (congrArg Addr.block e).symm)]
    exact hc

/-- While the document's step goes on: as the program's; which could not be read, as bools. -/
structure StL (w : World) (pw b cw : Nat) (A : Ar) (x r : Int) (bl N : Nat) (lo : Nat → Bool) (wr : World) : Prop where
  st : StB w pw b cw A x r wr
  of : ∃ h, Arr wr b 0 3 h A ∧ Offs bl h
  lo : Own wr bl 4 (boolsV N lo)
  bl : w.heap.size + 4 ≤ bl ∧ pw ≠ bl
section
variable {w wr w' : World} {pw b cw bl N : Nat} {A : Ar} {x r : Int} {lo : Nat → Bool} {v : Value} {L : List Int}
theorem StL.to (H : StL w pw b cw A x r bl N lo wr) (g : Below wr.heap.size wr w') : StL w pw b cw A x r bl N lo w' := by
  obtain ⟨h, hA, hO⟩ := H.of
  exact ⟨H.st.to g, ⟨h, hA.below g, hO⟩, H.lo.below' g, H.bl⟩
theorem StL.grown (H : StL w pw b cw A x r bl N lo wr) (hN : 0 < N) (hO : OwnN wr (w.heap.size + 4) v L) (g : wr.grownBy w' v.ownBlock) : StL w pw b cw A x r bl N lo w' := by
  obtain ⟨h, hA, hf⟩ := H.of
  have hk : ∀ p u, wr.cell? p = some u → (∀ n, u ≠ .int .i64 n) → w'.heap[p.block]? = wr.heap[p.block]? := fun p u hc hu => g.block p.block (cell_plain hc).2 (fun e => hO.apart hc hu e.symm)
  exact ⟨H.st.grown hO g, ⟨h, hA.keeps g.size (fun p u hc hu => (World.cell?_of_block (a := p) (hk p u hc hu)).trans hc), hf⟩, H.lo.of_block (hk ⟨bl, 0, none⟩ _ (H.lo.cell (boolsV_at N lo 0 hN)) (fun _ e => by cases e)), H.bl⟩
/-- The array is another one, its rows new. -/
theorem StL.put (H : StL w pw b cw A x r bl N lo wr) {B b' : Nat} (c' : Nat) {h' : Nat → Hd} {A' : Ar} (hA : ArrUp B wr b' 0 3 h' A') (hB : bl < B) (hp : pw ≠ b') (hb : w.heap.size + 4 ≤ b') : StL w pw b' c' A' x r bl N lo (wr.setCell ⟨pw, 0, none⟩ (.slice (some ⟨b', 0, none⟩) 3 c')) :=
  ⟨H.st.put c' hA.arr hp hb, ⟨h', hA.arr.box hp H.st.bx.c0 _, fun i hi b o e hq => by have := (hA.up i hi).2 b o e hq; omega⟩, H.lo.other (fun e => H.bl.2 e.symm) _, H.bl⟩
theorem StB.next (H : StB w pw b cw A x r wr) (x' : Int) : StB w pw b cw A x' r (wr.setCell ⟨w.heap.size + 1, 0, none⟩ (.int .i64 x')) := by
  have pb := H.pb
  obtain ⟨h, hA⟩ := H.ar
  refine ⟨H.bx.other (by show pw ≠ w.heap.size + 1; omega) _, ⟨h, hA.number H.cu.c0 _⟩, H.bb, ⟨World.cell?_setCell_same _ _ _ H.cu.c0, ?_, by rw [World.frozen?_setCell]; exact H.cu.f0, by rw [World.frozen?_setCell]; exact H.cu.f1, by rw [setCell_size]; exact H.cu.lt⟩, H.r6.other (by show w.heap.size + 2 ≠ w.heap.size + 1; omega) _, H.r7.other (by show w.heap.size + 3 ≠ w.heap.size + 1; omega) _, pb, by rw [setCell_size]; exact H.lt, H.below.setCell (by show w.heap.size ≤ w.heap.size + 1; omega) _⟩
  rw [World.cell?_setCell_other _ _ _ _ (by simp)]
  exact H.cu.c1
theorem StB.turn (H : StB w pw b cw A x r wr) (r' : Int) : StB w pw b cw A x r' (wr.setCell ⟨w.heap.size + 1, 1, none⟩ (.int .i64 r')) := by
  have pb := H.pb
  obtain ⟨h, hA⟩ := H.ar
  refine ⟨H.bx.other (by show pw ≠ w.heap.size + 1; omega) _, ⟨h, hA.number H.cu.c1 _⟩, H.bb, ⟨?_, World.cell?_setCell_same _ _ _ H.cu.c1, by rw [World.frozen?_setCell]; exact H.cu.f0, by rw [World.frozen?_setCell]; exact H.cu.f1, by rw [setCell_size]; exact H.cu.lt⟩, H.r6.other (by show w.heap.size + 2 ≠ w.heap.size + 1; omega) _, H.r7.other (by show w.heap.size + 3 ≠ w.heap.size + 1; omega) _, pb, by rw [setCell_size]; exact H.lt, H.below.setCell (by show w.heap.size ≤ w.heap.size + 1; omega) _⟩
  rw [World.cell?_setCell_other _ _ _ _ (by simp)]
  exact H.cu.c0
theorem StL.next (H : StL w pw b cw A x r bl N lo wr) (x' : Int) : StL w pw b cw A x' r bl N lo (wr.setCell ⟨w.heap.size + 1, 0, none⟩ (.int .i64 x')) := by
  obtain ⟨h, hA, hO⟩ := H.of
  exact ⟨H.st.next x', ⟨h, hA.number H.st.cu.c0 _, hO⟩, H.lo.other (by have := H.bl.1; show bl ≠ w.heap.size + 1; omega) _, H.bl⟩
theorem StL.turn (H : StL w pw b cw A x r bl N lo wr) (r' : Int) : StL w pw b cw A x r' bl N lo (wr.setCell ⟨w.heap.size + 1, 1, none⟩ (.int .i64 r')) := by
  obtain ⟨h, hA, hO⟩ := H.of
  exact ⟨H.st.turn r', ⟨h, hA.number H.st.cu.c1 _, hO⟩, H.lo.other (by have := H.bl.1; show bl ≠ w.heap.size + 1; omega) _, H.bl⟩
/-- One more that could not be read. -/
theorem StL.mark (H : StL w pw b cw A x r bl N lo wr) (j : Nat) (hj : j < N) : StL w pw b cw A x r bl N (upd lo j true) (wr.setCell ⟨bl, j, none⟩ (.bool true)) := by
  obtain ⟨h, hA, hO⟩ := H.of
  have hb := H.bl
  have hA' := hA.mark hO (H.lo.cell (boolsV_at N lo j hj)) (.bool true)
  have ho := H.lo.set (i := j) (by rw [boolsV_len]; exact hj) (.bool true)
  rw [boolsV_set] at ho
  refine ⟨⟨H.st.bx.other (by show pw ≠ bl; exact hb.2) _, ⟨h, hA'⟩, H.st.bb, H.st.cu.other (by show w.heap.size + 1 ≠ bl; omega) _, H.st.r6.other (by show w.heap.size + 2 ≠ bl; omega) _, H.st.r7.other (by show w.heap.size + 3 ≠ bl; omega) _, H.st.pb, by rw [setCell_size]; exact H.st.lt, H.st.below.setCell (by show w.heap.size ≤ bl; omega) _⟩, ⟨h, hA', hO⟩, ho, hb⟩
end
/-- At the loop's head: the row of bools is new. -/
theorem stL_start {w W2 : World} {pw b cw N : Nat} {A : Ar} {x r : Int} (H : StB w pw b cw A x r W2) : StL w pw b cw A x r W2.heap.size N (fun _ => false) (W2.alloc (.cells (List.replicate N (Value.bool false)).toArray 4)) := by
  have ga : Below W2.heap.size W2 (W2.alloc (.cells (List.replicate N (Value.bool false)).toArray 4)) := (Below.refl _ W2).alloc (Nat.le_refl _) _
  obtain ⟨h, hA⟩ := H.ar
  refine ⟨H.to ga, ⟨h, hA.below ga, fun i hi b o e hq => ?_⟩, ?_, H.lt, by have := H.bx.lt; omega⟩
  · have d := hA.dv i hi
    have hl : 0 < (dev A i).2.length := by rw [← d.sm]; exact hq
    obtain ⟨b1, o1, e1, hlt, _⟩ := d.L 0 (.bool ((dev A i).2[0])) (by simp [hl])
    rw [e] at e1
    cases e1
    omega
  · have := Own.made W2 4 (List.replicate N (Value.bool false))
    have e : List.replicate N (Value.bool false) = boolsV N (fun _ => false) := by
      unfold boolsV
      rw [List.map_const', List.length_range]
    rw [e] at this ⊢
    exact this
end Go.Proofs.Ytpnmidkocmokeaa
