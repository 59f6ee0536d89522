/- What lies in memory while a step goes on: the array's box, the cursor's, those of the results; the numbers. -/
import Derived.Test.YtpnmidkocmokeaaScrubSort
import Derived.Test.YtpnmidkocmokeaaScrubSmall
import Derived.Test.YtpnmidkocmokeaaArrStore
namespace Go.Proofs.Ytpnmidkocmokeaa
open Go.RowKit Go.Lib

/-- A box of one cell that may be written. -/
structure Box1 (w : World) (p : Nat) (d : Value) : Prop where
  c0 : w.cell? ⟨p, 0, none⟩ = some d
  f0 : w.frozen? ⟨p, 0, none⟩ = false
  lt : p < w.heap.size
section
variable {w w' : World} {p : Nat} {d d1 d2 : Value}
theorem Box1.of_block (h : Box1 w p d) (e : w'.heap[p]? = w.heap[p]?) (hs : w.heap.size ≤ w'.heap.size) : Box1 w' p d :=
  ⟨(World.cell?_of_block (a := ⟨p, 0, none⟩) e).trans h.c0, (World.frozen?_of_block (a := ⟨p, 0, none⟩) e).trans h.f0, Nat.lt_of_lt_of_le h.lt hs⟩
theorem Box1.below (h : Box1 w p d) (g : Below w.heap.size w w') : Box1 w' p d := h.of_block (g.block p h.lt) g.size
theorem setCell_size (w : World) (p : Addr) (v : Value) : (w.setCell p v).heap.size = w.heap.size := by simp [World.setCell]
theorem Box1.store (h : Box1 w p d) (v : Value) : Box1 (w.setCell ⟨p, 0, none⟩ v) p v :=
  ⟨World.cell?_setCell_same _ _ _ h.c0, by rw [World.frozen?_setCell]; exact h.f0, by rw [setCell_size]; exact h.lt⟩
theorem Box1.other (h : Box1 w p d) {q : Addr} (hq : p ≠ q.block) (v : Value) : Box1 (w.setCell q v) p d := h.of_block (Below.heap_setCell w q v p hq) (by rw [setCell_size]; exact Nat.le_refl _)
theorem Box2.of_block (h : Box2 w p d1 d2) (e : w'.heap[p]? = w.heap[p]?) (hs : w.heap.size ≤ w'.heap.size) : Box2 w' p d1 d2 :=
  ⟨(World.cell?_of_block (a := ⟨p, 0, none⟩) e).trans h.c0, (World.cell?_of_block (a := ⟨p, 1, none⟩) e).trans h.c1, (World.frozen?_of_block (a := ⟨p, 0, none⟩) e).trans h.f0, (World.frozen?_of_block (a := ⟨p, 1, none⟩) e).trans h.f1, Nat.lt_of_lt_of_le h.lt hs⟩
end
theorem grown_setCell (w : World) (p : Addr) (v : Value) : w.grownBy (w.setCell p v) (some p.block) := ⟨rfl, rfl, rfl, by rw [setCell_size]; exact Nat.le_refl _, fun k _ hk => Below.heap_setCell w p v k (fun e => hk (by rw [e]))⟩
theorem OwnN.off {w : World} {base : Nat} {v : Value} {L : List Int} (h : OwnN w base v L) {p : Addr} (hp : v.ownBlock ≠ some p.block) (u : Value) : OwnN (w.setCell p u) base v L := by
  refine ⟨World.ownsRow.kept h.own (grown_setCell w p u) ?_, fun b hb => ?_⟩
  · cases e : v.ownBlock with
    | none => exact .inl rfl
    | some x => exact .inr (fun h2 => hp (e.trans h2))
  · obtain ⟨cs, t, fr, h1, h2⟩ := h.int b hb
    exact ⟨cs, t, fr, (Below.heap_setCell w p u b (fun e => hp (by rw [hb, e]))).trans h1, h2⟩

/-- An array's rows stay where the blocks that hold something else than numbers stay. -/
theorem RowAt.keeps {w w' : World} {x : Option Addr} {V : List Value} (h : RowAt w x V) (hV : ∀ v ∈ V, ∀ n, v ≠ .int .i64 n) (hs : w.heap.size ≤ w'.heap.size) (hk : ∀ p u, w.cell? p = some u → (∀ n, u ≠ .int .i64 n) → w'.cell? p = some u) : RowAt w' x V := by
  intro i v hv
  obtain ⟨b, o, e, hlt, hc⟩ := h i v hv
  exact ⟨b, o, e, Nat.lt_of_lt_of_le hlt hs, hk _ _ hc (hV v (List.mem_of_getElem? hv))⟩
theorem Arr.keeps {w w' : World} {b o n : Nat} {h : Nat → Hd} {A : Ar} (H : Arr w b o n h A) (hs : w.heap.size ≤ w'.heap.size) (hk : ∀ p u, w.cell? p = some u → (∀ n, u ≠ .int .i64 n) → w'.cell? p = some u) : Arr w' b o n h A := by
  refine ⟨H.sn, H.nb, Nat.lt_of_lt_of_le H.lt hs, fun i hi => hk _ _ (H.c0 i hi) (fun _ e => by cases e), fun i hi => hk _ _ (H.c1 i hi) (fun _ e => by cases e), fun i hi => ?_⟩
  have d := H.dv i hi
  refine ⟨d.sn, d.sm, d.S.keeps ?_ hs hk, d.L.keeps ?_ hs hk, d.nb, d.mb⟩
  · intro v hv n e
    obtain ⟨s, _, rfl⟩ := List.mem_map.1 hv
    cases e
  · intro v hv n e
    obtain ⟨s, _, rfl⟩ := List.mem_map.1 hv
    cases e
/-- .. where a number is stored over a number. -/
theorem Arr.number {w : World} {b o n : Nat} {h : Nat → Hd} {A : Ar} (H : Arr w b o n h A) {p : Addr} {x : Int} (hp : w.cell? p = some (.int .i64 x)) (u : Value) : Arr (w.setCell p u) b o n h A :=
  H.keeps (by rw [setCell_size]; exact Nat.le_refl _) (fun q v hq hv => by
    rw [World.cell?_setCell_other _ _ _ _ (fun e => ?_)]
    · exact hq
    · rw [e, hq] at hp
      exact hv x (Option.some.inj hp))
/-- .. where a slice is stored over a slice of another block. -/
theorem Arr.box {w : World} {b o n p : Nat} {h : Nat → Hd} {A : Ar} (H : Arr w b o n h A) (hp : p ≠ b) {a : Option Addr} {k c : Nat} (hc : w.cell? ⟨p, 0, none⟩ = some (.slice a k c)) (v : Value) : Arr (w.setCell ⟨p, 0, none⟩ v) b o n h A := by
  refine ⟨H.sn, H.nb, by rw [setCell_size]; exact H.lt, fun i hi => ?_, fun i hi => ?_, fun i hi => (H.dv i hi).slices hc v⟩
  · rw [World.cell?_setCell_other _ _ _ _ (fun e => hp (congrArg Addr.block e))]; exact H.c0 i hi
  · rw [World.cell?_setCell_other _ _ _ _ (fun e => hp (congrArg Addr.block e))]; exact H.c1 i hi

/-- While a step goes on: the array's box and the array; the cursor's box; the boxes of two results. -/
structure StB (w : World) (pw : Nat) (b cw : Nat) (A : Ar) (x r : Int) (wr : World) : Prop where
  bx : Box1 wr pw (.slice (some ⟨b, 0, none⟩) 3 cw)
  ar : ∃ h, Arr wr b 0 3 h A
  bb : w.heap.size + 4 ≤ b
  cu : Box2 wr (w.heap.size + 1) (.int .i64 x) (.int .i64 r)
  r6 : Box1 wr (w.heap.size + 2) (.slice none 0 0)
  r7 : Box2 wr (w.heap.size + 3) (.int .i64 0) (.int .i64 0)
  pb : w.heap.size + 4 ≤ pw
  lt : w.heap.size + 4 ≤ wr.heap.size
  below : Below w.heap.size w wr
section
variable {w wr w' : World} {pw b cw : Nat} {A : Ar} {x r : Int} {v : Value} {L : List Int}
theorem StB.to (H : StB w pw b cw A x r wr) (g : Below wr.heap.size wr w') : StB w pw b cw A x r w' := by
  obtain ⟨h, hA⟩ := H.ar
  exact ⟨H.bx.below g, ⟨h, hA.below g⟩, H.bb, H.cu.below g, H.r6.below g, H.r7.below g, H.pb, Nat.le_trans H.lt g.size, bel3 H.below g⟩
/-- Where the row of numbers alone was written. -/
theorem StB.grown (H : StB w pw b cw A x r wr) (hO : OwnN wr (w.heap.size + 4) v L) (g : wr.grownBy w' v.ownBlock) : StB w pw b cw A x r w' := by
  obtain ⟨h, hA⟩ := H.ar
  have hk : ∀ p u, wr.cell? p = some u → (∀ n, u ≠ .int .i64 n) → w'.heap[p.block]? = wr.heap[p.block]? := fun p u hc hu => g.block p.block (cell_plain hc).2 (fun e => hO.apart hc hu e.symm)
  have lo : ∀ k, k < w.heap.size + 4 → w'.heap[k]? = wr.heap[k]? := fun k hk => g.block k (Nat.lt_of_lt_of_le hk H.lt) (fun e => by have := (World.ownsRow.lt hO.own k e.symm).1; omega)
  refine ⟨H.bx.of_block (hk _ _ H.bx.c0 (fun _ e => by cases e)) g.size, ⟨h, hA.keeps g.size (fun p u hc hu => (World.cell?_of_block (a := p) (hk p u hc hu)).trans hc)⟩, H.bb, H.cu.of_block (lo _ (by omega)) g.size, H.r6.of_block (lo _ (by omega)) g.size, H.r7.of_block (lo _ (by omega)) g.size, H.pb, Nat.le_trans H.lt g.size, ?_⟩
  exact H.below.grown g H.below.size (fun k hk => by have := (World.ownsRow.lt hO.own k hk).1; omega)
/-- The array is another one. -/
theorem StB.put (H : StB w pw b cw A x r wr) {b' : Nat} (c' : Nat) {h' : Nat → Hd} {A' : Ar} (hA : Arr wr b' 0 3 h' A') (hp : pw ≠ b') (hb : w.heap.size + 4 ≤ b') : StB w pw b' c' A' x r (wr.setCell ⟨pw, 0, none⟩ (.slice (some ⟨b', 0, none⟩) 3 c')) := by
  have pb := H.pb
  refine ⟨H.bx.store _, ⟨h', hA.box hp H.bx.c0 _⟩, hb, H.cu.other (by show _ ≠ pw; omega) _, H.r6.other (by show _ ≠ pw; omega) _, H.r7.other (by show _ ≠ pw; omega) _, pb, by rw [setCell_size]; exact H.lt, H.below.setCell (by show w.heap.size ≤ pw; omega) _⟩
theorem StB.putN (H : StB w pw b cw A x r wr) (hO : OwnN wr (w.heap.size + 4) v L) (u : Value) : OwnN (wr.setCell ⟨pw, 0, none⟩ u) (w.heap.size + 4) v L := hO.off (hO.apart H.bx.c0 (fun _ e => by cases e)) u
/-- The cursor goes further. -/
theorem StB.cur (H : StB w pw b cw A x r wr) (x' r' : Int) : StB w pw b cw A x' r' ((wr.setCell ⟨w.heap.size + 1, 0, none⟩ (.int .i64 x')).setCell ⟨w.heap.size + 1, 1, none⟩ (.int .i64 r')) := by
  have pb := H.pb
  obtain ⟨h, hA⟩ := H.ar
  have e1 : (wr.setCell ⟨w.heap.size + 1, 0, none⟩ (.int .i64 x')).cell? ⟨w.heap.size + 1, 1, none⟩ = some (.int .i64 r) := by rw [World.cell?_setCell_other _ _ _ _ (by simp)]; exact H.cu.c1
  refine ⟨(H.bx.other (by show pw ≠ w.heap.size + 1; omega) _).other (by show pw ≠ w.heap.size + 1; omega) _, ⟨h, (hA.number H.cu.c0 _).number e1 _⟩, H.bb, H.cu.store _ _, (H.r6.other (by show w.heap.size + 2 ≠ w.heap.size + 1; omega) _).other (by show w.heap.size + 2 ≠ w.heap.size + 1; omega) _, (H.r7.other (by show w.heap.size + 3 ≠ w.heap.size + 1; omega) _).other (by show w.heap.size + 3 ≠ w.heap.size + 1; omega) _, pb, by rw [setCell_size, setCell_size]; exact H.lt, (H.below.setCell (by show w.heap.size ≤ w.heap.size + 1; omega) _).setCell (by show w.heap.size ≤ w.heap.size + 1; omega) _⟩
end
/-- What Step answers. -/
def OutSt (w : World) (R : StepR) (e : Ending) (w' : World) : Prop :=
  (∃ a n c a2 n2 c2, e = .returned (.tuple #[.agg #[.slice a n c], .agg #[.int .i64 R.nx, .int .i64 R.rd], .int .i64 R.ct, .slice a2 n2 c2, .int .i64 R.e]) ∧ ArrAt w' a n R.A ∧ IntsAt w' a2 n2 (ups R.gone)) ∧ Below w.heap.size w w'
theorem RowAt.far {w : World} {x : Option Addr} {V : List Value} (h : RowAt w x V) {p : Addr} (hp : ∀ b o s, x = some ⟨b, o, s⟩ → b ≠ p.block) (u : Value) : RowAt (w.setCell p u) x V := by
  intro i v hv
  obtain ⟨b, o, e, hlt, hc⟩ := h i v hv
  refine ⟨b, o, e, by rw [setCell_size]; exact hlt, ?_⟩
  rw [World.cell?_setCell_other _ _ _ _ (fun e2 => hp b o none e (congrArg Addr.block e2).symm)]
  exact hc
theorem IntsAt.far {w : World} {x : Option Addr} {n : Nat} {L : List Int} (h : IntsAt w x n L) {p : Addr} {B : Nat} (hx : 0 < n → ∀ b o s, x = some ⟨b, o, s⟩ → B ≤ b) (hp : p.block < B) (u : Value) : IntsAt (w.setCell p u) x n L := by
  refine ⟨h.sn, h.nb, ?_⟩
  by_cases h0 : n = 0
  · have : L = [] := List.eq_nil_of_length_eq_zero (by rw [← h.sn, h0])
    rw [this]
    exact RowAt.nil
  · exact h.R.far (fun b o s e => by have := hx (by omega) b o s e; omega) u
theorem StB.out {w wr : World} {pw b cw : Nat} {A : Ar} {x r : Int} (H : StB w pw b cw A x r wr) {a2 : Option Addr} {n2 : Nat} (c2 : Nat) {L : List Nat} (hI : IntsAt wr a2 n2 (ups L)) (hx : 0 < n2 → ∀ b o s, a2 = some ⟨b, o, s⟩ → w.heap.size + 4 ≤ b) (ct : Int) :
    OutSt w ⟨A, x, r, ct, L, 0⟩ (.returned (.tuple #[.agg #[.slice (some ⟨b, 0, none⟩) 3 cw], .agg #[.int .i64 x, .int .i64 r], .int .i64 ct, .slice a2 n2 c2, .int .i64 0])) (((wr.setCell ⟨w.heap.size + 2, 0, none⟩ (.slice (some ⟨b, 0, none⟩) 3 cw)).setCell ⟨w.heap.size + 3, 0, none⟩ (.int .i64 x)).setCell ⟨w.heap.size + 3, 1, none⟩ (.int .i64 r)) := by
  obtain ⟨h, hA⟩ := H.ar
  have bb := H.bb
  have H7 := H.r7.other (q := ⟨w.heap.size + 2, 0, none⟩) (by show w.heap.size + 3 ≠ w.heap.size + 2; omega) (.slice (some ⟨b, 0, none⟩) 3 cw)
  have e1 : ((wr.setCell ⟨w.heap.size + 2, 0, none⟩ (.slice (some ⟨b, 0, none⟩) 3 cw)).setCell ⟨w.heap.size + 3, 0, none⟩ (.int .i64 x)).cell? ⟨w.heap.size + 3, 1, none⟩ = some (.int .i64 0) := by rw [World.cell?_setCell_other _ _ _ _ (by simp)]; exact H7.c1
  refine ⟨⟨_, 3, cw, a2, n2, c2, rfl, .inr ⟨b, 0, h, rfl, ((hA.box (by omega) H.r6.c0 _).number H7.c0 _).number e1 _⟩, ?_⟩, ((H.below.setCell (by show w.heap.size ≤ w.heap.size + 2; omega) _).setCell (by show w.heap.size ≤ w.heap.size + 3; omega) _).setCell (by show w.heap.size ≤ w.heap.size + 3; omega) _⟩
  exact ((hI.far hx (by show w.heap.size + 2 < w.heap.size + 4; omega) _).far hx (by show w.heap.size + 3 < w.heap.size + 4; omega) _).far hx (by show w.heap.size + 3 < w.heap.size + 4; omega) _
theorem outSt_none {w w' : World} {x : Int} (g : Below w.heap.size w w') : OutSt w (stepNo x) (.returned (.tuple #[.agg #[.slice none 0 0], .agg #[.int .i64 0, .int .i64 0], .int .i64 0, .slice none 0 0, .int .i64 x])) w' :=
  ⟨⟨none, 0, 0, none, 0, 0, rfl, .inl ⟨rfl, rfl⟩, intsAt_none _ _⟩, g⟩
/-- At the loop's head. -/
theorem stB_start {w W w2 : World} {b cc : Nat} {h : Nat → Hd} {A : Ar} {x r : Int} (hB : Below w.heap.size w W) (hz : W.heap.size = w.heap.size + 4) (cu : Box2 W (w.heap.size + 1) (.int .i64 x) (.int .i64 r)) (r6 : Box1 W (w.heap.size + 2) (.slice none 0 0)) (r7 : Box2 W (w.heap.size + 3) (.int .i64 0) (.int .i64 0)) (g : Below W.heap.size W w2) (hb : W.heap.size ≤ b) (hf : Arr w2 b 0 3 h A) :
    StB w w2.heap.size b cc A x r (w2.alloc (.cells #[.slice (some ⟨b, 0, none⟩) 3 cc] 24)) := by
  have ga : Below w2.heap.size w2 (w2.alloc (.cells #[.slice (some ⟨b, 0, none⟩) 3 cc] 24)) := (Below.refl _ w2).alloc (Nat.le_refl _) _
  have gg := bel3 g ga
  have := g.size
  have := ga.size
  exact ⟨⟨by simp [go_sem], by simp [go_sem], by simp⟩, ⟨h, hf.below ga⟩, by omega, cu.below gg, r6.below gg, r7.below gg, by omega, by omega, bel3 hB gg⟩
/-- Where the cursor stands, as the program reckons it. -/
theorem next_nx (n : Nat) (s : Sc) : nextX s.nx n = ((scOne n s).nx : Int) ∧ nextR s.nx s.rd n = (scOne n s).rd := by
  have e1 : (scOne n s).nx = if s.nx + 1 < n then s.nx + 1 else 0 := rfl
  have e2 : (scOne n s).rd = if s.nx + 1 < n then s.rd else s.rd + 1 := rfl
  rw [e1, e2]
  unfold nextX nextR
  by_cases e : s.nx + 1 < n
  · have e' : (s.nx : Int) + 1 < n := by omega
    rw [if_pos e, if_pos e, if_pos e', if_pos e']
    exact ⟨by omega, rfl⟩
  · have e' : ¬ (s.nx : Int) + 1 < n := by omega
    rw [if_neg e, if_neg e, if_neg e', if_neg e']
    exact ⟨rfl, rfl⟩
theorem scN_rd_bd (n : Nat) (A : Ar) (nx : Nat) (rd : Int) : ∀ k : Nat, rd ≤ (scN n (scBegin A nx rd) k).rd ∧ (scN n (scBegin A nx rd) k).rd ≤ rd + k
  | 0 => ⟨Int.le_refl _, by show rd ≤ rd + 0; omega⟩
  | k + 1 => by
    have h := scN_rd_bd n A nx rd k
    have e : (scN n (scBegin A nx rd) (k + 1)).rd = if (scN n (scBegin A nx rd) k).nx + 1 < n then (scN n (scBegin A nx rd) k).rd else (scN n (scBegin A nx rd) k).rd + 1 := rfl
    rw [e]
    split <;> omega
end Go.Proofs.Ytpnmidkocmokeaa
