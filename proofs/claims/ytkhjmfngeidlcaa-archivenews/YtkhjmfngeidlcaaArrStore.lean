/- A device stored into an array of the call's own. -/
import Derived.Test.YtkhjmfngeidlcaaArrMem
namespace Go.Proofs.Ytkhjmfngeidlcaa
open Go.RowKit Go.Lib

/-- Texts and bools stay where a slice is stored over a slice. -/
theorem RowAt.slices {w : World} {x : Option Addr} {V : List Value} (h : RowAt w x V) (hV : ∀ v ∈ V, ∀ a n c, v ≠ .slice a n c) {p : Addr} {a : Option Addr} {n c : Nat} (hp : w.cell? p = some (.slice a n c)) (u : Value) : RowAt (w.setCell p u) x V := by
  intro i v hv
  obtain ⟨b, o, e, hlt, hc⟩ := h i v hv
  refine ⟨b, o, e, by simpa [World.setCell] using hlt, ?_⟩
  rw [World.cell?_setCell_other _ _ _ _ (fun e2 => ?_)]
  · exact hc
  · rw [e2, hc] at hp
    exact hV v (List.mem_of_getElem? hv) a n c (Option.some.inj hp)
theorem DevAt.slices {w : World} {x y : Option Addr} {n m : Nat} {D : Dv} (h : DevAt w x n y m D) {p : Addr} {a : Option Addr} {k c : Nat} (hp : w.cell? p = some (.slice a k c)) (u : Value) : DevAt (w.setCell p u) x n y m D := by
  refine ⟨h.sn, h.sm, h.S.slices ?_ hp u, h.L.slices ?_ hp u, h.nb, h.mb⟩
  · intro v hv a n c e
    obtain ⟨s, _, rfl⟩ := List.mem_map.1 hv
    cases e
  · intro v hv a n c e
    obtain ⟨s, _, rfl⟩ := List.mem_map.1 hv
    cases e

/-- An array whose devices can be stored over. -/
structure ArrFree (w : World) (b o n : Nat) (h : Nat → Hd) (A : Ar) : Prop where
  arr : Arr w b o n h A
  free : ∀ j, w.frozen? ⟨b, j, none⟩ = false
section
variable {w w' : World} {b o n : Nat} {h : Nat → Hd} {A : Ar}
theorem ArrFree.below (H : ArrFree w b o n h A) (g : Below w.heap.size w w') : ArrFree w' b o n h A := ⟨H.arr.below g, fun j => (g.frozen (p := ⟨b, j, none⟩) H.arr.lt).trans (H.free j)⟩
def setH (h : Nat → Hd) (i : Nat) (d : Hd) : Nat → Hd := fun j => if j = i then d else h j
/-- Behind the two stores. -/
theorem ArrFree.store (H : ArrFree w b o n h A) (i : Nat) (hi : i < n) (d : Hd) (D : Dv) (hD : DevAt w d.x d.p d.y d.q D) :
    ArrFree ((w.setCell ⟨b, o + i * 2, none⟩ (.slice d.x d.p d.c)).setCell ⟨b, o + i * 2 + 1, none⟩ (.slice d.y d.q d.d)) b o n (setH h i d) (A.set i D) ∧ w.grownBy ((w.setCell ⟨b, o + i * 2, none⟩ (.slice d.x d.p d.c)).setCell ⟨b, o + i * 2 + 1, none⟩ (.slice d.y d.q d.d)) (some b) := by
  have e1 : (w.setCell ⟨b, o + i * 2, none⟩ (.slice d.x d.p d.c)).cell? ⟨b, o + i * 2 + 1, none⟩ = some (.slice (h i).y (h i).q (h i).d) := by
    rw [World.cell?_setCell_other _ _ _ _ (fun e => by have := congrArg Addr.off e; simp at this)]
    exact H.arr.c1 i hi
  have hsz : ((w.setCell ⟨b, o + i * 2, none⟩ (.slice d.x d.p d.c)).setCell ⟨b, o + i * 2 + 1, none⟩ (.slice d.y d.q d.d)).heap.size = w.heap.size := by simp [World.setCell]
  refine ⟨⟨⟨by rw [List.length_set]; exact H.arr.sn, H.arr.nb, by rw [hsz]; exact H.arr.lt, fun j hj => ?_, fun j hj => ?_, fun j hj => ?_⟩, fun j => ?_⟩, ⟨rfl, rfl, rfl, by rw [hsz]; exact Nat.le_refl _, fun k _ hk => ?_⟩⟩
  · rw [World.cell?_setCell_other _ _ _ _ (fun e => by have := congrArg Addr.off e; simp at this; omega)]
    by_cases e : j = i
    · subst e
      rw [World.cell?_setCell_same _ _ _ (H.arr.c0 j hj)]
      simp [setH]
    · rw [World.cell?_setCell_other _ _ _ _ (fun e2 => by have := congrArg Addr.off e2; simp at this; omega), H.arr.c0 j hj]
      simp [setH, e]
  · by_cases e : j = i
    · subst e
      rw [World.cell?_setCell_same _ _ _ e1]
      simp [setH]
    · rw [World.cell?_setCell_other _ _ _ _ (fun e2 => by have := congrArg Addr.off e2; simp at this; omega), World.cell?_setCell_other _ _ _ _ (fun e2 => by have := congrArg Addr.off e2; simp at this; omega), H.arr.c1 j hj]
      simp [setH, e]
  · have dv : DevAt w (setH h i d j).x (setH h i d j).p (setH h i d j).y (setH h i d j).q (dev (A.set i D) j) := by
      by_cases e : j = i
      · subst e
        have : dev (A.set j D) j = D := by simp [dev, ← H.arr.sn, hj]
        rw [this]
        simpa [setH] using hD
      · have : dev (A.set i D) j = dev A j := by simp [dev, List.getElem?_set_ne (fun x => e x.symm)]
        rw [this]
        simpa [setH, e] using H.arr.dv j hj
    exact (dv.slices (H.arr.c0 i hi) _).slices e1 _
  · rw [World.frozen?_setCell, World.frozen?_setCell]; exact H.free j
  · rw [Below.heap_setCell _ _ _ _ (fun e => hk (by rw [e])), Below.heap_setCell _ _ _ _ (fun e => hk (by rw [e]))]
theorem grown_trans {b : Nat} {w w1 w2 : World} (h : w.grownBy w1 (some b)) (k : w1.grownBy w2 (some b)) : w.grownBy w2 (some b) :=
  ⟨k.os.trans h.os, k.tape.trans h.tape, k.output.trans h.output, Nat.le_trans h.size k.size, fun i hi hne => (k.block i (Nat.lt_of_lt_of_le hi h.size) hne).trans (h.block i hi hne)⟩
theorem grown_below {b : Nat} {w w1 : World} (g : Below w.heap.size w w1) : w.grownBy w1 (some b) := ⟨g.os, g.tape, g.output, g.size, fun k hk _ => g.block k hk⟩
end
theorem dev_set_other (A : Ar) (i j : Nat) (D : Dv) (h : i ≠ j) : dev (A.set i D) j = dev A j := by simp [dev, List.getElem?_set_ne h]

/-- What a store of a device leaves behind a call that answered it. -/
theorem stored {w w4 : World} {b o i : Nat} {h : Nat → Hd} {A : Ar} (H : ArrFree w b o 3 h A) (hi : i < 3) (g : Below w.heap.size w w4) {x y : Option Addr} {p c q d : Nat} {D : Dv} (hD : DevAt w4 x p y q D) :
    (w4.cell? ⟨b, o + i * 2, none⟩ = some (.slice (h i).x (h i).p (h i).c) ∧ w4.cell? ⟨b, o + i * 2 + 1, none⟩ = some (.slice (h i).y (h i).q (h i).d) ∧ w4.frozen? ⟨b, o + i * 2, none⟩ = false ∧ w4.frozen? ⟨b, o + i * 2 + 1, none⟩ = false) ∧
    (∃ h', ArrFree ((w4.setCell ⟨b, o + i * 2, none⟩ (.slice x p c)).setCell ⟨b, o + i * 2 + 1, none⟩ (.slice y q d)) b o 3 h' (A.set i D)) ∧ w.grownBy ((w4.setCell ⟨b, o + i * 2, none⟩ (.slice x p c)).setCell ⟨b, o + i * 2 + 1, none⟩ (.slice y q d)) (some b) := by
  have H4 := H.below g
  obtain ⟨k1, k2⟩ := H4.store i hi ⟨x, p, c, y, q, d⟩ D hD
  exact ⟨⟨H4.arr.c0 i hi, H4.arr.c1 i hi, H4.free _, H4.free _⟩, ⟨_, k1⟩, grown_trans (grown_below g) k2⟩

theorem box_other {w w' : World} {b p : Nat} {v : Value} (g : w.grownBy w' (some b)) (hc : w.cell? ⟨p, 0, none⟩ = some v) (hp : p < w.heap.size) (hne : p ≠ b) : w'.cell? ⟨p, 0, none⟩ = some v :=
  (World.cell?_of_block (a := ⟨p, 0, none⟩) (g.block p hp (fun e => hne (Option.some.inj e)))).trans hc

/-- An array that comes out of a call in new memory, with an error; its devices can be stored over. -/
def OutA (w : World) (r : Ar × Int) (e : Ending) (w' : World) : Prop :=
  (∃ a n c, e = .returned (.tuple #[.agg #[.slice a n c], .int .i64 r.2]) ∧ ((n = 0 ∧ r.1 = [] ∧ a = none) ∨ ∃ b h, a = some ⟨b, 0, none⟩ ∧ w.heap.size ≤ b ∧ ArrFree w' b 0 n h r.1)) ∧ Below w.heap.size w w'

theorem outA_none {w w' : World} {x : Int} (g : Below w.heap.size w w') : OutA w ([], x) (.returned (.tuple #[.agg #[.slice none 0 0], .int .i64 x])) w' := ⟨⟨none, 0, 0, rfl, .inl ⟨rfl, rfl, rfl⟩⟩, g⟩

/-- A device laid into a box. -/
structure DBx (W : World) (p : Nat) (d : Hd) (D : Dv) : Prop where
  b : Box2 W p (.slice d.x d.p d.c) (.slice d.y d.q d.d)
  d : DevAt W d.x d.p d.y d.q D
theorem DBx.below {W W' : World} {p : Nat} {d : Hd} {D : Dv} (h : DBx W p d D) (g : Below W.heap.size W W') : DBx W' p d D := ⟨h.b.below g, h.d.below g⟩
theorem boxedx {w : World} {x x' : Option Addr} {n e m e' : Nat} {D : Dv} (hX : DevAt w x n x' m D) : ∃ W, W = w.alloc (.cells #[.slice x n e, .slice x' m e'] 37) ∧ Below w.heap.size w W ∧ DBx W w.heap.size ⟨x, n, e, x', m, e'⟩ D := by
  have hb : Below w.heap.size w (w.alloc (.cells #[.slice x n e, .slice x' m e'] 37)) := (Below.refl _ w).alloc (Nat.le_refl _) _
  exact ⟨_, rfl, hb, box2_of (Own.made w 37 [.slice x n e, .slice x' m e']), hX.below hb⟩
theorem bel3 {w W W' : World} (h : Below w.heap.size w W) (g : Below W.heap.size W W') : Below w.heap.size w W' := h.trans (g.mono h.size)

/-- Three devices laid side by side, new. -/
theorem arr_new3 (w : World) (d0 d1 d2 : Hd) (D0 D1 D2 : Dv) (h0 : DevAt w d0.x d0.p d0.y d0.q D0) (h1 : DevAt w d1.x d1.p d1.y d1.q D1) (h2 : DevAt w d2.x d2.p d2.y d2.q D2) :
    ArrFree (w.alloc (.cells #[.slice d0.x d0.p d0.c, .slice d0.y d0.q d0.d, .slice d1.x d1.p d1.c, .slice d1.y d1.q d1.d, .slice d2.x d2.p d2.c, .slice d2.y d2.q d2.d] 37)) w.heap.size 0 3 (fun i => if i = 0 then d0 else if i = 1 then d1 else d2) [D0, D1, D2] := by
  have hb : Below w.heap.size w (w.alloc (.cells #[.slice d0.x d0.p d0.c, .slice d0.y d0.q d0.d, .slice d1.x d1.p d1.c, .slice d1.y d1.q d1.d, .slice d2.x d2.p d2.c, .slice d2.y d2.q d2.d] 37)) := (Below.refl _ w).alloc (Nat.le_refl _) _
  have ho := Own.made w 37 [.slice d0.x d0.p d0.c, .slice d0.y d0.q d0.d, .slice d1.x d1.p d1.c, .slice d1.y d1.q d1.d, .slice d2.x d2.p d2.c, .slice d2.y d2.q d2.d]
  refine ⟨⟨rfl, by unfold maxLen; omega, ho.lt, fun i hi => ?_, fun i hi => ?_, fun i hi => ?_⟩, fun j => ho.free j⟩
  · match i, hi with
    | 0, _ => exact ho.cell rfl
    | 1, _ => exact ho.cell rfl
    | 2, _ => exact ho.cell rfl
  · match i, hi with
    | 0, _ => exact ho.cell rfl
    | 1, _ => exact ho.cell rfl
    | 2, _ => exact ho.cell rfl
  · match i, hi with
    | 0, _ => exact h0.below hb
    | 1, _ => exact h1.below hb
    | 2, _ => exact h2.below hb

/-- An array's box of one cell, stored over. -/
theorem ArrFree.box {w : World} {b o n p : Nat} {h : Nat → Hd} {A : Ar} (H : ArrFree w b o n h A) (hp : p ≠ b) {a : Option Addr} {k c : Nat} (hc : w.cell? ⟨p, 0, none⟩ = some (.slice a k c)) (v : Value) : ArrFree (w.setCell ⟨p, 0, none⟩ v) b o n h A := by
  refine ⟨⟨H.arr.sn, H.arr.nb, by have := H.arr.lt; simpa [World.setCell] using this, fun i hi => ?_, fun i hi => ?_, fun i hi => (H.arr.dv i hi).slices hc v⟩, fun j => ?_⟩
  · rw [World.cell?_setCell_other _ _ _ _ (fun e => hp (congrArg Addr.block e))]; exact H.arr.c0 i hi
  · rw [World.cell?_setCell_other _ _ _ _ (fun e => hp (congrArg Addr.block e))]; exact H.arr.c1 i hi
  · rw [World.frozen?_setCell]; exact H.free j

theorem info_dev : (Try.prog.info? 37).map (fun i => (i.zero, i.size, i.bytes)) = some (some (.agg #[.slice none 0 0, .slice none 0 0]), 2, 48) := by kernel_rfl

/-- How long an array's lists can be. -/
structure ArrFits (n : Nat) (A : Ar) : Prop where
  big : n * 48 ≤ 140737488351232
  each : ∀ i, i < n → (dev A i).1.length * 16 ≤ 140737488351232 ∧ (dev A i).2.length ≤ 140737488351232
  strs : ∀ i, i < n → ∀ s ∈ (dev A i).1, s.size ≤ 140737488351232

/-- An array that comes out alone, in new memory. -/
def OutC (w : World) (n : Nat) (A : Ar) (e : Ending) (w' : World) : Prop :=
  ∃ a' c', e = .returned (.agg #[.slice a' n c']) ∧ ((n = 0 ∧ A = []) ∨ ∃ b h, a' = some ⟨b, 0, none⟩ ∧ w.heap.size ≤ b ∧ ArrFree w' b 0 n h A) ∧ Below w.heap.size w w'

theorem may_fits (A : Ar) (h : arMay A = true) : ArrFits 3 A := by
  have hm := (arMay_iff A).1 h
  have hd : ∀ i, i < 3 → dvMay (dev A i) = true := fun i hi => hm.2.1 _ (dev_mem A i (by rw [hm.1]; exact hi))
  refine ⟨by omega, fun i hi => ?_, fun i hi s hs => ?_⟩
  · have := ((dvMay_iff _).1 (hd i hi)).1
    omega
  · have := ((dvMay_iff _).1 (hd i hi)).2 s hs
    omega
theorem may_three {w : World} {a : Option Addr} {n : Nat} {A : Ar} (H : ArrAt w a n A) (h : arMay A = true) : n = 3 ∧ ∃ b o hd, a = some ⟨b, o, none⟩ ∧ Arr w b o 3 hd A := by
  have hm := (arMay_iff A).1 h
  rcases H with ⟨_, h1⟩ | ⟨b, o, hd, rfl, H⟩
  · rw [h1] at hm; cases hm.1
  · obtain rfl : n = 3 := by rw [H.sn]; exact hm.1
    exact ⟨rfl, b, o, hd, rfl, H⟩
/-- An array at the head of its block. -/
theorem ArrFree.store0 {w : World} {b n : Nat} {h : Nat → Hd} {A : Ar} (H : ArrFree w b 0 n h A) (i : Nat) (hi : i < n) (d : Hd) (D : Dv) (hD : DevAt w d.x d.p d.y d.q D) :
    (w.cell? ⟨b, i * 2, none⟩ = some (.slice (h i).x (h i).p (h i).c) ∧ w.cell? ⟨b, i * 2 + 1, none⟩ = some (.slice (h i).y (h i).q (h i).d) ∧ w.frozen? ⟨b, i * 2, none⟩ = false ∧ w.frozen? ⟨b, i * 2 + 1, none⟩ = false) ∧
    ArrFree ((w.setCell ⟨b, i * 2, none⟩ (.slice d.x d.p d.c)).setCell ⟨b, i * 2 + 1, none⟩ (.slice d.y d.q d.d)) b 0 n (setH h i d) (A.set i D) ∧ w.grownBy ((w.setCell ⟨b, i * 2, none⟩ (.slice d.x d.p d.c)).setCell ⟨b, i * 2 + 1, none⟩ (.slice d.y d.q d.d)) (some b) := by
  have k := H.store i hi d D hD
  have c0 := H.arr.c0 i hi
  have c1 := H.arr.c1 i hi
  rw [Nat.zero_add] at k c0 c1
  exact ⟨⟨c0, c1, H.free _, H.free _⟩, k⟩
def nilH : Hd := ⟨none, 0, 0, none, 0, 0⟩
theorem dev_rep (n i : Nat) : dev (List.replicate n nil2) i = nil2 := by
  unfold dev
  rw [List.getElem?_replicate]
  split <;> rfl
set_option maxRecDepth 20000 in
/-- A new array of nothing. -/
theorem made_free (w : World) (n : Nat) (hn : n ≤ maxLen) : ArrFree (w.alloc (.cells (List.replicate (n * 2) (.slice none 0 0)).toArray 37)) w.heap.size 0 n (fun _ => nilH) (List.replicate n nil2) := by
  have ho := Own.made w 37 (List.replicate (n * 2) (.slice none 0 0))
  refine ⟨⟨by simp, hn, ho.lt, fun i hi => ?_, fun i hi => ?_, fun i hi => ?_⟩, fun j => ho.free j⟩
  · exact ho.cell (by rw [List.getElem?_replicate, if_pos (by omega)]; rfl)
  · exact ho.cell (by rw [List.getElem?_replicate, if_pos (by omega)]; rfl)
  · rw [dev_rep]; exact devAt_none _
set_option maxRecDepth 20000 in
theorem make_devs (n : Nat) (hn : 48 * n ≤ 281474976710656) (w : World) :
    (Instr.makeSlice 22 (.int .i64 (n : Int)) (.int .i64 (n : Int))).run Try.prog w = .ok (.slice (some ⟨w.heap.size, 0, none⟩) n n) (w.alloc (.cells (List.replicate (n * 2) (.slice none 0 0)).toArray 37)) := by
  obtain ⟨i, hi, hzz⟩ := Option.map_eq_some_iff.1 info_dev
  simp only [Prod.mk.injEq] at hzz
  obtain ⟨hz, hs, hb⟩ := hzz
  have hr := run_make (P := Try.prog) w 22 37 i _ Try.underlying22 hi hz .i64 .i64 n n (by omega) (Int.le_refl _) (by rw [hb]; omega) (by omega)
  simp only [Int.toNat_natCast, hs] at hr
  rw [hr]
  congr 3
  apply Array.ext'
  apply List.ext_getElem
  · simp [madeCells]
  · intro j h1 h2
    have : j % 2 = 0 ∨ j % 2 = 1 := by omega
    rcases this with e | e <;> simp [madeCells, Value.cells, e]
/-- So many devices are there. -/
def upTo (A : Ar) (n k : Nat) : Ar := A.take k ++ List.replicate (n - k) nil2
theorem upTo_none (A : Ar) (n : Nat) : upTo A n 0 = List.replicate n nil2 := by simp [upTo]
theorem upTo_all (A : Ar) (n : Nat) (h : n = A.length) : upTo A n n = A := by simp [upTo, h]
theorem upTo_step (A : Ar) (n k : Nat) (hn : n = A.length) (h : k < n) : (upTo A n k).set k (dev A k) = upTo A n (k + 1) := by
  unfold upTo
  rw [List.set_append_right _ _ (by simp; omega), show n - k = (n - (k + 1)) + 1 by omega, List.replicate_succ]
  have e : k - (List.take k A).length = 0 := by simp; omega
  rw [e, List.set_cons_zero, List.take_succ_eq_append_getElem (by omega), dev_lt A k (by omega), List.append_assoc]
  rfl
/-- While an array is filled: the result's box p, the array behind it, its box. -/
structure Fill (w : World) (p n : Nat) (A : Ar) (h : Nat → Hd) (k : Nat) (W : World) : Prop where
  rc : W.cell? ⟨p, 0, none⟩ = some (.slice none 0 0)
  rf : W.frozen? ⟨p, 0, none⟩ = false
  cb : W.cell? ⟨p + 1 + 1, 0, none⟩ = some (.slice (some ⟨p + 1, 0, none⟩) n n)
  fr : ArrFree W (p + 1) 0 n h (upTo A n k)
  lt : p + 3 ≤ W.heap.size
  ge : w.heap.size ≤ p
  below : Below w.heap.size w W
section
variable {w W W' : World} {p n : Nat} {A : Ar} {h : Nat → Hd} {k : Nat}
theorem Fill.to (H : Fill w p n A h k W) (g : Below W.heap.size W W') : Fill w p n A h k W' := by
  have l := H.lt
  exact ⟨(g.cell (p := ⟨p, 0, none⟩) (by show p < _; omega)).trans H.rc, (g.frozen (p := ⟨p, 0, none⟩) (by show p < _; omega)).trans H.rf, (g.cell (p := ⟨p + 1 + 1, 0, none⟩) (by show p + 1 + 1 < _; omega)).trans H.cb, H.fr.below g, Nat.le_trans l g.size, H.ge, H.below.trans (g.mono H.below.size)⟩
theorem Fill.step (H : Fill w p n A h k W) (hn : n = A.length) (hk : k < n) (d : Hd) (hD : DevAt W d.x d.p d.y d.q (dev A k)) :
    Fill w p n A (setH h k d) (k + 1) ((W.setCell ⟨p + 1, k * 2, none⟩ (.slice d.x d.p d.c)).setCell ⟨p + 1, k * 2 + 1, none⟩ (.slice d.y d.q d.d)) := by
  obtain ⟨_, k1, k2⟩ := H.fr.store0 k hk d _ hD
  have l := H.lt
  have ge := H.ge
  have o1 := box_other k2 H.rc (by omega) (by omega)
  have o2 := box_other k2 H.cb (by omega) (by omega)
  refine ⟨o1, ?_, o2, ?_, by have := k2.size; omega, H.ge, ?_⟩
  · rw [World.frozen?_setCell, World.frozen?_setCell]; exact H.rf
  · rw [← upTo_step A n k hn hk]; exact k1
  · exact (H.below.setCell (p := ⟨p + 1, k * 2, none⟩) (by show w.heap.size ≤ p + 1; omega) _).setCell (p := ⟨p + 1, k * 2 + 1, none⟩) (by show w.heap.size ≤ p + 1; omega) _
end
/-- While an array is written: the result's box, the copy's box, the copy itself. -/
structure WrI (w : World) (pr pc b cc : Nat) (A : Ar) (W : World) : Prop where
  rc : W.cell? ⟨pr, 0, none⟩ = some (.slice none 0 0)
  rf : W.frozen? ⟨pr, 0, none⟩ = false
  cb : W.cell? ⟨pc, 0, none⟩ = some (.slice (some ⟨b, 0, none⟩) 3 cc)
  fr : ∃ h, ArrFree W b 0 3 h A
  ge : w.heap.size ≤ pr ∧ w.heap.size ≤ b
  ne : pr ≠ b ∧ pc ≠ b
  lt : pr < W.heap.size ∧ pc < W.heap.size ∧ pr < pc
  below : Below w.heap.size w W
section
variable {w W W' : World} {pr pc b cc : Nat} {A A' : Ar}
theorem WrI.grown (H : WrI w pr pc b cc A W) (g : W.grownBy W' (some b)) (hf : ∃ h, ArrFree W' b 0 3 h A') : WrI w pr pc b cc A' W' := by
  refine ⟨box_other g H.rc H.lt.1 H.ne.1, ?_, box_other g H.cb H.lt.2.1 H.ne.2, hf, H.ge, H.ne, ⟨Nat.lt_of_lt_of_le H.lt.1 g.size, Nat.lt_of_lt_of_le H.lt.2.1 g.size, H.lt.2.2⟩, ?_⟩
  · exact (World.frozen?_of_block (a := ⟨pr, 0, none⟩) (g.block pr H.lt.1 (fun e => H.ne.1 (Option.some.inj e)))).trans H.rf
  · exact H.below.grown g H.below.size (fun k hk => by cases hk; exact H.ge.2)
theorem WrI.to (H : WrI w pr pc b cc A W) (g : Below W.heap.size W W') : WrI w pr pc b cc A W' := H.grown (grown_below g) (by obtain ⟨h, hh⟩ := H.fr; exact ⟨h, hh.below g⟩)
theorem WrI.drew (H : WrI w pr pc b cc A W) : WrI w pr pc b cc A W.drew := H.to ((Below.refl _ W).drew)
/-- The copy's box is stored into the result's. -/
theorem WrI.out (H : WrI w pr pc b cc A W) : OutA w (A, 0) (.returned (.tuple #[.agg #[.slice (some ⟨b, 0, none⟩) 3 cc], .int .i64 0])) (W.setCell ⟨pr, 0, none⟩ (.slice (some ⟨b, 0, none⟩) 3 cc)) := by
  obtain ⟨h, hh⟩ := H.fr
  exact ⟨⟨_, 3, cc, rfl, .inr ⟨b, h, rfl, H.ge.2, hh.box H.ne.1 H.rc _⟩⟩, H.below.setCell (p := ⟨pr, 0, none⟩) H.ge.1 _⟩
end
theorem wrI_start {w W w2 : World} {pr b cc : Nat} {h : Nat → Hd} {A : Ar} (hB : Below w.heap.size w W) (hp : w.heap.size ≤ pr) (hlt : pr < W.heap.size) (rc : W.cell? ⟨pr, 0, none⟩ = some (.slice none 0 0)) (rf : W.frozen? ⟨pr, 0, none⟩ = false) (g : Below W.heap.size W w2) (hb : W.heap.size ≤ b) (hf : ArrFree w2 b 0 3 h A) :
    WrI w pr w2.heap.size b cc A (w2.alloc (.cells #[.slice (some ⟨b, 0, none⟩) 3 cc] 24)) := by
  have ga : Below w2.heap.size w2 (w2.alloc (.cells #[.slice (some ⟨b, 0, none⟩) 3 cc] 24)) := (Below.refl _ w2).alloc (Nat.le_refl _) _
  have gg : Below W.heap.size W (w2.alloc (.cells #[.slice (some ⟨b, 0, none⟩) 3 cc] 24)) := bel3 g ga
  have l2 := hf.arr.lt
  have := g.size
  have := hB.size
  refine ⟨(gg.cell (p := ⟨pr, 0, none⟩) hlt).trans rc, (gg.frozen (p := ⟨pr, 0, none⟩) hlt).trans rf, by simp, ⟨h, hf.below ga⟩, ⟨hp, by omega⟩, ⟨by omega, by omega⟩, ⟨?_, ?_, by omega⟩, bel3 hB gg⟩
  · have := ga.size; omega
  · simp
end Go.Proofs.Ytkhjmfngeidlcaa
