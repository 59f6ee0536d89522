/- What 'hurt' answers: the array with all that was done to its devices. -/
import Derived.Test.YtgholkjpbdcdiaaDoorKeepFill
import Derived.Test.YtgholkjpbdcdiaaDoorArrReplace
import Derived.Test.YtgholkjpbdcdiaaDoorDevTurn
import Derived.Test.YtgholkjpbdcdiaaDoorHigh
namespace Go.Proofs.YtgholkjpbdcdiaaDoor
open Go.RowKit Go.Lib

def nilAct : Hact := ⟨0, 0, 0, 0, 0⟩
def act (L : List Hact) (i : Nat) : Hact := L[i]?.getD nilAct
/-- Acts stand from a place of a block on. -/
structure Acts (w : World) (b o n : Nat) (L : List Hact) : Prop where
  sn : n = L.length
  nb : n ≤ maxLen
  lt : b < w.heap.size
  c0 : ∀ i, i < n → w.cell? ⟨b, o + i * 7, none⟩ = some (.int .i64 (act L i).kind)
  c1 : ∀ i, i < n → w.cell? ⟨b, o + i * 7 + 1, none⟩ = some (.slice none 0 0)
  c2 : ∀ i, i < n → w.cell? ⟨b, o + i * 7 + 2, none⟩ = some (.string ⟨#[]⟩)
  c3 : ∀ i, i < n → w.cell? ⟨b, o + i * 7 + 3, none⟩ = some (.int .i64 (act L i).d)
  c4 : ∀ i, i < n → w.cell? ⟨b, o + i * 7 + 4, none⟩ = some (.int .i64 (act L i).n)
  c5 : ∀ i, i < n → w.cell? ⟨b, o + i * 7 + 5, none⟩ = some (.int .i64 (act L i).at_)
  c6 : ∀ i, i < n → w.cell? ⟨b, o + i * 7 + 6, none⟩ = some (.int .i64 (act L i).by_)
def ActsAt (w : World) (a : Option Addr) (n : Nat) (L : List Hact) : Prop := (n = 0 ∧ L = []) ∨ ∃ b o, a = some ⟨b, o, none⟩ ∧ Acts w b o n L
section
variable {w w' : World} {a : Option Addr} {b o n : Nat} {L : List Hact}
theorem Acts.below (H : Acts w b o n L) (g : Below w.heap.size w w') : Acts w' b o n L :=
  ⟨H.sn, H.nb, Nat.lt_of_lt_of_le H.lt g.size, fun i hi => (g.cell (p := ⟨b, o + i * 7, none⟩) H.lt).trans (H.c0 i hi), fun i hi => (g.cell (p := ⟨b, o + i * 7 + 1, none⟩) H.lt).trans (H.c1 i hi),
    fun i hi => (g.cell (p := ⟨b, o + i * 7 + 2, none⟩) H.lt).trans (H.c2 i hi), fun i hi => (g.cell (p := ⟨b, o + i * 7 + 3, none⟩) H.lt).trans (H.c3 i hi),
    fun i hi => (g.cell (p := ⟨b, o + i * 7 + 4, none⟩) H.lt).trans (H.c4 i hi), fun i hi => (g.cell (p := ⟨b, o + i * 7 + 5, none⟩) H.lt).trans (H.c5 i hi), fun i hi => (g.cell (p := ⟨b, o + i * 7 + 6, none⟩) H.lt).trans (H.c6 i hi)⟩
theorem ActsAt.below (H : ActsAt w a n L) (g : Below w.heap.size w w') : ActsAt w' a n L := by
  rcases H with H | ⟨b, o, e, H⟩
  · exact .inl H
  · exact .inr ⟨b, o, e, H.below g⟩
theorem ActsAt.len (H : ActsAt w a n L) : n = L.length := by
  rcases H with ⟨h1, h2⟩ | ⟨b, o, e, H⟩
  · rw [h1, h2]; rfl
  · exact H.sn
theorem ActsAt.nb (H : ActsAt w a n L) : n ≤ maxLen := by
  rcases H with ⟨h1, _⟩ | ⟨b, o, e, H⟩
  · rw [h1]; exact Nat.zero_le _
  · exact H.nb
end

theorem Arr.box {w : World} {b o n p : Nat} {h : Nat → Hd} {A : Ar} (H : Arr w b o n h A) (hp : p ≠ b) {a : Option Addr} {k c : Nat} (hc : w.cell? ⟨p, 0, none⟩ = some (.slice a k c)) (v : Value) : Arr (w.setCell ⟨p, 0, none⟩ v) b o n h A := by
  refine ⟨H.sn, H.nb, by have := H.lt; simpa [World.setCell] using this, fun i hi => ?_, fun i hi => ?_, fun i hi => (H.dv i hi).slices hc v⟩
  · rw [World.cell?_setCell_other _ _ _ _ (fun e => hp (congrArg Addr.block e))]; exact H.c0 i hi
  · rw [World.cell?_setCell_other _ _ _ _ (fun e => hp (congrArg Addr.block e))]; exact H.c1 i hi

/-- While it is hurt: the array's box, the result's box. -/
structure HuI (w : World) (A : Ar) (W : World) : Prop where
  ab : ∃ b o c h, W.cell? ⟨w.heap.size, 0, none⟩ = some (.slice (some ⟨b, o, none⟩) 3 c) ∧ Arr W b o 3 h A ∧ w.heap.size ≠ b ∧ w.heap.size + 1 ≠ b
  af : W.frozen? ⟨w.heap.size, 0, none⟩ = false
  rc : W.cell? ⟨w.heap.size + 1, 0, none⟩ = some (.slice none 0 0)
  rf : W.frozen? ⟨w.heap.size + 1, 0, none⟩ = false
  lt : w.heap.size + 2 ≤ W.heap.size
  may : arMay A = true
  below : Below w.heap.size w W
section
variable {w W W' : World} {A A' : Ar}
theorem HuI.to (H : HuI w A W) (g : Below W.heap.size W W') : HuI w A W' := by
  obtain ⟨b, o, c, h, h1, h2, h3⟩ := H.ab
  have l := H.lt
  exact ⟨⟨b, o, c, h, (g.cell (p := ⟨w.heap.size, 0, none⟩) (by show w.heap.size < _; omega)).trans h1, h2.below g, h3⟩, (g.frozen (p := ⟨w.heap.size, 0, none⟩) (by show w.heap.size < _; omega)).trans H.af,
    (g.cell (p := ⟨w.heap.size + 1, 0, none⟩) (by show w.heap.size + 1 < _; omega)).trans H.rc, (g.frozen (p := ⟨w.heap.size + 1, 0, none⟩) (by show w.heap.size + 1 < _; omega)).trans H.rf, Nat.le_trans l g.size, H.may, bel3 H.below g⟩
/-- Another array is stored into its box. -/
theorem HuI.setA (H : HuI w A W) {b o c : Nat} {h : Nat → Hd} (hf : Arr W b o 3 h A') (hb : w.heap.size + 2 ≤ b) (hm : arMay A' = true) : HuI w A' (W.setCell ⟨w.heap.size, 0, none⟩ (.slice (some ⟨b, o, none⟩) 3 c)) := by
  obtain ⟨b0, o0, c0, h0, k1, _⟩ := H.ab
  refine ⟨⟨b, o, c, h, World.cell?_setCell_same _ _ _ k1, hf.box (by omega) k1 _, by omega, by omega⟩, ?_, ?_, ?_, ?_, hm, H.below.setCell (p := ⟨w.heap.size, 0, none⟩) (Nat.le_refl _) _⟩
  · rw [World.frozen?_setCell]; exact H.af
  · rw [World.cell?_setCell_other _ _ _ _ (fun e => by have := congrArg Addr.block e; simp at this)]; exact H.rc
  · rw [World.frozen?_setCell]; exact H.rf
  · have := H.lt; simpa [World.setCell] using this
end
/-- The array in its box is written. -/
theorem HuI.grown {w W W' : World} {A A' : Ar} (H : HuI w A W) {b c : Nat} {h : Nat → Hd} (hc : W.cell? ⟨w.heap.size, 0, none⟩ = some (.slice (some ⟨b, 0, none⟩) 3 c)) (hb : w.heap.size + 2 ≤ b) (g : W.grownBy W' (some b)) (hf : Arr W' b 0 3 h A') (hm : arMay A' = true) : HuI w A' W' := by
  have l := H.lt
  refine ⟨⟨b, 0, c, h, box_other g hc (by omega) (by omega), hf, by omega, by omega⟩, ?_, box_other g H.rc (by omega) (by omega), ?_, Nat.le_trans l g.size, hm, H.below.grown g H.below.size (fun k hk => by cases hk; omega)⟩
  · exact (World.frozen?_of_block (a := ⟨w.heap.size, 0, none⟩) (g.block w.heap.size (by omega) (fun e => by have := Option.some.inj e; omega))).trans H.af
  · exact (World.frozen?_of_block (a := ⟨w.heap.size + 1, 0, none⟩) (g.block (w.heap.size + 1) (by omega) (fun e => by have := Option.some.inj e; omega))).trans H.rf
/-- An array of three devices. -/
def OutH (w : World) (A : Ar) (e : Ending) (w' : World) : Prop := ∃ a c, e = .returned (.agg #[.slice a 3 c]) ∧ ArrAt w' a 3 A ∧ Below w.heap.size w w'
theorem hu_exit {w W : World} {A : Ar} (H : HuI w A W) : ∃ b o c, W.cell? ⟨w.heap.size, 0, none⟩ = some (.slice (some ⟨b, o, none⟩) 3 c) ∧ OutH w A (.returned (.agg #[.slice (some ⟨b, o, none⟩) 3 c])) (W.setCell ⟨w.heap.size + 1, 0, none⟩ (.slice (some ⟨b, o, none⟩) 3 c)) := by
  obtain ⟨b, o, c, h, k1, k2, k3, k4⟩ := H.ab
  exact ⟨b, o, c, k1, _, c, rfl, .inr ⟨b, o, h, rfl, k2.box k4 H.rc _⟩, H.below.setCell (p := ⟨w.heap.size + 1, 0, none⟩) (by show w.heap.size ≤ w.heap.size + 1; omega) _⟩

/-- What a device becomes. -/
def hurtD (A : Ar) (x : Hact) : Dv × Int := if x.kind = 5 then dvTurn (dev A x.d.toNat) x.n x.at_ x.by_ else dvLose (dev A x.d.toNat) x.n
theorem hurt1_three (A : Ar) (x : Hact) (hm : arMay A = true) (h3 : x.d < 3) : hurt1 A x = if x.kind = 6 then (arReplace A x.d).1 else if (hurtD A x).2 = 0 then A.set x.d.toNat (hurtD A x).1 else A := by
  have hl := ((arMay_iff A).1 hm).1
  unfold hurt1 hurtD
  rw [if_neg (by rw [hl]; omega)]
theorem hurtAll_take (A : Ar) (L : List Hact) (k : Nat) (hk : k < L.length) : hurtAll A (L.take (k + 1)) = hurt1 (hurtAll A (L.take k)) (act L k) := by
  unfold hurtAll
  rw [List.take_succ_eq_append_getElem hk, List.foldl_append]
  simp [act, hk]

/-- The device that came out lies in its box. -/
structure HuD (w : World) (A : Ar) (D : Dv) (W : World) (pd : Nat) : Prop where
  hu : HuI w A W
  bx : ∃ x p c y q e, Box2 W pd (.slice x p c) (.slice y q e) ∧ DevAt W x p y q D
  ge : w.heap.size + 2 ≤ pd
theorem HuD.to {w W W' : World} {A : Ar} {D : Dv} {pd : Nat} (H : HuD w A D W pd) (g : Below W.heap.size W W') : HuD w A D W' pd := by
  obtain ⟨x, p, c, y, q, e, h1, h2⟩ := H.bx
  exact ⟨H.hu.to g, ⟨x, p, c, y, q, e, h1.below g, h2.below g⟩, H.ge⟩
/-- The box was laid ahead of the call whose answer it gets. -/
theorem dev_late {w v : World} {x y : Option Addr} {n e m f : Nat} {D : Dv} (hX : DevAt v x n y m D) (hF : Fresh (w.alloc (.cells #[.slice none 0 0, .slice none 0 0] 62)).drew.heap.size x y) (g : Below (w.alloc (.cells #[.slice none 0 0, .slice none 0 0] 62)).heap.size (w.alloc (.cells #[.slice none 0 0, .slice none 0 0] 62)) v) :
    Box2 v w.heap.size (.slice none 0 0) (.slice none 0 0) ∧ Below w.heap.size w v ∧ DBx ((v.setCell ⟨w.heap.size, 0, none⟩ (.slice x n e)).setCell ⟨w.heap.size, 1, none⟩ (.slice y m f)) w.heap.size ⟨x, n, e, y, m, f⟩ D ∧ Below w.heap.size w ((v.setCell ⟨w.heap.size, 0, none⟩ (.slice x n e)).setCell ⟨w.heap.size, 1, none⟩ (.slice y m f)) := by
  have hz : (w.alloc (.cells #[.slice none 0 0, .slice none 0 0] 62)).heap.size = w.heap.size + 1 := by simp
  have hb : Below w.heap.size w (w.alloc (.cells #[.slice none 0 0, .slice none 0 0] 62)) := (Below.refl _ w).alloc (Nat.le_refl _) _
  have bx := (box2_of (Own.made w 62 [.slice none 0 0, .slice none 0 0])).below g
  have hbv : Below w.heap.size w v := hb.trans (g.mono hb.size)
  have hs := out_store (w := w) (W := (w.alloc (.cells #[.slice none 0 0, .slice none 0 0] 62)).drew) (p := w.heap.size) (c := e) (c' := f) hX hF hbv (Nat.le_refl _) (by show w.heap.size < (w.alloc (.cells #[.slice none 0 0, .slice none 0 0] 62)).heap.size; rw [hz]; omega) (by show w.heap.size ≤ (w.alloc (.cells #[.slice none 0 0, .slice none 0 0] 62)).heap.size; rw [hz]; omega)
  exact ⟨bx, hbv, ⟨bx.store _ _, hs.1⟩, hs.2.2⟩

/-- The cells that are looked at while a device is hurt. -/
structure HuC (w : World) (b1 o1 c1 px D : Nat) (u : Hd) (X : Hact) (W : World) : Prop where
  a : W.cell? ⟨w.heap.size, 0, none⟩ = some (.slice (some ⟨b1, o1, none⟩) 3 c1)
  k : W.cell? ⟨px, 0, none⟩ = some (.int .i64 X.kind)
  d : W.cell? ⟨px, 3, none⟩ = some (.int .i64 D)
  n : W.cell? ⟨px, 4, none⟩ = some (.int .i64 X.n)
  at_ : W.cell? ⟨px, 5, none⟩ = some (.int .i64 X.at_)
  by_ : W.cell? ⟨px, 6, none⟩ = some (.int .i64 X.by_)
  h0 : W.cell? ⟨b1, o1 + D * 2, none⟩ = some (.slice u.x u.p u.c)
  h1 : W.cell? ⟨b1, o1 + D * 2 + 1, none⟩ = some (.slice u.y u.q u.d)
  lt : w.heap.size < W.heap.size ∧ px < W.heap.size ∧ b1 < W.heap.size
theorem HuC.below {w W W' : World} {b1 o1 c1 px D : Nat} {u : Hd} {X : Hact} (H : HuC w b1 o1 c1 px D u X W) (g : Below W.heap.size W W') : HuC w b1 o1 c1 px D u X W' :=
  ⟨(g.cell (p := ⟨w.heap.size, 0, none⟩) H.lt.1).trans H.a, (g.cell (p := ⟨px, 0, none⟩) H.lt.2.1).trans H.k, (g.cell (p := ⟨px, 3, none⟩) H.lt.2.1).trans H.d, (g.cell (p := ⟨px, 4, none⟩) H.lt.2.1).trans H.n, (g.cell (p := ⟨px, 5, none⟩) H.lt.2.1).trans H.at_, (g.cell (p := ⟨px, 6, none⟩) H.lt.2.1).trans H.by_,
    (g.cell (p := ⟨b1, o1 + D * 2, none⟩) H.lt.2.2).trans H.h0, (g.cell (p := ⟨b1, o1 + D * 2 + 1, none⟩) H.lt.2.2).trans H.h1, ⟨Nat.lt_of_lt_of_le H.lt.1 g.size, Nat.lt_of_lt_of_le H.lt.2.1 g.size, Nat.lt_of_lt_of_le H.lt.2.2 g.size⟩⟩

end Go.Proofs.YtgholkjpbdcdiaaDoor
