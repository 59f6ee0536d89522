/- What 'hurt' answers: the array with all that was done to its devices. -/
import Derived.Test.YtpnmidkocmokeaaGreatDoorKeepFill
import Derived.Test.YtpnmidkocmokeaaGreatDoorArrReplace
import Derived.Test.YtpnmidkocmokeaaGreatDoorDevTurn
import Derived.Test.YtpnmidkocmokeaaGreatDoorHigh
namespace Go.Proofs.YtpnmidkocmokeaaGreatDoor
open Go.RowKit Go.Lib

def nilAct : Hact := ⟨0, 0, 0, 0, 0⟩
def act (L : List Hact) (i : Nat) : Hact := L[i]?.getD nilAct
/-- Acts stand from a place of a block on. -/
structure Acts (w : World) (b o n : Nat) (L : List Hact) : Prop where
  sn : n = L.length
  nb : n ≤ maxLen
  lt : b < w.heap.size
  c0 : ∀ i, i < n → w.cell? ⟨b, o + i * 7, none⟩ = some (.int .i64 (act L i).kind)
  c1 : ∀ i, i < n → w.cell? ⟨b, o + i * 7 + 1, none⟩ = some (.slice none 0 0)
  c2 : ∀ i, i < n → w.cell? ⟨b, o + i * 7 + 2, none⟩ = some (.string ⟨#[]⟩)
  c3 : ∀ i, i < n → w.cell? ⟨b, o + i * 7 + 3, none⟩ = some (.int .i64 (act L i).d)
  c4 : ∀ i, i < n → w.cell? ⟨b, o + i * 7 + 4, none⟩ = some (.int .i64 (act L i).n)
  c5 : ∀ i, i < n → w.cell? ⟨b, o + i * 7 + 5, none⟩ = some (.int .i64 (act L i).at_)
  c6 : ∀ i, i < n → w.cell? ⟨b, o + i * 7 + 6, none⟩ = some (.int .i64 (act L i).by_)
def ActsAt (w : World) (a : Option Addr) (n : Nat) (L : List Hact) : Prop := (n = 0 ∧ L = []) ∨ ∃ b o, a = some ⟨b, o, none⟩ ∧ Acts w b o n L
section
variable {w w' : World} {a : Option Addr} {b o n : Nat} {L : List Hact}
theorem Acts.below (H : Acts w b o n L) (g : Below w.heap.size w w') : Acts w' b o n L :=
  ⟨H.sn, H.nb, Nat.lt_of_lt_of_le H.lt g.size, fun i hi => (g.cell (p := ⟨b, o + i * 7, none⟩) H.lt).trans (H.c0 i hi), fun i hi => (g.cell (p := ⟨b, o + i * 7 + 1, none⟩) H.lt).trans (H.c1 i hi),
    fun i hi => (g.cell (p := ⟨b, o + i * 7 + 2, none⟩) H.lt).trans (H.c2 i hi), fun i hi => (g.cell (p := ⟨b, o + i * 7 + 3, none⟩) H.lt).trans (H.c3 i hi),
    fun i hi => (g.cell (p := ⟨b, o + i * 7 + 4, none⟩) H.lt).trans (H.c4 i hi), fun i hi => (g.cell (p := ⟨b, o + i * 7 + 5, none⟩) H.lt).trans (H.c5 i hi), fun i hi => (g.cell (p := ⟨b, o + i * 7 + 6, none⟩) H.lt).trans (H.c6 i hi)⟩
theorem ActsAt.below (H : ActsAt w a n L) (g : Below w.heap.size w w') : ActsAt w' a n L := by
  rcases H with H | ⟨b, o, e, H⟩
  · exact .inl H
  · exact .inr ⟨b, o, e, H.below g⟩
theorem ActsAt.len (H : ActsAt w a n L) : n = L.length := by
  rcases H with ⟨h1, h2⟩ | ⟨b, o, e, H⟩
  · rw [h1, h2]; rfl
  · exact H.sn
theorem ActsAt.nb (H : ActsAt w a n L) : n ≤ maxLen := by
  rcases H with ⟨h1, _⟩ | ⟨b, o, e, H⟩
  · rw [h1]; exact Nat.zero_le _
  · exact H.nb
end

theorem Arr.box {w : World} {b o n p : Nat} {h : Nat → Hd} {A : Ar} (H : Arr w b o n h A) (hp : p ≠ b) {a : Option Addr} {k c : Nat} (hc : w.cell? ⟨p, 0, none⟩ = some (.slice a k c)) (v : Value) : Arr (w.setCell ⟨p, 0, none⟩ v) b o n h A := by
  refine ⟨H.sn, H.nb, by have := H.lt; simpa [World.setCell] using this, fun i hi => ?_, fun i hi => ?_, fun i hi => (H.dv i hi).slices hc v⟩
  · rw [World.cell?_setCell_other _ _ _ _ (fun e => hp (congrArg Addr.block e))]; exact H.c0 i hi
  · rw [World.cell?_setCell_other _ _ _ _ (fun e => hp (congrArg Addr.block e))]; exact H.c1 i hi

/-- While it is hurt: the array's box, the result's box. -/
structure HuI (w : World) (A : Ar) (W : World) : Prop where
  ab : ∃ b o c h, W.cell? ⟨w.heap.size, 0, none⟩ = some (.slice (some ⟨b, o, none⟩) 3 c) ∧ Arr W b o 3 h A ∧ w.heap.size ≠ b ∧ w.heap.size + 1 ≠ b
  af : W.frozen? ⟨w.heap.size, 0, none⟩ = false
  rc : W.cell? ⟨w.heap.size + 1, 0, none⟩ = some (.slice none 0 0)
  rf : W.frozen? ⟨w.heap.size + 1, 0, none⟩ = false
  lt : w.heap.size + 2 ≤ W.heap.size
  may : arMay A = true
  below : Below w.heap.size w W
section
variable {w W W' : World} {A A' : Ar}
theorem HuI.to (H : HuI w A W) (g : Below W.heap.size W W') : HuI w A W' := by
  obtain ⟨b, o, c, h, h1, h2, h3⟩ := H.ab
  have l := H.lt
  exact ⟨⟨b, o, c, h, (g.cell (p := ⟨w.heap.size, 0, none⟩) (by show w.heap.size < _; omega)).trans h1, h2.below g, h3⟩, (g.frozen (p := ⟨w.heap.size, 0, none⟩) (by show w.heap.size < _; omega)).trans H.af,
    (g.cell (p := ⟨w.heap.size + 1, 0, none⟩) (by show w.heap.size + 1 < _; omega)).trans H.rc, (g.frozen (p := ⟨w.heap.size + 1, 0, none⟩) (by show w.heap.size + 1 < _; omega)).trans H.rf, Nat.le_trans l g.size, H.may, bel3 H.below g⟩
/-- Another array is stored into its box. -/
theorem HuI.setA (H : HuI w A W) {b o c : Nat} {h : Nat → Hd} (hf : Arr W b o 3 h A') (hb : w.heap.size + 2 ≤ b) (hm : arMay A' = true) : HuI w A' (W.setCell ⟨w.heap.size, 0, none⟩ (.slice (some ⟨b, o, none⟩) 3 c)) := by
  obtain ⟨b0, o0, c0, h0, k1, _⟩ := H.ab
  refine ⟨⟨b, o, c, h, World.cell?_setCell_same _ _ _ k1, hf.box (by omega) k1 _, by omega, by omega⟩, ?_, ?_, ?_, ?_, hm, H.below.setCell (p := ⟨w.heap.size, 0, none⟩) (Nat.le_refl _) _⟩
  · rw [World.frozen?_setCell]; exact H.af
  · rw [World.cell?_setCell_other _ _ _ _ (fun e => by have := congrArg Addr.block e; simp at this)]; exact H.rc
  · rw [World.frozen?_setCell]; exact H.rf
  · have := H.lt; simpa [World.setCell] using this
end
/-- The array in its box is written. -/
theorem HuI.grown {w W W' : World} {A A' : Ar} (H : HuI w A W) {b c : Nat} {h : Nat → Hd} (hc : W.cell? ⟨w.heap.size, 0, none⟩ = some (.slice (some ⟨b, 0, none⟩) 3 c)) (hb : w.heap.size + 2 ≤ b) (g : W.grownBy W' (some b)) (hf : Arr W' b 0 3 h A') (hm : arMay A' = true) : HuI w A' W' := by
  have l := H.lt
  refine ⟨⟨b, 0, c, h, box_other g hc (by omega) (by omega), hf, by omega, by omega⟩, ?_, box_other g H.rc (by omega) (by omega), ?_, Nat.le_trans l g.size, hm, H.below.grown g H.below.size (fun k hk => by cases hk; omega)⟩
  · exact (World.frozen?_of_block (a := ⟨w.heap.size, 0, none⟩) (g.block w.heap.size (by omega) (fun e => by have := Option.some.inj e; omega))).trans H.af
  · exact (World.frozen?_of_block (a := ⟨w.heap.size + 1, 0, none⟩) (g.block (w.heap.size + 1) (by omega) (fun e => by have := Option.some.inj e; omega))).trans H.rf
/-- An array of three devices. -/
def OutH (w : World) (A : Ar) (e : Ending) (w' : World) : Prop := ∃ a c, e = .returned (.agg #[.slice a 3 c]) ∧ ArrAt w' a 3 A ∧ Below w.heap.size w w'
theorem hu_exit {w W : World} {A : Ar} (H : HuI w A W) : ∃ b o c, W.cell? ⟨w.heap.size, 0, none⟩ = some (.slice (some ⟨b, o, none⟩) 3 c) ∧ OutH w A (.returned (.agg #[.slice (some ⟨b, o, none⟩) 3 c])) (W.setCell ⟨w.heap.size + 1, 0, none⟩ (.slice (some ⟨b, o, none⟩) 3 c)) := by
  obtain ⟨b, o, c, h, k1, k2, k3, k4⟩ := H.ab
  exact ⟨b, o, c, k1, _, c, rfl, .inr ⟨b, o, h, rfl, k2.box k4 H.rc _⟩, H.below.setCell (p := ⟨w.heap.size + 1, 0, none⟩) (by show w.heap.size ≤ w.heap.size + 1; omega) _⟩

/-- What a device becomes. -/
def hurtD (A : Ar) (x : Hact) : Dv × Int := if x.kind = 5 then dvTurn (dev A x.d.toNat) x.n x.at_ x.by_ else dvLose (dev A x.d.toNat) x.n
theorem hurt1_three (A : Ar) (x : Hact) (hm : arMay A = true) (h3 : x.d < 3) : hurt1 A x = if x.kind = 6 then (arReplace A x.d).1 else if (hurtD A x).2 = 0 then A.set x.d.toNat (hurtD A x).1 else A := by
  have hl := ((arMay_iff A).1 hm).1
  unfold hurt1 hurtD
  rw [if_neg (by rw [hl]; omega)]
theorem hurtAll_take (A : Ar) (L : List Hact) (k : Nat) (hk : k < L.length) : hurtAll A (L.take (k + 1)) = hurt1 (hurtAll A (L.take k)) (act L k) := by
  unfold hurtAll
  rw [List.take_succ_eq_append_getElem hk, List.foldl_append]
  simp [act, hk]

/-- The device that came out lies in its box. -/
structure HuD (w : World) (A : Ar) (D : Dv) (W : World) (pd : Nat) : Prop where
  hu : HuI w A W
  bx : ∃ x p c y q e, Box2 W pd (.slice x p c) (.slice y q e) ∧ DevAt W x p y q D
  ge : w.heap.size + 2 ≤ pd
theorem HuD.to {w W W' : World} {A : Ar} {D : Dv} {pd : Nat} (H : HuD w A D W pd) (g : Below W.heap.size W W') : HuD w A D W' pd := by
  obtain ⟨x, p, c, y, q, e, h1, h2⟩ := H.bx
  exact ⟨H.hu.to g, ⟨x, p, c, y, q, e, h1.below g, h2.below g⟩, H.ge⟩
/-- The box was laid ahead of the call whose answer it gets. -/
theorem dev_late {w v : World} {x y : Option Addr} {n e m f : Nat} {D : Dv} (hX : DevAt v x n y m D) (hF : Fresh (w.alloc (.cells #[.slice none 0 0, .slice none 0 0] 58)).drew.heap.size x y) (g : Below (w.alloc (.cells #[.slice none 0 0, .slice none 0 0] 58)).heap.size (w.alloc (.cells #[.slice none 0 0, .slice none 0 0] 58)) v) :
    Box2 v w.heap.size (.slice none 0 0) (.slice none 0 0) ∧ Below w.heap.size w v ∧ DBx ((v.setCell ⟨w.heap.size, 0, none⟩ (.slice x n e)).setCell ⟨w.heap.size, 1, none⟩ (.slice y m f)) w.heap.size ⟨x, n, e, y, m, f⟩ D ∧ Below w.heap.size w ((v.setCell ⟨w.heap.size, 0, none⟩ (.slice x n e)).setCell ⟨w.heap.size, 1, none⟩ (.slice y m f)) := by
  have hz : (w.alloc (.cells #[.slice none 0 0, .slice none 0 0] 58)).heap.size = w.heap.size + 1 := by simp
  have hb : Below w.heap.size w (w.alloc (.cells #[.slice none 0 0, .slice none 0 0] 58)) := (Below.refl _ w).alloc (Nat.le_refl _) _
  have bx := (box2_of (Own.made w 58 [.slice none 0 0, .slice none 0 0])).below g
  have hbv : Below w.heap.size w v := hb.trans (g.mono hb.size)
  have hs := out_store (w := w) (W := (w.alloc (.cells #[.slice none 0 0, .slice none 0 0] 58)).drew) (p := w.heap.size) (c := e) (c' := f) hX hF hbv (Nat.le_refl _) (by show w.heap.size < (w.alloc (.cells #[.slice none 0 0, .slice none 0 0] 58)).heap.size; rw [hz]; omega) (by show w.heap.size ≤ (w.alloc (.cells #[.slice none 0 0, .slice none 0 0] 58)).heap.size; rw [hz]; omega)
  exact ⟨bx, hbv, ⟨bx.store _ _, hs.1⟩, hs.2.2⟩

/-- The cells that are looked at while a device is hurt. -/
structure HuC (w : World) (b1 o1 c1 px D : Nat) (u : Hd) (X : Hact) (W : World) : Prop where
  a : W.cell? ⟨w.heap.size, 0, none⟩ = some (.slice (some ⟨b1, o1, none⟩) 3 c1)
  k : W.cell? ⟨px, 0, none⟩ = some (.int .i64 X.kind)
  d : W.cell? ⟨px, 3, none⟩ = some (.int .i64 D)
  n : W.cell? ⟨px, 4, none⟩ = some (.int .i64 X.n)
  at_ : W.cell? ⟨px, 5, none⟩ = some (.int .i64 X.at_)
  by_ : W.cell? ⟨px, 6, none⟩ = some (.int .i64 X.by_)
  h0 : W.cell? ⟨b1, o1 + D * 2, none⟩ = some (.slice u.x u.p u.c)
  h1 : W.cell? ⟨b1, o1 + D * 2 + 1, none⟩ = some (.slice u.y u.q u.d)
  lt : w.heap.size < W.heap.size ∧ px < W.heap.size ∧ b1 < W.heap.size
theorem HuC.below {w W W' : World} {b1 o1 c1 px D : Nat} {u : Hd} {X : Hact} (H : HuC w b1 o1 c1 px D u X W) (g : Below W.heap.size W W') : HuC w b1 o1 c1 px D u X W' :=
  ⟨(g.cell (p := ⟨w.heap.size, 0, none⟩) H.lt.1).trans H.a, (g.cell (p := ⟨px, 0, none⟩) H.lt.2.1).trans H.k, (g.cell (p := ⟨px, 3, none⟩) H.lt.2.1).trans H.d, (g.cell (p := ⟨px, 4, none⟩) H.lt.2.1).trans H.n, (g.cell (p := ⟨px, 5, none⟩) H.lt.2.1).trans H.at_, (g.cell (p := ⟨px, 6, none⟩) H.lt.2.1).trans H.by_,
    (g.cell (p := ⟨b1, o1 + D * 2, none⟩) H.lt.2.2).trans H.h0, (g.cell (p := ⟨b1, o1 + D * 2 + 1, none⟩) H.lt.2.2).trans H.h1, ⟨Nat.lt_of_lt_of_le H.lt.1 g.size, Nat.lt_of_lt_of_le H.lt.2.1 g.size, Nat.lt_of_lt_of_le H.lt.2.2 g.size⟩⟩

set_option maxHeartbeats 3200000 in
set_option maxRecDepth 8000 in
theorem hurt_ok (b o c : Nat) (h : Nat → Hd) (A : Ar) (x : Option Addr) (m e : Nat) (L : List Hact) (w : World) (H : Arr w b o 3 h A) (HX : ActsAt w x m L) (hd : ∀ i, i < L.length → 0 ≤ (act L i).d ∧ (act L i).d < 3) (hm : ∀ k, k ≤ L.length → arMay (hurtAll A (L.take k)) = true) :
    Calls Tryz.prog 6 #[.agg #[.slice (some ⟨b, o, none⟩) 3 c], .slice x m e] w (OutH w (hurtAll A L)) := by
  obtain ⟨W, hW⟩ : ∃ W, W = (w.alloc (.cells #[.slice (some ⟨b, o, none⟩) 3 c] 26)).alloc (.cells #[.slice none 0 0] 26) := ⟨_, rfl⟩
  have HI0 : HuI w A W := by
    have hB : Below w.heap.size w W := by rw [hW]; go_grown
    have hlt := H.lt
    exact ⟨⟨b, o, c, h, by rw [hW]; simp [go_sem], H.below hB, by omega, by omega⟩, by rw [hW]; simp [go_sem], by rw [hW]; simp [go_sem], by rw [hW]; simp [go_sem], by rw [hW]; simp, hm 0 (Nat.zero_le _), hB⟩
  have S0 := hid HI0
  have hnb := HX.nb
  unfold maxLen at hnb
  have HA := hid (And.intro HX (And.intro HX.len (And.intro hd hm)))
  clear HI0 H HX hd hm
  go_enter Tryz.func6, Tryz.ntmps6
  go_wp2_with fail
  rw [← hW]
  clear hW
  go_loopw [11] (fun i wr => ∃ k : Nat, k ≤ m ∧ i = .int .i64 k ∧ Hid (HuI w (hurtAll A (L.take k)) wr)) (fun i _ => m - (intOf i).toNat)
  case atStart => exact ⟨0, Nat.zero_le _, rfl, S0.out⟩
  case round =>
    obtain ⟨k, hk, rfl, HI⟩ := hrel
    clear S0
    by_cases hlt : k < m
    · have hlt' : (k : Int) < m := by omega
      obtain ⟨HX, hml, hd, hm⟩ := HA.out
      rcases HX with ⟨h0, _⟩ | ⟨b0, o0, rfl, HR⟩
      · omega
      have HR' := HR.below HI.out.below
      have r0 := HR'.c0 k hlt
      have r1 := HR'.c1 k hlt
      have r2 := HR'.c2 k hlt
      have r3 := HR'.c3 k hlt
      have r4 := HR'.c4 k hlt
      have r5 := HR'.c5 k hlt
      have r6 := HR'.c6 k hlt
      have hn := hurtAll_take A L k (by rw [← hml]; exact hlt)
      have hm1 := hm (k + 1) (by rw [← hml]; omega)
      rw [hn] at hm1
      have hd1 := hd k (by rw [← hml]; exact hlt)
      rw [hurt1_three _ _ HI.out.may hd1.2] at hn hm1
      have HN := hid (And.intro hn hm1)
      clear HR HR' hml hd hm hn hm1
      generalize act L k = X at r0 r1 r2 r3 r4 r5 r6 hd1 HN
      generalize hurtAll A (L.take k) = B at HI HN
      obtain ⟨kd, dd, nn, pl, by1⟩ := X
      simp only at r0 r1 r2 r3 r4 r5 r6 hd1
      obtain ⟨D, rfl⟩ : ∃ D : Nat, dd = D := ⟨dd.toNat, by omega⟩
      have hD : D < 3 := by omega
      have hD3 : ¬ (3 : Int) ≤ D := by omega
      have hD4 : (D : Int) < 3 := by omega
      obtain ⟨V, hV⟩ : ∃ V, V = wr.alloc (.cells #[.int .i64 kd, .slice none 0 0, .string ⟨#[]⟩, .int .i64 (D : Int), .int .i64 nn, .int .i64 pl, .int .i64 by1] 54) := ⟨_, rfl⟩
      have bV : Below wr.heap.size wr V := by rw [hV]; exact (Below.refl _ wr).alloc (Nat.le_refl _) _
      have J := HI.out.to bV
      obtain ⟨b1, o1, c1, h1, j1, j2, j3, j4⟩ := J.ab
      have hC : HuC w b1 o1 c1 wr.heap.size D (h1 D) ⟨kd, D, nn, pl, by1⟩ V := by
        have hl := HI.out.lt
        have hs := bV.size
        refine ⟨j1, by rw [hV]; simp [go_sem], by rw [hV]; simp [go_sem], by rw [hV]; simp [go_sem], by rw [hV]; simp [go_sem], by rw [hV]; simp [go_sem], j2.c0 D hD, j2.c1 D hD, by omega, by rw [hV]; simp, j2.lt⟩
      have SJ := hid (And.intro J (And.intro j2 (And.intro hC (show w.heap.size + 2 ≤ wr.heap.size from HI.out.lt))))
      clear HI J j1 j2 j3 j4 hC bV
      go_upto_region 4 with fail
      rw [← hV]
      clear hV r0 r1 r2 r3 r4 r5 r6
      generalize wr.heap.size = px at SJ ⊢
      have a0 := SJ.out.2.2.1.a
      have x0 := SJ.out.2.2.1.k
      have x3 := SJ.out.2.2.1.d
      by_cases h6 : kd = 6
      · have h6' : (kd == 6) = true := beq_iff_eq.2 h6
        have C := hid (arreplace_any (some ⟨b1, o1, none⟩) 3 c1 D B V (.inr ⟨b1, o1, h1, rfl, SJ.out.2.1⟩))
        have HN6 := HN
        simp only [h6, if_true] at HN6
        clear h6 HN
        go_wp2_with fail
        refine C.out.mono ?_
        rintro _ w2 ⟨⟨x2, n2, c2, rfl, hX⟩, g2⟩
        have hl3 := ((arMay_iff _).1 HN6.out.2).1
        rcases hX with ⟨_, e2, _⟩ | ⟨b2, h2, rfl, hb2, hf2⟩
        · rw [e2] at hl3; cases hl3
        obtain rfl : n2 = 3 := hf2.arr.sn.trans hl3
        have J2 := SJ.out.1.to g2
        have K := hid (J2.setA (c := c2) hf2.arr (by have := SJ.out.1.lt; omega) HN6.out.2)
        obtain ⟨b3, o3, c3, h3, m1, _⟩ := J2.ab
        have m2 := J2.af
        clear J2 hf2 hb2 g2 hl3 a0 x0 x3 C
        go_wp2
        go_roundw
        case rel => exact ⟨k + 1, by omega, by go_num, by rw [HN6.out.1]; exact K.out⟩
        case measure => simp [intOf]; omega
      · have h6' : (kd == 6) = false := beq_eq_false_iff_ne.2 h6
        have HN6 := HN
        simp only [h6, if_false] at HN6
        have C7 := hid (fun wx (g : Below V.heap.size V wx) => lose_any (h1 D).x (h1 D).p (h1 D).c (h1 D).y (h1 D).q (h1 D).d nn (dev B D) wx ((SJ.out.2.1.below g).dv D hD))
        generalize hr : dvLose (dev B D) nn = r at C7
        have x4 := SJ.out.2.2.1.n
        have y0 := SJ.out.2.2.1.h0
        have y1 := SJ.out.2.2.1.h1
        have HC := hid (fun wx (g : Below V.heap.size V wx) => (SJ.out.2.2.1.below g))
        go_upto_region 7 with fail
        go_cut [7, 8] (fun s7 s8 wx => ∃ pd, s7 = .pointer (some ⟨pd, 0, none⟩) ∧ s8 = .int .i64 r.2 ∧ HuD w B r.1 wx pd ∧ V.heap.size ≤ pd ∧ Below V.heap.size V wx)
        case first =>
          go_region_held3 (fun w' => w'.cell? ⟨w.heap.size, 0, none⟩ = some (.slice (some ⟨b1, o1, none⟩) 3 c1) ∧ w'.cell? ⟨px, 3, none⟩ = some (.int .i64 (D : Int)) ∧ w'.cell? ⟨px, 4, none⟩ = some (.int .i64 nn) ∧ w'.cell? ⟨b1, o1 + D * 2, none⟩ = some (.slice (h1 D).x (h1 D).p (h1 D).c) ∧ w'.cell? ⟨b1, o1 + D * 2 + 1, none⟩ = some (.slice (h1 D).y (h1 D).q (h1 D).d)) (go_keep)
            (first | (go_at_call 18; refine (C7.out _ ((Below.refl _ V).drew)).mono ?_; rintro _ w4 ⟨xx, p4, e4, yy, q4, f4, rfl, hX, hF, g4⟩; (have SA := hid (And.intro hX (undrew g4))); (have Z := HC.out _ SA.out.2); (have z1 := Z.a); (have z2 := Z.d); (have z3 := Z.n); (have z4 := Z.h0); (have z5 := Z.h1); clear hX hF g4 Z) | (go_at_call 18; refine (C7.out (V.alloc (.cells #[.slice none 0 0, .slice none 0 0] 58)).drew (((Below.refl _ _).alloc (Nat.le_refl _) _).drew)).mono ?_; rintro _ w4 ⟨xx, p4, e4, yy, q4, f4, rfl, hX, hF, g4⟩; (have SB := hid (dev_late (e := e4) (f := f4) hX hF (undrew g4))); obtain ⟨s0, s1, s2, s3⟩ := SB.out.1; (have Z := HC.out _ SB.out.2.1); (have z1 := Z.a); (have z2 := Z.d); (have z3 := Z.n); (have z4 := Z.h0); (have z5 := Z.h1); (have Y := HC.out _ SB.out.2.2.2); (have v1 := Y.a); (have v2 := Y.d); (have v3 := Y.n); (have v4 := Y.h0); (have v5 := Y.h1); clear hX hF g4 Z Y))
          all_goals (go_wp2_with fail; go_meet)
          all_goals (first | (obtain ⟨W6, hW6, b6, bx6⟩ := boxedx (e := e4) (e' := f4) SA.out.1; rw [← hW6]; exact ⟨w4.heap.size, rfl, rfl, ⟨(SJ.out.1.to SA.out.2).to b6, ⟨_, _, _, _, _, _, bx6.b, bx6.d⟩, by have := SJ.out.1.lt; have := SA.out.2.size; omega⟩, SA.out.2.size, bel3 SA.out.2 b6⟩) | (exact ⟨V.heap.size, rfl, rfl, ⟨SJ.out.1.to SB.out.2.2.2, ⟨_, _, _, _, _, _, SB.out.2.2.1.b, SB.out.2.2.1.d⟩, SJ.out.1.lt⟩, Nat.le_refl _, SB.out.2.2.2⟩))
        case rest =>
          obtain ⟨pd, rfl, rfl, hdd, hpd, hbb⟩ := hcut
          have T8 := hid hdd
          have G8 := hid hbb
          have PD := hid hpd
          clear hdd hbb hpd C7 a0 x0 x3 x4 y0 y1
          have x0 := (HC.out _ G8.out).k
          by_cases h5 : kd = 5
          · have h5' : (kd == 5) = true := beq_iff_eq.2 h5
            have C9 := hid (fun wx (g : Below V.heap.size V wx) => turn_any (h1 D).x (h1 D).p (h1 D).c (h1 D).y (h1 D).q (h1 D).d nn pl by1 (dev B D) wx ((SJ.out.2.1.below g).dv D hD))
            generalize hrr : dvTurn (dev B D) nn pl by1 = rr at C9
            have HR : Hid (hurtD B ⟨kd, D, nn, pl, by1⟩ = rr) := by show _ = _; simp only [hurtD, h5, if_true]; rw [show (D : Int).toNat = D by omega]; exact hrr
            clear hrr h5 h6 hr
            have a0 := (HC.out _ G8.out).a
            have x3 := (HC.out _ G8.out).d
            have x4 := (HC.out _ G8.out).n
            have x5 := (HC.out _ G8.out).at_
            have x6 := (HC.out _ G8.out).by_
            have y0 := (HC.out _ G8.out).h0
            have y1 := (HC.out _ G8.out).h1
            obtain ⟨qx, qp, qc, qy, qq, qe, bx8, _⟩ := T8.out.bx
            have HB8 := hid bx8
            clear bx8
            go_upto_region 9 with fail
            clear h5'
            go_cut [8] (fun s8 wx => s8 = .int .i64 rr.2 ∧ HuD w B rr.1 wx pd ∧ Below V.heap.size V wx)
            case first =>
              go_region_held3 (fun w' => w'.cell? ⟨w.heap.size, 0, none⟩ = some (.slice (some ⟨b1, o1, none⟩) 3 c1) ∧ w'.cell? ⟨px, 3, none⟩ = some (.int .i64 (D : Int)) ∧ w'.cell? ⟨px, 4, none⟩ = some (.int .i64 nn) ∧ w'.cell? ⟨px, 5, none⟩ = some (.int .i64 pl) ∧ w'.cell? ⟨px, 6, none⟩ = some (.int .i64 by1) ∧ w'.cell? ⟨b1, o1 + D * 2, none⟩ = some (.slice (h1 D).x (h1 D).p (h1 D).c) ∧ w'.cell? ⟨b1, o1 + D * 2 + 1, none⟩ = some (.slice (h1 D).y (h1 D).q (h1 D).d)) (go_keep)
                (first | (go_at_call 19; refine (C9.out _ G8.out.drew).mono ?_; rintro _ w4 ⟨xx, p4, e4, yy, q4, f4, rfl, hX, hF, g4⟩; (have gg := bel3 G8.out (undrew g4)); (have os := out_store (w := V) (W := wc) (p := pd) (c := e4) (c' := f4) hX hF gg PD.out HB8.out.lt G8.out.size); (have b4 := HB8.out.below (undrew g4)); obtain ⟨s0, s1, s2, s3, _⟩ := b4; (have SA := hid (And.intro os ((HB8.out.below (undrew g4)).store (.slice xx p4 e4) (.slice yy q4 f4)))); (have Z := HC.out _ gg); (have z1 := Z.a); (have z2 := Z.d); (have z3 := Z.n); (have z4 := Z.h0); (have z5 := Z.h1); (have z6 := Z.at_); (have z7 := Z.by_); (have Y := HC.out _ SA.out.1.2.2); (have v1 := Y.a); (have v2 := Y.d); (have v3 := Y.n); (have v4 := Y.h0); (have v5 := Y.h1); (have v6 := Y.at_); (have v7 := Y.by_); clear hX hF g4 Z Y os gg))
              all_goals (go_wp2_with fail; go_meet)
              all_goals exact ⟨rfl, ⟨SJ.out.1.to SA.out.1.2.2, ⟨_, _, _, _, _, _, SA.out.2, SA.out.1.1⟩, T8.out.ge⟩, SA.out.1.2.2⟩
            case rest =>
              obtain ⟨rfl, hdd, hbb⟩ := hcut
              have T9 := hid hdd
              have G9 := hid hbb
              clear hdd hbb T8 G8 HB8 C9 a0 x0 x3 x4 x5 x6 y0 y1
              generalize wc = W9 at T9 G9 ⊢
              have HNr := HN6
              rw [HR.out] at HNr
              clear HN6 HR
              by_cases e0 : rr.2 = 0
              · have e0' : (rr.2 == 0) = true := beq_iff_eq.2 e0
                have HN0 := HNr
                rw [if_pos e0, show (D : Int).toNat = D by omega] at HN0
                have CC := hid (arcopy_any (some ⟨b1, o1, none⟩) 3 c1 B W9 (.inr ⟨b1, o1, h1, rfl, SJ.out.2.1.below G9.out⟩) (may_fits B SJ.out.1.may))
                have k0 := (HC.out _ G9.out).a
                clear HNr e0
                go_wp2_with fail
                refine CC.out.mono ?_
                rintro _ w3 ⟨a3, c3, rfl, h3, g3⟩
                rcases h3 with ⟨h30, _⟩ | ⟨b3, hd3, rfl, hb3, hf3⟩
                · omega
                obtain ⟨qx, qp, qc, qy, qq, qe, bx9, dv9⟩ := T9.out.bx
                have U3 := T9.out.hu.to g3
                have l3 := T9.out.hu.lt
                have C3 := (HC.out _ G9.out).below g3
                have Bx3 := bx9.below g3
                have Dv3 := dv9.below g3
                have ge3 := T9.out.ge
                have pl3 := SJ.out.2.2.2
                have U4 := U3.setA (c := c3) hf3.arr (by omega) SJ.out.1.may
                have F4 := hf3.box (p := w.heap.size) (by omega) C3.a (.slice (some ⟨b3, 0, none⟩) 3 c3)
                have D4 := Dv3.slices C3.a (.slice (some ⟨b3, 0, none⟩) 3 c3)
                have B4 := Bx3.other (q := ⟨w.heap.size, 0, none⟩) (by show pd ≠ w.heap.size; omega) (.slice (some ⟨b3, 0, none⟩) 3 c3)
                have m1 := C3.a
                have m2 := U3.af
                have m3 := World.cell?_setCell_same w3 ⟨w.heap.size, 0, none⟩ (.slice (some ⟨b3, 0, none⟩) 3 c3) C3.a
                have m4 : (w3.setCell ⟨w.heap.size, 0, none⟩ (.slice (some ⟨b3, 0, none⟩) 3 c3)).cell? ⟨px, 3, none⟩ = some (.int .i64 (D : Int)) := by
                  rw [World.cell?_setCell_other _ _ _ _ (fun e => by have := congrArg Addr.block e; simp at this; omega)]; exact C3.d
                have m5 := B4.c0
                have m6 := B4.c1
                have Z := F4.store0 D hD ⟨qx, qp, qc, qy, qq, qe⟩ _ D4
                have z0 := Z.1.1
                have z1 := Z.1.2.1
                have z2 := Z.1.2.2.1
                have z3 := Z.1.2.2.2
                have K := hid (U4.grown m3 (by omega) Z.2.2 Z.2.1.arr HN0.out.2)
                clear U3 l3 C3 Bx3 Dv3 ge3 pl3 U4 F4 D4 B4 Z hf3 hb3 g3 bx9 dv9 k0 CC
                go_wp2
                go_roundw
                case rel => exact ⟨k + 1, by omega, by go_num, by rw [HN0.out.1]; exact K.out⟩
                case measure => simp [intOf]; omega
              · have e0' : (rr.2 == 0) = false := beq_eq_false_iff_ne.2 e0
                have HN0 := HNr
                rw [if_neg e0] at HN0
                clear HNr e0
                go_wp2
                go_roundw
                case rel => exact ⟨k + 1, by omega, by go_num, by rw [HN0.out.1]; exact T9.out.hu⟩
                case measure => simp [intOf]; omega
          · have h5' : (kd == 5) = false := beq_eq_false_iff_ne.2 h5
            have HR : Hid (hurtD B ⟨kd, D, nn, pl, by1⟩ = r) := by show _ = _; simp only [hurtD, h5, if_false]; rw [show (D : Int).toNat = D by omega]; exact hr
            generalize r = rr at HR T8 ⊢
            clear h5 h6
            have T9 := T8
            have G9 := G8
            clear T8 G8
            generalize wc = W9 at T9 G9 x0 ⊢
            have HNr := HN6
            rw [HR.out] at HNr
            clear HN6 HR
            by_cases e0 : rr.2 = 0
            · have e0' : (rr.2 == 0) = true := beq_iff_eq.2 e0
              have HN0 := HNr
              rw [if_pos e0, show (D : Int).toNat = D by omega] at HN0
              have CC := hid (arcopy_any (some ⟨b1, o1, none⟩) 3 c1 B W9 (.inr ⟨b1, o1, h1, rfl, SJ.out.2.1.below G9.out⟩) (may_fits B SJ.out.1.may))
              have k0 := (HC.out _ G9.out).a
              clear HNr e0
              go_wp2_with fail
              refine CC.out.mono ?_
              rintro _ w3 ⟨a3, c3, rfl, h3, g3⟩
              rcases h3 with ⟨h30, _⟩ | ⟨b3, hd3, rfl, hb3, hf3⟩
              · omega
              obtain ⟨qx, qp, qc, qy, qq, qe, bx9, dv9⟩ := T9.out.bx
              have U3 := T9.out.hu.to g3
              have l3 := T9.out.hu.lt
              have C3 := (HC.out _ G9.out).below g3
              have Bx3 := bx9.below g3
              have Dv3 := dv9.below g3
              have ge3 := T9.out.ge
              have pl3 := SJ.out.2.2.2
              have U4 := U3.setA (c := c3) hf3.arr (by omega) SJ.out.1.may
              have F4 := hf3.box (p := w.heap.size) (by omega) C3.a (.slice (some ⟨b3, 0, none⟩) 3 c3)
              have D4 := Dv3.slices C3.a (.slice (some ⟨b3, 0, none⟩) 3 c3)
              have B4 := Bx3.other (q := ⟨w.heap.size, 0, none⟩) (by show pd ≠ w.heap.size; omega) (.slice (some ⟨b3, 0, none⟩) 3 c3)
              have m1 := C3.a
              have m2 := U3.af
              have m3 := World.cell?_setCell_same w3 ⟨w.heap.size, 0, none⟩ (.slice (some ⟨b3, 0, none⟩) 3 c3) C3.a
              have m4 : (w3.setCell ⟨w.heap.size, 0, none⟩ (.slice (some ⟨b3, 0, none⟩) 3 c3)).cell? ⟨px, 3, none⟩ = some (.int .i64 (D : Int)) := by
                rw [World.cell?_setCell_other _ _ _ _ (fun e => by have := congrArg Addr.block e; simp at this; omega)]; exact C3.d
              have m5 := B4.c0
              have m6 := B4.c1
              have Z := F4.store0 D hD ⟨qx, qp, qc, qy, qq, qe⟩ _ D4
              have z0 := Z.1.1
              have z1 := Z.1.2.1
              have z2 := Z.1.2.2.1
              have z3 := Z.1.2.2.2
              have K := hid (U4.grown m3 (by omega) Z.2.2 Z.2.1.arr HN0.out.2)
              clear U3 l3 C3 Bx3 Dv3 ge3 pl3 U4 F4 D4 B4 Z hf3 hb3 g3 bx9 dv9 k0 CC
              go_wp2
              go_roundw
              case rel => exact ⟨k + 1, by omega, by go_num, by rw [HN0.out.1]; exact K.out⟩
              case measure => simp [intOf]; omega
            · have e0' : (rr.2 == 0) = false := beq_eq_false_iff_ne.2 e0
              have HN0 := HNr
              rw [if_neg e0] at HN0
              clear HNr e0
              go_wp2
              go_roundw
              case rel => exact ⟨k + 1, by omega, by go_num, by rw [HN0.out.1]; exact T9.out.hu⟩
              case measure => simp [intOf]; omega
    · obtain rfl : k = m := by omega
      have hnl : ¬ (k : Int) < k := by omega
      have hl : L.take k = L := by rw [HA.out.2.1]; exact List.take_length
      rw [hl] at HI
      have rc := HI.out.rc
      have rf := HI.out.rf
      obtain ⟨bb, oo, cc, k1, K⟩ := hu_exit HI.out
      have HK := hid K
      have y0 := World.cell?_setCell_same wr ⟨w.heap.size + 1, 0, none⟩ (.slice (some ⟨bb, oo, none⟩) 3 cc) rc
      clear K hl
      go_wp2
      refine bodyPost_ret (v := .agg #[.slice (some ⟨bb, oo, none⟩) 3 cc]) (by simp [results, Tryz.results6, go_sem, y0]) rfl ?_
      exact HK.out
theorem hurt_any (a : Option Addr) (n c : Nat) (A : Ar) (x : Option Addr) (m e : Nat) (L : List Hact) (w : World) (H : ArrAt w a n A) (HX : ActsAt w x m L) (hd : ∀ i, i < L.length → 0 ≤ (act L i).d ∧ (act L i).d < 3) (hm : ∀ k, k ≤ L.length → arMay (hurtAll A (L.take k)) = true) :
    Calls Tryz.prog 6 #[.agg #[.slice a n c], .slice x m e] w (OutH w (hurtAll A L)) := by
  obtain ⟨rfl, b, o, h, rfl, HA⟩ := may_three H (hm 0 (Nat.zero_le _))
  exact hurt_ok b o c h A x m e L w HA HX hd hm
end Go.Proofs.YtpnmidkocmokeaaGreatDoor
