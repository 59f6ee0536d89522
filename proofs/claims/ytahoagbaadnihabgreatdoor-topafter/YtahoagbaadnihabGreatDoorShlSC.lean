/- Joined texts: ShlChange, ShlScrub. -/
import Derived.Test.YtahoagbaadnihabGreatDoorTopP
import Derived.Test.YtahoagbaadnihabGreatDoorArrN
import Derived.Test.YtahoagbaadnihabGreatDoorDevC
import Derived.Test.YtahoagbaadnihabGreatDoorShlMem
import Derived.Test.YtahoagbaadnihabGreatDoorScrubStep
import Derived.Test.YtahoagbaadnihabGreatDoorStraight
/- What the program's shell.change makes of an array: a device of it changed into what a closure makes of it; the two closures. -/
namespace Go.Proofs.YtahoagbaadnihabGreatDoor
open Go.RowKit Go.Lib

set_option maxHeartbeats 400000 in
theorem slose_any (a : Option Addr) (n c : Nat) (a' : Option Addr) (m c' : Nat) (px : Nat) (i : Int) (D : Dv) (w : World) (h : DevAt w a n a' m D) (hx : w.cell? ⟨px, 4, none⟩ = some (.int .i64 i)) (hlt : px < w.heap.size) :
    Calls Tryz.prog 54 #[.agg #[.slice a n c, .slice a' m c'], .pointer (some ⟨px, 0, none⟩)] w (OutE w (dvLose D i)) := by
  obtain ⟨W, hW⟩ : ∃ W, W = (w.alloc (.cells #[.slice a n c, .slice a' m c'] 65)).alloc (.cells #[.slice none 0 0, .slice none 0 0] 65) := ⟨_, rfl⟩
  have hB : Below w.heap.size w W := by rw [hW]; go_grown
  have hz : W.heap.size = w.heap.size + 2 := by rw [hW]; simp
  have rb : Box2 W (w.heap.size + 1) (.slice none 0 0) (.slice none 0 0) := by rw [hW]; exact ⟨by simp [go_sem], by simp [go_sem], by simp [go_sem], by simp [go_sem], by simp⟩
  have db : Box2 W w.heap.size (.slice a n c) (.slice a' m c') := by rw [hW]; exact ⟨by simp [go_sem], by simp [go_sem], by simp [go_sem], by simp [go_sem], by simp; omega⟩
  have hC := lose_any a n c a' m c' i D W (h.below hB)
  generalize dvLose D i = r at hC
  have c4 := (hB.cell (p := ⟨px, 4, none⟩) hlt).trans hx
  have e0 := db.c0
  have e1 := db.c1
  have HE := hid hW
  have HC := hid hC
  have HP := hid (And.intro hB (And.intro hz rb))
  clear hC hB hz rb db h hx hlt
  go_enter Tryz.func54, Tryz.ntmps54
  go_upto_region 1 with fail
  rw [← hW]
  clear hW
  go_wp2_with fail
  refine HC.out.mono ?_
  rintro _ w1 ⟨b, n1, c1, b', m1, c2, rfl, hD, hF, g1⟩
  have rb1 := HP.out.2.2.below g1
  have v0 := rb1.c0
  have v1 := rb1.c1
  have x0 := rb1.f0
  have x1 := rb1.f1
  obtain ⟨y0, y1⟩ := ret_box (.slice b n1 c1) (.slice b' m1 c2) v0 v1
  have K := hid (out_store (p := w.heap.size + 1) (c := c1) (c' := c2) hD hF (HP.out.1.trans (g1.mono HP.out.1.size)) (by omega) (by rw [HP.out.2.1]; omega) HP.out.1.size)
  clear hD hF g1 rb1 e0 e1 c4
  go_wp2
  refine bodyPost_ret (v := .tuple #[.agg #[.slice b n1 c1, .slice b' m1 c2], .int .i64 r.2]) (by simp [results, Tryz.results54, go_sem, y0, y1]) rfl ?_
  exact ⟨_, _, _, _, _, _, rfl, K.out.1, K.out.2.1, K.out.2.2⟩

set_option maxHeartbeats 400000 in
theorem sturn_any (a : Option Addr) (n c : Nat) (a' : Option Addr) (m c' : Nat) (px : Nat) (i pl by_ : Int) (D : Dv) (w : World) (h : DevAt w a n a' m D) (hx : w.cell? ⟨px, 4, none⟩ = some (.int .i64 i) ∧ w.cell? ⟨px, 5, none⟩ = some (.int .i64 pl) ∧ w.cell? ⟨px, 6, none⟩ = some (.int .i64 by_)) (hlt : px < w.heap.size) :
    Calls Tryz.prog 56 #[.agg #[.slice a n c, .slice a' m c'], .pointer (some ⟨px, 0, none⟩)] w (OutE w (dvTurn D i pl by_)) := by
  obtain ⟨W, hW⟩ : ∃ W, W = (w.alloc (.cells #[.slice a n c, .slice a' m c'] 65)).alloc (.cells #[.slice none 0 0, .slice none 0 0] 65) := ⟨_, rfl⟩
  have hB : Below w.heap.size w W := by rw [hW]; go_grown
  have hz : W.heap.size = w.heap.size + 2 := by rw [hW]; simp
  have rb : Box2 W (w.heap.size + 1) (.slice none 0 0) (.slice none 0 0) := by rw [hW]; exact ⟨by simp [go_sem], by simp [go_sem], by simp [go_sem], by simp [go_sem], by simp⟩
  have db : Box2 W w.heap.size (.slice a n c) (.slice a' m c') := by rw [hW]; exact ⟨by simp [go_sem], by simp [go_sem], by simp [go_sem], by simp [go_sem], by simp; omega⟩
  have hC := turn_any a n c a' m c' i pl by_ D W (h.below hB)
  generalize dvTurn D i pl by_ = r at hC
  have c4 := (hB.cell (p := ⟨px, 4, none⟩) hlt).trans hx.1
  have c5 := (hB.cell (p := ⟨px, 5, none⟩) hlt).trans hx.2.1
  have c6 := (hB.cell (p := ⟨px, 6, none⟩) hlt).trans hx.2.2
  have e0 := db.c0
  have e1 := db.c1
  have HC := hid hC
  have HP := hid (And.intro hB (And.intro hz rb))
  clear hC hB hz rb db h hx hlt
  go_enter Tryz.func56, Tryz.ntmps56
  go_upto_region 1 with fail
  rw [← hW]
  clear hW
  go_wp2_with fail
  refine HC.out.mono ?_
  rintro _ w1 ⟨b, n1, c1, b', m1, c2, rfl, hD, hF, g1⟩
  have rb1 := HP.out.2.2.below g1
  have v0 := rb1.c0
  have v1 := rb1.c1
  have x0 := rb1.f0
  have x1 := rb1.f1
  obtain ⟨y0, y1⟩ := ret_box (.slice b n1 c1) (.slice b' m1 c2) v0 v1
  have K := hid (out_store (p := w.heap.size + 1) (c := c1) (c' := c2) hD hF (HP.out.1.trans (g1.mono HP.out.1.size)) (by omega) (by rw [HP.out.2.1]; omega) HP.out.1.size)
  clear hD hF g1 rb1 e0 e1 c4 c5 c6
  go_wp2
  refine bodyPost_ret (v := .tuple #[.agg #[.slice b n1 c1, .slice b' m1 c2], .int .i64 r.2]) (by simp [results, Tryz.results56, go_sem, y0, y1]) rfl ?_
  exact ⟨_, _, _, _, _, _, rfl, K.out.1, K.out.2.1, K.out.2.2⟩

/-- What change answers. -/
def chgA (A : Ar) (d : Int) (X : Dv × Int) : Ar × Int := if 0 ≤ d ∧ d ≤ 2 then (if X.2 = 0 then (A.set d.toNat X.1, 0) else ([], X.2)) else ([], 2)

set_option maxHeartbeats 1600000 in
set_option maxRecDepth 4000 in
theorem schange_out (b o c : Nat) (d : Int) (g : Nat) (lb : Array Value) (w : World) (hd : ¬ (0 ≤ d ∧ d ≤ 2)) :
    Calls Tryz.prog 53 #[.agg #[.slice (some ⟨b, o, none⟩) 3 c], .int .i64 d, .func (.func g) #[] lb] w (OutA w ([], 2)) := by
  obtain ⟨W, hW⟩ : ∃ W, W = (w.alloc (.cells #[.slice (some ⟨b, o, none⟩) 3 c] 35)).alloc (.cells #[.slice none 0 0] 35) := ⟨_, rfl⟩
  have hB : Below w.heap.size w W := by rw [hW]; go_grown
  have rc : W.cell? ⟨w.heap.size + 1, 0, none⟩ = some (.slice none 0 0) := by rw [hW]; simp [go_sem]
  have rf : W.frozen? ⟨w.heap.size + 1, 0, none⟩ = false := by rw [hW]; simp [go_sem]
  have c0 : W.cell? ⟨w.heap.size, 0, none⟩ = some (.slice (some ⟨b, o, none⟩) 3 c) := by rw [hW]; simp [go_sem]
  have y0 := World.cell?_setCell_same W ⟨w.heap.size + 1, 0, none⟩ (.slice none 0 0) rc
  have G1 := hid (outA_none (x := 2) (hB.setCell (p := ⟨w.heap.size + 1, 0, none⟩) (by show w.heap.size ≤ w.heap.size + 1; omega) (.slice none 0 0)))
  clear hB
  by_cases hn : d < 0
  · clear hd
    go_enter Tryz.func53, Tryz.ntmps53
    go_upto_region 1 with fail
    rw [← hW]
    clear hW
    go_wp2
    refine bodyPost_ret (v := .tuple #[.agg #[.slice none 0 0], .int .i64 2]) (by simp [results, Tryz.results53, go_sem, y0]) rfl ?_
    exact G1.out
  · have h3 : 3 ≤ d := by omega
    clear hd
    go_enter Tryz.func53, Tryz.ntmps53
    go_upto_region 1 with fail
    rw [← hW]
    clear hW
    go_wp2
    refine bodyPost_ret (v := .tuple #[.agg #[.slice none 0 0], .int .i64 2]) (by simp [results, Tryz.results53, go_sem, y0]) rfl ?_
    exact G1.out

set_option maxHeartbeats 1600000 in
set_option maxRecDepth 4000 in
theorem schange_in (b o c : Nat) (h : Nat → Hd) (K : Nat) (g : Nat) (lb : Array Value) (A : Ar) (X : Dv × Int) (w : World) (H : Arr w b o 3 h A) (hm : arMay A = true) (hk : K < 3) (eg : ∀ args w, (callFunc g args).run Tryz.prog w = .ok (.enter g args) w)
    (hc : ∀ w1, Below w.heap.size w w1 → ∀ x n e y m e', DevAt w1 x n y m (dev A K) → Calls Tryz.prog g (#[.agg #[.slice x n e, .slice y m e']] ++ lb) w1 (OutE w1 X)) :
    Calls Tryz.prog 53 #[.agg #[.slice (some ⟨b, o, none⟩) 3 c], .int .i64 K, .func (.func g) #[] lb] w (OutA w (if X.2 = 0 then (A.set K X.1, 0) else ([], X.2))) := by
  obtain ⟨W, hW⟩ : ∃ W, W = (w.alloc (.cells #[.slice (some ⟨b, o, none⟩) 3 c] 35)).alloc (.cells #[.slice none 0 0] 35) := ⟨_, rfl⟩
  have hB : Below w.heap.size w W := by rw [hW]; go_grown
  have hz : W.heap.size = w.heap.size + 2 := by rw [hW]; simp
  have rc : W.cell? ⟨w.heap.size + 1, 0, none⟩ = some (.slice none 0 0) := by rw [hW]; simp [go_sem]
  have rf : W.frozen? ⟨w.heap.size + 1, 0, none⟩ = false := by rw [hW]; simp [go_sem]
  have c0 : W.cell? ⟨w.heap.size, 0, none⟩ = some (.slice (some ⟨b, o, none⟩) 3 c) := by rw [hW]; simp [go_sem]
  have HW := H.below hB
  have q0 := HW.c0 K hk
  have q1 := HW.c1 K hk
  have HCl := hid (hc W hB (h K).x (h K).p (h K).c (h K).y (h K).q (h K).d (HW.dv K hk))
  have CC := hid (fun wx (g : Below W.heap.size W wx) => arcopy_any (some ⟨b, o, none⟩) 3 c A wx (.inr ⟨b, o, h, rfl, HW.below g⟩) (may_fits A hm))
  have HP := hid (And.intro hB (And.intro hz (And.intro c0 (And.intro rc rf))))
  have k0 : ¬ (K : Int) < 0 := by omega
  have k3 : ¬ (3 : Int) ≤ K := by omega
  have k4 : (K : Int) < 3 := by omega
  clear hB hz rc rf H HW hm hc
  generalize h K = hK at q0 q1 HCl
  by_cases h3 : X.2 = 0
  · obtain ⟨X1, X2⟩ := X
    dsimp only at h3 HCl ⊢
    subst h3
    rw [if_pos rfl]
    go_enter Tryz.func53, Tryz.ntmps53
    go_upto_region 1 with fail
    rw [← hW]
    clear hW
    go_wp2_with fail
    go_at_fn g
    refine HCl.out.mono ?_
    rintro _ w1 ⟨x1, n1, e1, y1, m1, e2, rfl, hD, _, g1⟩
    clear eg q0 q1 HCl k0 k3
    go_upto_region 4 with fail
    obtain ⟨V, hV⟩ : ∃ V, V = w1.alloc (.cells #[.slice x1 n1 e1, .slice y1 m1 e2] 65) := ⟨_, rfl⟩
    have b1 : Below w1.heap.size w1 V := by rw [hV]; exact (Below.refl _ w1).alloc (Nat.le_refl _) _
    have db : Box2 V w1.heap.size (.slice x1 n1 e1) (.slice y1 m1 e2) := by rw [hV]; exact box2_of (Own.made w1 65 [.slice x1 n1 e1, .slice y1 m1 e2])
    rw [← hV]
    have G1 := hid (bel3 g1 b1)
    have HD := hid (And.intro (hD.below b1) db)
    clear hV b1 db hD g1 c0
    generalize w1.heap.size = pd at HD ⊢
    have c0 := (G1.out.cell (p := ⟨w.heap.size, 0, none⟩) (by show w.heap.size < W.heap.size; rw [HP.out.2.1]; omega)).trans HP.out.2.2.1
    go_wp2_with fail
    refine (CC.out _ G1.out).mono ?_
    rintro _ w3 ⟨a3, c3, rfl, h3, g3⟩
    rcases h3 with ⟨h30, _⟩ | ⟨b3, hd3, rfl, hb3, hf3⟩
    · omega
    have hst := wrI_start (pr := w.heap.size + 1) (cc := c3) HP.out.1 (by omega) (by rw [HP.out.2.1]; omega) HP.out.2.2.2.1 HP.out.2.2.2.2 (bel3 G1.out g3) (Nat.le_trans G1.out.size hb3) hf3
    have S3 := hid hst
    clear c0
    go_upto_region 7 with fail
    obtain ⟨W3, hW3⟩ : ∃ W3, W3 = w3.alloc (.cells #[.slice (some ⟨b3, 0, none⟩) 3 c3] 35) := ⟨_, rfl⟩
    have b3' : Below w3.heap.size w3 W3 := by rw [hW3]; exact (Below.refl _ w3).alloc (Nat.le_refl _) _
    have G3 := bel3 g3 b3'
    rw [← hW3] at S3 ⊢
    clear hW3 hst hf3 hb3 g3 G1 CC b3'
    generalize w3.heap.size = pc at S3 ⊢
    have D3 := HD.out.1.below G3
    have B3 := HD.out.2.below G3
    have u0 := B3.c0
    have u1 := B3.c1
    have cb := S3.out.cb
    obtain ⟨h5, f5⟩ := S3.out.fr
    have Z := f5.store0 K hk ⟨x1, n1, e1, y1, m1, e2⟩ _ D3
    have z0 := Z.1.1
    have z1 := Z.1.2.1
    have z2 := Z.1.2.2.1
    have z3 := Z.1.2.2.2
    have S7 := hid (S3.out.grown Z.2.2 ⟨_, Z.2.1⟩)
    have cb7 := S7.out.cb
    have rc := S7.out.rc
    have rf := S7.out.rf
    have y0 := World.cell?_setCell_same _ ⟨w.heap.size + 1, 0, none⟩ (.slice (some ⟨b3, 0, none⟩) 3 c3) rc
    clear D3 B3 f5 Z S3 HD G3
    go_wp2
    refine bodyPost_ret (v := .tuple #[.agg #[.slice (some ⟨b3, 0, none⟩) 3 c3], .int .i64 0]) (by simp [results, Tryz.results53, go_sem, y0]) rfl ?_
    exact S7.out.out
  · rw [if_neg h3]
    have h3' : (X.2 != 0) = true := bne_iff_ne.2 h3
    clear h3
    go_enter Tryz.func53, Tryz.ntmps53
    go_upto_region 1 with fail
    rw [← hW]
    clear hW
    go_wp2_with fail
    go_at_fn g
    refine HCl.out.mono ?_
    rintro _ w1 ⟨x1, n1, e1, y1, m1, e2, rfl, hD, _, g1⟩
    clear eg q0 q1 HCl k0 k3
    go_upto_region 4 with fail
    obtain ⟨V, hV⟩ : ∃ V, V = w1.alloc (.cells #[.slice x1 n1 e1, .slice y1 m1 e2] 65) := ⟨_, rfl⟩
    have b1 : Below w1.heap.size w1 V := by rw [hV]; exact (Below.refl _ w1).alloc (Nat.le_refl _) _
    have db : Box2 V w1.heap.size (.slice x1 n1 e1) (.slice y1 m1 e2) := by rw [hV]; exact box2_of (Own.made w1 65 [.slice x1 n1 e1, .slice y1 m1 e2])
    rw [← hV]
    have G1 := hid (bel3 g1 b1)
    have HD := hid (And.intro (hD.below b1) db)
    clear hV b1 db hD g1 c0
    generalize w1.heap.size = pd at HD ⊢
    have r1 := (G1.out.cell (p := ⟨w.heap.size + 1, 0, none⟩) (by show w.heap.size + 1 < W.heap.size; rw [HP.out.2.1]; omega)).trans HP.out.2.2.2.1
    have r2 := (G1.out.frozen (p := ⟨w.heap.size + 1, 0, none⟩) (by show w.heap.size + 1 < W.heap.size; rw [HP.out.2.1]; omega)).trans HP.out.2.2.2.2
    have y0 := World.cell?_setCell_same V ⟨w.heap.size + 1, 0, none⟩ (.slice none 0 0) r1
    have K2 := hid (outA_none (x := X.2) ((bel3 HP.out.1 G1.out).setCell (p := ⟨w.heap.size + 1, 0, none⟩) (by show w.heap.size ≤ w.heap.size + 1; omega) (.slice none 0 0)))
    clear HD G1 CC
    go_wp2
    refine bodyPost_ret (v := .tuple #[.agg #[.slice none 0 0], .int .i64 X.2]) (by simp [results, Tryz.results53, go_sem, y0]) rfl ?_
    exact K2.out
theorem schange_any (b o c : Nat) (h : Nat → Hd) (d : Int) (g : Nat) (lb : Array Value) (A : Ar) (X : Dv × Int) (w : World) (H : Arr w b o 3 h A) (hm : arMay A = true) (eg : ∀ args w, (callFunc g args).run Tryz.prog w = .ok (.enter g args) w)
    (hc : 0 ≤ d ∧ d ≤ 2 → ∀ w1, Below w.heap.size w w1 → ∀ x n e y m e', DevAt w1 x n y m (dev A d.toNat) → Calls Tryz.prog g (#[.agg #[.slice x n e, .slice y m e']] ++ lb) w1 (OutE w1 X)) :
    Calls Tryz.prog 53 #[.agg #[.slice (some ⟨b, o, none⟩) 3 c], .int .i64 d, .func (.func g) #[] lb] w (OutA w (chgA A d X)) := by
  unfold chgA
  by_cases hd : 0 ≤ d ∧ d ≤ 2
  · rw [if_pos hd]
    obtain ⟨K, rfl⟩ : ∃ K : Nat, d = K := ⟨d.toNat, by omega⟩
    have hc' := hc hd
    rw [Int.toNat_natCast] at hc' ⊢
    exact schange_in b o c h K g lb A X w H hm (by omega) eg hc'
  · rw [if_neg hd]
    exact schange_out b o c d g lb w hd
end Go.Proofs.YtahoagbaadnihabGreatDoor

/- What the program's scrub makes of a session, and what it answers. -/
namespace Go.Proofs.YtahoagbaadnihabGreatDoor
open Go.RowKit Go.Lib

/-- What a step answered, in blocks from B to M: where other blocks are made, or zero values of other blocks stored over, it stays. -/
structure StF (B M : Nat) (R : StepR) (a : Option Addr) (n : Nat) (a2 : Option Addr) (n2 : Nat) (w : World) : Prop where
  arr : ArrAt w a n R.A
  may : n = 0 ∨ arMay R.A = true
  new : NewS B a n
  int : IntsAt w a2 n2 (ups R.gone)
  newI : NewS B a2 n2
  top : 0 < n2 → ∀ b o s, a2 = some ⟨b, o, s⟩ → b < M
section
variable {B M : Nat} {R : StepR} {a : Option Addr} {n : Nat} {a2 : Option Addr} {n2 : Nat} {w w' : World}
theorem StF.to (H : StF B M R a n a2 n2 w) (g : Below w.heap.size w w') : StF B M R a n a2 n2 w' := ⟨H.arr.below g, H.may, H.new, H.int.below g, H.newI, H.top⟩
theorem StF.alloc (H : StF B M R a n a2 n2 w) (o : Obj) : StF B M R a n a2 n2 (w.alloc o) := H.to ((Below.refl _ w).alloc (Nat.le_refl _) o)
theorem StF.drew (H : StF B M R a n a2 n2 w) : StF B M R a n a2 n2 w.drew := H.to (Below.refl _ w).drew
theorem StF.set (H : StF B M R a n a2 n2 w) {q : Addr} {u : Value} (hc : w.cell? q = some u) (hz : Zr u) (hq : q.block < B ∨ M ≤ q.block) (v : Value) : StF B M R a n a2 n2 (w.setCell q v) := by
  refine ⟨?_, H.may, H.new, ⟨H.int.sn, H.int.nb, H.int.R.grown (row := some q.block) ?_ (grown_of_set w q v)⟩, H.newI, H.top⟩
  · rcases H.may with h | h
    · refine .inl ⟨h, List.eq_nil_of_length_eq_zero ?_⟩
      rw [← H.arr.len, h]
    · exact H.arr.keepz h (keepz_set hc hz v)
  · rw [intsV_length, ← H.int.sn]
    intro h0 b o s e e2
    have h1 := H.newI h0 b o s e
    have h2 := H.top h0 b o s e
    cases e2
    omega
end
theorem step_zero (A : Ar) (nx rd m : Int) (h : (arStep A nx rd m).e ≠ 0) : (arStep A nx rd m).A = [] := by
  unfold arStep at h ⊢
  split
  · rename_i h1
    rw [if_pos h1] at h
    split
    · rename_i h2
      rw [if_pos h2] at h
      split
      · rename_i h3
        rw [if_pos h3] at h
        exact absurd rfl h
      · rfl
    · rfl
  · rfl
/-- .. behind the call. -/
def OutSf (W : World) (B : Nat) (R : StepR) (e : Ending) (w' : World) : Prop :=
  ∃ a n c a2 n2 c2, e = .returned (.tuple #[.agg #[.slice a n c], .agg #[.int .i64 R.nx, .int .i64 R.rd], .int .i64 R.ct, .slice a2 n2 c2, .int .i64 R.e]) ∧ StF B w'.heap.size R a n a2 n2 w' ∧ Below W.heap.size W w'
theorem step_sf (b o c : Nat) (hd : Nat → Hd) (A : Ar) (x r m : Int) (W wx : World) (H : Arr W b o 3 hd A) (g : Below W.heap.size W wx) :
    Calls Tryz.prog 91 #[.agg #[.slice (some ⟨b, o, none⟩) 3 c], .agg #[.int .i64 x, .int .i64 r], .int .i64 m] wx fun e w' => OutSf W wx.heap.size (arStep A x r m) e w' ∧ Below wx.heap.size wx w' := by
  refine (step_new (some ⟨b, o, none⟩) 3 c A x r m wx (.inr ⟨b, o, hd, rfl, H.below g⟩)).mono ?_
  rintro e w' ⟨⟨a, n, c1, a2, n2, c2, he, ⟨hA, hN⟩, hI, hN2⟩, g3⟩
  refine ⟨⟨a, n, c1, a2, n2, c2, he, ⟨hA, ?_, hN, hI, hN2, fun h0 b o s e => ?_⟩, bel3 g g3⟩, g3⟩
  · by_cases q : (arStep A x r m).e = 0
    · exact .inr (step_may A x r m q)
    · left
      rw [hA.len, step_zero A x r m q]
      rfl
  · have hl : 0 < (intsV (ups (arStep A x r m).gone)).length := by rw [intsV_length, ← hI.sn]; exact h0
    obtain ⟨b2, o2, e2, hlt, _⟩ := hI.R 0 _ (List.getElem?_eq_getElem hl)
    rw [e] at e2
    cases e2
    exact hlt
theorem cur_stored {W w : World} {p5 p6 B M : Nat} {R : StepR} {a : Option Addr} {n : Nat} {a2 : Option Addr} {n2 : Nat} {v : Value} (h5 : Own w p5 35 [v]) (h6 : Own w p6 79 [.int .i64 0, .int .i64 0]) (hF : StF B M R a n a2 n2 w) (hG : Below W.heap.size W w) (hne : p5 ≠ p6) (hq : p6 < B ∨ M ≤ p6) (hw : W.heap.size ≤ p6) (x r : Int) :
    ((w.setCell ⟨p6, 0, none⟩ (.int .i64 x)).setCell ⟨p6, 1, none⟩ (.int .i64 r)).cell? ⟨p5, 0, none⟩ = some v ∧ ((w.setCell ⟨p6, 0, none⟩ (.int .i64 x)).setCell ⟨p6, 1, none⟩ (.int .i64 r)).cell? ⟨p6, 0, none⟩ = some (.int .i64 x) ∧ ((w.setCell ⟨p6, 0, none⟩ (.int .i64 x)).setCell ⟨p6, 1, none⟩ (.int .i64 r)).cell? ⟨p6, 1, none⟩ = some (.int .i64 r) ∧
      StF B M R a n a2 n2 ((w.setCell ⟨p6, 0, none⟩ (.int .i64 x)).setCell ⟨p6, 1, none⟩ (.int .i64 r)) ∧ Below W.heap.size W ((w.setCell ⟨p6, 0, none⟩ (.int .i64 x)).setCell ⟨p6, 1, none⟩ (.int .i64 r)) := by
  have k6 : Own (w.setCell ⟨p6, 0, none⟩ (.int .i64 x)) p6 79 [.int .i64 x, .int .i64 0] := h6.set (i := 0) (by simp) _
  have m6 : Own ((w.setCell ⟨p6, 0, none⟩ (.int .i64 x)).setCell ⟨p6, 1, none⟩ (.int .i64 r)) p6 79 [.int .i64 x, .int .i64 r] := k6.set (i := 1) (by simp) _
  exact ⟨((h5.other (p := ⟨p6, 0, none⟩) hne _).other (p := ⟨p6, 1, none⟩) hne _).cell (i := 0) rfl, m6.cell (i := 0) rfl, m6.cell (i := 1) rfl, (hF.set (h6.cell (i := 0) rfl) (.inl rfl) hq _).set (k6.cell (i := 1) rfl) (.inl rfl) hq _, (hG.setCell (p := ⟨p6, 0, none⟩) hw _).setCell (p := ⟨p6, 1, none⟩) hw _⟩
theorem scr_stored {w V : World} {p pr : Nat} {h : Ha} {A' : Ar} {b o c : Nat} {hd : Nat → Hd} {a2 : Option Addr} {n2 : Nat} {L : List Int} {B : Nat} (S : Se V p h) (HX : Arr V b o 3 hd A') (hm : arMay A' = true) (hb : b ≠ p) (hI : IntsAt V a2 n2 L) (hN : NewS B a2 n2) (hB : p < B) (O : Own V pr 42 zero5) (hpr : pr ≠ p) (hc : Chg (fun j => j = p) w V) (x r : Int) :
    Se (((V.setCell ⟨p, 0, none⟩ (.slice (some ⟨b, o, none⟩) 3 c)).setCell ⟨p, 1, none⟩ (.int .i64 x)).setCell ⟨p, 2, none⟩ (.int .i64 r)) p ⟨A', x, r⟩ ∧ IntsAt (((V.setCell ⟨p, 0, none⟩ (.slice (some ⟨b, o, none⟩) 3 c)).setCell ⟨p, 1, none⟩ (.int .i64 x)).setCell ⟨p, 2, none⟩ (.int .i64 r)) a2 n2 L ∧
      Own (((V.setCell ⟨p, 0, none⟩ (.slice (some ⟨b, o, none⟩) 3 c)).setCell ⟨p, 1, none⟩ (.int .i64 x)).setCell ⟨p, 2, none⟩ (.int .i64 r)) pr 42 zero5 ∧ Chg (fun j => j = p) w (((V.setCell ⟨p, 0, none⟩ (.slice (some ⟨b, o, none⟩) 3 c)).setCell ⟨p, 1, none⟩ (.int .i64 x)).setCell ⟨p, 2, none⟩ (.int .i64 r)) := by
  have c1 := (((Chg.refl (fun j => j = p) V).set (p := p) rfl 0 (.slice (some ⟨b, o, none⟩) 3 c)).set (p := p) rfl 1 (.int .i64 x)).set (p := p) rfl 2 (.int .i64 r)
  refine ⟨((S.put HX hm hb c).nx x).rd r, ⟨hI.sn, hI.nb, hI.R.grown (row := some p) ?_ ⟨c1.os, c1.tape, c1.output, c1.size, fun k hk hne => c1.block k hk (fun e => hne (by rw [e]))⟩⟩, ((O.other (p := ⟨p, 0, none⟩) hpr _).other (p := ⟨p, 1, none⟩) hpr _).other (p := ⟨p, 2, none⟩) hpr _, hc.step c1⟩
  rw [intsV_length, ← hI.sn]
  exact hN.off (fun g e => by cases e; exact hB)
theorem OutDo.drew {w w' : World} {p : Nat} {r : Ha × An} {e : Ending} (h : OutDo w p r e w') : OutDo w p r e w'.drew := by
  obtain ⟨q, h1, h2, h3, h4, h5, h6⟩ := h
  exact ⟨q, h1, h2, h3.below (Below.refl _ _).drew, h4, h5.below (Below.refl _ _).drew, h6.drew⟩
theorem se_cells {w : World} {p : Nat} {h : Ha} (S : Se w p h) : ∃ v0, (w.cell? ⟨p, 0, none⟩ = some v0 ∧ w.cell? ⟨p, 1, none⟩ = some (.int .i64 h.nx) ∧ w.cell? ⟨p, 2, none⟩ = some (.int .i64 h.rd)) ∧ (w.frozen? ⟨p, 0, none⟩ = false ∧ w.frozen? ⟨p, 1, none⟩ = false ∧ w.frozen? ⟨p, 2, none⟩ = false) := by
  obtain ⟨b1, o1, cc1, hd1, q1, _, _⟩ := S.ex
  exact ⟨_, ⟨q1.cell (i := 0) rfl, q1.cell (i := 1) rfl, q1.cell (i := 2) rfl⟩, q1.free 0, q1.free 1, q1.free 2⟩
set_option maxHeartbeats 3200000 in
set_option maxRecDepth 4000 in
theorem sscrub_any (p : Nat) (h : Ha) (n : Int) (w : World) (H : Se w p h) :
    Calls Tryz.prog 59 #[.pointer (some ⟨p, 0, none⟩), .int .i64 n] w (OutDo w p (actScrub h n)) := by
  obtain ⟨W, hW⟩ : ∃ W, W = w.alloc (.cells #[.int .i64 0, .string ⟨#[]⟩, .slice none 0 0, .int .i64 0, .slice none 0 0] 42) := ⟨_, rfl⟩
  have hB : Below w.heap.size w W := by rw [hW]; go_grown
  have O5 : Own W w.heap.size 42 zero5 := by rw [hW]; exact Own.made w 42 zero5
  have HW := H.below hB
  obtain ⟨b0, o0, cc, hd0, h1, h2, h3⟩ := HW.ex
  have d0 := h1.cell (i := 0) rfl
  have d1 := h1.cell (i := 1) rfl
  have d2 := h1.cell (i := 2) rfl
  have CS := hid (fun wx (g : Below W.heap.size W wx) => step_sf b0 o0 cc hd0 h.A h.nx h.rd n W wx h2 g)
  have HM := hid (step_may h.A h.nx h.rd n)
  have HP := hid (And.intro hB (And.intro O5 (And.intro HW H.lt)))
  have plt := HW.lt
  have HPL := hid plt
  have HA := hid (fun (wx : World) (g : Below W.heap.size W wx) => And.intro ((g.cell (p := ⟨p, 0, none⟩) plt).trans d0) (And.intro ((g.cell (p := ⟨p, 1, none⟩) plt).trans d1) ((g.cell (p := ⟨p, 2, none⟩) plt).trans d2)))
  clear h1 h2 h3 hB O5 HW H
  unfold actScrub
  generalize arStep h.A h.nx h.rd n = R at CS HM
  obtain ⟨A, nx, rd⟩ := h
  dsimp only at d0 d1 d2 HP HA
  obtain ⟨ra, hra⟩ : ∃ ra : Ha × An, (if R.e = 0 then ((⟨R.A, R.nx, R.rd⟩ : Ha), (⟨0, [], [], R.ct, R.gone⟩ : An)) else (⟨A, nx, rd⟩, anE R.e)) = ra := ⟨_, rfl⟩
  rw [hra]
  have HRA := hid hra
  clear hra
  go_enter Tryz.func59, Tryz.ntmps59
  go_upto_region 1 with fail
  rw [← hW]
  clear hW
  go_cut [5, 6, 7, 8, 9] (fun s5 s6 s7 s8 s9 wx => ∃ a n1 c1 a2 n2 c2 p5 p6 B M, s5 = .pointer (some ⟨p5, 0, none⟩) ∧ s6 = .pointer (some ⟨p6, 0, none⟩) ∧ s7 = .int .i64 R.ct ∧ s8 = .slice a2 n2 c2 ∧ s9 = .int .i64 R.e ∧ StF B M R a n1 a2 n2 wx ∧ (W.heap.size ≤ B ∧ W.heap.size ≤ p5 ∧ W.heap.size ≤ p6) ∧ (wx.cell? ⟨p5, 0, none⟩ = some (.slice a n1 c1) ∧ wx.cell? ⟨p6, 0, none⟩ = some (.int .i64 R.nx) ∧ wx.cell? ⟨p6, 1, none⟩ = some (.int .i64 R.rd)) ∧ Below W.heap.size W wx)
  case first =>
    refine wp_region_till (fun w' => w'.cell? ⟨p, 0, none⟩ = some (.slice (some ⟨b0, o0, none⟩) 3 cc) ∧ w'.cell? ⟨p, 1, none⟩ = some (.int .i64 nx) ∧ w'.cell? ⟨p, 2, none⟩ = some (.int .i64 rd)) (fun _ => True) 18 (by kernel_rfl) (HA.out _ (Below.refl _ W).drew) trivial (fun hT => ?_)
    have S0 : Hid (Below W.heap.size W W.drew) := (Below.refl _ W).drew
    clear d0 d1 d2
    refine wpTill_take (i := 0) (v := ?vt1_0) rfl (by kernel_rfl) (by kernel_rfl) (by kernel_rfl) (fun _ _ _ h => h) (by rfl) ?hyt1_0 hT ?restt1_0
    case hyt1_0 => (intro w hSw; (try dsimp only at hSw); go_simp; (first | done | with_reducible rfl))
    clear hT; intro hT; try simp only [Act.put, List.setIfInBounds_toArray, List.set_cons_zero, List.set_cons_succ]
    refine wpTill_take (i := 1) (v := ?vt2_1) rfl (by kernel_rfl) (by kernel_rfl) (by kernel_rfl) (fun _ _ _ h => h) (by rfl) ?hyt2_1 hT ?restt2_1
    case hyt2_1 => (intro w hSw; (try dsimp only at hSw); go_simp; (first | done | with_reducible rfl))
    clear hT; intro hT; try simp only [Act.put, List.setIfInBounds_toArray, List.set_cons_zero, List.set_cons_succ]
    refine wpTill_take (i := 2) (v := ?vt3_2) rfl (by kernel_rfl) (by kernel_rfl) (by kernel_rfl) (fun _ _ _ h => h) (by rfl) ?hyt3_2 hT ?restt3_2
    case hyt3_2 => (intro w hSw; (try dsimp only at hSw); go_simp; (first | done | with_reducible rfl))
    clear hT; intro hT; try simp only [Act.put, List.setIfInBounds_toArray, List.set_cons_zero, List.set_cons_succ]
    refine wpTill_take (i := 3) (v := ?vt4_3) rfl (by kernel_rfl) (by kernel_rfl) (by kernel_rfl) (fun _ _ _ h => h) (by rfl) ?hyt4_3 hT ?restt4_3
    case hyt4_3 => (intro w hSw; (try dsimp only at hSw); go_simp; (first | done | with_reducible rfl))
    clear hT; intro hT; try simp only [Act.put, List.setIfInBounds_toArray, List.set_cons_zero, List.set_cons_succ]
    refine wpTill_take (i := 4) (v := ?vt5_4) rfl (by kernel_rfl) (by kernel_rfl) (by kernel_rfl) (fun _ _ _ h => h) (by rfl) ?hyt5_4 hT ?restt5_4
    case hyt5_4 => (intro w hSw; (try dsimp only at hSw); go_simp; (first | done | with_reducible rfl))
    clear hT; intro hT; try simp only [Act.put, List.setIfInBounds_toArray, List.set_cons_zero, List.set_cons_succ]
    refine wpTill_take (i := 5) (v := ?vt6_5) rfl (by kernel_rfl) (by kernel_rfl) (by kernel_rfl) (fun _ _ _ h => h) (by rfl) ?hyt6_5 hT ?restt6_5
    case hyt6_5 => (intro w hSw; (try dsimp only at hSw); go_simp; (first | done | with_reducible rfl))
    clear hT; intro hT; try simp only [Act.put, List.setIfInBounds_toArray, List.set_cons_zero, List.set_cons_succ]
    refine wpTill_take (i := 6) (v := ?vt7_6) rfl (by kernel_rfl) (by kernel_rfl) (by kernel_rfl) (fun _ _ _ h => h) (by rfl) ?hyt7_6 hT ?restt7_6
    case hyt7_6 => (intro w hSw; (try dsimp only at hSw); go_simp; (first | done | with_reducible rfl))
    clear hT; intro hT; try simp only [Act.put, List.setIfInBounds_toArray, List.set_cons_zero, List.set_cons_succ]
    refine wpTill_take (i := 7) (v := ?vt8_7) rfl (by kernel_rfl) (by kernel_rfl) (by kernel_rfl) (fun _ _ _ h => h) (by rfl) ?hyt8_7 hT ?restt8_7
    case hyt8_7 => (intro w hSw; (try dsimp only at hSw); go_simp; (first | done | with_reducible rfl))
    clear hT; intro hT; try simp only [Act.put, List.setIfInBounds_toArray, List.set_cons_zero, List.set_cons_succ]
    refine wpTill_take (i := 8) (v := ?vt9_8) rfl (by kernel_rfl) (by kernel_rfl) (by kernel_rfl) (fun _ _ _ h => h) (by rfl) ?hyt9_8 hT ?restt9_8
    case hyt9_8 => (intro w hSw; (try dsimp only at hSw); go_simp; (first | done | with_reducible rfl))
    clear hT; intro hT; try simp only [Act.put, List.setIfInBounds_toArray, List.set_cons_zero, List.set_cons_succ]
    generalize W.drew = V at S0 hT ⊢
    refine wpTill_three (i := 9) (j := 16) (m := 17) rfl rfl rfl (by kernel_rfl) (fun K hK => ?_) (fun K hK => ?_) (fun K hK => ?_)
    · go_simp
      go_at_call 91
      refine (CS.out _ S0.out).mono ?_
      rintro _ x10 ⟨⟨a, n1, c1, a2, n2, c2, rfl, hF, hG⟩, g10⟩
      obtain ⟨B, hB10⟩ : ∃ B, V.heap.size = B := ⟨_, rfl⟩
      obtain ⟨M, hM10⟩ : ∃ M, x10.heap.size = M := ⟨_, rfl⟩
      rw [hB10, hM10] at hF
      have S10 : Hid (Below W.heap.size W x10 ∧ (StF B M R a n1 a2 n2 x10 ∧ W.heap.size ≤ B ∧ M ≤ x10.heap.size)) := ⟨hG, ⟨hF, by rw [← hB10]; exact S0.out.size, Nat.le_of_eq hM10.symm⟩⟩
      refine hK.out _ _ ?hS10 ?rest10
      case hS10 => exact ⟨HA.out _ S10.out.1, fun _ => trivial⟩
      clear hT hK K hF hG g10 hB10 hM10 S0; intro hT; try simp only [Act.put, List.setIfInBounds_toArray, List.set_cons_zero, List.set_cons_succ]
      refine wpTill_take (i := 10) (v := ?vt11_10) rfl (by kernel_rfl) (by kernel_rfl) (by kernel_rfl) (fun _ _ _ h => h) (by rfl) ?hyt11_10 hT ?restt11_10
      case hyt11_10 => (intro w hSw; (try dsimp only at hSw); go_simp; (first | done | with_reducible rfl))
      clear hT; intro hT; try simp only [Act.put, List.setIfInBounds_toArray, List.set_cons_zero, List.set_cons_succ]
      refine wpTill_take (i := 11) (v := ?vt12_11) rfl (by kernel_rfl) (by kernel_rfl) (by kernel_rfl) (fun _ _ _ h => h) (by rfl) ?hyt12_11 hT ?restt12_11
      case hyt12_11 => (intro w hSw; (try dsimp only at hSw); go_simp; (first | done | with_reducible rfl))
      clear hT; intro hT; try simp only [Act.put, List.setIfInBounds_toArray, List.set_cons_zero, List.set_cons_succ]
      refine wpTill_take (i := 12) (v := ?vt13_12) rfl (by kernel_rfl) (by kernel_rfl) (by kernel_rfl) (fun _ _ _ h => h) (by rfl) ?hyt13_12 hT ?restt13_12
      case hyt13_12 => (intro w hSw; (try dsimp only at hSw); go_simp; (first | done | with_reducible rfl))
      clear hT; intro hT; try simp only [Act.put, List.setIfInBounds_toArray, List.set_cons_zero, List.set_cons_succ]
      refine wpTill_take (i := 13) (v := ?vt14_13) rfl (by kernel_rfl) (by kernel_rfl) (by kernel_rfl) (fun _ _ _ h => h) (by rfl) ?hyt14_13 hT ?restt14_13
      case hyt14_13 => (intro w hSw; (try dsimp only at hSw); go_simp; (first | done | with_reducible rfl))
      clear hT; intro hT; try simp only [Act.put, List.setIfInBounds_toArray, List.set_cons_zero, List.set_cons_succ]
      refine wpTill_take (i := 14) (v := ?vt15_14) rfl (by kernel_rfl) (by kernel_rfl) (by kernel_rfl) (fun _ _ _ h => h) (by rfl) ?hyt15_14 hT ?restt15_14
      case hyt15_14 => (intro w hSw; (try dsimp only at hSw); go_simp; (first | done | with_reducible rfl))
      clear hT; intro hT; try simp only [Act.put, List.setIfInBounds_toArray, List.set_cons_zero, List.set_cons_succ]
      refine wpTill_take (i := 15) (v := ?vt16_15) rfl (by kernel_rfl) (by kernel_rfl) (by kernel_rfl) (fun _ _ _ h => h) (by rfl) ?hyt16_15 hT ?restt16_15
      case hyt16_15 => (intro w hSw; (try dsimp only at hSw); go_simp; (first | done | with_reducible rfl))
      clear hT; intro hT; try simp only [Act.put, List.setIfInBounds_toArray, List.set_cons_zero, List.set_cons_succ]
      refine wpTill_two (i := 16) (j := 17) rfl rfl (by kernel_rfl) (fun K hK => ?_) (fun K hK => ?_)
      · go_simp
        obtain ⟨p5, e17⟩ : ∃ p5, x10.heap.size = p5 := ⟨_, rfl⟩
        obtain ⟨x17, f17⟩ : ∃ x17, x10.alloc (.cells #[.slice none 0 0] 35) = x17 := ⟨_, rfl⟩
        have b17 : Below x10.heap.size x10 x17 := by rw [← f17]; exact (Below.refl _ x10).alloc (Nat.le_refl _) (.cells #[.slice none 0 0] 35)
        have o17 : Own x17 p5 35 [.slice none 0 0] := by rw [← f17, ← e17]; exact Own.made x10 35 [.slice none 0 0]
        have S17 : Hid (Below W.heap.size W x17 ∧ (Own x17 p5 35 [.slice none 0 0] ∧ W.heap.size ≤ p5) ∧ (StF B M R a n1 a2 n2 x17 ∧ W.heap.size ≤ B ∧ M ≤ x17.heap.size) ∧ (p5 < B ∨ M ≤ p5)) := ⟨bel3 S10.out.1 b17, ⟨o17, by rw [← e17]; exact S10.out.1.size⟩, ⟨S10.out.2.1.to b17, S10.out.2.2.1, Nat.le_trans S10.out.2.2.2 b17.size⟩, .inr (by rw [← e17]; exact S10.out.2.2.2)⟩
        rw [e17, f17]
        refine hK.out _ _ ?hS17 ?rest17
        case hS17 => exact ⟨HA.out _ S17.out.1, fun _ => trivial⟩
        clear hT hK K e17 f17 b17 o17 S10; intro hT; try simp only [Act.put, List.setIfInBounds_toArray, List.set_cons_zero, List.set_cons_succ]
        refine wpTill_step (i := 17) rfl (by kernel_rfl) (fun K hK => ?_)
        go_simp
        obtain ⟨p6, e18⟩ : ∃ p6, x17.heap.size = p6 := ⟨_, rfl⟩
        obtain ⟨x18, f18⟩ : ∃ x18, x17.alloc (.cells #[.int .i64 0, .int .i64 0] 79) = x18 := ⟨_, rfl⟩
        have b18 : Below x17.heap.size x17 x18 := by rw [← f18]; exact (Below.refl _ x17).alloc (Nat.le_refl _) (.cells #[.int .i64 0, .int .i64 0] 79)
        have o18 : Own x18 p6 79 [.int .i64 0, .int .i64 0] := by rw [← f18, ← e18]; exact Own.made x17 79 [.int .i64 0, .int .i64 0]
        have S18 : Hid (Below W.heap.size W x18 ∧ (Own x18 p5 35 [.slice none 0 0] ∧ W.heap.size ≤ p5) ∧ (Own x18 p6 79 [.int .i64 0, .int .i64 0] ∧ W.heap.size ≤ p6) ∧ (StF B M R a n1 a2 n2 x18 ∧ W.heap.size ≤ B ∧ M ≤ x18.heap.size) ∧ p5 ≠ p6 ∧ (p5 < B ∨ M ≤ p5) ∧ (p6 < B ∨ M ≤ p6)) := ⟨bel3 S17.out.1 b18, ⟨S17.out.2.1.1.below' b18, S17.out.2.1.2⟩, ⟨o18, by rw [← e18]; exact S17.out.1.size⟩, ⟨S17.out.2.2.1.1.to b18, S17.out.2.2.1.2.1, Nat.le_trans S17.out.2.2.1.2.2 b18.size⟩, fun q => by have := (S17.out.2.1.1).lt; omega, S17.out.2.2.2, .inr (by rw [← e18]; exact S17.out.2.2.1.2.2)⟩
        rw [e18, f18]
        refine hK.out _ _ ?hS18 ?rest18
        case hS18 => exact ⟨HA.out _ S18.out.1, fun _ => trivial⟩
        clear hT hK K e18 f18 b18 o18 S17; intro hT; try simp only [Act.put, List.setIfInBounds_toArray, List.set_cons_zero, List.set_cons_succ]
        have c5 := S18.out.2.1.1.cell (i := 0) rfl
        have z5 := S18.out.2.1.1.free 0
        refine wpTill_step (i := 18) rfl (by kernel_rfl) (fun K hK => ?_)
        go_simp
        clear c5 z5
        have T5 := hid (And.intro (S18.out.2.1.1.set (i := 0) (by simp) (.slice a n1 c1)) (And.intro (S18.out.2.2.1.1.other (p := ⟨p5, 0, none⟩) (fun q => S18.out.2.2.2.2.1 q.symm) (.slice a n1 c1)) (And.intro (S18.out.2.2.2.1.1.set (S18.out.2.1.1.cell (i := 0) rfl) (.inr (.inr rfl)) S18.out.2.2.2.2.2.1 (.slice a n1 c1)) (S18.out.1.setCell (p := ⟨p5, 0, none⟩) S18.out.2.1.2 (.slice a n1 c1)))))
        obtain ⟨yz18, hyz18⟩ : ∃ y, x18.setCell ⟨p5, 0, none⟩ (.slice a n1 c1) = y := ⟨_, rfl⟩
        rw [hyz18] at T5 ⊢
        clear hyz18
        refine hK.out _ _ ?hSz18 ?restz18
        case hSz18 => exact ⟨HA.out _ T5.out.2.2.2, fun _ => trivial⟩
        clear hT hK K; intro hT; try simp only [Act.put, List.setIfInBounds_toArray, List.set_cons_zero, List.set_cons_succ]
        have c6 := T5.out.2.1.cell (i := 0) rfl
        have c7 := T5.out.2.1.cell (i := 1) rfl
        have z6 := T5.out.2.1.free 0
        have z7 := T5.out.2.1.free 1
        refine wpTill_step (i := 19) rfl (by kernel_rfl) (fun K hK => ?_)
        go_simp
        clear c6 c7 z6 z7
        have T6 := hid (cur_stored T5.out.1 T5.out.2.1 T5.out.2.2.1 T5.out.2.2.2 S18.out.2.2.2.2.1 S18.out.2.2.2.2.2.2 S18.out.2.2.1.2 R.nx R.rd)
        obtain ⟨vz18, hvz18⟩ : ∃ y, (yz18.setCell ⟨p6, 0, none⟩ (.int .i64 R.nx)).setCell ⟨p6, 1, none⟩ (.int .i64 R.rd) = y := ⟨_, rfl⟩
        rw [hvz18] at T6 ⊢
        have HBW := hid (And.intro S18.out.2.2.2.1.2.1 (And.intro S18.out.2.1.2 S18.out.2.2.1.2))
        clear hvz18 T5 S18
        refine hK.out _ _ ?hRz18 ?rest2z18
        case hRz18 => exact ⟨HA.out _ T6.out.2.2.2.2, fun _ => trivial⟩
        clear hT hK K; intro hT; try simp only [Act.put, List.setIfInBounds_toArray, List.set_cons_zero, List.set_cons_succ]
        refine wpTill_take (i := 20) (v := ?vt20_20) rfl (by kernel_rfl) (by kernel_rfl) (by kernel_rfl) (fun _ _ _ h => h) (by rfl) ?hyt20_20 hT ?restt20_20
        case hyt20_20 => (intro w hSw; (try dsimp only at hSw); go_simp; (first | done | with_reducible rfl))
        clear hT; intro hT; try simp only [Act.put, List.setIfInBounds_toArray, List.set_cons_zero, List.set_cons_succ]
        refine wpTill_take (i := 21) (v := ?vt21_21) rfl (by kernel_rfl) (by kernel_rfl) (by kernel_rfl) (fun _ _ _ h => h) (by rfl) ?hyt21_21 hT ?restt21_21
        case hyt21_21 => (intro w hSw; (try dsimp only at hSw); go_simp; (first | done | with_reducible rfl))
        clear hT; intro hT; try simp only [Act.put, List.setIfInBounds_toArray, List.set_cons_zero, List.set_cons_succ]
        refine wpTill_take (i := 22) (v := ?vt22_22) rfl (by kernel_rfl) (by kernel_rfl) (by kernel_rfl) (fun _ _ _ h => h) (by rfl) ?hyt22_22 hT ?restt22_22
        case hyt22_22 => (intro w hSw; (try dsimp only at hSw); go_simp; (first | done | with_reducible rfl))
        clear hT; intro hT; try simp only [Act.put, List.setIfInBounds_toArray, List.set_cons_zero, List.set_cons_succ]
        refine wpTill_done (by kernel_rfl) ?_ _
        go_wp2_with fail
        go_meet
        exact ⟨a, n1, c1, a2, n2, c2, p5, p6, B, M, rfl, rfl, rfl, rfl, rfl, T6.out.2.2.2.1, HBW.out, ⟨T6.out.1, T6.out.2.1, T6.out.2.2.1⟩, T6.out.2.2.2.2⟩
      · go_simp
        obtain ⟨p6, e23⟩ : ∃ p6, x10.heap.size = p6 := ⟨_, rfl⟩
        obtain ⟨x23, f23⟩ : ∃ x23, x10.alloc (.cells #[.int .i64 0, .int .i64 0] 79) = x23 := ⟨_, rfl⟩
        have b23 : Below x10.heap.size x10 x23 := by rw [← f23]; exact (Below.refl _ x10).alloc (Nat.le_refl _) (.cells #[.int .i64 0, .int .i64 0] 79)
        have o23 : Own x23 p6 79 [.int .i64 0, .int .i64 0] := by rw [← f23, ← e23]; exact Own.made x10 79 [.int .i64 0, .int .i64 0]
        have S23 : Hid (Below W.heap.size W x23 ∧ (Own x23 p6 79 [.int .i64 0, .int .i64 0] ∧ W.heap.size ≤ p6) ∧ (StF B M R a n1 a2 n2 x23 ∧ W.heap.size ≤ B ∧ M ≤ x23.heap.size) ∧ (p6 < B ∨ M ≤ p6)) := ⟨bel3 S10.out.1 b23, ⟨o23, by rw [← e23]; exact S10.out.1.size⟩, ⟨S10.out.2.1.to b23, S10.out.2.2.1, Nat.le_trans S10.out.2.2.2 b23.size⟩, .inr (by rw [← e23]; exact S10.out.2.2.2)⟩
        rw [e23, f23]
        refine hK.out _ _ ?hS23 ?rest23
        case hS23 => exact ⟨HA.out _ S23.out.1, fun _ => trivial⟩
        clear hT hK K e23 f23 b23 o23 S10; intro hT; try simp only [Act.put, List.setIfInBounds_toArray, List.set_cons_zero, List.set_cons_succ]
        refine wpTill_step (i := 16) rfl (by kernel_rfl) (fun K hK => ?_)
        go_simp
        obtain ⟨p5, e24⟩ : ∃ p5, x23.heap.size = p5 := ⟨_, rfl⟩
        obtain ⟨x24, f24⟩ : ∃ x24, x23.alloc (.cells #[.slice none 0 0] 35) = x24 := ⟨_, rfl⟩
        have b24 : Below x23.heap.size x23 x24 := by rw [← f24]; exact (Below.refl _ x23).alloc (Nat.le_refl _) (.cells #[.slice none 0 0] 35)
        have o24 : Own x24 p5 35 [.slice none 0 0] := by rw [← f24, ← e24]; exact Own.made x23 35 [.slice none 0 0]
        have S24 : Hid (Below W.heap.size W x24 ∧ (Own x24 p5 35 [.slice none 0 0] ∧ W.heap.size ≤ p5) ∧ (Own x24 p6 79 [.int .i64 0, .int .i64 0] ∧ W.heap.size ≤ p6) ∧ (StF B M R a n1 a2 n2 x24 ∧ W.heap.size ≤ B ∧ M ≤ x24.heap.size) ∧ p5 ≠ p6 ∧ (p5 < B ∨ M ≤ p5) ∧ (p6 < B ∨ M ≤ p6)) := ⟨bel3 S23.out.1 b24, ⟨o24, by rw [← e24]; exact S23.out.1.size⟩, ⟨S23.out.2.1.1.below' b24, S23.out.2.1.2⟩, ⟨S23.out.2.2.1.1.to b24, S23.out.2.2.1.2.1, Nat.le_trans S23.out.2.2.1.2.2 b24.size⟩, fun q => by have := (S23.out.2.1.1).lt; omega, .inr (by rw [← e24]; exact S23.out.2.2.1.2.2), S23.out.2.2.2⟩
        rw [e24, f24]
        refine hK.out _ _ ?hS24 ?rest24
        case hS24 => exact ⟨HA.out _ S24.out.1, fun _ => trivial⟩
        clear hT hK K e24 f24 b24 o24 S23; intro hT; try simp only [Act.put, List.setIfInBounds_toArray, List.set_cons_zero, List.set_cons_succ]
        have c5 := S24.out.2.1.1.cell (i := 0) rfl
        have z5 := S24.out.2.1.1.free 0
        refine wpTill_step (i := 18) rfl (by kernel_rfl) (fun K hK => ?_)
        go_simp
        clear c5 z5
        have T5 := hid (And.intro (S24.out.2.1.1.set (i := 0) (by simp) (.slice a n1 c1)) (And.intro (S24.out.2.2.1.1.other (p := ⟨p5, 0, none⟩) (fun q => S24.out.2.2.2.2.1 q.symm) (.slice a n1 c1)) (And.intro (S24.out.2.2.2.1.1.set (S24.out.2.1.1.cell (i := 0) rfl) (.inr (.inr rfl)) S24.out.2.2.2.2.2.1 (.slice a n1 c1)) (S24.out.1.setCell (p := ⟨p5, 0, none⟩) S24.out.2.1.2 (.slice a n1 c1)))))
        obtain ⟨yz24, hyz24⟩ : ∃ y, x24.setCell ⟨p5, 0, none⟩ (.slice a n1 c1) = y := ⟨_, rfl⟩
        rw [hyz24] at T5 ⊢
        clear hyz24
        refine hK.out _ _ ?hSz24 ?restz24
        case hSz24 => exact ⟨HA.out _ T5.out.2.2.2, fun _ => trivial⟩
        clear hT hK K; intro hT; try simp only [Act.put, List.setIfInBounds_toArray, List.set_cons_zero, List.set_cons_succ]
        have c6 := T5.out.2.1.cell (i := 0) rfl
        have c7 := T5.out.2.1.cell (i := 1) rfl
        have z6 := T5.out.2.1.free 0
        have z7 := T5.out.2.1.free 1
        refine wpTill_step (i := 19) rfl (by kernel_rfl) (fun K hK => ?_)
        go_simp
        clear c6 c7 z6 z7
        have T6 := hid (cur_stored T5.out.1 T5.out.2.1 T5.out.2.2.1 T5.out.2.2.2 S24.out.2.2.2.2.1 S24.out.2.2.2.2.2.2 S24.out.2.2.1.2 R.nx R.rd)
        obtain ⟨vz24, hvz24⟩ : ∃ y, (yz24.setCell ⟨p6, 0, none⟩ (.int .i64 R.nx)).setCell ⟨p6, 1, none⟩ (.int .i64 R.rd) = y := ⟨_, rfl⟩
        rw [hvz24] at T6 ⊢
        have HBW := hid (And.intro S24.out.2.2.2.1.2.1 (And.intro S24.out.2.1.2 S24.out.2.2.1.2))
        clear hvz24 T5 S24
        refine hK.out _ _ ?hRz24 ?rest2z24
        case hRz24 => exact ⟨HA.out _ T6.out.2.2.2.2, fun _ => trivial⟩
        clear hT hK K; intro hT; try simp only [Act.put, List.setIfInBounds_toArray, List.set_cons_zero, List.set_cons_succ]
        refine wpTill_take (i := 20) (v := ?vt26_20) rfl (by kernel_rfl) (by kernel_rfl) (by kernel_rfl) (fun _ _ _ h => h) (by rfl) ?hyt26_20 hT ?restt26_20
        case hyt26_20 => (intro w hSw; (try dsimp only at hSw); go_simp; (first | done | with_reducible rfl))
        clear hT; intro hT; try simp only [Act.put, List.setIfInBounds_toArray, List.set_cons_zero, List.set_cons_succ]
        refine wpTill_take (i := 21) (v := ?vt27_21) rfl (by kernel_rfl) (by kernel_rfl) (by kernel_rfl) (fun _ _ _ h => h) (by rfl) ?hyt27_21 hT ?restt27_21
        case hyt27_21 => (intro w hSw; (try dsimp only at hSw); go_simp; (first | done | with_reducible rfl))
        clear hT; intro hT; try simp only [Act.put, List.setIfInBounds_toArray, List.set_cons_zero, List.set_cons_succ]
        refine wpTill_take (i := 22) (v := ?vt28_22) rfl (by kernel_rfl) (by kernel_rfl) (by kernel_rfl) (fun _ _ _ h => h) (by rfl) ?hyt28_22 hT ?restt28_22
        case hyt28_22 => (intro w hSw; (try dsimp only at hSw); go_simp; (first | done | with_reducible rfl))
        clear hT; intro hT; try simp only [Act.put, List.setIfInBounds_toArray, List.set_cons_zero, List.set_cons_succ]
        refine wpTill_done (by kernel_rfl) ?_ _
        go_wp2_with fail
        go_meet
        exact ⟨a, n1, c1, a2, n2, c2, p5, p6, B, M, rfl, rfl, rfl, rfl, rfl, T6.out.2.2.2.1, HBW.out, ⟨T6.out.1, T6.out.2.1, T6.out.2.2.1⟩, T6.out.2.2.2.2⟩
    · go_simp
      obtain ⟨p5, e29⟩ : ∃ p5, V.heap.size = p5 := ⟨_, rfl⟩
      obtain ⟨x29, f29⟩ : ∃ x29, V.alloc (.cells #[.slice none 0 0] 35) = x29 := ⟨_, rfl⟩
      have b29 : Below V.heap.size V x29 := by rw [← f29]; exact (Below.refl _ V).alloc (Nat.le_refl _) (.cells #[.slice none 0 0] 35)
      have o29 : Own x29 p5 35 [.slice none 0 0] := by rw [← f29, ← e29]; exact Own.made V 35 [.slice none 0 0]
      have S29 : Hid (Below W.heap.size W x29 ∧ (Own x29 p5 35 [.slice none 0 0] ∧ W.heap.size ≤ p5)) := ⟨bel3 S0.out b29, ⟨o29, by rw [← e29]; exact S0.out.size⟩⟩
      rw [e29, f29]
      refine hK.out _ _ ?hS29 ?rest29
      case hS29 => exact ⟨HA.out _ S29.out.1, fun _ => trivial⟩
      clear hT hK K e29 f29 b29 o29 S0; intro hT; try simp only [Act.put, List.setIfInBounds_toArray, List.set_cons_zero, List.set_cons_succ]
      refine wpTill_two (i := 9) (j := 17) rfl rfl (by kernel_rfl) (fun K hK => ?_) (fun K hK => ?_)
      · go_simp
        go_at_call 91
        refine (CS.out _ S29.out.1).mono ?_
        rintro _ x30 ⟨⟨a, n1, c1, a2, n2, c2, rfl, hF, hG⟩, g30⟩
        obtain ⟨B, hB30⟩ : ∃ B, x29.heap.size = B := ⟨_, rfl⟩
        obtain ⟨M, hM30⟩ : ∃ M, x30.heap.size = M := ⟨_, rfl⟩
        rw [hB30, hM30] at hF
        have S30 : Hid (Below W.heap.size W x30 ∧ (Own x30 p5 35 [.slice none 0 0] ∧ W.heap.size ≤ p5) ∧ (StF B M R a n1 a2 n2 x30 ∧ W.heap.size ≤ B ∧ M ≤ x30.heap.size) ∧ (p5 < B ∨ M ≤ p5)) := ⟨hG, ⟨S29.out.2.1.below' g30, S29.out.2.2⟩, ⟨hF, by rw [← hB30]; exact S29.out.1.size, Nat.le_of_eq hM30.symm⟩, .inl (by rw [← hB30]; exact S29.out.2.1.lt)⟩
        refine hK.out _ _ ?hS30 ?rest30
        case hS30 => exact ⟨HA.out _ S30.out.1, fun _ => trivial⟩
        clear hT hK K hF hG g30 hB30 hM30 S29; intro hT; try simp only [Act.put, List.setIfInBounds_toArray, List.set_cons_zero, List.set_cons_succ]
        refine wpTill_take (i := 10) (v := ?vt31_10) rfl (by kernel_rfl) (by kernel_rfl) (by kernel_rfl) (fun _ _ _ h => h) (by rfl) ?hyt31_10 hT ?restt31_10
        case hyt31_10 => (intro w hSw; (try dsimp only at hSw); go_simp; (first | done | with_reducible rfl))
        clear hT; intro hT; try simp only [Act.put, List.setIfInBounds_toArray, List.set_cons_zero, List.set_cons_succ]
        refine wpTill_take (i := 11) (v := ?vt32_11) rfl (by kernel_rfl) (by kernel_rfl) (by kernel_rfl) (fun _ _ _ h => h) (by rfl) ?hyt32_11 hT ?restt32_11
        case hyt32_11 => (intro w hSw; (try dsimp only at hSw); go_simp; (first | done | with_reducible rfl))
        clear hT; intro hT; try simp only [Act.put, List.setIfInBounds_toArray, List.set_cons_zero, List.set_cons_succ]
        refine wpTill_take (i := 12) (v := ?vt33_12) rfl (by kernel_rfl) (by kernel_rfl) (by kernel_rfl) (fun _ _ _ h => h) (by rfl) ?hyt33_12 hT ?restt33_12
        case hyt33_12 => (intro w hSw; (try dsimp only at hSw); go_simp; (first | done | with_reducible rfl))
        clear hT; intro hT; try simp only [Act.put, List.setIfInBounds_toArray, List.set_cons_zero, List.set_cons_succ]
        refine wpTill_take (i := 13) (v := ?vt34_13) rfl (by kernel_rfl) (by kernel_rfl) (by kernel_rfl) (fun _ _ _ h => h) (by rfl) ?hyt34_13 hT ?restt34_13
        case hyt34_13 => (intro w hSw; (try dsimp only at hSw); go_simp; (first | done | with_reducible rfl))
        clear hT; intro hT; try simp only [Act.put, List.setIfInBounds_toArray, List.set_cons_zero, List.set_cons_succ]
        refine wpTill_take (i := 14) (v := ?vt35_14) rfl (by kernel_rfl) (by kernel_rfl) (by kernel_rfl) (fun _ _ _ h => h) (by rfl) ?hyt35_14 hT ?restt35_14
        case hyt35_14 => (intro w hSw; (try dsimp only at hSw); go_simp; (first | done | with_reducible rfl))
        clear hT; intro hT; try simp only [Act.put, List.setIfInBounds_toArray, List.set_cons_zero, List.set_cons_succ]
        refine wpTill_take (i := 15) (v := ?vt36_15) rfl (by kernel_rfl) (by kernel_rfl) (by kernel_rfl) (fun _ _ _ h => h) (by rfl) ?hyt36_15 hT ?restt36_15
        case hyt36_15 => (intro w hSw; (try dsimp only at hSw); go_simp; (first | done | with_reducible rfl))
        clear hT; intro hT; try simp only [Act.put, List.setIfInBounds_toArray, List.set_cons_zero, List.set_cons_succ]
        refine wpTill_step (i := 17) rfl (by kernel_rfl) (fun K hK => ?_)
        go_simp
        obtain ⟨p6, e37⟩ : ∃ p6, x30.heap.size = p6 := ⟨_, rfl⟩
        obtain ⟨x37, f37⟩ : ∃ x37, x30.alloc (.cells #[.int .i64 0, .int .i64 0] 79) = x37 := ⟨_, rfl⟩
        have b37 : Below x30.heap.size x30 x37 := by rw [← f37]; exact (Below.refl _ x30).alloc (Nat.le_refl _) (.cells #[.int .i64 0, .int .i64 0] 79)
        have o37 : Own x37 p6 79 [.int .i64 0, .int .i64 0] := by rw [← f37, ← e37]; exact Own.made x30 79 [.int .i64 0, .int .i64 0]
        have S37 : Hid (Below W.heap.size W x37 ∧ (Own x37 p5 35 [.slice none 0 0] ∧ W.heap.size ≤ p5) ∧ (Own x37 p6 79 [.int .i64 0, .int .i64 0] ∧ W.heap.size ≤ p6) ∧ (StF B M R a n1 a2 n2 x37 ∧ W.heap.size ≤ B ∧ M ≤ x37.heap.size) ∧ p5 ≠ p6 ∧ (p5 < B ∨ M ≤ p5) ∧ (p6 < B ∨ M ≤ p6)) := ⟨bel3 S30.out.1 b37, ⟨S30.out.2.1.1.below' b37, S30.out.2.1.2⟩, ⟨o37, by rw [← e37]; exact S30.out.1.size⟩, ⟨S30.out.2.2.1.1.to b37, S30.out.2.2.1.2.1, Nat.le_trans S30.out.2.2.1.2.2 b37.size⟩, fun q => by have := (S30.out.2.1.1).lt; omega, S30.out.2.2.2, .inr (by rw [← e37]; exact S30.out.2.2.1.2.2)⟩
        rw [e37, f37]
        refine hK.out _ _ ?hS37 ?rest37
        case hS37 => exact ⟨HA.out _ S37.out.1, fun _ => trivial⟩
        clear hT hK K e37 f37 b37 o37 S30; intro hT; try simp only [Act.put, List.setIfInBounds_toArray, List.set_cons_zero, List.set_cons_succ]
        have c5 := S37.out.2.1.1.cell (i := 0) rfl
        have z5 := S37.out.2.1.1.free 0
        refine wpTill_step (i := 18) rfl (by kernel_rfl) (fun K hK => ?_)
        go_simp
        clear c5 z5
        have T5 := hid (And.intro (S37.out.2.1.1.set (i := 0) (by simp) (.slice a n1 c1)) (And.intro (S37.out.2.2.1.1.other (p := ⟨p5, 0, none⟩) (fun q => S37.out.2.2.2.2.1 q.symm) (.slice a n1 c1)) (And.intro (S37.out.2.2.2.1.1.set (S37.out.2.1.1.cell (i := 0) rfl) (.inr (.inr rfl)) S37.out.2.2.2.2.2.1 (.slice a n1 c1)) (S37.out.1.setCell (p := ⟨p5, 0, none⟩) S37.out.2.1.2 (.slice a n1 c1)))))
        obtain ⟨yz37, hyz37⟩ : ∃ y, x37.setCell ⟨p5, 0, none⟩ (.slice a n1 c1) = y := ⟨_, rfl⟩
        rw [hyz37] at T5 ⊢
        clear hyz37
        refine hK.out _ _ ?hSz37 ?restz37
        case hSz37 => exact ⟨HA.out _ T5.out.2.2.2, fun _ => trivial⟩
        clear hT hK K; intro hT; try simp only [Act.put, List.setIfInBounds_toArray, List.set_cons_zero, List.set_cons_succ]
        have c6 := T5.out.2.1.cell (i := 0) rfl
        have c7 := T5.out.2.1.cell (i := 1) rfl
        have z6 := T5.out.2.1.free 0
        have z7 := T5.out.2.1.free 1
        refine wpTill_step (i := 19) rfl (by kernel_rfl) (fun K hK => ?_)
        go_simp
        clear c6 c7 z6 z7
        have T6 := hid (cur_stored T5.out.1 T5.out.2.1 T5.out.2.2.1 T5.out.2.2.2 S37.out.2.2.2.2.1 S37.out.2.2.2.2.2.2 S37.out.2.2.1.2 R.nx R.rd)
        obtain ⟨vz37, hvz37⟩ : ∃ y, (yz37.setCell ⟨p6, 0, none⟩ (.int .i64 R.nx)).setCell ⟨p6, 1, none⟩ (.int .i64 R.rd) = y := ⟨_, rfl⟩
        rw [hvz37] at T6 ⊢
        have HBW := hid (And.intro S37.out.2.2.2.1.2.1 (And.intro S37.out.2.1.2 S37.out.2.2.1.2))
        clear hvz37 T5 S37
        refine hK.out _ _ ?hRz37 ?rest2z37
        case hRz37 => exact ⟨HA.out _ T6.out.2.2.2.2, fun _ => trivial⟩
        clear hT hK K; intro hT; try simp only [Act.put, List.setIfInBounds_toArray, List.set_cons_zero, List.set_cons_succ]
        refine wpTill_take (i := 20) (v := ?vt39_20) rfl (by kernel_rfl) (by kernel_rfl) (by kernel_rfl) (fun _ _ _ h => h) (by rfl) ?hyt39_20 hT ?restt39_20
        case hyt39_20 => (intro w hSw; (try dsimp only at hSw); go_simp; (first | done | with_reducible rfl))
        clear hT; intro hT; try simp only [Act.put, List.setIfInBounds_toArray, List.set_cons_zero, List.set_cons_succ]
        refine wpTill_take (i := 21) (v := ?vt40_21) rfl (by kernel_rfl) (by kernel_rfl) (by kernel_rfl) (fun _ _ _ h => h) (by rfl) ?hyt40_21 hT ?restt40_21
        case hyt40_21 => (intro w hSw; (try dsimp only at hSw); go_simp; (first | done | with_reducible rfl))
        clear hT; intro hT; try simp only [Act.put, List.setIfInBounds_toArray, List.set_cons_zero, List.set_cons_succ]
        refine wpTill_take (i := 22) (v := ?vt41_22) rfl (by kernel_rfl) (by kernel_rfl) (by kernel_rfl) (fun _ _ _ h => h) (by rfl) ?hyt41_22 hT ?restt41_22
        case hyt41_22 => (intro w hSw; (try dsimp only at hSw); go_simp; (first | done | with_reducible rfl))
        clear hT; intro hT; try simp only [Act.put, List.setIfInBounds_toArray, List.set_cons_zero, List.set_cons_succ]
        refine wpTill_done (by kernel_rfl) ?_ _
        go_wp2_with fail
        go_meet
        exact ⟨a, n1, c1, a2, n2, c2, p5, p6, B, M, rfl, rfl, rfl, rfl, rfl, T6.out.2.2.2.1, HBW.out, ⟨T6.out.1, T6.out.2.1, T6.out.2.2.1⟩, T6.out.2.2.2.2⟩
      · go_simp
        obtain ⟨p6, e42⟩ : ∃ p6, x29.heap.size = p6 := ⟨_, rfl⟩
        obtain ⟨x42, f42⟩ : ∃ x42, x29.alloc (.cells #[.int .i64 0, .int .i64 0] 79) = x42 := ⟨_, rfl⟩
        have b42 : Below x29.heap.size x29 x42 := by rw [← f42]; exact (Below.refl _ x29).alloc (Nat.le_refl _) (.cells #[.int .i64 0, .int .i64 0] 79)
        have o42 : Own x42 p6 79 [.int .i64 0, .int .i64 0] := by rw [← f42, ← e42]; exact Own.made x29 79 [.int .i64 0, .int .i64 0]
        have S42 : Hid (Below W.heap.size W x42 ∧ (Own x42 p5 35 [.slice none 0 0] ∧ W.heap.size ≤ p5) ∧ (Own x42 p6 79 [.int .i64 0, .int .i64 0] ∧ W.heap.size ≤ p6) ∧ p5 ≠ p6) := ⟨bel3 S29.out.1 b42, ⟨S29.out.2.1.below' b42, S29.out.2.2⟩, ⟨o42, by rw [← e42]; exact S29.out.1.size⟩, fun q => by have := (S29.out.2.1).lt; omega⟩
        rw [e42, f42]
        refine hK.out _ _ ?hS42 ?rest42
        case hS42 => exact ⟨HA.out _ S42.out.1, fun _ => trivial⟩
        clear hT hK K e42 f42 b42 o42 S29; intro hT; try simp only [Act.put, List.setIfInBounds_toArray, List.set_cons_zero, List.set_cons_succ]
        refine wpTill_step (i := 9) rfl (by kernel_rfl) (fun K hK => ?_)
        go_simp
        go_at_call 91
        refine (CS.out _ S42.out.1).mono ?_
        rintro _ x43 ⟨⟨a, n1, c1, a2, n2, c2, rfl, hF, hG⟩, g43⟩
        obtain ⟨B, hB43⟩ : ∃ B, x42.heap.size = B := ⟨_, rfl⟩
        obtain ⟨M, hM43⟩ : ∃ M, x43.heap.size = M := ⟨_, rfl⟩
        rw [hB43, hM43] at hF
        have S43 : Hid (Below W.heap.size W x43 ∧ (Own x43 p5 35 [.slice none 0 0] ∧ W.heap.size ≤ p5) ∧ (Own x43 p6 79 [.int .i64 0, .int .i64 0] ∧ W.heap.size ≤ p6) ∧ (StF B M R a n1 a2 n2 x43 ∧ W.heap.size ≤ B ∧ M ≤ x43.heap.size) ∧ p5 ≠ p6 ∧ (p5 < B ∨ M ≤ p5) ∧ (p6 < B ∨ M ≤ p6)) := ⟨hG, ⟨S42.out.2.1.1.below' g43, S42.out.2.1.2⟩, ⟨S42.out.2.2.1.1.below' g43, S42.out.2.2.1.2⟩, ⟨hF, by rw [← hB43]; exact S42.out.1.size, Nat.le_of_eq hM43.symm⟩, S42.out.2.2.2, .inl (by rw [← hB43]; exact S42.out.2.1.1.lt), .inl (by rw [← hB43]; exact S42.out.2.2.1.1.lt)⟩
        refine hK.out _ _ ?hS43 ?rest43
        case hS43 => exact ⟨HA.out _ S43.out.1, fun _ => trivial⟩
        clear hT hK K hF hG g43 hB43 hM43 S42; intro hT; try simp only [Act.put, List.setIfInBounds_toArray, List.set_cons_zero, List.set_cons_succ]
        refine wpTill_take (i := 10) (v := ?vt44_10) rfl (by kernel_rfl) (by kernel_rfl) (by kernel_rfl) (fun _ _ _ h => h) (by rfl) ?hyt44_10 hT ?restt44_10
        case hyt44_10 => (intro w hSw; (try dsimp only at hSw); go_simp; (first | done | with_reducible rfl))
        clear hT; intro hT; try simp only [Act.put, List.setIfInBounds_toArray, List.set_cons_zero, List.set_cons_succ]
        refine wpTill_take (i := 11) (v := ?vt45_11) rfl (by kernel_rfl) (by kernel_rfl) (by kernel_rfl) (fun _ _ _ h => h) (by rfl) ?hyt45_11 hT ?restt45_11
        case hyt45_11 => (intro w hSw; (try dsimp only at hSw); go_simp; (first | done | with_reducible rfl))
        clear hT; intro hT; try simp only [Act.put, List.setIfInBounds_toArray, List.set_cons_zero, List.set_cons_succ]
        refine wpTill_take (i := 12) (v := ?vt46_12) rfl (by kernel_rfl) (by kernel_rfl) (by kernel_rfl) (fun _ _ _ h => h) (by rfl) ?hyt46_12 hT ?restt46_12
        case hyt46_12 => (intro w hSw; (try dsimp only at hSw); go_simp; (first | done | with_reducible rfl))
        clear hT; intro hT; try simp only [Act.put, List.setIfInBounds_toArray, List.set_cons_zero, List.set_cons_succ]
        refine wpTill_take (i := 13) (v := ?vt47_13) rfl (by kernel_rfl) (by kernel_rfl) (by kernel_rfl) (fun _ _ _ h => h) (by rfl) ?hyt47_13 hT ?restt47_13
        case hyt47_13 => (intro w hSw; (try dsimp only at hSw); go_simp; (first | done | with_reducible rfl))
        clear hT; intro hT; try simp only [Act.put, List.setIfInBounds_toArray, List.set_cons_zero, List.set_cons_succ]
        refine wpTill_take (i := 14) (v := ?vt48_14) rfl (by kernel_rfl) (by kernel_rfl) (by kernel_rfl) (fun _ _ _ h => h) (by rfl) ?hyt48_14 hT ?restt48_14
        case hyt48_14 => (intro w hSw; (try dsimp only at hSw); go_simp; (first | done | with_reducible rfl))
        clear hT; intro hT; try simp only [Act.put, List.setIfInBounds_toArray, List.set_cons_zero, List.set_cons_succ]
        refine wpTill_take (i := 15) (v := ?vt49_15) rfl (by kernel_rfl) (by kernel_rfl) (by kernel_rfl) (fun _ _ _ h => h) (by rfl) ?hyt49_15 hT ?restt49_15
        case hyt49_15 => (intro w hSw; (try dsimp only at hSw); go_simp; (first | done | with_reducible rfl))
        clear hT; intro hT; try simp only [Act.put, List.setIfInBounds_toArray, List.set_cons_zero, List.set_cons_succ]
        have c5 := S43.out.2.1.1.cell (i := 0) rfl
        have z5 := S43.out.2.1.1.free 0
        refine wpTill_step (i := 18) rfl (by kernel_rfl) (fun K hK => ?_)
        go_simp
        clear c5 z5
        have T5 := hid (And.intro (S43.out.2.1.1.set (i := 0) (by simp) (.slice a n1 c1)) (And.intro (S43.out.2.2.1.1.other (p := ⟨p5, 0, none⟩) (fun q => S43.out.2.2.2.2.1 q.symm) (.slice a n1 c1)) (And.intro (S43.out.2.2.2.1.1.set (S43.out.2.1.1.cell (i := 0) rfl) (.inr (.inr rfl)) S43.out.2.2.2.2.2.1 (.slice a n1 c1)) (S43.out.1.setCell (p := ⟨p5, 0, none⟩) S43.out.2.1.2 (.slice a n1 c1)))))
        obtain ⟨yz49, hyz49⟩ : ∃ y, x43.setCell ⟨p5, 0, none⟩ (.slice a n1 c1) = y := ⟨_, rfl⟩
        rw [hyz49] at T5 ⊢
        clear hyz49
        refine hK.out _ _ ?hSz49 ?restz49
        case hSz49 => exact ⟨HA.out _ T5.out.2.2.2, fun _ => trivial⟩
        clear hT hK K; intro hT; try simp only [Act.put, List.setIfInBounds_toArray, List.set_cons_zero, List.set_cons_succ]
        have c6 := T5.out.2.1.cell (i := 0) rfl
        have c7 := T5.out.2.1.cell (i := 1) rfl
        have z6 := T5.out.2.1.free 0
        have z7 := T5.out.2.1.free 1
        refine wpTill_step (i := 19) rfl (by kernel_rfl) (fun K hK => ?_)
        go_simp
        clear c6 c7 z6 z7
        have T6 := hid (cur_stored T5.out.1 T5.out.2.1 T5.out.2.2.1 T5.out.2.2.2 S43.out.2.2.2.2.1 S43.out.2.2.2.2.2.2 S43.out.2.2.1.2 R.nx R.rd)
        obtain ⟨vz49, hvz49⟩ : ∃ y, (yz49.setCell ⟨p6, 0, none⟩ (.int .i64 R.nx)).setCell ⟨p6, 1, none⟩ (.int .i64 R.rd) = y := ⟨_, rfl⟩
        rw [hvz49] at T6 ⊢
        have HBW := hid (And.intro S43.out.2.2.2.1.2.1 (And.intro S43.out.2.1.2 S43.out.2.2.1.2))
        clear hvz49 T5 S43
        refine hK.out _ _ ?hRz49 ?rest2z49
        case hRz49 => exact ⟨HA.out _ T6.out.2.2.2.2, fun _ => trivial⟩
        clear hT hK K; intro hT; try simp only [Act.put, List.setIfInBounds_toArray, List.set_cons_zero, List.set_cons_succ]
        refine wpTill_take (i := 20) (v := ?vt51_20) rfl (by kernel_rfl) (by kernel_rfl) (by kernel_rfl) (fun _ _ _ h => h) (by rfl) ?hyt51_20 hT ?restt51_20
        case hyt51_20 => (intro w hSw; (try dsimp only at hSw); go_simp; (first | done | with_reducible rfl))
        clear hT; intro hT; try simp only [Act.put, List.setIfInBounds_toArray, List.set_cons_zero, List.set_cons_succ]
        refine wpTill_take (i := 21) (v := ?vt52_21) rfl (by kernel_rfl) (by kernel_rfl) (by kernel_rfl) (fun _ _ _ h => h) (by rfl) ?hyt52_21 hT ?restt52_21
        case hyt52_21 => (intro w hSw; (try dsimp only at hSw); go_simp; (first | done | with_reducible rfl))
        clear hT; intro hT; try simp only [Act.put, List.setIfInBounds_toArray, List.set_cons_zero, List.set_cons_succ]
        refine wpTill_take (i := 22) (v := ?vt53_22) rfl (by kernel_rfl) (by kernel_rfl) (by kernel_rfl) (fun _ _ _ h => h) (by rfl) ?hyt53_22 hT ?restt53_22
        case hyt53_22 => (intro w hSw; (try dsimp only at hSw); go_simp; (first | done | with_reducible rfl))
        clear hT; intro hT; try simp only [Act.put, List.setIfInBounds_toArray, List.set_cons_zero, List.set_cons_succ]
        refine wpTill_done (by kernel_rfl) ?_ _
        go_wp2_with fail
        go_meet
        exact ⟨a, n1, c1, a2, n2, c2, p5, p6, B, M, rfl, rfl, rfl, rfl, rfl, T6.out.2.2.2.1, HBW.out, ⟨T6.out.1, T6.out.2.1, T6.out.2.2.1⟩, T6.out.2.2.2.2⟩
    · go_simp
      obtain ⟨p6, e54⟩ : ∃ p6, V.heap.size = p6 := ⟨_, rfl⟩
      obtain ⟨x54, f54⟩ : ∃ x54, V.alloc (.cells #[.int .i64 0, .int .i64 0] 79) = x54 := ⟨_, rfl⟩
      have b54 : Below V.heap.size V x54 := by rw [← f54]; exact (Below.refl _ V).alloc (Nat.le_refl _) (.cells #[.int .i64 0, .int .i64 0] 79)
      have o54 : Own x54 p6 79 [.int .i64 0, .int .i64 0] := by rw [← f54, ← e54]; exact Own.made V 79 [.int .i64 0, .int .i64 0]
      have S54 : Hid (Below W.heap.size W x54 ∧ (Own x54 p6 79 [.int .i64 0, .int .i64 0] ∧ W.heap.size ≤ p6)) := ⟨bel3 S0.out b54, ⟨o54, by rw [← e54]; exact S0.out.size⟩⟩
      rw [e54, f54]
      refine hK.out _ _ ?hS54 ?rest54
      case hS54 => exact ⟨HA.out _ S54.out.1, fun _ => trivial⟩
      clear hT hK K e54 f54 b54 o54 S0; intro hT; try simp only [Act.put, List.setIfInBounds_toArray, List.set_cons_zero, List.set_cons_succ]
      refine wpTill_two (i := 9) (j := 16) rfl rfl (by kernel_rfl) (fun K hK => ?_) (fun K hK => ?_)
      · go_simp
        go_at_call 91
        refine (CS.out _ S54.out.1).mono ?_
        rintro _ x55 ⟨⟨a, n1, c1, a2, n2, c2, rfl, hF, hG⟩, g55⟩
        obtain ⟨B, hB55⟩ : ∃ B, x54.heap.size = B := ⟨_, rfl⟩
        obtain ⟨M, hM55⟩ : ∃ M, x55.heap.size = M := ⟨_, rfl⟩
        rw [hB55, hM55] at hF
        have S55 : Hid (Below W.heap.size W x55 ∧ (Own x55 p6 79 [.int .i64 0, .int .i64 0] ∧ W.heap.size ≤ p6) ∧ (StF B M R a n1 a2 n2 x55 ∧ W.heap.size ≤ B ∧ M ≤ x55.heap.size) ∧ (p6 < B ∨ M ≤ p6)) := ⟨hG, ⟨S54.out.2.1.below' g55, S54.out.2.2⟩, ⟨hF, by rw [← hB55]; exact S54.out.1.size, Nat.le_of_eq hM55.symm⟩, .inl (by rw [← hB55]; exact S54.out.2.1.lt)⟩
        refine hK.out _ _ ?hS55 ?rest55
        case hS55 => exact ⟨HA.out _ S55.out.1, fun _ => trivial⟩
        clear hT hK K hF hG g55 hB55 hM55 S54; intro hT; try simp only [Act.put, List.setIfInBounds_toArray, List.set_cons_zero, List.set_cons_succ]
        refine wpTill_take (i := 10) (v := ?vt56_10) rfl (by kernel_rfl) (by kernel_rfl) (by kernel_rfl) (fun _ _ _ h => h) (by rfl) ?hyt56_10 hT ?restt56_10
        case hyt56_10 => (intro w hSw; (try dsimp only at hSw); go_simp; (first | done | with_reducible rfl))
        clear hT; intro hT; try simp only [Act.put, List.setIfInBounds_toArray, List.set_cons_zero, List.set_cons_succ]
        refine wpTill_take (i := 11) (v := ?vt57_11) rfl (by kernel_rfl) (by kernel_rfl) (by kernel_rfl) (fun _ _ _ h => h) (by rfl) ?hyt57_11 hT ?restt57_11
        case hyt57_11 => (intro w hSw; (try dsimp only at hSw); go_simp; (first | done | with_reducible rfl))
        clear hT; intro hT; try simp only [Act.put, List.setIfInBounds_toArray, List.set_cons_zero, List.set_cons_succ]
        refine wpTill_take (i := 12) (v := ?vt58_12) rfl (by kernel_rfl) (by kernel_rfl) (by kernel_rfl) (fun _ _ _ h => h) (by rfl) ?hyt58_12 hT ?restt58_12
        case hyt58_12 => (intro w hSw; (try dsimp only at hSw); go_simp; (first | done | with_reducible rfl))
        clear hT; intro hT; try simp only [Act.put, List.setIfInBounds_toArray, List.set_cons_zero, List.set_cons_succ]
        refine wpTill_take (i := 13) (v := ?vt59_13) rfl (by kernel_rfl) (by kernel_rfl) (by kernel_rfl) (fun _ _ _ h => h) (by rfl) ?hyt59_13 hT ?restt59_13
        case hyt59_13 => (intro w hSw; (try dsimp only at hSw); go_simp; (first | done | with_reducible rfl))
        clear hT; intro hT; try simp only [Act.put, List.setIfInBounds_toArray, List.set_cons_zero, List.set_cons_succ]
        refine wpTill_take (i := 14) (v := ?vt60_14) rfl (by kernel_rfl) (by kernel_rfl) (by kernel_rfl) (fun _ _ _ h => h) (by rfl) ?hyt60_14 hT ?restt60_14
        case hyt60_14 => (intro w hSw; (try dsimp only at hSw); go_simp; (first | done | with_reducible rfl))
        clear hT; intro hT; try simp only [Act.put, List.setIfInBounds_toArray, List.set_cons_zero, List.set_cons_succ]
        refine wpTill_take (i := 15) (v := ?vt61_15) rfl (by kernel_rfl) (by kernel_rfl) (by kernel_rfl) (fun _ _ _ h => h) (by rfl) ?hyt61_15 hT ?restt61_15
        case hyt61_15 => (intro w hSw; (try dsimp only at hSw); go_simp; (first | done | with_reducible rfl))
        clear hT; intro hT; try simp only [Act.put, List.setIfInBounds_toArray, List.set_cons_zero, List.set_cons_succ]
        refine wpTill_step (i := 16) rfl (by kernel_rfl) (fun K hK => ?_)
        go_simp
        obtain ⟨p5, e62⟩ : ∃ p5, x55.heap.size = p5 := ⟨_, rfl⟩
        obtain ⟨x62, f62⟩ : ∃ x62, x55.alloc (.cells #[.slice none 0 0] 35) = x62 := ⟨_, rfl⟩
        have b62 : Below x55.heap.size x55 x62 := by rw [← f62]; exact (Below.refl _ x55).alloc (Nat.le_refl _) (.cells #[.slice none 0 0] 35)
        have o62 : Own x62 p5 35 [.slice none 0 0] := by rw [← f62, ← e62]; exact Own.made x55 35 [.slice none 0 0]
        have S62 : Hid (Below W.heap.size W x62 ∧ (Own x62 p5 35 [.slice none 0 0] ∧ W.heap.size ≤ p5) ∧ (Own x62 p6 79 [.int .i64 0, .int .i64 0] ∧ W.heap.size ≤ p6) ∧ (StF B M R a n1 a2 n2 x62 ∧ W.heap.size ≤ B ∧ M ≤ x62.heap.size) ∧ p5 ≠ p6 ∧ (p5 < B ∨ M ≤ p5) ∧ (p6 < B ∨ M ≤ p6)) := ⟨bel3 S55.out.1 b62, ⟨o62, by rw [← e62]; exact S55.out.1.size⟩, ⟨S55.out.2.1.1.below' b62, S55.out.2.1.2⟩, ⟨S55.out.2.2.1.1.to b62, S55.out.2.2.1.2.1, Nat.le_trans S55.out.2.2.1.2.2 b62.size⟩, fun q => by have := (S55.out.2.1.1).lt; omega, .inr (by rw [← e62]; exact S55.out.2.2.1.2.2), S55.out.2.2.2⟩
        rw [e62, f62]
        refine hK.out _ _ ?hS62 ?rest62
        case hS62 => exact ⟨HA.out _ S62.out.1, fun _ => trivial⟩
        clear hT hK K e62 f62 b62 o62 S55; intro hT; try simp only [Act.put, List.setIfInBounds_toArray, List.set_cons_zero, List.set_cons_succ]
        have c5 := S62.out.2.1.1.cell (i := 0) rfl
        have z5 := S62.out.2.1.1.free 0
        refine wpTill_step (i := 18) rfl (by kernel_rfl) (fun K hK => ?_)
        go_simp
        clear c5 z5
        have T5 := hid (And.intro (S62.out.2.1.1.set (i := 0) (by simp) (.slice a n1 c1)) (And.intro (S62.out.2.2.1.1.other (p := ⟨p5, 0, none⟩) (fun q => S62.out.2.2.2.2.1 q.symm) (.slice a n1 c1)) (And.intro (S62.out.2.2.2.1.1.set (S62.out.2.1.1.cell (i := 0) rfl) (.inr (.inr rfl)) S62.out.2.2.2.2.2.1 (.slice a n1 c1)) (S62.out.1.setCell (p := ⟨p5, 0, none⟩) S62.out.2.1.2 (.slice a n1 c1)))))
        obtain ⟨yz62, hyz62⟩ : ∃ y, x62.setCell ⟨p5, 0, none⟩ (.slice a n1 c1) = y := ⟨_, rfl⟩
        rw [hyz62] at T5 ⊢
        clear hyz62
        refine hK.out _ _ ?hSz62 ?restz62
        case hSz62 => exact ⟨HA.out _ T5.out.2.2.2, fun _ => trivial⟩
        clear hT hK K; intro hT; try simp only [Act.put, List.setIfInBounds_toArray, List.set_cons_zero, List.set_cons_succ]
        have c6 := T5.out.2.1.cell (i := 0) rfl
        have c7 := T5.out.2.1.cell (i := 1) rfl
        have z6 := T5.out.2.1.free 0
        have z7 := T5.out.2.1.free 1
        refine wpTill_step (i := 19) rfl (by kernel_rfl) (fun K hK => ?_)
        go_simp
        clear c6 c7 z6 z7
        have T6 := hid (cur_stored T5.out.1 T5.out.2.1 T5.out.2.2.1 T5.out.2.2.2 S62.out.2.2.2.2.1 S62.out.2.2.2.2.2.2 S62.out.2.2.1.2 R.nx R.rd)
        obtain ⟨vz62, hvz62⟩ : ∃ y, (yz62.setCell ⟨p6, 0, none⟩ (.int .i64 R.nx)).setCell ⟨p6, 1, none⟩ (.int .i64 R.rd) = y := ⟨_, rfl⟩
        rw [hvz62] at T6 ⊢
        have HBW := hid (And.intro S62.out.2.2.2.1.2.1 (And.intro S62.out.2.1.2 S62.out.2.2.1.2))
        clear hvz62 T5 S62
        refine hK.out _ _ ?hRz62 ?rest2z62
        case hRz62 => exact ⟨HA.out _ T6.out.2.2.2.2, fun _ => trivial⟩
        clear hT hK K; intro hT; try simp only [Act.put, List.setIfInBounds_toArray, List.set_cons_zero, List.set_cons_succ]
        refine wpTill_take (i := 20) (v := ?vt64_20) rfl (by kernel_rfl) (by kernel_rfl) (by kernel_rfl) (fun _ _ _ h => h) (by rfl) ?hyt64_20 hT ?restt64_20
        case hyt64_20 => (intro w hSw; (try dsimp only at hSw); go_simp; (first | done | with_reducible rfl))
        clear hT; intro hT; try simp only [Act.put, List.setIfInBounds_toArray, List.set_cons_zero, List.set_cons_succ]
        refine wpTill_take (i := 21) (v := ?vt65_21) rfl (by kernel_rfl) (by kernel_rfl) (by kernel_rfl) (fun _ _ _ h => h) (by rfl) ?hyt65_21 hT ?restt65_21
        case hyt65_21 => (intro w hSw; (try dsimp only at hSw); go_simp; (first | done | with_reducible rfl))
        clear hT; intro hT; try simp only [Act.put, List.setIfInBounds_toArray, List.set_cons_zero, List.set_cons_succ]
        refine wpTill_take (i := 22) (v := ?vt66_22) rfl (by kernel_rfl) (by kernel_rfl) (by kernel_rfl) (fun _ _ _ h => h) (by rfl) ?hyt66_22 hT ?restt66_22
        case hyt66_22 => (intro w hSw; (try dsimp only at hSw); go_simp; (first | done | with_reducible rfl))
        clear hT; intro hT; try simp only [Act.put, List.setIfInBounds_toArray, List.set_cons_zero, List.set_cons_succ]
        refine wpTill_done (by kernel_rfl) ?_ _
        go_wp2_with fail
        go_meet
        exact ⟨a, n1, c1, a2, n2, c2, p5, p6, B, M, rfl, rfl, rfl, rfl, rfl, T6.out.2.2.2.1, HBW.out, ⟨T6.out.1, T6.out.2.1, T6.out.2.2.1⟩, T6.out.2.2.2.2⟩
      · go_simp
        obtain ⟨p5, e67⟩ : ∃ p5, x54.heap.size = p5 := ⟨_, rfl⟩
        obtain ⟨x67, f67⟩ : ∃ x67, x54.alloc (.cells #[.slice none 0 0] 35) = x67 := ⟨_, rfl⟩
        have b67 : Below x54.heap.size x54 x67 := by rw [← f67]; exact (Below.refl _ x54).alloc (Nat.le_refl _) (.cells #[.slice none 0 0] 35)
        have o67 : Own x67 p5 35 [.slice none 0 0] := by rw [← f67, ← e67]; exact Own.made x54 35 [.slice none 0 0]
        have S67 : Hid (Below W.heap.size W x67 ∧ (Own x67 p5 35 [.slice none 0 0] ∧ W.heap.size ≤ p5) ∧ (Own x67 p6 79 [.int .i64 0, .int .i64 0] ∧ W.heap.size ≤ p6) ∧ p5 ≠ p6) := ⟨bel3 S54.out.1 b67, ⟨o67, by rw [← e67]; exact S54.out.1.size⟩, ⟨S54.out.2.1.below' b67, S54.out.2.2⟩, fun q => by have := (S54.out.2.1).lt; omega⟩
        rw [e67, f67]
        refine hK.out _ _ ?hS67 ?rest67
        case hS67 => exact ⟨HA.out _ S67.out.1, fun _ => trivial⟩
        clear hT hK K e67 f67 b67 o67 S54; intro hT; try simp only [Act.put, List.setIfInBounds_toArray, List.set_cons_zero, List.set_cons_succ]
        refine wpTill_step (i := 9) rfl (by kernel_rfl) (fun K hK => ?_)
        go_simp
        go_at_call 91
        refine (CS.out _ S67.out.1).mono ?_
        rintro _ x68 ⟨⟨a, n1, c1, a2, n2, c2, rfl, hF, hG⟩, g68⟩
        obtain ⟨B, hB68⟩ : ∃ B, x67.heap.size = B := ⟨_, rfl⟩
        obtain ⟨M, hM68⟩ : ∃ M, x68.heap.size = M := ⟨_, rfl⟩
        rw [hB68, hM68] at hF
        have S68 : Hid (Below W.heap.size W x68 ∧ (Own x68 p5 35 [.slice none 0 0] ∧ W.heap.size ≤ p5) ∧ (Own x68 p6 79 [.int .i64 0, .int .i64 0] ∧ W.heap.size ≤ p6) ∧ (StF B M R a n1 a2 n2 x68 ∧ W.heap.size ≤ B ∧ M ≤ x68.heap.size) ∧ p5 ≠ p6 ∧ (p5 < B ∨ M ≤ p5) ∧ (p6 < B ∨ M ≤ p6)) := ⟨hG, ⟨S67.out.2.1.1.below' g68, S67.out.2.1.2⟩, ⟨S67.out.2.2.1.1.below' g68, S67.out.2.2.1.2⟩, ⟨hF, by rw [← hB68]; exact S67.out.1.size, Nat.le_of_eq hM68.symm⟩, S67.out.2.2.2, .inl (by rw [← hB68]; exact S67.out.2.1.1.lt), .inl (by rw [← hB68]; exact S67.out.2.2.1.1.lt)⟩
        refine hK.out _ _ ?hS68 ?rest68
        case hS68 => exact ⟨HA.out _ S68.out.1, fun _ => trivial⟩
        clear hT hK K hF hG g68 hB68 hM68 S67; intro hT; try simp only [Act.put, List.setIfInBounds_toArray, List.set_cons_zero, List.set_cons_succ]
        refine wpTill_take (i := 10) (v := ?vt69_10) rfl (by kernel_rfl) (by kernel_rfl) (by kernel_rfl) (fun _ _ _ h => h) (by rfl) ?hyt69_10 hT ?restt69_10
        case hyt69_10 => (intro w hSw; (try dsimp only at hSw); go_simp; (first | done | with_reducible rfl))
        clear hT; intro hT; try simp only [Act.put, List.setIfInBounds_toArray, List.set_cons_zero, List.set_cons_succ]
        refine wpTill_take (i := 11) (v := ?vt70_11) rfl (by kernel_rfl) (by kernel_rfl) (by kernel_rfl) (fun _ _ _ h => h) (by rfl) ?hyt70_11 hT ?restt70_11
        case hyt70_11 => (intro w hSw; (try dsimp only at hSw); go_simp; (first | done | with_reducible rfl))
        clear hT; intro hT; try simp only [Act.put, List.setIfInBounds_toArray, List.set_cons_zero, List.set_cons_succ]
        refine wpTill_take (i := 12) (v := ?vt71_12) rfl (by kernel_rfl) (by kernel_rfl) (by kernel_rfl) (fun _ _ _ h => h) (by rfl) ?hyt71_12 hT ?restt71_12
        case hyt71_12 => (intro w hSw; (try dsimp only at hSw); go_simp; (first | done | with_reducible rfl))
        clear hT; intro hT; try simp only [Act.put, List.setIfInBounds_toArray, List.set_cons_zero, List.set_cons_succ]
        refine wpTill_take (i := 13) (v := ?vt72_13) rfl (by kernel_rfl) (by kernel_rfl) (by kernel_rfl) (fun _ _ _ h => h) (by rfl) ?hyt72_13 hT ?restt72_13
        case hyt72_13 => (intro w hSw; (try dsimp only at hSw); go_simp; (first | done | with_reducible rfl))
        clear hT; intro hT; try simp only [Act.put, List.setIfInBounds_toArray, List.set_cons_zero, List.set_cons_succ]
        refine wpTill_take (i := 14) (v := ?vt73_14) rfl (by kernel_rfl) (by kernel_rfl) (by kernel_rfl) (fun _ _ _ h => h) (by rfl) ?hyt73_14 hT ?restt73_14
        case hyt73_14 => (intro w hSw; (try dsimp only at hSw); go_simp; (first | done | with_reducible rfl))
        clear hT; intro hT; try simp only [Act.put, List.setIfInBounds_toArray, List.set_cons_zero, List.set_cons_succ]
        refine wpTill_take (i := 15) (v := ?vt74_15) rfl (by kernel_rfl) (by kernel_rfl) (by kernel_rfl) (fun _ _ _ h => h) (by rfl) ?hyt74_15 hT ?restt74_15
        case hyt74_15 => (intro w hSw; (try dsimp only at hSw); go_simp; (first | done | with_reducible rfl))
        clear hT; intro hT; try simp only [Act.put, List.setIfInBounds_toArray, List.set_cons_zero, List.set_cons_succ]
        have c5 := S68.out.2.1.1.cell (i := 0) rfl
        have z5 := S68.out.2.1.1.free 0
        refine wpTill_step (i := 18) rfl (by kernel_rfl) (fun K hK => ?_)
        go_simp
        clear c5 z5
        have T5 := hid (And.intro (S68.out.2.1.1.set (i := 0) (by simp) (.slice a n1 c1)) (And.intro (S68.out.2.2.1.1.other (p := ⟨p5, 0, none⟩) (fun q => S68.out.2.2.2.2.1 q.symm) (.slice a n1 c1)) (And.intro (S68.out.2.2.2.1.1.set (S68.out.2.1.1.cell (i := 0) rfl) (.inr (.inr rfl)) S68.out.2.2.2.2.2.1 (.slice a n1 c1)) (S68.out.1.setCell (p := ⟨p5, 0, none⟩) S68.out.2.1.2 (.slice a n1 c1)))))
        obtain ⟨yz74, hyz74⟩ : ∃ y, x68.setCell ⟨p5, 0, none⟩ (.slice a n1 c1) = y := ⟨_, rfl⟩
        rw [hyz74] at T5 ⊢
        clear hyz74
        refine hK.out _ _ ?hSz74 ?restz74
        case hSz74 => exact ⟨HA.out _ T5.out.2.2.2, fun _ => trivial⟩
        clear hT hK K; intro hT; try simp only [Act.put, List.setIfInBounds_toArray, List.set_cons_zero, List.set_cons_succ]
        have c6 := T5.out.2.1.cell (i := 0) rfl
        have c7 := T5.out.2.1.cell (i := 1) rfl
        have z6 := T5.out.2.1.free 0
        have z7 := T5.out.2.1.free 1
        refine wpTill_step (i := 19) rfl (by kernel_rfl) (fun K hK => ?_)
        go_simp
        clear c6 c7 z6 z7
        have T6 := hid (cur_stored T5.out.1 T5.out.2.1 T5.out.2.2.1 T5.out.2.2.2 S68.out.2.2.2.2.1 S68.out.2.2.2.2.2.2 S68.out.2.2.1.2 R.nx R.rd)
        obtain ⟨vz74, hvz74⟩ : ∃ y, (yz74.setCell ⟨p6, 0, none⟩ (.int .i64 R.nx)).setCell ⟨p6, 1, none⟩ (.int .i64 R.rd) = y := ⟨_, rfl⟩
        rw [hvz74] at T6 ⊢
        have HBW := hid (And.intro S68.out.2.2.2.1.2.1 (And.intro S68.out.2.1.2 S68.out.2.2.1.2))
        clear hvz74 T5 S68
        refine hK.out _ _ ?hRz74 ?rest2z74
        case hRz74 => exact ⟨HA.out _ T6.out.2.2.2.2, fun _ => trivial⟩
        clear hT hK K; intro hT; try simp only [Act.put, List.setIfInBounds_toArray, List.set_cons_zero, List.set_cons_succ]
        refine wpTill_take (i := 20) (v := ?vt76_20) rfl (by kernel_rfl) (by kernel_rfl) (by kernel_rfl) (fun _ _ _ h => h) (by rfl) ?hyt76_20 hT ?restt76_20
        case hyt76_20 => (intro w hSw; (try dsimp only at hSw); go_simp; (first | done | with_reducible rfl))
        clear hT; intro hT; try simp only [Act.put, List.setIfInBounds_toArray, List.set_cons_zero, List.set_cons_succ]
        refine wpTill_take (i := 21) (v := ?vt77_21) rfl (by kernel_rfl) (by kernel_rfl) (by kernel_rfl) (fun _ _ _ h => h) (by rfl) ?hyt77_21 hT ?restt77_21
        case hyt77_21 => (intro w hSw; (try dsimp only at hSw); go_simp; (first | done | with_reducible rfl))
        clear hT; intro hT; try simp only [Act.put, List.setIfInBounds_toArray, List.set_cons_zero, List.set_cons_succ]
        refine wpTill_take (i := 22) (v := ?vt78_22) rfl (by kernel_rfl) (by kernel_rfl) (by kernel_rfl) (fun _ _ _ h => h) (by rfl) ?hyt78_22 hT ?restt78_22
        case hyt78_22 => (intro w hSw; (try dsimp only at hSw); go_simp; (first | done | with_reducible rfl))
        clear hT; intro hT; try simp only [Act.put, List.setIfInBounds_toArray, List.set_cons_zero, List.set_cons_succ]
        refine wpTill_done (by kernel_rfl) ?_ _
        go_wp2_with fail
        go_meet
        exact ⟨a, n1, c1, a2, n2, c2, p5, p6, B, M, rfl, rfl, rfl, rfl, rfl, T6.out.2.2.2.1, HBW.out, ⟨T6.out.1, T6.out.2.1, T6.out.2.2.1⟩, T6.out.2.2.2.2⟩
  case rest =>
    obtain ⟨a, n1, c1, a2, n2, c2, p5, p6, B, M, rfl, rfl, rfl, rfl, rfl, hF, ⟨hB, hp5, hp6⟩, ⟨c5, c6, c7⟩, hG⟩ := hcut
    clear d0 d1 d2 HA CS
    have hpB : p < B := Nat.lt_of_lt_of_le HPL.out hB
    have O4 := HP.out.2.1.below' hG
    have S1 := HP.out.2.2.1.below hG
    have hpw := HP.out.2.2.2
    have n5 : p ≠ p5 := by have := HPL.out; omega
    have n6 : p ≠ p6 := by have := HPL.out; omega
    have n5' : p5 ≠ p := fun e => n5 e.symm
    have n6' : p6 ≠ p := fun e => n6 e.symm
    clear hp5 hp6
    have hC1 : Chg (fun j => j = p) w _ := (chg_below (fun j => j = p) HP.out.1).to hG
    by_cases e0 : R.e = 0
    · have hm := HM.out e0
      obtain ⟨rfl, b, o, hd, rfl, HX⟩ := may_three hF.arr hm
      have hb : b ≠ p := by have := hF.new (by omega) b o none rfl; omega
      have Z := hid (scr_stored (c := c1) S1 HX hm hb hF.int hF.newI hpB O4 (by omega) hC1 R.nx R.rd)
      obtain ⟨v0, ⟨d0, d1, d2⟩, g0, g1, g2⟩ := se_cells S1
      have e1 : (R.e != 0) = false := bne_eq_false_iff_eq.2 e0
      have HN := hid (And.intro hB hF.newI)
      have HE := hid e0
      clear hF hG hC1 S1 O4 HX e0 hm HM
      go_upto_region 4 with fail
      go_region
      obtain ⟨V9, hV9⟩ : ∃ V9, V9 = ((wc.setCell ⟨p, 0, none⟩ (.slice (some ⟨b, o, none⟩) 3 c1)).setCell ⟨p, 1, none⟩ (.int .i64 R.nx)).setCell ⟨p, 2, none⟩ (.int .i64 R.rd) := ⟨_, rfl⟩
      rw [← hV9] at Z ⊢
      clear hV9 d0 d1 d2 g0 g1 g2 c5 c6 c7
      have O4 := Z.out.2.2.1
      have v0 := O4.cell (i := 0) rfl
      have f0 := O4.free 0
      have v1 := O4.cell (i := 1) rfl
      have f1 := O4.free 1
      have v2 := O4.cell (i := 2) rfl
      have f2 := O4.free 2
      have v3 := O4.cell (i := 3) rfl
      have f3 := O4.free 3
      have v4 := O4.cell (i := 4) rfl
      have f4 := O4.free 4
      have HY := own_ret5 O4 (.int .i64 0) (.string ⟨#[]⟩) (.slice none 0 0) (.int .i64 R.ct) (.slice a2 n2 c2)
      obtain ⟨y0, y1, y2, y3, y4⟩ := HY.1
      clear HY O4
      go_wp2
      refine bodyPost_ret (v := .agg #[.int .i64 0, .string ⟨#[]⟩, .slice none 0 0, .int .i64 R.ct, .slice a2 n2 c2]) (by simp [results, Tryz.results59, go_sem, y0, y1, y2, y3, y4]) rfl ?_
      rw [← HRA.out, if_pos HE.out]
      exact OutDo.drew (ses_out Z.out.2.2.1 Z.out.1 hpw (Nat.le_refl _) Z.out.2.2.2 ⟨⟨0, [], [], R.ct, R.gone⟩, nilS, ⟨a2, n2, c2⟩⟩ ⟨RowAt.nil, rfl, Nat.zero_le _, Z.out.2.1⟩ ⟨newS_nil _ _, HN.out.2.less (by have := HN.out.1; have := HPL.out; have := HP.out.1.size; have := HP.out.2.1.lt; omega)⟩)
    · have e1 : (R.e != 0) = true := bne_iff_ne.2 e0
      have Z := hid (And.intro O4 (And.intro S1 hC1))
      have HE := hid e0
      clear hF hG hC1 S1 c5 c6 c7 HM
      have v0 := O4.cell (i := 0) rfl
      have f0 := O4.free 0
      have v1 := O4.cell (i := 1) rfl
      have f1 := O4.free 1
      have v2 := O4.cell (i := 2) rfl
      have f2 := O4.free 2
      have v3 := O4.cell (i := 3) rfl
      have f3 := O4.free 3
      have v4 := O4.cell (i := 4) rfl
      have f4 := O4.free 4
      have HY := own_ret5 O4 (.int .i64 R.e) (.string ⟨#[]⟩) (.slice none 0 0) (.int .i64 0) (.slice none 0 0)
      obtain ⟨y0, y1, y2, y3, y4⟩ := HY.1
      clear HY O4 e0
      go_wp2
      refine bodyPost_ret (v := .agg #[.int .i64 R.e, .string ⟨#[]⟩, .slice none 0 0, .int .i64 0, .slice none 0 0]) (by simp [results, Tryz.results59, go_sem, y0, y1, y2, y3, y4]) rfl ?_
      rw [← HRA.out, if_neg HE.out]
      exact ses_out Z.out.1 Z.out.2.1 hpw (Nat.le_refl _) Z.out.2.2 (nxE R.e) (nxE_ok _ _) (nxE_new _ _)
end Go.Proofs.YtahoagbaadnihabGreatDoor
