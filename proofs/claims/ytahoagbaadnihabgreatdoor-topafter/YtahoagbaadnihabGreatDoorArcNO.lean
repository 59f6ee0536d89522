/- Joined texts: ArcNew, ArcOpen. -/
import Derived.Test.YtahoagbaadnihabGreatDoorArrA
import Derived.Test.YtahoagbaadnihabGreatDoorArcM
import Derived.Test.YtahoagbaadnihabGreatDoorStrB
import Derived.Test.YtahoagbaadnihabGreatDoorCatDecs
import Derived.Test.YtahoagbaadnihabGreatDoorCatRefs
/- What the program's archive.New answers. -/
namespace Go.Proofs.YtahoagbaadnihabGreatDoor
open Go.RowKit Go.Lib

/-- An array that a call answers, stored into the result's box p. -/
theorem outA_box {w W w2 : World} {p : Nat} {r : Ar × Int} {x : Option Addr} {n c : Nat} (hB : Below w.heap.size w W) (hp : w.heap.size ≤ p) (hlt : p < W.heap.size) (hc : W.cell? ⟨p, 0, none⟩ = some (.slice none 0 0))
    (hX : (n = 0 ∧ r.1 = [] ∧ x = none) ∨ ∃ b h, x = some ⟨b, 0, none⟩ ∧ W.heap.size ≤ b ∧ ArrFree w2 b 0 n h r.1) (g : Below W.heap.size W w2) :
    OutA w r (.returned (.tuple #[.agg #[.slice x n c], .int .i64 r.2])) (w2.setCell ⟨p, 0, none⟩ (.slice x n c)) := by
  have c2 := (g.cell (p := ⟨p, 0, none⟩) hlt).trans hc
  refine ⟨⟨x, n, c, rfl, ?_⟩, (bel3 hB g).setCell (by exact hp) _⟩
  rcases hX with h | ⟨b, h, e, hb, hf⟩
  · exact .inl h
  · exact .inr ⟨b, h, e, Nat.le_trans hB.size hb, hf.box (by omega) c2 _⟩

set_option maxHeartbeats 400000 in
theorem archnew_any (n : Int) (w : World) : Calls Tryz.prog 33 #[.int .i64 n] w (OutA w (arNew n)) := by
  obtain ⟨W, hW⟩ : ∃ W, W = w.alloc (.cells #[.slice none 0 0] 35) := ⟨_, rfl⟩
  have hB : Below w.heap.size w W := by rw [hW]; go_grown
  have hz : W.heap.size = w.heap.size + 1 := by rw [hW]; simp
  have rc : W.cell? ⟨w.heap.size, 0, none⟩ = some (.slice none 0 0) := by rw [hW]; simp [go_sem]
  have rf : W.frozen? ⟨w.heap.size, 0, none⟩ = false := by rw [hW]; simp [go_sem]
  have CA := hid (arnew_any n W)
  have HO := hid (fun (w2 : World) (x : Option Addr) (m c : Nat) hX (g : Below W.heap.size W w2) => outA_box (r := arNew n) (x := x) (n := m) (c := c) hB (Nat.le_refl _) (by omega) rc hX g)
  have HP := hid (And.intro hz (And.intro rc rf))
  rw [hW] at CA
  have HE := hid hW
  clear hB hz rc rf hW
  generalize arNew n = r at CA HO
  go_enter Tryz.func33, Tryz.ntmps33
  go_wp2_with fail
  refine CA.out.mono ?_
  rintro _ w2 ⟨⟨x, m, c, rfl, hX⟩, g⟩
  rw [← HE.out] at hX g
  have r1 := (g.cell (p := ⟨w.heap.size, 0, none⟩) (by show w.heap.size < W.heap.size; rw [HP.out.1]; omega)).trans HP.out.2.1
  have r2 := (g.frozen (p := ⟨w.heap.size, 0, none⟩) (by show w.heap.size < W.heap.size; rw [HP.out.1]; omega)).trans HP.out.2.2
  have y0 := World.cell?_setCell_same w2 ⟨w.heap.size, 0, none⟩ (.slice x m c) r1
  have K := hid (HO.out w2 x m c hX g)
  clear hX g CA
  go_wp2
  refine bodyPost_ret (v := .tuple #[.agg #[.slice x m c], .int .i64 r.2]) (by simp [results, Tryz.results33, go_sem, y0]) rfl ?_
  exact K.out
end Go.Proofs.YtahoagbaadnihabGreatDoor

/- What stands in an array's first sectors: the program's answer and the document's. -/
namespace Go.Proofs.YtahoagbaadnihabGreatDoor
open Go.RowKit Go.Lib

/-- A catalog stays where a cell with a slice is stored over. -/
theorem cell_slice {w : World} {p q : Addr} {x : Value} {a : Option Addr} {n c : Nat} (h : w.cell? q = some x) (hp : w.cell? p = some (.slice a n c)) (hne : ∀ a n c, x ≠ .slice a n c) (v : Value) : (w.setCell p v).cell? q = some x := by
  rw [World.cell?_setCell_other]
  · exact h
  · intro e
    rw [← e, hp] at h
    exact hne a n c (Option.some.inj h).symm
theorem CatAt.slices {w : World} {a a' : Option Addr} {n c m : Nat} {C : Ct} (h : CatAt w a n c a' m C) {p : Addr} {x : Option Addr} {k d : Nat} (hp : w.cell? p = some (.slice x k d)) (v : Value) : CatAt (w.setCell p v) a n c a' m C := by
  refine ⟨h.cap, ⟨h.B.sn, h.B.nb, fun i hi => ?_⟩, ⟨h.E.sn, h.E.nb, h.E.nm, fun i hi => ?_⟩⟩
  · obtain ⟨b, o, e, hb, c0, c1⟩ := h.B.c i hi
    exact ⟨b, o, e, by simpa [World.setCell] using hb, cell_slice c0 hp (by intros; simp) v, cell_slice c1 hp (by intros; simp) v⟩
  · obtain ⟨b, o, e, hb, c0, c1, c2, c3⟩ := h.E.c i hi
    exact ⟨b, o, e, by simpa [World.setCell] using hb, cell_slice c0 hp (by intros; simp) v, cell_slice c1 hp (by intros; simp) v, cell_slice c2 hp (by intros; simp) v, cell_slice c3 hp (by intros; simp) v⟩
theorem stRead_len (A : Ar) (x : Int) (n : Nat) : (stRead A x n).1.length ≤ n := by
  unfold stRead
  split
  · simp; omega
  · simp
/-- A catalog that a call answers, stored into the result's box p. -/
theorem outCt_box {w w2 : World} {p : Nat} {r : Ct × Int} {a a' : Option Addr} {n c m c' : Nat} (hB : Below w.heap.size w w2) (hp : w.heap.size ≤ p) (hb : Own w2 p 139 [.slice none 0 0, .slice none 0 0]) (hX : CatAt w2 a n c a' m r.1) :
    OutCt w r (.returned (.tuple #[.agg #[.slice a n c, .slice a' m c'], .int .i64 r.2])) ((w2.setCell ⟨p, 0, none⟩ (.slice a n c)).setCell ⟨p, 1, none⟩ (.slice a' m c')) := by
  refine ⟨a, n, c, a', m, c', rfl, ?_, Below.res2 hB hp _ _⟩
  exact (hX.slices (hb.cell (i := 0) rfl) _).slices ((hb.set (i := 0) (by simp) (.slice a n c)).cell (i := 1) rfl) _

set_option maxHeartbeats 1000000 in
set_option maxRecDepth 4000 in
theorem aopen_any (a : Option Addr) (n c : Nat) (A : Ar) (w : World) (H : ArrAt w a n A) :
    Calls Tryz.prog 76 #[.agg #[.slice a n c]] w fun e w' => OutCt w (opn A) e w' := by
  obtain ⟨W1, hW1⟩ : ∃ W1, W1 = w.alloc (.cells #[.slice a n c] 35) := ⟨_, rfl⟩
  obtain ⟨W, hW⟩ : ∃ W, W = W1.alloc (.cells #[.slice none 0 0, .slice none 0 0] 139) := ⟨_, rfl⟩
  have z1 : W1.heap.size = w.heap.size + 1 := by rw [hW1]; simp
  have hB : Below w.heap.size w W := by rw [hW, hW1]; go_grown
  have k2 : Own W (w.heap.size + 1) 139 [.slice none 0 0, .slice none 0 0] := by
    have := Own.made W1 139 [.slice none 0 0, .slice none 0 0]
    rw [z1] at this
    rw [hW]; exact this
  have CR := stread_any a n c 0 192 A W (H.below hB)
  rw [hW, hW1] at CR
  rw [hW1] at hW
  have HP := hid (And.intro hB (And.intro k2 hW))
  have hl := stRead_len A 0 192
  unfold opn
  obtain ⟨R, hR⟩ : ∃ R, stRead A 0 192 = R := ⟨_, rfl⟩
  have hl' : (stRead A 0 192).1.length ≤ 192 := hl
  rw [hR] at CR hl' ⊢
  obtain ⟨S, E⟩ := R
  dsimp only at CR hl' ⊢
  have H1 := hid CR
  clear CR hl hR hB k2 hW hW1 z1 H
  by_cases e : E = 0
  · rw [if_pos e]
    subst e
    have CD := hid (fun wx => cdec_any (str S) wx)
    rw [str_list] at CD
    generalize decC S = r at CD
    obtain ⟨Z, hZ⟩ : ∃ Z, str S = Z := ⟨_, rfl⟩
    rw [hZ] at H1 CD
    clear hZ hl'
    have e0 : ((0 : Int) != 0) = false := rfl
    go_enter Tryz.func76, Tryz.ntmps76
    go_wp2_with fail
    refine H1.out.mono ?_
    rintro _ w1 ⟨rfl, g1⟩
    rw [← HP.out.2.2] at g1
    have J1 := hid (And.intro (HP.out.2.1.below' g1) (HP.out.1.trans (g1.mono HP.out.1.size)))
    clear g1 H1
    go_wp2_with fail
    refine (CD.out _).mono ?_
    rintro _ w2 ⟨x, n2, d, x', m2, d', rfl, hX, g2⟩
    have K2 := J1.out.1.below' g2
    have K := hid (outCt_box (c' := d') (J1.out.2.trans (g2.mono J1.out.2.size)) (by omega) K2 hX)
    have r0 := box2_of K2
    obtain ⟨y0, y1⟩ := ret_box (.slice x n2 d) (.slice x' m2 d') r0.c0 r0.c1
    obtain ⟨q0, q1, q2, q3, _⟩ := r0
    clear K2 hX g2 J1 CD
    go_wp2
    refine bodyPost_ret (v := .tuple #[.agg #[.slice x n2 d, .slice x' m2 d'], .int .i64 r.2]) (by simp [results, Tryz.results76, go_sem, y0, y1]) rfl ?_
    exact K.out
  · rw [if_neg e]
    have e0 : (E != 0) = true := by rw [bne_iff_ne]; exact e
    generalize str S = Z at H1
    go_enter Tryz.func76, Tryz.ntmps76
    go_wp2_with fail
    refine H1.out.mono ?_
    rintro _ w1 ⟨rfl, g1⟩
    rw [← HP.out.2.2] at g1
    have K2 := HP.out.2.1.below' g1
    have K := hid (outCt_box (r := (nilC, E)) (c' := 0) (HP.out.1.trans (g1.mono HP.out.1.size)) (by omega) K2 (catAt_none w1 none none 0))
    have r0 := box2_of K2
    obtain ⟨y0, y1⟩ := ret_box (.slice none 0 0) (.slice none 0 0) r0.c0 r0.c1
    obtain ⟨q0, q1, q2, q3, _⟩ := r0
    clear K2 g1 H1
    go_wp2
    refine bodyPost_ret (v := .tuple #[.agg #[.slice none 0 0, .slice none 0 0], .int .i64 E]) (by simp [results, Tryz.results76, go_sem, y0, y1]) rfl ?_
    exact K.out

end Go.Proofs.YtahoagbaadnihabGreatDoor
