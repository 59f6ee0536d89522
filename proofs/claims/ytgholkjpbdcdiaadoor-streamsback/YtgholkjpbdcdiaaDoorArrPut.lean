/- What the program's array.writeMirrors, writeParity and loseParity do. -/
import Derived.Test.YtgholkjpbdcdiaaDoorArrStore
import Derived.Test.YtgholkjpbdcdiaaDoorArrSmall
import Derived.Test.YtgholkjpbdcdiaaDoorDevWrite
import Derived.Deep.RegionWith
import Derived.Deep.DeepCutAuto
namespace Go.Proofs.YtgholkjpbdcdiaaDoor
open Go.RowKit Go.Lib

set_option maxHeartbeats 1600000 in
set_option maxRecDepth 4000 in
theorem writemirrors_any (b o c : Nat) (h : Nat → Hd) (A : Ar) (n : Nat) (s : ByteArray) (w : World) (H : ArrFree w b o 3 h A) :
    Calls Tryd.prog 32 #[.agg #[.slice (some ⟨b, o, none⟩) 3 c], .int .i64 n, .string s] w fun e w' => e = .returned (.tuple #[]) ∧ w.grownBy w' (some b) ∧ ∃ h', ArrFree w' b o 3 h' (both A n s.data.toList) := by
  obtain ⟨W, hW⟩ : ∃ W, W = w.alloc (.cells #[.slice (some ⟨b, o, none⟩) 3 c] 25) := ⟨_, rfl⟩
  have hB : Below w.heap.size w W := by rw [hW]; go_grown
  have hz : W.heap.size = w.heap.size + 1 := by rw [hW]; simp
  have c0 : W.cell? ⟨w.heap.size, 0, none⟩ = some (.slice (some ⟨b, o, none⟩) 3 c) := by rw [hW]; simp
  have HP := hid (And.intro hB (And.intro hz (And.intro c0 (And.intro (H.below hB) H.arr.lt))))
  obtain ⟨⟨t0, t1⟩, _⟩ := (H.below hB).arr.three
  have C1 := hid (fun wx (g : Below W.heap.size W wx) => write_any (h 0).x (h 0).p (h 0).c (h 0).y (h 0).q (h 0).d n n s (dev A 0) wx (((H.below hB).arr.below g).dv 0 (by omega)))
  have hb : both A n s.data.toList = (A.set 0 (dvWrite (dev A 0) n n s.data.toList).1).set 1 (dvWrite (dev (A.set 0 (dvWrite (dev A 0) n n s.data.toList).1) 1) n n s.data.toList).1 := by
    rw [both, dev_set_other A 0 1 _ (by decide)]
  rw [hb]
  generalize dvWrite (dev A 0) n n s.data.toList = r0 at C1
  clear hb hB hz H
  go_enter Tryd.func32, Tryd.ntmps32
  go_upto_region 1 with fail
  rw [← hW]
  clear hW
  go_cut [] (fun wx => W.grownBy wx (some b) ∧ wx.cell? ⟨w.heap.size, 0, none⟩ = some (.slice (some ⟨b, o, none⟩) 3 c) ∧ ∃ h', ArrFree wx b o 3 h' (A.set 0 r0.1))
  case first =>
    go_region_with (go_at_call 48; refine (C1.out _ ((Below.refl _ W).drew)).mono ?_; rintro _ w4 ⟨x, p, e, y, q, d, rfl, hD, hF, g4⟩; (have g5 := undrew g4); (have Z := stored (c := e) (d := d) HP.out.2.2.2.1 (show 0 < 3 by omega) g5 hD); (have z0 : w4.cell? ⟨b, o, none⟩ = some (.slice (h 0).x (h 0).p (h 0).c) := Z.1.1); (have z1 : w4.cell? ⟨b, o + 1, none⟩ = some (.slice (h 0).y (h 0).q (h 0).d) := Z.1.2.1); (have z2 : w4.frozen? ⟨b, o, none⟩ = false := Z.1.2.2.1); (have z3 : w4.frozen? ⟨b, o + 1, none⟩ = false := Z.1.2.2.2); (have zb := (g5.cell (p := ⟨w.heap.size, 0, none⟩) (by show w.heap.size < W.heap.size; rw [HP.out.2.1]; omega)).trans HP.out.2.2.1); (have HZ := hid (And.intro Z.2 g5)); clear g4 g5 hD hF Z)
    all_goals (go_wp2_with fail; go_meet)
    all_goals exact ⟨HZ.out.1.2, box_other HZ.out.1.2 HP.out.2.2.1 (by rw [HP.out.2.1]; omega) (Nat.ne_of_gt HP.out.2.2.2.2), HZ.out.1.1⟩
  case rest =>
    obtain ⟨k1, k2, h1, k3⟩ := hcut
    have C2 := hid (fun wx (g : Below wc.heap.size wc wx) => write_any (h1 1).x (h1 1).p (h1 1).c (h1 1).y (h1 1).q (h1 1).d n n s (dev (A.set 0 r0.1) 1) wx ((k3.arr.below g).dv 1 (by omega)))
    obtain ⟨_, ⟨u0, u1⟩, _⟩ := k3.arr.three
    have HQ := hid (And.intro (show w.heap.size < wc.heap.size by have := k1.size; rw [HP.out.2.1] at this; omega) (And.intro k2 k3))
    have HG := hid (grown_trans (grown_below (b := b) HP.out.1) k1)
    clear k1 k3 C1 c0 t0 t1
    go_wp2_with fail
    go_region_with (go_at_call 48; refine (C2.out _ ((Below.refl _ wc).drew)).mono ?_; rintro _ w4 ⟨x, p, e, y, q, d, rfl, hD, hF, g4⟩; (have g5 := undrew g4); (have Z := stored (c := e) (d := d) HQ.out.2.2 (show 1 < 3 by omega) g5 hD); (have z0 : w4.cell? ⟨b, o + 2, none⟩ = some (.slice (h1 1).x (h1 1).p (h1 1).c) := Z.1.1); (have z1 : w4.cell? ⟨b, o + 3, none⟩ = some (.slice (h1 1).y (h1 1).q (h1 1).d) := Z.1.2.1); (have z2 : w4.frozen? ⟨b, o + 2, none⟩ = false := Z.1.2.2.1); (have z3 : w4.frozen? ⟨b, o + 3, none⟩ = false := Z.1.2.2.2); (have zb := (g5.cell (p := ⟨w.heap.size, 0, none⟩) HQ.out.1).trans HQ.out.2.1); (have HZ := hid (And.intro Z.2 g5)); clear g4 g5 hD hF Z)
    all_goals go_wp2
    all_goals go_end0
    all_goals exact ⟨rfl, grown_trans HG.out HZ.out.1.2, HZ.out.1.1⟩

set_option maxHeartbeats 1600000 in
set_option maxRecDepth 4000 in
theorem writeparity_any (b o c : Nat) (h : Nat → Hd) (A : Ar) (n : Nat) (s : ByteArray) (w : World) (hn : n ≤ 1000) (H : ArrFree w b o 3 h A) :
    Calls Tryd.prog 34 #[.agg #[.slice (some ⟨b, o, none⟩) 3 c], .int .i64 n, .string s] w fun e w' => e = .returned (.tuple #[]) ∧ w.grownBy w' (some b) ∧ ∃ h', ArrFree w' b o 3 h' (A.set 2 (dvWrite (dev A 2) ((n / 2 : Nat) : Int) ((512 + n / 2 : Nat) : Int) s.data.toList).1) := by
  obtain ⟨W, hW⟩ : ∃ W, W = w.alloc (.cells #[.slice (some ⟨b, o, none⟩) 3 c] 25) := ⟨_, rfl⟩
  have hB : Below w.heap.size w W := by rw [hW]; go_grown
  have c0 : W.cell? ⟨w.heap.size, 0, none⟩ = some (.slice (some ⟨b, o, none⟩) 3 c) := by rw [hW]; simp
  have hz : W.heap.size = w.heap.size + 1 := by rw [hW]; simp
  have HP := hid (And.intro hB (And.intro hz (And.intro c0 (H.below hB))))
  obtain ⟨_, _, t4, t5⟩ := (H.below hB).arr.three
  have C1 := hid (fun wx (g : Below W.heap.size W wx) => write_any (h 2).x (h 2).p (h 2).c (h 2).y (h 2).q (h 2).d ((n / 2 : Nat) : Int) ((512 + n / 2 : Nat) : Int) s (dev A 2) wx (((H.below hB).arr.below g).dv 2 (by omega)))
  generalize (dvWrite (dev A 2) ((n / 2 : Nat) : Int) ((512 + n / 2 : Nat) : Int) s.data.toList) = r0 at C1
  have u1 : IntKind.i64.wrap ((n : Int) / 2) = ((n / 2 : Nat) : Int) := by rw [IntWalk.i64_in _ (by omega)]; omega
  have CP := hid (fun wx => paritynumber_any n wx hn)
  generalize ((512 + n / 2 : Nat) : Int) = R at C1 CP
  generalize ((n / 2 : Nat) : Int) = Q at C1 u1
  clear hB hz H hn
  go_enter Tryd.func34, Tryd.ntmps34
  go_wp2_with fail
  rw [← hW]
  clear hW
  go_region_with (first | (go_at_call 22; refine (CP.out _).mono ?_; rintro _ w9 ⟨rfl, h9⟩; (have h8 := h9.symm); subst h8) | (go_at_call 48; refine (C1.out _ ((Below.refl _ W).drew)).mono ?_; rintro _ w4 ⟨x, p, e, y, q, d, rfl, hD, hF, g4⟩; (have g5 := undrew g4); (have Z := stored (c := e) (d := d) HP.out.2.2.2 (show 2 < 3 by omega) g5 hD); (have z0 : w4.cell? ⟨b, o + 4, none⟩ = some (.slice (h 2).x (h 2).p (h 2).c) := Z.1.1); (have z1 : w4.cell? ⟨b, o + 5, none⟩ = some (.slice (h 2).y (h 2).q (h 2).d) := Z.1.2.1); (have z2 : w4.frozen? ⟨b, o + 4, none⟩ = false := Z.1.2.2.1); (have z3 : w4.frozen? ⟨b, o + 5, none⟩ = false := Z.1.2.2.2); (have zb := (g5.cell (p := ⟨w.heap.size, 0, none⟩) (by show w.heap.size < W.heap.size; rw [HP.out.2.1]; omega)).trans HP.out.2.2.1); (have HZ := hid Z.2); clear g4 g5 hD hF Z))
  all_goals go_wp2
  all_goals go_end0
  all_goals exact ⟨rfl, grown_trans (grown_below (b := b) HP.out.1) HZ.out.2, HZ.out.1⟩

set_option maxHeartbeats 1600000 in
set_option maxRecDepth 4000 in
theorem loseparity_any (b o c : Nat) (h : Nat → Hd) (A : Ar) (n : Nat) (w : World) (hn : n ≤ 1000) (H : ArrFree w b o 3 h A) :
    Calls Tryd.prog 33 #[.agg #[.slice (some ⟨b, o, none⟩) 3 c], .int .i64 n] w fun e w' => e = .returned (.tuple #[]) ∧ w.grownBy w' (some b) ∧ ∃ h', ArrFree w' b o 3 h' (A.set 2 (dvLose (dev A 2) ((n / 2 : Nat) : Int)).1) := by
  obtain ⟨W, hW⟩ : ∃ W, W = w.alloc (.cells #[.slice (some ⟨b, o, none⟩) 3 c] 25) := ⟨_, rfl⟩
  have hB : Below w.heap.size w W := by rw [hW]; go_grown
  have c0 : W.cell? ⟨w.heap.size, 0, none⟩ = some (.slice (some ⟨b, o, none⟩) 3 c) := by rw [hW]; simp
  have hz : W.heap.size = w.heap.size + 1 := by rw [hW]; simp
  have HP := hid (And.intro hB (And.intro hz (And.intro c0 (H.below hB))))
  obtain ⟨_, _, t4, t5⟩ := (H.below hB).arr.three
  have C1 := hid (fun wx (g : Below W.heap.size W wx) => lose_any (h 2).x (h 2).p (h 2).c (h 2).y (h 2).q (h 2).d ((n / 2 : Nat) : Int) (dev A 2) wx (((H.below hB).arr.below g).dv 2 (by omega)))
  generalize (dvLose (dev A 2) ((n / 2 : Nat) : Int)) = r0 at C1
  have u1 : IntKind.i64.wrap ((n : Int) / 2) = ((n / 2 : Nat) : Int) := by rw [IntWalk.i64_in _ (by omega)]; omega
  generalize ((n / 2 : Nat) : Int) = Q at C1 u1
  clear hB hz H hn
  go_enter Tryd.func33, Tryd.ntmps33
  go_wp2_with fail
  rw [← hW]
  clear hW
  go_region_with (go_at_call 49; refine (C1.out _ ((Below.refl _ W).drew)).mono ?_; rintro _ w4 ⟨x, p, e, y, q, d, rfl, hD, hF, g4⟩; (have g5 := undrew g4); (have Z := stored (c := e) (d := d) HP.out.2.2.2 (show 2 < 3 by omega) g5 hD); (have z0 : w4.cell? ⟨b, o + 4, none⟩ = some (.slice (h 2).x (h 2).p (h 2).c) := Z.1.1); (have z1 : w4.cell? ⟨b, o + 5, none⟩ = some (.slice (h 2).y (h 2).q (h 2).d) := Z.1.2.1); (have z2 : w4.frozen? ⟨b, o + 4, none⟩ = false := Z.1.2.2.1); (have z3 : w4.frozen? ⟨b, o + 5, none⟩ = false := Z.1.2.2.2); (have zb := (g5.cell (p := ⟨w.heap.size, 0, none⟩) (by show w.heap.size < W.heap.size; rw [HP.out.2.1]; omega)).trans HP.out.2.2.1); (have HZ := hid Z.2); clear g4 g5 hD hF Z)
  all_goals go_wp2
  all_goals go_end0
  all_goals exact ⟨rfl, grown_trans (grown_below (b := b) HP.out.1) HZ.out.2, HZ.out.1⟩
end Go.Proofs.YtgholkjpbdcdiaaDoor
