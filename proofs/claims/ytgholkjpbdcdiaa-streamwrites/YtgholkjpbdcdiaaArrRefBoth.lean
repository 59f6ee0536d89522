/- What the document's own setBoth does. -/
import Derived.Test.YtgholkjpbdcdiaaArrStore
import Derived.Test.YtgholkjpbdcdiaaDevRefWrite
import Derived.Deep.RegionWith
namespace Go.Proofs.Ytgholkjpbdcdiaa
open Go.RowKit Go.Lib

set_option maxHeartbeats 1600000 in
set_option maxRecDepth 4000 in
theorem setboth_any (b o c : Nat) (h : Nat → Hd) (A : Ar) (n : Nat) (s : ByteArray) (w : World) (H : ArrFree w b o 3 h A) :
    Calls Try.prog 37 #[.agg #[.slice (some ⟨b, o, none⟩) 3 c], .int .i64 n, .string s] w fun e w' => e = .returned (.tuple #[]) ∧ w.grownBy w' (some b) ∧ ∃ h', ArrFree w' b o 3 h' (both A n s.data.toList) := by
  obtain ⟨W, hW⟩ : ∃ W, W = w.alloc (.cells #[.slice (some ⟨b, o, none⟩) 3 c] 27) := ⟨_, rfl⟩
  have hB : Below w.heap.size w W := by rw [hW]; go_grown
  have hz : W.heap.size = w.heap.size + 1 := by rw [hW]; simp
  have c0 : W.cell? ⟨w.heap.size, 0, none⟩ = some (.slice (some ⟨b, o, none⟩) 3 c) := by rw [hW]; simp
  have HP := hid (And.intro hB (And.intro hz (And.intro c0 (And.intro (H.below hB) H.arr.lt))))
  obtain ⟨⟨t0, t1⟩, _⟩ := (H.below hB).arr.three
  have C1 := hid (fun wx (g : Below W.heap.size W wx) => refwritten_any (h 0).x (h 0).p (h 0).c (h 0).y (h 0).q (h 0).d n n s (dev A 0) wx (((H.below hB).arr.below g).dv 0 (by omega)))
  have hb : both A n s.data.toList = (A.set 0 (dvWrite (dev A 0) n n s.data.toList).1).set 1 (dvWrite (dev (A.set 0 (dvWrite (dev A 0) n n s.data.toList).1) 1) n n s.data.toList).1 := by
    rw [both, dev_set_other A 0 1 _ (by decide)]
  rw [hb]
  generalize dvWrite (dev A 0) n n s.data.toList = r0 at C1
  clear hb hB hz H
  go_enter Try.func37, Try.ntmps37
  go_upto_region 1 with fail
  rw [← hW]
  clear hW
  go_cut [] (fun wx => W.grownBy wx (some b) ∧ wx.cell? ⟨w.heap.size, 0, none⟩ = some (.slice (some ⟨b, o, none⟩) 3 c) ∧ ∃ h', ArrFree wx b o 3 h' (A.set 0 r0.1))
  case first =>
    go_region_with (go_at_call 38; refine (C1.out _ ((Below.refl _ W).drew)).mono ?_; rintro _ w4 ⟨x, p, e, y, q, d, rfl, hD, hF, g4⟩; (have g5 := undrew g4); (have Z := stored (c := e) (d := d) HP.out.2.2.2.1 (show 0 < 3 by omega) g5 hD); (have z0 : w4.cell? ⟨b, o, none⟩ = some (.slice (h 0).x (h 0).p (h 0).c) := Z.1.1); (have z1 : w4.cell? ⟨b, o + 1, none⟩ = some (.slice (h 0).y (h 0).q (h 0).d) := Z.1.2.1); (have z2 : w4.frozen? ⟨b, o, none⟩ = false := Z.1.2.2.1); (have z3 : w4.frozen? ⟨b, o + 1, none⟩ = false := Z.1.2.2.2); (have zb := (g5.cell (p := ⟨w.heap.size, 0, none⟩) (by show w.heap.size < W.heap.size; rw [HP.out.2.1]; omega)).trans HP.out.2.2.1); (have HZ := hid (And.intro Z.2 g5)); clear g4 g5 hD hF Z)
    all_goals (go_wp2_with fail; go_meet)
    all_goals exact ⟨HZ.out.1.2, box_other HZ.out.1.2 HP.out.2.2.1 (by rw [HP.out.2.1]; omega) (Nat.ne_of_gt HP.out.2.2.2.2), HZ.out.1.1⟩
  case rest =>
    obtain ⟨k1, k2, h1, k3⟩ := hcut
    have C2 := hid (fun wx (g : Below wc.heap.size wc wx) => refwritten_any (h1 1).x (h1 1).p (h1 1).c (h1 1).y (h1 1).q (h1 1).d n n s (dev (A.set 0 r0.1) 1) wx ((k3.arr.below g).dv 1 (by omega)))
    obtain ⟨_, ⟨u0, u1⟩, _⟩ := k3.arr.three
    have HQ := hid (And.intro (show w.heap.size < wc.heap.size by have := k1.size; rw [HP.out.2.1] at this; omega) (And.intro k2 k3))
    have HG := hid (grown_trans (grown_below (b := b) HP.out.1) k1)
    clear k1 k3 C1 c0 t0 t1
    go_wp2_with fail
    go_region_with (go_at_call 38; refine (C2.out _ ((Below.refl _ wc).drew)).mono ?_; rintro _ w4 ⟨x, p, e, y, q, d, rfl, hD, hF, g4⟩; (have g5 := undrew g4); (have Z := stored (c := e) (d := d) HQ.out.2.2 (show 1 < 3 by omega) g5 hD); (have z0 : w4.cell? ⟨b, o + 2, none⟩ = some (.slice (h1 1).x (h1 1).p (h1 1).c) := Z.1.1); (have z1 : w4.cell? ⟨b, o + 3, none⟩ = some (.slice (h1 1).y (h1 1).q (h1 1).d) := Z.1.2.1); (have z2 : w4.frozen? ⟨b, o + 2, none⟩ = false := Z.1.2.2.1); (have z3 : w4.frozen? ⟨b, o + 3, none⟩ = false := Z.1.2.2.2); (have zb := (g5.cell (p := ⟨w.heap.size, 0, none⟩) HQ.out.1).trans HQ.out.2.1); (have HZ := hid (And.intro Z.2 g5)); clear g4 g5 hD hF Z)
    all_goals go_wp2
    all_goals go_end0
    all_goals exact ⟨rfl, grown_trans HG.out HZ.out.1.2, HZ.out.1.1⟩
end Go.Proofs.Ytgholkjpbdcdiaa
