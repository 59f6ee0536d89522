/- What the program's heal.renew does: a sector of a device of an array of the call's own is written, if it does not tell this payload. -/
import Derived.Test.YtpnmidkocmokeaaGreatDoorHealDiff
import Derived.Test.YtpnmidkocmokeaaGreatDoorArrStore
import Derived.Test.YtpnmidkocmokeaaGreatDoorDevWrite
import Derived.Deep.RegionWith
import Derived.Deep.DeepCutAuto
namespace Go.Proofs.YtpnmidkocmokeaaGreatDoor
open Go.RowKit Go.Lib

theorem ren_yes (A : Ar) (d : Nat) (p no : Int) (s : List UInt8) (h : tellsD (dev A d) p no s = true) : renA A d p no s = A ∧ renN A d p no s = 0 := by
  unfold renA renN; rw [if_pos h, if_pos h]; exact ⟨rfl, rfl⟩
theorem ren_no (A : Ar) (d : Nat) (p no : Int) (s : List UInt8) (h : tellsD (dev A d) p no s = false) : renA A d p no s = A.set d (dvWrite (dev A d) p no s).1 ∧ renN A d p no s = 1 := by
  unfold renA renN; rw [h, if_neg (by decide), if_neg (by decide)]; exact ⟨rfl, rfl⟩
/-- What the call leaves. -/
def OutR (w : World) (b o : Nat) (A : Ar) (m : Int) (e : Ending) (w' : World) : Prop := e = .returned (.int .i64 m) ∧ w.grownBy w' (some b) ∧ ∃ h', ArrFree w' b o 3 h' A

set_option maxHeartbeats 1600000 in
set_option maxRecDepth 4000 in
theorem hrenew_any (b o c : Nat) (h : Nat → Hd) (A : Ar) (d : Nat) (p no : Int) (s : List UInt8) (w : World) (hd : d < 3) (H : ArrFree w b o 3 h A) :
    Calls Tryz.prog 48 #[.agg #[.slice (some ⟨b, o, none⟩) 3 c], .int .i64 d, .int .i64 p, .int .i64 no, .string (str s)] w (OutR w b o (renA A d p no s) (renN A d p no s)) := by
  obtain ⟨W, hW⟩ : ∃ W, W = w.alloc (.cells #[.slice (some ⟨b, o, none⟩) 3 c] 26) := ⟨_, rfl⟩
  have hB : Below w.heap.size w W := by rw [hW]; go_grown
  have hz : W.heap.size = w.heap.size + 1 := by rw [hW]; simp
  have c0 : W.cell? ⟨w.heap.size, 0, none⟩ = some (.slice (some ⟨b, o, none⟩) 3 c) := by rw [hW]; simp
  have HX := H.below hB
  have t0 := HX.arr.c0 d hd
  have t1 := HX.arr.c1 d hd
  have C1 := htells_any (h d).x (h d).p (h d).c (h d).y (h d).q (h d).d p no s (dev A d) W (HX.arr.dv d hd)
  have C2 := hid (fun wx (g : Below W.heap.size W wx) => write_any (h d).x (h d).p (h d).c (h d).y (h d).q (h d).d p no (str s) (dev A d) wx ((HX.below g).arr.dv d hd))
  rw [str_list] at C2
  have HT := hid (And.intro t0 t1)
  rw [hW] at C1 t0 t1
  have H1 := hid C1
  have HP := hid (And.intro hB (And.intro hW (And.intro hz (And.intro c0 (And.intro HX HX.arr.lt)))))
  have hd' : (d : Int) < 3 := by omega
  cases ht : tellsD (dev A d) p no s with
  | true =>
    obtain ⟨e1, e2⟩ := ren_yes A d p no s ht
    rw [e1, e2]
    rw [ht] at H1
    have HK := hid H
    clear C1 hB hW hz c0 HX H ht e1 e2
    go_enter Tryz.func48, Tryz.ntmps48
    go_wp2_with fail
    refine H1.out.mono ?_
    rintro _ w1 ⟨rfl, g1⟩
    rw [← HP.out.2.1] at g1
    go_wp2
    go_ret
    exact ⟨rfl, grown_below (bel3 HP.out.1 g1), h, HK.out.below (bel3 HP.out.1 g1)⟩
  | false =>
    obtain ⟨e1, e2⟩ := ren_no A d p no s ht
    rw [e1, e2]
    rw [ht] at H1
    generalize dvWrite (dev A d) p no s = r at C2
    have HD := hid hd
    clear C1 hB hW hz c0 HX H ht e1 e2 hd
    go_enter Tryz.func48, Tryz.ntmps48
    go_wp2_with fail
    refine H1.out.mono ?_
    rintro _ w1 ⟨rfl, g1⟩
    rw [← HP.out.2.1] at g1
    clear t0 t1
    have d0 := (g1.cell (p := ⟨w.heap.size, 0, none⟩) (by show w.heap.size < W.heap.size; rw [HP.out.2.2.1]; omega)).trans HP.out.2.2.2.1
    have t0 := (g1.cell (p := ⟨b, o + d * 2, none⟩) HP.out.2.2.2.2.2).trans HT.out.1
    have t1 := (g1.cell (p := ⟨b, o + d * 2 + 1, none⟩) HP.out.2.2.2.2.2).trans HT.out.2
    have G1 := hid g1
    clear g1
    go_wp2_with fail
    go_region_with (go_at_call 66; refine (C2.out _ G1.out.drew).mono ?_; rintro _ w4 ⟨x, p, e, y, q, f, rfl, hD, hF, g4⟩; (have g5 := undrew g4); (have Z := stored (c := e) (d := f) (HP.out.2.2.2.2.1.below G1.out) HD.out g5 hD); (have z0 : w4.cell? ⟨b, o + d * 2, none⟩ = some (.slice (h d).x (h d).p (h d).c) := Z.1.1); (have z1 : w4.cell? ⟨b, o + d * 2 + 1, none⟩ = some (.slice (h d).y (h d).q (h d).d) := Z.1.2.1); (have z2 : w4.frozen? ⟨b, o + d * 2, none⟩ = false := Z.1.2.2.1); (have z3 : w4.frozen? ⟨b, o + d * 2 + 1, none⟩ = false := Z.1.2.2.2); (have zb := (g5.cell (p := ⟨w.heap.size, 0, none⟩) (by show w.heap.size < w1.heap.size; have := G1.out.size; rw [HP.out.2.2.1] at this; omega)).trans d0); (have HZ := hid Z.2); clear g4 g5 hD hF Z)
    all_goals go_wp2
    all_goals go_ret
    all_goals exact ⟨rfl, grown_trans (grown_below (bel3 HP.out.1 G1.out)) HZ.out.2, HZ.out.1⟩
end Go.Proofs.YtpnmidkocmokeaaGreatDoor
