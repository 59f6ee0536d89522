/- What the program's array.New answers. -/
import Derived.Test.YtkhjmfngeidlcabGreatDoorMem2
import Derived.Test.YtkhjmfngeidlcabGreatDoorArrA
import Derived.Deep.RegionWith
import Derived.Deep.RegionHeld3
import Derived.Deep.DeepCutAuto
namespace Go.Proofs.YtkhjmfngeidlcabGreatDoor
open Go.RowKit Go.Lib

theorem arnew_bad (n : Int) (w : World) (h : ¬ (16 ≤ n ∧ n ≤ 64 ∧ n % 2 = 0)) :
    Calls Tryz.prog 12 #[.int .i64 n] w (OutA w ([], 2)) := by
  have HK := hid (fun w' (g : Below w.heap.size w w') => outA_none (x := 2) g)
  have i1 := fun wx => mayhave_any n wx
  rw [decide_eq_false h] at i1
  have HI := hid i1
  clear i1 h
  go_enter Tryz.func12, Tryz.ntmps12
  go_wp2_with (go_at_call 28; refine (HI.out _).mono ?_; rintro _ w9 ⟨rfl, h9⟩; (have h8 := h9.symm); subst h8)
  refine bodyPost_ret (v := .tuple #[.agg #[.slice none 0 0], .int .i64 2]) (by simp [results, Tryz.results12, go_sem]) rfl ?_
  exact HK.out _ (by go_grown)

theorem newI_start2 (w : World) (A : Ar) (W : World) (hW : W = ((w.alloc (.cells #[.slice none 0 0] 25)).alloc (.cells #[.slice none 0 0, .slice none 0 0, .slice none 0 0, .slice none 0 0, .slice none 0 0, .slice none 0 0] 74)).alloc (.cells #[.slice (some ⟨w.heap.size + 1, 0, none⟩) 3 3] 25)) : Fill w w.heap.size 3 A (fun _ => nilH) 0 W := by
  subst hW
  have f0 := made_free (w.alloc (.cells #[.slice none 0 0] 25)) 3 (by unfold maxLen; omega)
  have e : (w.alloc (.cells #[.slice none 0 0] 25)).heap.size = w.heap.size + 1 := by simp
  rw [e, ← upTo_none A 3] at f0
  change ArrFree ((w.alloc (.cells #[.slice none 0 0] 25)).alloc (.cells #[.slice none 0 0, .slice none 0 0, .slice none 0 0, .slice none 0 0, .slice none 0 0, .slice none 0 0] 74)) _ _ _ _ _ at f0
  exact ⟨by simp [go_sem], by simp [go_sem], by simp [go_sem], f0.below ((Below.refl _ _).alloc (Nat.le_refl _) _), by simp, Nat.le_refl _, by go_grown⟩

set_option maxHeartbeats 1600000 in
set_option maxRecDepth 4000 in
theorem arnew_ok (M : Nat) (w : World) (h0 : 16 ≤ M) (h1 : M ≤ 64) (h2 : M % 2 = 0) :
    Calls Tryz.prog 12 #[.int .i64 M] w (OutA w ([devNew 0 M, devNew 1 M, devNew 2 M], 0)) := by
  have i1 := fun wx => mayhave_any M wx
  rw [decide_eq_true (show (16 : Int) ≤ M ∧ (M : Int) ≤ 64 ∧ (M : Int) % 2 = 0 by omega)] at i1
  have HI := hid i1
  have mk : ∀ wx : World, (Instr.makeSlice 23 (.int .i64 3) (.int .i64 3)).run Tryz.prog wx = .ok (.slice (some ⟨wx.heap.size, 0, none⟩) 3 3) (wx.alloc (.cells #[.slice none 0 0, .slice none 0 0, .slice none 0 0, .slice none 0 0, .slice none 0 0, .slice none 0 0] 74)) := fun wx => make_devs 3 (by omega) wx
  obtain ⟨A, hA⟩ : ∃ A : Ar, A = [devNew 0 M, devNew 1 M, devNew 2 M] := ⟨_, rfl⟩
  have HL := hid (show 3 = A.length by rw [hA]; rfl)
  have CN := hid (fun (k : Nat) (hk : k < 3) (wx : World) => (show Calls Tryz.prog 29 #[.int .i64 k, .int .i64 M] wx (OutD wx (dev A k)) by
    have := newdevice_any k M wx h1
    have e : dev A k = devNew k M := by
      rw [hA]
      match k, hk with
      | 0, _ => rfl
      | 1, _ => rfl
      | 2, _ => rfl
    rw [e]; exact this))
  rw [← hA]
  obtain ⟨W, hW⟩ : ∃ W, W = ((w.alloc (.cells #[.slice none 0 0] 25)).alloc (.cells #[.slice none 0 0, .slice none 0 0, .slice none 0 0, .slice none 0 0, .slice none 0 0, .slice none 0 0] 74)).alloc (.cells #[.slice (some ⟨w.heap.size + 1, 0, none⟩) 3 3] 25) := ⟨_, rfl⟩
  have HS := hid (newI_start2 w A W hW)
  clear i1 hA h0 h2
  go_enter Tryz.func12, Tryz.ntmps12
  go_upto_region 4 with (go_at_call 28; refine (HI.out _).mono ?_; rintro _ w9 ⟨rfl, h9⟩; (have h8 := h9.symm); subst h8)
  rw [← hW]
  clear hW mk HI
  have cb := HS.out.cb
  go_wp2_with fail
  clear cb
  go_loopw [15] (fun i wr => ∃ (k : Nat) (h : Nat → Hd), k ≤ 3 ∧ i = .int .i64 k ∧ Fill w w.heap.size 3 A h k wr) (fun i _ => 3 - (intOf i).toNat)
  case atStart => exact ⟨0, _, Nat.zero_le _, rfl, HS.out⟩
  case round =>
    obtain ⟨k, h, hk, rfl, hI⟩ := hrel
    clear HS
    by_cases hlt : k < 3
    · have hlt' : (k : Int) < 3 := by omega
      have C1 := hid (CN.out k hlt)
      have HI := hid hI
      have cb := hI.cb
      clear hI CN
      go_wp2_with fail
      go_region_with (go_at_call 29; refine (C1.out _).mono ?_; rintro _ w4 ⟨x, n1, e1, y, m1, e2, rfl, hN, hl, g4⟩; (have I4 := HI.out.to (undrew g4)); (have D4 := hN.at hl.1 hl.2.1 hl.2.2.1 hl.2.2.2); (have K4 := hid (I4.step HL.out hlt ⟨x, n1, e1, y, m1, e2⟩ D4)); (have z := (I4.fr.store0 k hlt ⟨x, n1, e1, y, m1, e2⟩ _ D4).1); (have z0 := z.1); (have z1 := z.2.1); (have z2 := z.2.2.1); (have z3 := z.2.2.2); (have c4 := I4.cb); clear I4 D4 z hN hl g4)
      all_goals clear cb z0 z1 z2 z3 c4
      all_goals go_wp2
      all_goals go_roundw
      all_goals (first | (case rel => exact ⟨k + 1, _, by omega, by go_num, K4.out⟩) | skip)
      all_goals (simp [intOf]; omega)
    · obtain rfl : k = 3 := by omega
      have hnl : ¬ ((3 : Nat) : Int) < 3 := by omega
      have cb := hI.cb
      have rc := hI.rc
      have rf := hI.rf
      have y0 := World.cell?_setCell_same wr ⟨w.heap.size, 0, none⟩ (.slice (some ⟨w.heap.size + 1, 0, none⟩) 3 3) rc
      have fr := hI.fr.box (p := w.heap.size) (by omega) rc (.slice (some ⟨w.heap.size + 1, 0, none⟩) 3 3)
      rw [upTo_all A 3 HL.out] at fr
      have K := hid (show OutA w (A, 0) _ _ from ⟨⟨_, 3, 3, rfl, .inr ⟨w.heap.size + 1, h, rfl, by omega, fr⟩⟩, hI.below.setCell (p := ⟨w.heap.size, 0, none⟩) (Nat.le_refl _) _⟩)
      clear hI fr
      go_wp2
      refine bodyPost_ret (v := .tuple #[.agg #[.slice (some ⟨w.heap.size + 1, 0, none⟩) 3 3], .int .i64 0]) (by simp [results, Tryz.results12, go_sem, y0]) rfl ?_
      exact K.out

theorem arNew_devs (M : Nat) (h : 16 ≤ M ∧ M ≤ 64 ∧ M % 2 = 0) : arNew M = ([devNew 0 M, devNew 1 M, devNew 2 M], 0) := by
  rw [arNew, if_pos (by omega)]
  have e : ((M / 2 : Nat) : Int) = (M : Int) / 2 := by omega
  simp [devNew, secOf, e]
theorem arnew_any (n : Int) (w : World) : Calls Tryz.prog 12 #[.int .i64 n] w (OutA w (arNew n)) := by
  by_cases h : 16 ≤ n ∧ n ≤ 64 ∧ n % 2 = 0
  · obtain ⟨N, rfl⟩ : ∃ N : Nat, n = N := ⟨n.toNat, by omega⟩
    rw [arNew_devs N (by omega)]
    exact arnew_ok N w (by omega) (by omega) (by omega)
  · rw [arNew, if_neg h]
    exact arnew_bad n w h
end Go.Proofs.YtkhjmfngeidlcabGreatDoor
