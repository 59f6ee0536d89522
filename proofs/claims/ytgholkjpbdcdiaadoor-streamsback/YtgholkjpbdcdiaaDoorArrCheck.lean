/- What the program's array.Check answers. -/
import Derived.Test.YtgholkjpbdcdiaaDoorArrSmall
import Derived.Test.YtgholkjpbdcdiaaDoorLow
import Derived.Test.YtgholkjpbdcdiaaDoorArrStore
import Derived.Test.YtgholkjpbdcdiaaDoorDevCheck
import Derived.Deep.RegionHeld3
import Derived.Deep.RegionWith
import Derived.Deep.DeepCutAuto
namespace Go.Proofs.YtgholkjpbdcdiaaDoor
open Go.RowKit Go.Lib

theorem acheck_no (a : Option Addr) (n c : Nat) (w : World) (h : n ≠ 3) :
    Calls Tryd.prog 35 #[.agg #[.slice a n c]] w fun e w' => e = .returned (.int .i64 9) ∧ Below w.heap.size w w' := by
  have h' : ((n : Int) != 3) = true := by rw [bne_iff_ne]; omega
  go_enter Tryd.func35, Tryd.ntmps35
  go_wp2
  go_ret
  exact ⟨rfl, by go_grown⟩

theorem arMay_sec (A : Ar) (k : Nat) (hk : k < 3) (h : (dev A k).1.length ≠ secOf k (many A)) : arMay A = false := by
  rw [Bool.eq_false_iff]
  intro hm
  obtain ⟨_, _, _, _, _, h1, h2⟩ := (arMay_iff A).1 hm
  unfold secOf at h
  match k, hk with
  | 0, _ => simp [many] at h
  | 1, _ => simp at h; exact h h1
  | 2, _ => simp at h; exact h h2
theorem arMay_many (A : Ar) (h : ¬ (16 ≤ many A ∧ many A ≤ 64 ∧ many A % 2 = 0)) : arMay A = false := by
  rw [Bool.eq_false_iff]
  intro hm
  obtain ⟨_, _, h1, h2, h3, _⟩ := (arMay_iff A).1 hm
  exact h ⟨h1, h2, h3⟩
theorem arMay_yes (A : Ar) (h3 : A.length = 3) (hn : 16 ≤ many A ∧ many A ≤ 64 ∧ many A % 2 = 0) (h : ∀ j, j < 3 → dvMay (dev A j) = true ∧ (dev A j).1.length = secOf j (many A)) : arMay A = true := by
  rw [arMay_all A h3 (fun j hj => (h j hj).1), decide_eq_true_eq]
  exact ⟨hn.1, hn.2.1, hn.2.2, by simpa [secOf] using (h 1 (by omega)).2, by simpa [secOf] using (h 2 (by omega)).2⟩
theorem arChk_no (A : Ar) (h : arMay A = false) : arChk A = 9 := by rw [arChk, h]; rfl
theorem arChk_yes (A : Ar) (h : arMay A = true) : arChk A = 0 := by rw [arChk, h]; rfl

set_option maxHeartbeats 1600000 in
set_option maxRecDepth 4000 in
theorem acheck_three (b o c : Nat) (h : Nat → Hd) (A : Ar) (w : World) (H : Arr w b o 3 h A) :
    Calls Tryd.prog 35 #[.agg #[.slice (some ⟨b, o, none⟩) 3 c]] w fun e w' => e = .returned (.int .i64 (arChk A)) ∧ Below w.heap.size w w' := by
  obtain ⟨W, hW⟩ : ∃ W, W = w.alloc (.cells #[.slice (some ⟨b, o, none⟩) 3 c] 25) := ⟨_, rfl⟩
  have hB : Below w.heap.size w W := by rw [hW]; go_grown
  have hz : W.heap.size = w.heap.size + 1 := by rw [hW]; simp
  have c0 : W.cell? ⟨w.heap.size, 0, none⟩ = some (.slice (some ⟨b, o, none⟩) 3 c) := by rw [hW]; simp
  have HA := H.below hB
  obtain ⟨⟨t0, t1⟩, _⟩ := HA.three
  have s0 : many A = (h 0).p := (HA.dv 0 (by omega)).sn.symm
  have nb := (HA.dv 0 (by omega)).nb
  unfold maxLen at nb
  have C0 := hid (fun wx => mayhave_any (many A : Int) wx)
  have HP := hid (And.intro hB (And.intro hz (And.intro c0 HA)))
  rw [← s0] at t0 nb
  by_cases hn : 16 ≤ many A ∧ many A ≤ 64 ∧ many A % 2 = 0
  · rw [decide_eq_true (show (16 : Int) ≤ (many A : Int) ∧ (many A : Int) ≤ 64 ∧ (many A : Int) % 2 = 0 by omega)] at C0
    have HQ := hid (And.intro HA.sn.symm hn)
    generalize hM : many A = M at C0 t0 nb HQ
    have HM := hid hM
    have hM64 : M ≤ 64 := by have := HQ.out.2.2.1; exact this
    clear hM hB hz H HA s0 nb hn
    rw [hW] at c0 t0
    go_enter Tryd.func35, Tryd.ntmps35
    go_wp2_with (go_at_call 25; refine (C0.out _).mono ?_; rintro _ w9 ⟨rfl, h9⟩; (have h8 := h9.symm); subst h8)
    rw [← hW]
    clear hW c0 t0 C0
    go_loopw [22] (fun i wr => ∃ k : Nat, k ≤ 3 ∧ i = .int .i64 k ∧ Below W.heap.size W wr ∧ Hid (∀ j, j < k → dvMay (dev A j) = true ∧ (dev A j).1.length = secOf j M)) (fun i _ => 3 - (intOf i).toNat)
    case atStart => exact ⟨0, by omega, rfl, Below.refl _ _, fun j hj => absurd hj (Nat.not_lt_zero _)⟩
    case round =>
      obtain ⟨k, hk, rfl, hB, HR⟩ := hrel
      by_cases hlt : k < 3
      · have hlt' : (k : Int) < 3 := by omega
        have HA := HP.out.2.2.2.below hB
        have d0 := HA.c0 k hlt
        have d1 := HA.c1 k hlt
        have sp := (HA.dv k hlt).sn
        have hC := fun wx (g : Below W.heap.size W wx) => check_any (h k).x (h k).p (h k).c (h k).y (h k).q (h k).d (dev A k) wx ((HP.out.2.2.2.below g).dv k hlt)
        have CS := hid (fun wx => sectorsof_any k M wx (by omega))
        obtain ⟨V, hV⟩ : ∃ V, V = wr.alloc (.cells #[.slice (h k).x (h k).p (h k).c, .slice (h k).y (h k).q (h k).d] 62) := ⟨_, rfl⟩
        have bV : Below wr.heap.size wr V := by rw [hV]; exact (Below.refl _ wr).alloc (Nat.le_refl _) _
        have bx : Box2 V wr.heap.size (.slice (h k).x (h k).p (h k).c) (.slice (h k).y (h k).q (h k).d) := by rw [hV]; exact box2_of (Own.made wr 62 [.slice (h k).x (h k).p (h k).c, .slice (h k).y (h k).q (h k).d])
        have HV := hid (And.intro (bel3 hB bV) bx)
        by_cases hm : dvMay (dev A k) = true
        · have e0 : dvChk (dev A k) = 0 := by rw [dvChk, if_pos hm]
          rw [e0] at hC
          have HC := hid hC
          by_cases hs : (h k).p = secOf k M
          · have hs' : (((h k).p : Int) != (secOf k M : Int)) = false := by rw [bne_eq_false_iff_eq]; omega
            have R : Hid (∀ j, j < k + 1 → dvMay (dev A j) = true ∧ (dev A j).1.length = secOf j M) := fun j hj => by
              by_cases e : j = k
              · rw [e]; exact ⟨hm, by rw [← sp]; exact hs⟩
              · exact HR.out j (by omega)
            clear hC HA hm hB HR e0 sp bV bx hs
            go_wp2_with fail
            rw [← hV]
            clear hV d0 d1
            have x0 := HV.out.2.c0
            have x1 := HV.out.2.c1
            go_region_held3 (fun w' => w'.cell? ⟨wr.heap.size, 0, none⟩ = some (.slice (h k).x (h k).p (h k).c) ∧ w'.cell? ⟨wr.heap.size, 1, none⟩ = some (.slice (h k).y (h k).q (h k).d)) (go_keep)
              (first | (go_at_call 42; refine (CS.out _).mono ?_; rintro _ w9 ⟨rfl, h9⟩; (have h8 := h9.symm); subst h8) | (go_at_call 50; refine (HC.out _ HV.out.1.drew).mono ?_; rintro _ w4 ⟨rfl, g4⟩; (have G4 := hid (bel3 HV.out.1.drew g4)); (have j0 := (HV.out.2.below (undrew g4)).c0); (have j1 := (HV.out.2.below (undrew g4)).c1); clear g4))
            all_goals go_wp2
            all_goals go_roundw
            all_goals (first | (case rel => exact ⟨k + 1, by omega, by go_num, G4.out, R⟩) | skip)
            all_goals (simp [intOf]; omega)
          · have hs' : (((h k).p : Int) != (secOf k M : Int)) = true := by rw [bne_iff_ne]; omega
            have HF := hid (arChk_no A (arMay_sec A k hlt (by rw [HM.out, ← sp]; exact hs)))
            clear hC HA hm hB HR e0 sp bV bx hs
            go_wp2_with fail
            rw [← hV]
            clear hV d0 d1
            have x0 := HV.out.2.c0
            have x1 := HV.out.2.c1
            go_region_held3 (fun w' => w'.cell? ⟨wr.heap.size, 0, none⟩ = some (.slice (h k).x (h k).p (h k).c) ∧ w'.cell? ⟨wr.heap.size, 1, none⟩ = some (.slice (h k).y (h k).q (h k).d)) (go_keep)
              (first | (go_at_call 42; refine (CS.out _).mono ?_; rintro _ w9 ⟨rfl, h9⟩; (have h8 := h9.symm); subst h8) | (go_at_call 50; refine (HC.out _ HV.out.1.drew).mono ?_; rintro _ w4 ⟨rfl, g4⟩; (have G4 := hid (bel3 HV.out.1.drew g4)); (have j0 := (HV.out.2.below (undrew g4)).c0); (have j1 := (HV.out.2.below (undrew g4)).c1); clear g4))
            all_goals go_wp2
            all_goals go_ret
            all_goals exact ⟨ret_int HF.out.symm, bel3 HP.out.1 G4.out⟩
        · have e0 : dvChk (dev A k) = 9 := by rw [dvChk, if_neg hm]
          rw [e0] at hC
          have HC := hid hC
          have HF := hid (arChk_no A (arMay_dev A k (by rw [HQ.out.1]; exact hlt) (by simpa using hm)))
          clear hC HA hm hB HR e0 sp bV bx
          go_wp2_with fail
          rw [← hV]
          clear hV d0 d1
          have x0 := HV.out.2.c0
          have x1 := HV.out.2.c1
          first | (go_region_with (go_at_call 50; refine (HC.out _ HV.out.1.drew).mono ?_; rintro _ w4 ⟨rfl, g4⟩; (have G4 := hid (bel3 HV.out.1.drew g4)); (have j0 := (HV.out.2.below (undrew g4)).c0); (have j1 := (HV.out.2.below (undrew g4)).c1); clear g4)) | fail
          all_goals go_wp2
          all_goals go_ret
          all_goals exact ⟨ret_int HF.out.symm, bel3 HP.out.1 G4.out⟩
      · obtain rfl : k = 3 := by omega
        have hnl : ¬ ((3 : Nat) : Int) < 3 := by omega
        have HF := hid (arChk_yes A (arMay_yes A HQ.out.1 (by rw [HM.out]; exact HQ.out.2) (by rw [HM.out]; exact HR.out)))
        have HB := hid hB
        clear hB HR
        go_wp2
        go_ret
        exact ⟨ret_int HF.out.symm, bel3 HP.out.1 HB.out⟩
  · rw [decide_eq_false (show ¬ ((16 : Int) ≤ (many A : Int) ∧ (many A : Int) ≤ 64 ∧ (many A : Int) % 2 = 0) by omega)] at C0
    have HF := hid (arChk_no A (arMay_many A hn))
    generalize hM : many A = M at C0 t0 nb
    clear hM hB hz H HA s0 nb hn
    rw [hW] at c0 t0
    go_enter Tryd.func35, Tryd.ntmps35
    go_wp2_with (go_at_call 25; refine (C0.out _).mono ?_; rintro _ w9 ⟨rfl, h9⟩; (have h8 := h9.symm); subst h8)
    go_ret
    exact ⟨ret_int HF.out.symm, by go_grown⟩

theorem acheck_any (a : Option Addr) (n c : Nat) (A : Ar) (w : World) (H : ArrAt w a n A) :
    Calls Tryd.prog 35 #[.agg #[.slice a n c]] w fun e w' => e = .returned (.int .i64 (arChk A)) ∧ Below w.heap.size w w' := by
  by_cases h3 : n = 3
  · rcases H with ⟨h0, _⟩ | ⟨b, o, h, rfl, H⟩
    · omega
    · subst h3
      exact acheck_three b o c h A w H
  · rw [arChk_no A (arMay_len A (by rw [← H.len]; exact h3))]
    exact acheck_no a n c w h3
end Go.Proofs.YtgholkjpbdcdiaaDoor
