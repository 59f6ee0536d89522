/- What the document's own ArrayMay and ArrayTouched answer. -/
import Derived.Test.YtgholkjpbdcdiaaArrMem
import Derived.Test.YtgholkjpbdcdiaaLow
import Derived.Test.YtgholkjpbdcdiaaDevMay
namespace Go.Proofs.Ytgholkjpbdcdiaa
open Go.RowKit Go.Lib

theorem armay_no (a : Option Addr) (n c : Nat) (w : World) (h : n ≠ 3) :
    Calls Try.prog 34 #[.agg #[.slice a n c]] w fun e w' => e = .returned (.bool false) ∧ Below w.heap.size w w' := by
  have h' : ((n : Int) != 3) = true := by rw [bne_iff_ne]; omega
  go_enter Try.func34, Try.ntmps34
  go_wp2
  go_ret
  exact ⟨rfl, by go_grown⟩

set_option maxHeartbeats 1600000 in
theorem armay_three (b o c : Nat) (h : Nat → Hd) (A : Ar) (w : World) (H : Arr w b o 3 h A) :
    Calls Try.prog 34 #[.agg #[.slice (some ⟨b, o, none⟩) 3 c]] w fun e w' => e = .returned (.bool (arMay A)) ∧ Below w.heap.size w w' := by
  obtain ⟨W, hW⟩ : ∃ W, W = w.alloc (.cells #[.slice (some ⟨b, o, none⟩) 3 c] 27) := ⟨_, rfl⟩
  have hB : Below w.heap.size w W := by rw [hW]; go_grown
  have hz : W.heap.size = w.heap.size + 1 := by rw [hW]; simp
  have c0 : W.cell? ⟨w.heap.size, 0, none⟩ = some (.slice (some ⟨b, o, none⟩) 3 c) := by rw [hW]; simp
  have HP := hid (And.intro hB (And.intro hz (And.intro c0 (H.below hB))))
  clear hB hz c0 H
  go_enter Try.func34, Try.ntmps34
  go_wp2_with fail
  rw [← hW]
  clear hW
  go_loopw [3] (fun i wr => ∃ k : Nat, k ≤ 3 ∧ i = .int .i64 k ∧ Below W.heap.size W wr ∧ Hid (∀ j, j < k → dvMay (dev A j) = true)) (fun i _ => 3 - (intOf i).toNat)
  case atStart => exact ⟨0, by omega, rfl, Below.refl _ _, fun j hj => absurd hj (Nat.not_lt_zero _)⟩
  case round =>
    obtain ⟨k, hk, rfl, hB, HR⟩ := hrel
    have HA := HP.out.2.2.2.below hB
    have c0 := (hB.cell (p := ⟨w.heap.size, 0, none⟩) (by show w.heap.size < W.heap.size; rw [HP.out.2.1]; omega)).trans HP.out.2.2.1
    by_cases hlt : k < 3
    · have hlt' : (k : Int) < 3 := by omega
      have d0 := HA.c0 k hlt
      have d1 := HA.c1 k hlt
      have hM := may_any (h k).x (h k).p (h k).c (h k).y (h k).q (h k).d (dev A k) wr (HA.dv k hlt)
      cases hm : dvMay (dev A k) with
      | true =>
        rw [hm] at hM
        have HM := hid hM
        have R : Hid (∀ j, j < k + 1 → dvMay (dev A j) = true) := fun j hj => by
          by_cases e : j = k
          · rw [e]; exact hm
          · exact HR.out j (by omega)
        have HB := hid hB
        clear hM hm HA hB HR
        go_wp2_with fail
        refine HM.out.mono ?_
        rintro _ w1 ⟨rfl, g1⟩
        go_wp2
        go_roundw
        case rel => exact ⟨k + 1, by omega, by go_num, HB.out.trans (g1.mono HB.out.size), R⟩
        case measure => simp [intOf]; omega
      | false =>
        rw [hm] at hM
        have HM := hid hM
        have HF := hid (arMay_dev A k (by rw [← HA.sn]; exact hlt) hm)
        have HB := hid hB
        clear hM hm HA hB HR
        go_wp2_with fail
        refine HM.out.mono ?_
        rintro _ w1 ⟨rfl, g1⟩
        go_wp2
        go_ret
        exact ⟨ret_bool HF.out.symm, HP.out.1.trans ((HB.out.trans (g1.mono HB.out.size)).mono HP.out.1.size)⟩
    · obtain rfl : k = 3 := by omega
      have hnl : ¬ ((3 : Nat) : Int) < 3 := by omega
      obtain ⟨⟨t0, _⟩, ⟨t2, _⟩, t4, _⟩ := HA.three
      have hF := arMay_all A HA.sn.symm HR.out
      have s0 : many A = (h 0).p := (HA.dv 0 (by omega)).sn.symm
      have s1 : (dev A 1).1.length = (h 1).p := (HA.dv 1 (by omega)).sn.symm
      have s2 : (dev A 2).1.length = (h 2).p := (HA.dv 2 (by omega)).sn.symm
      have nb := (HA.dv 0 (by omega)).nb
      unfold maxLen at nb
      rw [s0, s1, s2] at hF
      have HF := hid hF
      have HB := hid hB
      have hi := fun wx => in_any (h 0).p 16 64 wx
      clear hF s0 s1 s2 HA hB HR hk
      generalize (h 0).p = n0 at t0 HF nb hi
      generalize (h 1).p = n1 at t2 HF
      generalize (h 2).p = n2 at t4 HF
      by_cases e1 : 16 ≤ n0 ∧ n0 ≤ 64
      · rw [decide_eq_true (show (16 : Int) ≤ n0 ∧ (n0 : Int) ≤ 64 by omega)] at hi
        have HI := hid hi
        clear hi
        by_cases e2 : n0 % 2 = 0
        · have e2' : ((n0 : Int) % 2 == 0) = true := by rw [beq_iff_eq]; omega
          by_cases e3 : n1 = n0
          · have e3' : ((n1 : Int) == n0) = true := by rw [beq_iff_eq]; omega
            have e4 : ((n2 : Int) == (n0 : Int) / 2) = decide (n2 = n0 / 2) := by
              rw [Bool.eq_iff_iff, beq_iff_eq, decide_eq_true_eq]; omega
            have e5 : decide (16 ≤ n0 ∧ n0 ≤ 64 ∧ n0 % 2 = 0 ∧ n1 = n0 ∧ n2 = n0 / 2) = decide (n2 = n0 / 2) := by rw [decide_eq_decide]; omega
            have HF' := hid (HF.out.trans e5)
            clear e5 HF e1 e2 e3
            generalize decide (n2 = n0 / 2) = z at e4 HF'
            go_wp2_with (go_at_call 6; refine (HI.out _).mono ?_; rintro _ w9 ⟨rfl, h9⟩; (have h8 := h9.symm); subst h8)
            go_ret
            exact ⟨ret_bool HF'.out.symm, HP.out.1.trans (HB.out.mono HP.out.1.size)⟩
          · have e3' : ((n1 : Int) == n0) = false := by rw [beq_eq_false_iff_ne]; omega
            have e5 : decide (16 ≤ n0 ∧ n0 ≤ 64 ∧ n0 % 2 = 0 ∧ n1 = n0 ∧ n2 = n0 / 2) = false := decide_eq_false (by omega)
            have HF' := hid (HF.out.trans e5)
            clear e5 HF e1 e2 e3
            go_wp2_with (go_at_call 6; refine (HI.out _).mono ?_; rintro _ w9 ⟨rfl, h9⟩; (have h8 := h9.symm); subst h8)
            go_ret
            exact ⟨ret_bool HF'.out.symm, HP.out.1.trans (HB.out.mono HP.out.1.size)⟩
        · have e2' : ((n0 : Int) % 2 == 0) = false := by rw [beq_eq_false_iff_ne]; omega
          have e5 : decide (16 ≤ n0 ∧ n0 ≤ 64 ∧ n0 % 2 = 0 ∧ n1 = n0 ∧ n2 = n0 / 2) = false := decide_eq_false (by omega)
          have HF' := hid (HF.out.trans e5)
          clear e5 HF e1 e2
          go_wp2_with (go_at_call 6; refine (HI.out _).mono ?_; rintro _ w9 ⟨rfl, h9⟩; (have h8 := h9.symm); subst h8)
          go_ret
          exact ⟨ret_bool HF'.out.symm, HP.out.1.trans (HB.out.mono HP.out.1.size)⟩
      · rw [decide_eq_false (show ¬ ((16 : Int) ≤ n0 ∧ (n0 : Int) ≤ 64) by omega)] at hi
        have HI := hid hi
        have e5 : decide (16 ≤ n0 ∧ n0 ≤ 64 ∧ n0 % 2 = 0 ∧ n1 = n0 ∧ n2 = n0 / 2) = false := decide_eq_false (by omega)
        have HF' := hid (HF.out.trans e5)
        clear e5 HF e1 hi
        go_wp2_with (go_at_call 6; refine (HI.out _).mono ?_; rintro _ w9 ⟨rfl, h9⟩; (have h8 := h9.symm); subst h8)
        go_ret
        exact ⟨ret_bool HF'.out.symm, HP.out.1.trans (HB.out.mono HP.out.1.size)⟩

theorem armay_any (a : Option Addr) (n c : Nat) (A : Ar) (w : World) (H : ArrAt w a n A) :
    Calls Try.prog 34 #[.agg #[.slice a n c]] w fun e w' => e = .returned (.bool (arMay A)) ∧ Below w.heap.size w w' := by
  by_cases h3 : n = 3
  · rcases H with ⟨h0, _⟩ | ⟨b, o, h, rfl, H⟩
    · omega
    · subst h3
      exact armay_three b o c h A w H
  · rw [arMay_len A (by rw [← H.len]; exact h3)]
    exact armay_no a n c w h3
end Go.Proofs.Ytgholkjpbdcdiaa
