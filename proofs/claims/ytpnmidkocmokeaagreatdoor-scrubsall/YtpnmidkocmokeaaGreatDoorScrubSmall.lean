/- The program's small functions of scrub: how many sectors, the cursor one further, what is refused. -/
import Derived.Test.YtpnmidkocmokeaaGreatDoorHealPure
import Derived.Test.YtpnmidkocmokeaaGreatDoorArrCheck
import Derived.Deep.RegionHeld3
import Derived.Deep.RegionWith
import Derived.Deep.DeepCutAuto
import Derived.BigQuiet
namespace Go.Proofs.YtpnmidkocmokeaaGreatDoor
open Go.RowKit Go.Lib

set_option maxHeartbeats 400000 in
theorem ssectors_any (b o c : Nat) (h : Nat → Hd) (A : Ar) (w : World) (H : Arr w b o 3 h A) :
    Calls Tryz.prog 24 #[.agg #[.slice (some ⟨b, o, none⟩) 3 c]] w fun e w' => e = .returned (.int .i64 (many A)) ∧ Below w.heap.size w w' := by
  obtain ⟨W, hW⟩ : ∃ W, W = w.alloc (.cells #[.slice (some ⟨b, o, none⟩) 3 c] 26) := ⟨_, rfl⟩
  have hB : Below w.heap.size w W := by rw [hW]; go_grown
  obtain ⟨⟨t0, _⟩, _⟩ := (H.below hB).three
  rw [show many A = (h 0).p from (H.dv 0 (by omega)).sn.symm]
  have HP := hid (And.intro hB hW)
  rw [hW] at t0
  clear H hB hW
  go_enter Tryz.func24, Tryz.ntmps24
  go_wp2
  go_ret
  exact ⟨rfl, by rw [← HP.out.2]; exact HP.out.1⟩

/-- The cursor one further. -/
def nextX (x : Int) (N : Nat) : Int := if x + 1 < N then x + 1 else 0
def nextR (x r : Int) (N : Nat) : Int := if x + 1 < N then r else r + 1
set_option maxHeartbeats 400000 in
theorem ahead_any (x r : Int) (N : Nat) (w : World) (h0 : 0 ≤ x) (h1 : x < N) (hN : N ≤ 64) (r0 : 0 ≤ r) (r1 : r ≤ 4294967296) :
    Calls Tryz.prog 23 #[.agg #[.int .i64 x, .int .i64 r], .int .i64 N] w fun e w' => e = .returned (.agg #[.int .i64 (nextX x N), .int .i64 (nextR x r N)]) ∧ Below w.heap.size w w' := by
  by_cases e : x + 1 < N
  · rw [nextX, nextR, if_pos e, if_pos e]
    have e' : (x + 1 == (N : Int)) = false := by rw [beq_eq_false_iff_ne]; omega
    clear e
    go_enter Tryz.func23, Tryz.ntmps23
    go_wp2
    refine bodyPost_ret (v := .agg #[.int .i64 (x + 1), .int .i64 r]) (by simp [results, Tryz.results23, go_sem]) rfl ?_
    exact ⟨rfl, by go_grown⟩
  · rw [nextX, nextR, if_neg e, if_neg e]
    have e' : (x + 1 == (N : Int)) = true := by rw [beq_iff_eq]; omega
    clear e
    go_enter Tryz.func23, Tryz.ntmps23
    go_wp2
    refine bodyPost_ret (v := .agg #[.int .i64 0, .int .i64 (r + 1)]) (by simp [results, Tryz.results23, go_sem]) rfl ?_
    exact ⟨rfl, by go_grown⟩

/-- What is refused ahead of a step. -/
def stepChk (A : Ar) (x r m : Int) : Int := if arMay A = true then (if (0 ≤ x ∧ x < many A) ∧ 0 ≤ r ∧ r ≤ 1073741824 then (if 0 ≤ m ∧ m ≤ 64 then 0 else 2) else 9) else 9
set_option maxHeartbeats 1600000 in
set_option maxRecDepth 4000 in
theorem checkstep_any (a : Option Addr) (n c : Nat) (A : Ar) (x r m : Int) (w : World) (H : ArrAt w a n A) :
    Calls Tryz.prog 21 #[.agg #[.slice a n c], .agg #[.int .i64 x, .int .i64 r], .int .i64 m] w fun e w' => e = .returned (.int .i64 (stepChk A x r m)) ∧ Below w.heap.size w w' := by
  obtain ⟨W, hW⟩ : ∃ W, W = (w.alloc (.cells #[.slice a n c] 26)).alloc (.cells #[.int .i64 x, .int .i64 r] 35) := ⟨_, rfl⟩
  have hB : Below w.heap.size w W := by rw [hW]; go_grown
  have hz : W.heap.size = w.heap.size + 2 := by rw [hW]; simp
  have c0 : W.cell? ⟨w.heap.size, 0, none⟩ = some (.slice a n c) := by rw [hW]; simp [go_sem]
  have x0 : W.cell? ⟨w.heap.size + 1, 0, none⟩ = some (.int .i64 x) := by rw [hW]; simp [go_sem]
  have x1 : W.cell? ⟨w.heap.size + 1, 1, none⟩ = some (.int .i64 r) := by rw [hW]; simp [go_sem]
  have C1 := acheck_any a n c A W (H.below hB)
  rw [hW] at C1
  unfold stepChk
  cases hm : arMay A with
  | false =>
    rw [arChk_no A hm] at C1
    have H1 := hid C1
    have HP := hid (And.intro hB hW)
    clear C1 hB hz c0 x0 x1 hW H hm
    go_enter Tryz.func21, Tryz.ntmps21
    go_wp2_with fail
    refine H1.out.mono ?_
    rintro _ w1 ⟨rfl, g1⟩
    rw [← HP.out.2] at g1
    go_wp2
    go_ret
    exact ⟨rfl, bel3 HP.out.1 g1⟩
  | true =>
    rw [arChk_yes A hm] at C1
    rw [if_pos rfl]
    have hmm := (arMay_iff A).1 hm
    obtain ⟨rfl, b, o, h, rfl, HX⟩ := may_three H hm
    have CS := hid (fun wx (g : Below W.heap.size W wx) => ssectors_any b o c h A wx ((HX.below hB).below g))
    have hN : many A ≤ 64 := hmm.2.2.2.1
    generalize many A = N at CS hN
    have H1 := hid C1
    have HP := hid (And.intro hB (And.intro hW (And.intro hz (And.intro c0 (And.intro x0 x1)))))
    clear C1 hB hz c0 x0 x1 hW H hm HX hmm
    obtain ⟨B, hB⟩ : ∃ B : Bool, B = decide (x < 0 ∨ (N : Int) ≤ x ∨ r < 0 ∨ 1073741824 < r) := ⟨_, rfl⟩
    have HBB := hid hB
    clear hB
    obtain ⟨T, hT⟩ : ∃ T : Int, T = if (0 ≤ x ∧ x < N) ∧ 0 ≤ r ∧ r ≤ 1073741824 then (if 0 ≤ m ∧ m ≤ 64 then 0 else 2) else 9 := ⟨_, rfl⟩
    rw [← hT]
    have HT := hid hT
    clear hT
    go_enter Tryz.func21, Tryz.ntmps21
    go_wp2_with fail
    refine H1.out.mono ?_
    rintro _ w1 ⟨rfl, g1⟩
    rw [← HP.out.2.1] at g1
    have d0 := (g1.cell (p := ⟨w.heap.size, 0, none⟩) (by show w.heap.size < W.heap.size; rw [HP.out.2.2.1]; omega)).trans HP.out.2.2.2.1
    have d1 := (g1.cell (p := ⟨w.heap.size + 1, 0, none⟩) (by show w.heap.size + 1 < W.heap.size; rw [HP.out.2.2.1]; omega)).trans HP.out.2.2.2.2.1
    have d2 := (g1.cell (p := ⟨w.heap.size + 1, 1, none⟩) (by show w.heap.size + 1 < W.heap.size; rw [HP.out.2.2.1]; omega)).trans HP.out.2.2.2.2.2
    have G1 := hid g1
    clear g1 H1
    go_upto_region 4 with fail
    go_cut [32] (fun s32 wx => s32 = .bool B ∧ Below W.heap.size W wx)
    case first =>
      by_cases h1 : x < 0
      · have e1 : decide (x < 0) = true := decide_eq_true h1
        have HBT : Hid (B = true) := by show _ = _; rw [HBB.out]; exact decide_eq_true (by omega)
        go_quiet (fail)
        go_wp2_with fail
        go_meet
        exact ⟨by rw [HBT.out] <;> rfl, below_drewN G1.out _⟩
      · have e1 : decide (x < 0) = false := decide_eq_false h1
        by_cases h2 : x < N
        · have e2 : decide ((N : Int) ≤ x) = false := decide_eq_false (by omega)
          by_cases h3 : r < 0
          · have e3 : decide (r < 0) = true := decide_eq_true h3
            have HBT : Hid (B = true) := by show _ = _; rw [HBB.out]; exact decide_eq_true (by omega)
            first | go_region_with (go_at_call 24; refine (CS.out _ G1.out.drew).mono ?_; rintro _ w9 ⟨rfl, g9⟩; (have G9 := hid (bel3 G1.out.drew g9)); (have j1 := (G9.out.cell (p := ⟨w.heap.size + 1, 0, none⟩) (by show w.heap.size + 1 < W.heap.size; rw [HP.out.2.2.1]; omega)).trans HP.out.2.2.2.2.1); (have j2 := (G9.out.cell (p := ⟨w.heap.size + 1, 1, none⟩) (by show w.heap.size + 1 < W.heap.size; rw [HP.out.2.2.1]; omega)).trans HP.out.2.2.2.2.2); clear g9) | fail
            all_goals (go_wp2_with fail; go_meet)
            all_goals exact ⟨by rw [HBT.out] <;> rfl, G9.out⟩
          · have e3 : decide (r < 0) = false := decide_eq_false h3
            by_cases h4 : 1073741824 < r
            · have e4 : decide (1073741824 < r) = true := decide_eq_true h4
              have HBT : Hid (B = true) := by show _ = _; rw [HBB.out]; exact decide_eq_true (by omega)
              go_region_held3 (fun w' => w'.cell? ⟨w.heap.size, 0, none⟩ = some (.slice (some ⟨b, o, none⟩) 3 c) ∧ w'.cell? ⟨w.heap.size + 1, 0, none⟩ = some (.int .i64 x) ∧ w'.cell? ⟨w.heap.size + 1, 1, none⟩ = some (.int .i64 r)) (go_keep) (first | (go_at_call 24; refine (CS.out _ G1.out.drew).mono ?_; rintro _ w9 ⟨rfl, g9⟩; (have G9 := hid (bel3 G1.out.drew g9)); (have j0 := (G9.out.cell (p := ⟨w.heap.size, 0, none⟩) (by show w.heap.size < W.heap.size; rw [HP.out.2.2.1]; omega)).trans HP.out.2.2.2.1); (have j1 := (G9.out.cell (p := ⟨w.heap.size + 1, 0, none⟩) (by show w.heap.size + 1 < W.heap.size; rw [HP.out.2.2.1]; omega)).trans HP.out.2.2.2.2.1); (have j2 := (G9.out.cell (p := ⟨w.heap.size + 1, 1, none⟩) (by show w.heap.size + 1 < W.heap.size; rw [HP.out.2.2.1]; omega)).trans HP.out.2.2.2.2.2); clear g9))
              all_goals (go_wp2_with fail; go_meet)
              all_goals exact ⟨by rw [HBT.out] <;> rfl, G9.out⟩
            · have e4 : decide (1073741824 < r) = false := decide_eq_false h4
              have HBT : Hid (B = false) := by show _ = _; rw [HBB.out]; exact decide_eq_false (by omega)
              go_region_held3 (fun w' => w'.cell? ⟨w.heap.size, 0, none⟩ = some (.slice (some ⟨b, o, none⟩) 3 c) ∧ w'.cell? ⟨w.heap.size + 1, 0, none⟩ = some (.int .i64 x) ∧ w'.cell? ⟨w.heap.size + 1, 1, none⟩ = some (.int .i64 r)) (go_keep) (first | (go_at_call 24; refine (CS.out _ G1.out.drew).mono ?_; rintro _ w9 ⟨rfl, g9⟩; (have G9 := hid (bel3 G1.out.drew g9)); (have j0 := (G9.out.cell (p := ⟨w.heap.size, 0, none⟩) (by show w.heap.size < W.heap.size; rw [HP.out.2.2.1]; omega)).trans HP.out.2.2.2.1); (have j1 := (G9.out.cell (p := ⟨w.heap.size + 1, 0, none⟩) (by show w.heap.size + 1 < W.heap.size; rw [HP.out.2.2.1]; omega)).trans HP.out.2.2.2.2.1); (have j2 := (G9.out.cell (p := ⟨w.heap.size + 1, 1, none⟩) (by show w.heap.size + 1 < W.heap.size; rw [HP.out.2.2.1]; omega)).trans HP.out.2.2.2.2.2); clear g9))
              all_goals (go_wp2_with fail; go_meet)
              all_goals exact ⟨by rw [HBT.out] <;> rfl, G9.out⟩
        · have e2 : decide ((N : Int) ≤ x) = true := decide_eq_true (by omega)
          have HBT : Hid (B = true) := by show _ = _; rw [HBB.out]; exact decide_eq_true (by omega)
          first | go_region_with (go_at_call 24; refine (CS.out _ G1.out.drew).mono ?_; rintro _ w9 ⟨rfl, g9⟩; (have G9 := hid (bel3 G1.out.drew g9)); (have j1 := (G9.out.cell (p := ⟨w.heap.size + 1, 0, none⟩) (by show w.heap.size + 1 < W.heap.size; rw [HP.out.2.2.1]; omega)).trans HP.out.2.2.2.2.1); (have j2 := (G9.out.cell (p := ⟨w.heap.size + 1, 1, none⟩) (by show w.heap.size + 1 < W.heap.size; rw [HP.out.2.2.1]; omega)).trans HP.out.2.2.2.2.2); clear g9) | fail
          all_goals (go_wp2_with fail; go_meet)
          all_goals exact ⟨by rw [HBT.out] <;> rfl, G9.out⟩
    case rest =>
      obtain ⟨rfl, hB⟩ := hcut
      have GB := hid (bel3 HP.out.1 hB)
      clear hB G1 d0 d1 d2
      cases B with
      | true =>
        have HV : Hid (T = 9) := by show _ = _; rw [HT.out, if_neg (by have := of_decide_eq_true HBB.out.symm; omega)]
        go_wp2
        go_ret
        exact ⟨by rw [HV.out] <;> rfl, GB.out⟩
      | false =>
        have hno := of_decide_eq_false HBB.out.symm
        rw [if_pos (by omega)] at HT
        clear hno HBB
        by_cases h5 : m < 0
        · have HV : Hid (T = 2) := by show _ = _; rw [HT.out, if_neg (by omega)]
          go_wp2
          go_ret
          exact ⟨by rw [HV.out] <;> rfl, GB.out⟩
        · by_cases h6 : 64 < m
          · have HV : Hid (T = 2) := by show _ = _; rw [HT.out, if_neg (by omega)]
            go_wp2
            go_ret
            exact ⟨by rw [HV.out] <;> rfl, GB.out⟩
          · have HV : Hid (T = 0) := by show _ = _; rw [HT.out, if_pos (by omega)]
            go_wp2
            go_ret
            exact ⟨by rw [HV.out] <;> rfl, GB.out⟩
end Go.Proofs.YtpnmidkocmokeaaGreatDoor
