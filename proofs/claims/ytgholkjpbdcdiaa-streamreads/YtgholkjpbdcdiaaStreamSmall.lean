/- How many sectors so many bytes need; what is refused: the program's and the document's. -/
import Derived.Test.YtgholkjpbdcdiaaStreamMath
import Derived.Test.YtgholkjpbdcdiaaArrCheck
import Derived.Test.YtgholkjpbdcdiaaArrRefMay
import Derived.Test.YtgholkjpbdcdiaaSectorRef
import Derived.Deep.RegionHeld3
import Derived.Deep.RegionWith
import Derived.Deep.DeepCutAuto
import Derived.BigQuiet
namespace Go.Proofs.Ytgholkjpbdcdiaa
open Go.RowKit Go.Lib

set_option maxHeartbeats 400000 in
theorem sectors_ok (n : Nat) (w : World) (h : n ≤ 1073741824) :
    Calls Try.prog 7 #[.int .i64 n] w fun e w' => e = .returned (.int .i64 (secs n)) ∧ w' = w := by
  unfold secs
  by_cases e : n % 24 = 0
  · have e' : ((n : Int) % 24 != 0) = false := by rw [bne_eq_false_iff_eq]; omega
    go_enter Try.func7, Try.ntmps7
    go_wp2
    go_ret
    exact ⟨ret_int (by omega), rfl⟩
  · have e' : ((n : Int) % 24 != 0) = true := by rw [bne_iff_ne]; omega
    go_enter Try.func7, Try.ntmps7
    go_wp2
    go_ret
    exact ⟨ret_int (by omega), rfl⟩

set_option maxHeartbeats 400000 in
theorem refsectors_ok (n : Nat) (w : World) (h : n ≤ 1073741824) :
    Calls Try.prog 8 #[.int .i64 n] w fun e w' => e = .returned (.int .i64 (secs n)) ∧ w' = w := by
  have h1 := secs_le n
  have h2 : secs n ≤ n := by unfold secs; omega
  have h3 : ∀ i, i < secs n → 24 * i < n := secs_lt n
  have h4 : ∀ i, n ≤ 24 * i → secs n ≤ i := secs_ge n
  go_enter Try.func8, Try.ntmps8
  go_wp2_with fail
  go_loopw [3] (fun i wr => ∃ k : Nat, k ≤ secs n ∧ i = .int .i64 k ∧ wr = w) (fun i _ => secs n - (intOf i).toNat)
  case atStart => exact ⟨0, Nat.zero_le _, rfl, rfl⟩
  case round =>
    obtain ⟨k, hk, rfl, rfl⟩ := hrel
    by_cases hlt : 24 * k < n
    · have hlt' : (k : Int) * 24 < n := by omega
      have hk2 : k < secs n := by
        rcases Nat.lt_or_ge k (secs n) with h | h
        · exact h
        · omega
      go_wp2
      go_roundw
      case rel => exact ⟨k + 1, hk2, by go_num, by first | rfl | trivial⟩
      case measure => simp [intOf]; omega
    · have hlt' : ¬ (k : Int) * 24 < n := by omega
      have hk2 : k = secs n := by have := h4 k (by omega); omega
      go_wp2
      go_ret
      exact ⟨ret_int (by omega), rfl⟩

theorem secs_nat (m : Nat) : secs ((m : Int)).toNat = secs m := by rw [show ((m : Int)).toNat = m by omega]

set_option maxHeartbeats 1600000 in
set_option maxRecDepth 4000 in
theorem stcheck_any (a : Option Addr) (n c : Nat) (A : Ar) (x m : Int) (w : World) (H : ArrAt w a n A) :
    Calls Try.prog 16 #[.agg #[.slice a n c], .int .i64 x, .int .i64 m] w fun e w' => e = .returned (.int .i64 (stChk A x m)) ∧ Below w.heap.size w w' := by
  obtain ⟨W, hW⟩ : ∃ W, W = w.alloc (.cells #[.slice a n c] 27) := ⟨_, rfl⟩
  have hB : Below w.heap.size w W := by rw [hW]; go_grown
  have hz : W.heap.size = w.heap.size + 1 := by rw [hW]; simp
  have c0 : W.cell? ⟨w.heap.size, 0, none⟩ = some (.slice a n c) := by rw [hW]; simp
  have C1 := acheck_any a n c A W (H.below hB)
  rw [hW] at C1
  unfold stChk
  cases hm : arMay A with
  | false =>
    rw [arChk_no A hm] at C1
    have H1 := hid C1
    have HP := hid (And.intro hB hW)
    clear C1 hB hz c0 hW H hm
    go_enter Try.func16, Try.ntmps16
    go_wp2_with fail
    refine H1.out.mono ?_
    rintro _ w1 ⟨rfl, g1⟩
    rw [← HP.out.2] at g1
    go_wp2
    go_ret
    exact ⟨rfl, bel3 HP.out.1 g1⟩
  | true =>
    rw [arChk_yes A hm] at C1
    rw [if_pos rfl]
    have hmm := (arMay_iff A).1 hm
    have hN : many A ≤ 64 := hmm.2.2.2.1
    have H1 := hid C1
    by_cases m0 : m < 0
    · rw [if_neg (by omega)]
      have HP := hid (And.intro hB hW)
      clear C1 hB hz c0 hW H hm hmm
      go_enter Try.func16, Try.ntmps16
      go_wp2_with fail
      refine H1.out.mono ?_
      rintro _ w1 ⟨rfl, g1⟩
      rw [← HP.out.2] at g1
      go_wp2
      go_ret
      exact ⟨rfl, bel3 HP.out.1 g1⟩
    · by_cases m1 : 1536 < m
      · rw [if_neg (by omega)]
        have HP := hid (And.intro hB hW)
        clear C1 hB hz c0 hW H hm hmm
        go_enter Try.func16, Try.ntmps16
        go_wp2_with fail
        refine H1.out.mono ?_
        rintro _ w1 ⟨rfl, g1⟩
        rw [← HP.out.2] at g1
        go_wp2
        go_ret
        exact ⟨rfl, bel3 HP.out.1 g1⟩
      · rw [if_pos (by omega)]
        obtain ⟨M, rfl⟩ : ∃ M : Nat, m = M := ⟨m.toNat, by omega⟩
        rw [secs_nat]
        obtain ⟨rfl, b, o, h, rfl, HX⟩ := may_three H hm
        have hp : many A = (h 0).p := (HX.dv 0 (by omega)).sn.symm
        rw [hp] at hN
        rw [hp]
        have CS := hid (fun wx => sectors_ok M wx (by omega))
        have hS := secs_64 M (by omega)
        generalize secs M = K at CS hS
        have HP := hid (And.intro hB (And.intro hW (And.intro hz (And.intro c0 (And.intro (HX.below hB).lt ((HX.below hB).three.1.1))))))
        clear C1 hB hz c0 hW H hm hmm HX hp
        generalize (h 0).p = N at hN HP
        generalize (h 0).x = xx at HP
        generalize (h 0).c = cc at HP
        obtain ⟨T, hT⟩ : ∃ T : Int, T = if 0 ≤ x ∧ x + (K : Int) ≤ N then 0 else 2 := ⟨_, rfl⟩
        rw [← hT]
        have HT := hid hT
        clear hT
        go_enter Try.func16, Try.ntmps16
        go_wp2_with fail
        refine H1.out.mono ?_
        rintro _ w1 ⟨rfl, g1⟩
        rw [← HP.out.2.1] at g1
        have d0 := (g1.cell (p := ⟨w.heap.size, 0, none⟩) (by show w.heap.size < W.heap.size; rw [HP.out.2.2.1]; omega)).trans HP.out.2.2.2.1
        have t0 := (g1.cell (p := ⟨b, o, none⟩) HP.out.2.2.2.2.1).trans HP.out.2.2.2.2.2
        have G1 := hid g1
        clear g1 H1
        go_upto_region 6 with fail
        go_cut [8] (fun s8 wx => s8 = .int .i64 ((N : Int) - K) ∧ Below W.heap.size W wx)
        case first =>
          go_quiet ((go_at_call 7; exact Calls.quiet_of_same (CS.out _)))
          all_goals (go_wp2_with fail; go_meet)
          all_goals exact ⟨by go_num, below_drewN G1.out _⟩
        case rest =>
          obtain ⟨rfl, hB⟩ := hcut
          have G2 := hid hB
          clear hB G1 d0 t0
          by_cases x0 : x < 0
          · have HF : Hid (T = 2) := by show _ = _; rw [HT.out, if_neg (by omega)]
            go_wp2
            go_ret
            exact ⟨by rw [HF.out] <;> rfl, bel3 HP.out.1 G2.out⟩
          · by_cases x1 : (N : Int) - K < x
            · have HF : Hid (T = 2) := by show _ = _; rw [HT.out, if_neg (by omega)]
              go_wp2
              go_ret
              exact ⟨by rw [HF.out] <;> rfl, bel3 HP.out.1 G2.out⟩
            · have HF : Hid (T = 0) := by show _ = _; rw [HT.out, if_pos (by omega)]
              go_wp2
              go_ret
              exact ⟨by rw [HF.out] <;> rfl, bel3 HP.out.1 G2.out⟩

set_option maxHeartbeats 1600000 in
set_option maxRecDepth 4000 in
theorem stfault_any (a : Option Addr) (n c : Nat) (A : Ar) (x m : Int) (w : World) (H : ArrAt w a n A) :
    Calls Try.prog 19 #[.agg #[.slice a n c], .int .i64 x, .int .i64 m] w fun e w' => e = .returned (.int .i64 (stChk A x m)) ∧ Below w.heap.size w w' := by
  obtain ⟨W, hW⟩ : ∃ W, W = w.alloc (.cells #[.slice a n c] 27) := ⟨_, rfl⟩
  have hB : Below w.heap.size w W := by rw [hW]; go_grown
  have hz : W.heap.size = w.heap.size + 1 := by rw [hW]; simp
  have c0 : W.cell? ⟨w.heap.size, 0, none⟩ = some (.slice a n c) := by rw [hW]; simp
  have C1 := armay_any a n c A W (H.below hB)
  rw [hW] at C1
  unfold stChk
  cases hm : arMay A with
  | false =>
    rw [hm] at C1
    have H1 := hid C1
    have HP := hid (And.intro hB hW)
    clear C1 hB hz c0 hW H hm
    go_enter Try.func19, Try.ntmps19
    go_wp2_with fail
    refine H1.out.mono ?_
    rintro _ w1 ⟨rfl, g1⟩
    rw [← HP.out.2] at g1
    go_wp2
    go_ret
    exact ⟨rfl, bel3 HP.out.1 g1⟩
  | true =>
    rw [hm] at C1
    rw [if_pos rfl]
    have hmm := (arMay_iff A).1 hm
    have hN : many A ≤ 64 := hmm.2.2.2.1
    have H1 := hid C1
    have C2 := hid (fun wx => in_any m 0 1536 wx)
    by_cases m0 : 0 ≤ m ∧ m ≤ 1536
    · rw [if_pos m0]
      rw [decide_eq_true m0] at C2
      obtain ⟨M, rfl⟩ : ∃ M : Nat, m = M := ⟨m.toNat, by omega⟩
      rw [secs_nat]
      obtain ⟨rfl, b, o, h, rfl, HX⟩ := may_three H hm
      have hp : many A = (h 0).p := (HX.dv 0 (by omega)).sn.symm
      rw [hp] at hN
      rw [hp]
      have CS := hid (fun wx => refsectors_ok M wx (by omega))
      have hS := secs_64 M (by omega)
      generalize secs M = K at CS hS
      have HP := hid (And.intro hB (And.intro hW (And.intro hz (And.intro c0 (And.intro (HX.below hB).lt ((HX.below hB).three.1.1))))))
      clear C1 hB hz c0 hW H hm hmm HX hp m0
      generalize (h 0).p = N at hN HP
      generalize (h 0).x = xx at HP
      generalize (h 0).c = cc at HP
      have C3 := hid (fun wx => in_any x 0 N wx)
      obtain ⟨T, hT⟩ : ∃ T : Int, T = if 0 ≤ x ∧ x + (K : Int) ≤ N then 0 else 2 := ⟨_, rfl⟩
      rw [← hT]
      have HT := hid hT
      clear hT
      by_cases x0 : 0 ≤ x ∧ x ≤ N
      · rw [decide_eq_true x0] at C3
        by_cases x1 : (N : Int) < x + K
        · have HF : Hid (T = 2) := by show _ = _; rw [HT.out, if_neg (by omega)]
          go_enter Try.func19, Try.ntmps19
          go_wp2_with fail
          refine H1.out.mono ?_
          rintro _ w1 ⟨rfl, g1⟩
          rw [← HP.out.2.1] at g1
          have d0 := (g1.cell (p := ⟨w.heap.size, 0, none⟩) (by show w.heap.size < W.heap.size; rw [HP.out.2.2.1]; omega)).trans HP.out.2.2.2.1
          have t0 := (g1.cell (p := ⟨b, o, none⟩) HP.out.2.2.2.2.1).trans HP.out.2.2.2.2.2
          have G1 := hid g1
          clear g1 H1
          go_wp2_with (first | (go_at_call_of 6 (Value.int IntKind.i64 M); refine (C2.out _).mono ?_; rintro _ w9 ⟨rfl, h9⟩; (have h8 := h9.symm); subst h8) | (go_at_call_of 6 (Value.int IntKind.i64 x); refine (C3.out _).mono ?_; rintro _ w9 ⟨rfl, h9⟩; (have h8 := h9.symm); subst h8) | (go_at_call 8; refine (CS.out _).mono ?_; rintro _ w9 ⟨rfl, h9⟩; (have h8 := h9.symm); subst h8))
          go_ret
          exact ⟨by rw [HF.out] <;> rfl, bel3 HP.out.1 G1.out⟩
        · have HF : Hid (T = 0) := by show _ = _; rw [HT.out, if_pos (by omega)]
          go_enter Try.func19, Try.ntmps19
          go_wp2_with fail
          refine H1.out.mono ?_
          rintro _ w1 ⟨rfl, g1⟩
          rw [← HP.out.2.1] at g1
          have d0 := (g1.cell (p := ⟨w.heap.size, 0, none⟩) (by show w.heap.size < W.heap.size; rw [HP.out.2.2.1]; omega)).trans HP.out.2.2.2.1
          have t0 := (g1.cell (p := ⟨b, o, none⟩) HP.out.2.2.2.2.1).trans HP.out.2.2.2.2.2
          have G1 := hid g1
          clear g1 H1
          go_wp2_with (first | (go_at_call_of 6 (Value.int IntKind.i64 M); refine (C2.out _).mono ?_; rintro _ w9 ⟨rfl, h9⟩; (have h8 := h9.symm); subst h8) | (go_at_call_of 6 (Value.int IntKind.i64 x); refine (C3.out _).mono ?_; rintro _ w9 ⟨rfl, h9⟩; (have h8 := h9.symm); subst h8) | (go_at_call 8; refine (CS.out _).mono ?_; rintro _ w9 ⟨rfl, h9⟩; (have h8 := h9.symm); subst h8))
          go_ret
          exact ⟨by rw [HF.out] <;> rfl, bel3 HP.out.1 G1.out⟩
      · rw [decide_eq_false x0] at C3
        have HF : Hid (T = 2) := by show _ = _; rw [HT.out, if_neg (by omega)]
        clear x0
        go_enter Try.func19, Try.ntmps19
        go_wp2_with fail
        refine H1.out.mono ?_
        rintro _ w1 ⟨rfl, g1⟩
        rw [← HP.out.2.1] at g1
        have d0 := (g1.cell (p := ⟨w.heap.size, 0, none⟩) (by show w.heap.size < W.heap.size; rw [HP.out.2.2.1]; omega)).trans HP.out.2.2.2.1
        have t0 := (g1.cell (p := ⟨b, o, none⟩) HP.out.2.2.2.2.1).trans HP.out.2.2.2.2.2
        have G1 := hid g1
        clear g1 H1
        go_wp2_with (first | (go_at_call_of 6 (Value.int IntKind.i64 M); refine (C2.out _).mono ?_; rintro _ w9 ⟨rfl, h9⟩; (have h8 := h9.symm); subst h8) | (go_at_call_of 6 (Value.int IntKind.i64 x); refine (C3.out _).mono ?_; rintro _ w9 ⟨rfl, h9⟩; (have h8 := h9.symm); subst h8))
        go_ret
        exact ⟨by rw [HF.out] <;> rfl, bel3 HP.out.1 G1.out⟩
    · rw [if_neg m0]
      rw [decide_eq_false m0] at C2
      have HP := hid (And.intro hB hW)
      clear C1 hB hz c0 hW H hm hmm m0
      go_enter Try.func19, Try.ntmps19
      go_wp2_with fail
      refine H1.out.mono ?_
      rintro _ w1 ⟨rfl, g1⟩
      rw [← HP.out.2] at g1
      go_wp2_with (go_at_call 6; refine (C2.out _).mono ?_; rintro _ w9 ⟨rfl, h9⟩; (have h8 := h9.symm); subst h8)
      go_ret
      exact ⟨rfl, bel3 HP.out.1 g1⟩
end Go.Proofs.Ytgholkjpbdcdiaa
