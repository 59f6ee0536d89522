/- How many sectors so many bytes need; what is refused: the program's and the document's. -/
import Derived.Test.YtgholkjpbdcdiaaDoorStreamMath
import Derived.Test.YtgholkjpbdcdiaaDoorArrCheck
import Derived.Test.YtgholkjpbdcdiaaDoorArrRefMay
import Derived.Test.YtgholkjpbdcdiaaDoorSectorRef
import Derived.Deep.RegionHeld3
import Derived.Deep.RegionWith
import Derived.Deep.DeepCutAuto
import Derived.BigQuiet
namespace Go.Proofs.YtgholkjpbdcdiaaDoor
open Go.RowKit Go.Lib

set_option maxHeartbeats 400000 in
theorem sectors_ok (n : Nat) (w : World) (h : n ≤ 1073741824) :
    Calls Tryd.prog 8 #[.int .i64 n] w fun e w' => e = .returned (.int .i64 (secs n)) ∧ w' = w := by
  unfold secs
  by_cases e : n % 24 = 0
  · have e' : ((n : Int) % 24 != 0) = false := by rw [bne_eq_false_iff_eq]; omega
    go_enter Tryd.func8, Tryd.ntmps8
    go_wp2
    go_ret
    exact ⟨ret_int (by omega), rfl⟩
  · have e' : ((n : Int) % 24 != 0) = true := by rw [bne_iff_ne]; omega
    go_enter Tryd.func8, Tryd.ntmps8
    go_wp2
    go_ret
    exact ⟨ret_int (by omega), rfl⟩

theorem secs_nat (m : Nat) : secs ((m : Int)).toNat = secs m := by rw [show ((m : Int)).toNat = m by omega]

set_option maxHeartbeats 1600000 in
set_option maxRecDepth 4000 in
theorem stcheck_any (a : Option Addr) (n c : Nat) (A : Ar) (x m : Int) (w : World) (H : ArrAt w a n A) :
    Calls Tryd.prog 15 #[.agg #[.slice a n c], .int .i64 x, .int .i64 m] w fun e w' => e = .returned (.int .i64 (stChk A x m)) ∧ Below w.heap.size w w' := by
  obtain ⟨W, hW⟩ : ∃ W, W = w.alloc (.cells #[.slice a n c] 25) := ⟨_, rfl⟩
  have hB : Below w.heap.size w W := by rw [hW]; go_grown
  have hz : W.heap.size = w.heap.size + 1 := by rw [hW]; simp
  have c0 : W.cell? ⟨w.heap.size, 0, none⟩ = some (.slice a n c) := by rw [hW]; simp
  have C1 := acheck_any a n c A W (H.below hB)
  rw [hW] at C1
  unfold stChk
  cases hm : arMay A with
  | false =>
    rw [arChk_no A hm] at C1
    have H1 := hid C1
    have HP := hid (And.intro hB hW)
    clear C1 hB hz c0 hW H hm
    go_enter Tryd.func15, Tryd.ntmps15
    go_wp2_with fail
    refine H1.out.mono ?_
    rintro _ w1 ⟨rfl, g1⟩
    rw [← HP.out.2] at g1
    go_wp2
    go_ret
    exact ⟨rfl, bel3 HP.out.1 g1⟩
  | true =>
    rw [arChk_yes A hm] at C1
    rw [if_pos rfl]
    have hmm := (arMay_iff A).1 hm
    have hN : many A ≤ 64 := hmm.2.2.2.1
    have H1 := hid C1
    by_cases m0 : m < 0
    · rw [if_neg (by omega)]
      have HP := hid (And.intro hB hW)
      clear C1 hB hz c0 hW H hm hmm
      go_enter Tryd.func15, Tryd.ntmps15
      go_wp2_with fail
      refine H1.out.mono ?_
      rintro _ w1 ⟨rfl, g1⟩
      rw [← HP.out.2] at g1
      go_wp2
      go_ret
      exact ⟨rfl, bel3 HP.out.1 g1⟩
    · by_cases m1 : 1536 < m
      · rw [if_neg (by omega)]
        have HP := hid (And.intro hB hW)
        clear C1 hB hz c0 hW H hm hmm
        go_enter Tryd.func15, Tryd.ntmps15
        go_wp2_with fail
        refine H1.out.mono ?_
        rintro _ w1 ⟨rfl, g1⟩
        rw [← HP.out.2] at g1
        go_wp2
        go_ret
        exact ⟨rfl, bel3 HP.out.1 g1⟩
      · rw [if_pos (by omega)]
        obtain ⟨M, rfl⟩ : ∃ M : Nat, m = M := ⟨m.toNat, by omega⟩
        rw [secs_nat]
        obtain ⟨rfl, b, o, h, rfl, HX⟩ := may_three H hm
        have hp : many A = (h 0).p := (HX.dv 0 (by omega)).sn.symm
        rw [hp] at hN
        rw [hp]
        have CS := hid (fun wx => sectors_ok M wx (by omega))
        have hS := secs_64 M (by omega)
        generalize secs M = K at CS hS
        have HP := hid (And.intro hB (And.intro hW (And.intro hz (And.intro c0 (And.intro (HX.below hB).lt ((HX.below hB).three.1.1))))))
        clear C1 hB hz c0 hW H hm hmm HX hp
        generalize (h 0).p = N at hN HP
        generalize (h 0).x = xx at HP
        generalize (h 0).c = cc at HP
        obtain ⟨T, hT⟩ : ∃ T : Int, T = if 0 ≤ x ∧ x + (K : Int) ≤ N then 0 else 2 := ⟨_, rfl⟩
        rw [← hT]
        have HT := hid hT
        clear hT
        go_enter Tryd.func15, Tryd.ntmps15
        go_wp2_with fail
        refine H1.out.mono ?_
        rintro _ w1 ⟨rfl, g1⟩
        rw [← HP.out.2.1] at g1
        have d0 := (g1.cell (p := ⟨w.heap.size, 0, none⟩) (by show w.heap.size < W.heap.size; rw [HP.out.2.2.1]; omega)).trans HP.out.2.2.2.1
        have t0 := (g1.cell (p := ⟨b, o, none⟩) HP.out.2.2.2.2.1).trans HP.out.2.2.2.2.2
        have G1 := hid g1
        clear g1 H1
        go_upto_region 6 with fail
        go_cut [8] (fun s8 wx => s8 = .int .i64 ((N : Int) - K) ∧ Below W.heap.size W wx)
        case first =>
          go_quiet ((go_at_call 8; exact Calls.quiet_of_same (CS.out _)))
          all_goals (go_wp2_with fail; go_meet)
          all_goals exact ⟨by go_num, below_drewN G1.out _⟩
        case rest =>
          obtain ⟨rfl, hB⟩ := hcut
          have G2 := hid hB
          clear hB G1 d0 t0
          by_cases x0 : x < 0
          · have HF : Hid (T = 2) := by show _ = _; rw [HT.out, if_neg (by omega)]
            go_wp2
            go_ret
            exact ⟨by rw [HF.out] <;> rfl, bel3 HP.out.1 G2.out⟩
          · by_cases x1 : (N : Int) - K < x
            · have HF : Hid (T = 2) := by show _ = _; rw [HT.out, if_neg (by omega)]
              go_wp2
              go_ret
              exact ⟨by rw [HF.out] <;> rfl, bel3 HP.out.1 G2.out⟩
            · have HF : Hid (T = 0) := by show _ = _; rw [HT.out, if_pos (by omega)]
              go_wp2
              go_ret
              exact ⟨by rw [HF.out] <;> rfl, bel3 HP.out.1 G2.out⟩

end Go.Proofs.YtgholkjpbdcdiaaDoor
