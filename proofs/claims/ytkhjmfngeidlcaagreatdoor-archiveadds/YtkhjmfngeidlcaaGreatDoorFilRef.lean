/- Which files may be added together: the document's own answer. -/
import Derived.Test.YtkhjmfngeidlcaaGreatDoorFilA
import Derived.Test.YtkhjmfngeidlcaaGreatDoorCatNB
import Derived.Test.YtkhjmfngeidlcaaGreatDoorSecA
import Derived.Handy
import Derived.Deep.QuietTactic
import Derived.BigQuiet
namespace Go.Proofs.YtkhjmfngeidlcaaGreatDoor
open Go.RowKit Go.Lib

theorem sumF_200 (F : List Fi) (k : Nat) (h : filN F k = 0) : sumF F k ≤ 200 * k := by
  have q : ∀ j, j ≤ k → sumF F j ≤ 200 * j := by
    intro j
    induction j with
    | zero => intro _; exact Nat.zero_le _
    | succ j ih =>
      intro hj
      have h1 := ih (by omega)
      have h2 := (filOne_ok F j (fil_ok F k h j (by omega))).2.1
      rw [sumF]; omega
  exact q k (Nat.le_refl _)

set_option maxHeartbeats 1600000 in
set_option maxRecDepth 4000 in
theorem reffiles_any (a : Option Addr) (n c : Nat) (F : List Fi) (w : World) (H : FilAt w a n F) :
    Calls Tryz.prog 18 #[.slice a n c] w fun e w' => e = .returned (.int .i64 (filChk F)) ∧ Below w.heap.size w w' := by
  have hsn := H.sn
  have hnb := H.nb
  unfold maxLen at hnb
  obtain ⟨T, hT⟩ : ∃ T : Int, T = filChk F := ⟨_, rfl⟩
  rw [← hT]
  unfold filChk at hT
  rw [← hsn] at hT
  have CI := hid (fun wx => in_any (n : Int) 1 10 wx)
  by_cases h1 : 1 ≤ n ∧ n ≤ 10
  · rw [show decide ((1 : Int) ≤ (n : Int) ∧ (n : Int) ≤ 10) = true from decide_eq_true (by omega)] at CI
    rw [if_pos h1] at hT
    have HT := hid hT
    have HH := hid H
    clear hT H hsn
    go_enter Tryz.func18, Tryz.ntmps18
    go_wp2_with (go_at_call 50; refine (CI.out _).mono ?_; rintro _ w9 ⟨rfl, h9⟩; (have h8 := h9.symm); subst h8)
    go_loopw [3, 4] (fun v i wr => ∃ k : Nat, k ≤ n ∧ v = .int .i64 (sumF F k) ∧ i = .int .i64 k ∧ Hid (filN F k = 0) ∧ Hid (Below w.heap.size w wr)) (fun _ i _ => n - (RowKit.intOf i).toNat)
    case atStart => exact ⟨0, Nat.zero_le _, rfl, rfl, rfl, Below.refl _ _⟩
    case round =>
      obtain ⟨k, hk, rfl, rfl, h0, G⟩ := hrel
      have hs0 : (0 : Int) ≤ sumF F k := by omega
      have hs1 := sumF_200 F k h0.out
      by_cases hlt : k < n
      · have hlt' : (k : Int) < n := by omega
        obtain ⟨b, o, rfl, hb, x0, x1⟩ := (HH.out.below G.out).c k hlt
        obtain ⟨n0, n1⟩ := HH.out.nm k hlt
        have CN := hid (fun wx => refname_any (fi F k).s wx n0)
        have FV : Hid (filOne F k = if nameMay (fi F k).s = true then (if 200 < (fi F k).d.size then 1 else if hasF F (fi F k).s k = true then 7 else 0) else 4) := rfl
        have FF := hid (fun (q : filOne F k ≠ 0) => show T = filOne F k by rw [HT.out, fil_fail F k h0.out q n hlt, if_neg q])
        have FS := hid (fil_succ F k h0.out)
        have SS : Hid (sumF F (k + 1) = sumF F k + (fi F k).d.size) := rfl
        obtain ⟨s, hs⟩ : ∃ s, (fi F k).s = s := ⟨_, rfl⟩
        obtain ⟨d, hd⟩ : ∃ d, (fi F k).d = d := ⟨_, rfl⟩
        rw [hs] at x0 CN FV
        rw [hd] at x1 FV SS n1
        have HS := hid hs
        unfold maxLen at n1
        clear hs hd n0
        generalize nameMay s = r at CN FV
        cases r with
        | false =>
          have E := hid (show T = 4 by rw [FF.out (by rw [FV.out]; simp), FV.out]; rfl)
          clear FV FF FS SS HH
          go_wp2_with (go_at_call 51; refine (CN.out _).mono ?_; rintro _ w9 ⟨rfl, h9⟩; (have h8 := h9.symm); subst h8)
          go_ret
          exact ⟨by rw [E.out]; rfl, G.out⟩
        | true =>
          rw [if_pos rfl] at FV
          by_cases h2 : 200 < d.size
          · have h2' : (200 : Int) < d.size := by omega
            rw [if_pos h2] at FV
            have E := hid (show T = 1 by rw [FF.out (by rw [FV.out]; simp), FV.out])
            clear FV FF FS SS HH
            go_wp2_with (go_at_call 51; refine (CN.out _).mono ?_; rintro _ w9 ⟨rfl, h9⟩; (have h8 := h9.symm); subst h8)
            go_ret
            exact ⟨by rw [E.out]; rfl, G.out⟩
          · have h2' : ¬ (200 : Int) < d.size := by omega
            rw [if_neg h2] at FV
            go_wp2_with (go_at_call 51; refine (CN.out _).mono ?_; rintro _ w9 ⟨rfl, h9⟩; (have h8 := h9.symm); subst h8)
            go_loopw [5] (fun i wx => ∃ j q : Nat, j ≤ k ∧ i = .int .i64 j ∧ Hid (hasF F s j = false) ∧ wx = wr.drewN q) (fun i _ => k - (RowKit.intOf i).toNat)
            case atStart => exact ⟨0, 0, Nat.zero_le _, rfl, rfl, rfl⟩
            case round =>
              obtain ⟨j, q, hj, rfl, hh, rfl⟩ := hrel
              by_cases jlt : j < k
              · have jlt' : (j : Int) < k := by omega
                have jn : (j : Int) < n := by omega
                obtain ⟨b2, o2, e2, _, y0, _⟩ := (HH.out.below G.out).c j (by omega)
                cases e2
                have HN : Hid (hasF F s (j + 1) = ((fi F j).s.toList == s.toList)) := by show (hasF F s j || _) = _; rw [hh.out, Bool.false_or]
                have HM := hid (fun (q : hasF F s (j + 1) = true) => show hasF F s k = true from (hasF_iff F s k).2 (by obtain ⟨i, hi, e⟩ := (hasF_iff F s (j + 1)).1 q; exact ⟨i, by omega, e⟩))
                cases he : ((fi F j).s.toList == s.toList) with
                | true =>
                  have E := hid (show T = 7 by rw [FF.out (by rw [FV.out, if_pos (HM.out (by rw [HN.out, he]))]; simp), FV.out, if_pos (HM.out (by rw [HN.out, he]))])
                  clear HN HM FV FF FS SS HH x1
                  generalize (fi F j).s = t at y0 he
                  go_wp2_with fail
                  go_quiet (fail)
                  go_wp2
                  go_ret
                  exact ⟨by rw [E.out]; rfl, below_drewN (below_drewN G.out _) _⟩
                | false =>
                  have E := hid (show hasF F s (j + 1) = false by rw [HN.out, he])
                  clear HN HM FV FF FS SS HH x1
                  generalize (fi F j).s = t at y0 he
                  go_wp2_with fail
                  go_quiet (fail)
                  go_wp2
                  go_roundw
                  case rel => exact ⟨j + 1, _, by omega, by go_num, E, by first | rfl | trivial⟩
                  case measure => simp [RowKit.intOf]; omega
              · obtain rfl : j = k := by omega
                have jlt' : ¬ (j : Int) < j := by omega
                have E := hid (show filN F (j + 1) = 0 by rw [FS.out, FV.out, hh.out]; rfl)
                have hs2 : (sumF F j : Int) + d.size ≤ 100000 := by omega
                have u : IntKind.i64.wrap ((sumF F j : Int) + d.size) = ((sumF F (j + 1) : Nat) : Int) := by rw [IntWalk.i64_in _ (by omega), SS.out]; omega
                clear FV FF FS SS HH
                go_wp2
                go_roundw
                case rel => exact ⟨j + 1, by omega, by first | rfl | go_num, by go_num, E, hid (below_drewN G.out _)⟩
                case measure => simp [RowKit.intOf]; omega
      · obtain rfl : k = n := by omega
        have hlt' : ¬ (k : Int) < k := by omega
        by_cases h6 : 600 < sumF F k
        · have h6' : (600 : Int) < sumF F k := by omega
          have E := hid (show T = 1 by rw [HT.out, if_pos h0.out, if_pos h6])
          go_wp2
          go_ret
          exact ⟨by rw [E.out]; rfl, G.out⟩
        · have h6' : ¬ (600 : Int) < sumF F k := by omega
          have E := hid (show T = 0 by rw [HT.out, if_pos h0.out, if_neg h6])
          go_wp2
          go_ret
          exact ⟨by rw [E.out]; rfl, G.out⟩
  · rw [show decide ((1 : Int) ≤ (n : Int) ∧ (n : Int) ≤ 10) = false from decide_eq_false (by omega)] at CI
    rw [if_neg h1] at hT
    have HT := hid hT
    clear hT H hsn
    go_enter Tryz.func18, Tryz.ntmps18
    go_wp2_with (go_at_call 50; refine (CI.out _).mono ?_; rintro _ w9 ⟨rfl, h9⟩; (have h8 := h9.symm); subst h8)
    go_ret
    exact ⟨by rw [HT.out]; rfl, Below.refl _ _⟩
end Go.Proofs.YtkhjmfngeidlcaaGreatDoor
