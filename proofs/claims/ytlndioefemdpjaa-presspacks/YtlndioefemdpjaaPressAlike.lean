/- How many bytes are alike: the program's sameBytes and longestPiece, the document's alike. -/
import Derived.Test.YtlndioefemdpjaaRows
import Derived.Test.YtlndioefemdpjaaPressMath
import Derived.WalkKit
import Derived.WalkLawsBesides
import Derived.Laws.IdiomStrings
import Derived.Deep.QuietTactic
import Derived.BigQuiet
namespace Go.Proofs.Ytlndioefemdpjaa
open Go.RowKit

/-- One place further: what holds up to it, and where it ends. -/
theorem same_more {l : List UInt8} {k i m : Nat} (ha : ∀ j, j < m → bat l (k + j) = bat l (i + j)) (h : bat l (k + m) = bat l (i + m)) : ∀ j, j < m + 1 → bat l (k + j) = bat l (i + j) := fun j hj => by
  rcases Nat.lt_succ_iff_lt_or_eq.1 hj with h' | rfl
  · exact ha j h'
  · exact h

theorem hid {p : Prop} (h : p) : Hid p := h
theorem byte_eq (a b : UInt8) : ((a.toNat : Int) == (b.toNat : Int)) = decide (a = b) := by
  rw [Bool.eq_iff_iff]; simp only [beq_iff_eq, decide_eq_true_eq, Int.natCast_inj, UInt8.toNat_inj]

theorem ba_len (s : ByteArray) : s.data.toList.length = s.size := by simp

set_option maxHeartbeats 800000 in
set_option maxRecDepth 4000 in
theorem alike_any (s : ByteArray) (k i : Nat) (w : World) (hs : s.size ≤ maxLen) (hi : i ≤ s.size) (hk : k < i) :
    Calls Try.prog 20 #[.string s, .int .i64 k, .int .i64 i] w fun e w' => e = .returned (.int .i64 (alike s.data.toList k i)) ∧ ∃ n, w' = w.drewN n := by
  unfold maxLen at hs
  go_enter Try.func20, Try.ntmps20
  go_wp2
  go_loopw [7] (fun n wr => ∃ m q : Nat, n = .int .i64 m ∧ m ≤ 131 ∧ i + m ≤ s.size ∧ wr = w.drewN q ∧ Hid (∀ j, j < m → bat s.data.toList (k + j) = bat s.data.toList (i + j))) (fun n _ => 131 - (intOf n).toNat)
  case atStart => exact ⟨0, 0, rfl, by omega, by omega, rfl, fun j hj => by omega⟩
  case round =>
    obtain ⟨m, q, rfl, hm, him, rfl, H⟩ := hrel
    by_cases h1 : m < 131
    · by_cases h2 : i + m < s.size
      · have h4 : k + m < s.size := by omega
        have b1 := bat_ba s (k + m) h4
        have b2 := bat_ba s (i + m) h2
        have g1 : (m : Int) < 131 := by omega
        have i1 : (i : Int) + m < s.size := by omega
        have i2 : (k : Int) + m < s.size := by omega
        have j1 : (0 : Int) ≤ (i : Int) + m := by omega
        have j2 : (0 : Int) ≤ (k : Int) + m := by omega
        have e1 : ((i : Int) + m).toNat = i + m := by omega
        have e2 : ((k : Int) + m).toNat = k + m := by omega
        by_cases h3 : s[k + m] = s[i + m]
        · have B := same_more H.out (by rw [b1, b2]; exact h3)
          have B' : Hid (∀ j, j < m + 1 → bat s.data.toList (k + j) = bat s.data.toList (i + j)) := B
          have hc : ((s[k + m].toNat : Int) == (s[i + m].toNat : Int)) = true := by rw [byte_eq]; simpa using h3
          clear h3 B H b1 b2
          go_wp2_with fail
          go_quiet (fail)
          go_wp2
          go_roundw
          case rel => exact ⟨m + 1, _, by go_num, by omega, by omega, rfl, B'⟩
          case measure => simp [intOf]; omega
        · have E : Hid (alike s.data.toList k i = m) := alike_eq _ _ _ _ hm (by rw [ba_len]; exact him) H.out (.inr (.inr (by rw [b1, b2]; exact h3)))
          have hc : ((s[k + m].toNat : Int) == (s[i + m].toNat : Int)) = false := by rw [byte_eq]; simpa using h3
          clear h3 H b1 b2
          go_wp2_with fail
          go_quiet (fail)
          go_wp2
          go_ret
          exact ⟨ret_int (by rw [E.out]), _, World.drewN_drewN _ _ _⟩
      · have E : Hid (alike s.data.toList k i = m) := alike_eq _ _ _ _ hm (by rw [ba_len]; exact him) H.out (.inr (.inl (by rw [ba_len]; omega)))
        have g1 : (m : Int) < 131 := by omega
        have g2 : decide ((i : Int) + m < s.size) = false := by simp; omega
        clear H
        go_wp2_with fail
        go_quiet (fail)
        go_wp2
        go_ret
        exact ⟨ret_int (by rw [E.out]), _, World.drewN_drewN _ _ _⟩
    · have E : Hid (alike s.data.toList k i = m) := alike_eq _ _ _ _ hm (by rw [ba_len]; exact him) H.out (.inl (by omega))
      have g1 : decide ((m : Int) < 131) = false := by simp; omega
      clear H
      go_wp2_with fail
      go_quiet (fail)
      go_wp2
      go_ret
      exact ⟨ret_int (by rw [E.out]), _, World.drewN_drewN _ _ _⟩

set_option maxHeartbeats 800000 in
set_option maxRecDepth 4000 in
theorem same_any (s : ByteArray) (i d : Nat) (w : World) (hs : s.size ≤ maxLen) (hi : i ≤ s.size) (hd : 1 ≤ d) (hdi : d ≤ i) :
    Calls Try.prog 30 #[.string s, .int .i64 i, .int .i64 d] w fun e w' => e = .returned (.int .i64 (alike s.data.toList (i - d) i)) ∧ ∃ n, w' = w.drewN n := by
  unfold maxLen at hs
  go_enter Try.func30, Try.ntmps30
  go_wp2
  go_loopw [7] (fun n wr => ∃ m q : Nat, n = .int .i64 m ∧ m ≤ 131 ∧ i + m ≤ s.size ∧ wr = w.drewN q ∧ Hid (∀ j, j < m → bat s.data.toList (i - d + j) = bat s.data.toList (i + j))) (fun n _ => 131 - (intOf n).toNat)
  case atStart => exact ⟨0, 0, rfl, by omega, by omega, rfl, fun j hj => by omega⟩
  case round =>
    obtain ⟨m, q, rfl, hm, him, rfl, H⟩ := hrel
    by_cases h1 : m < 131
    · by_cases h2 : i + m < s.size
      · obtain ⟨K, hK⟩ : ∃ K, i - d + m = K := ⟨_, rfl⟩
        have h4 : K < s.size := by omega
        have b1 := bat_ba s K h4
        have b2 := bat_ba s (i + m) h2
        have g1 : (m : Int) < 131 := by omega
        have i1 : (i : Int) + m < s.size := by omega
        have j1 : (0 : Int) ≤ (i : Int) + m := by omega
        have e1 : ((i : Int) + m).toNat = i + m := by omega
        have w1 : IntKind.i64.wrap ((s.size : Int) - i) = s.size - i := IntWalk.i64_in _ (by omega)
        have w3 : IntKind.i64.wrap ((i : Int) + m) = i + m := IntWalk.i64_in _ (by omega)
        have w2 : IntKind.i64.wrap ((i : Int) + m - d) = K := by rw [IntWalk.i64_in _ (by omega)]; omega
        obtain ⟨M, mn, hM⟩ : ∃ M : Int, (if (131 : Int) < s.size - i then 131 else (s.size : Int) - i) = M ∧ (m : Int) < M := ⟨((min (s.size - i) 131 : Nat) : Int), by split <;> omega, by omega⟩
        have gm : (m : Int) < M := by omega
        clear hM
        by_cases h3 : s[K] = s[i + m]
        · have B := same_more H.out (by rw [hK, b1, b2]; exact h3)
          have B' : Hid (∀ j, j < m + 1 → bat s.data.toList (i - d + j) = bat s.data.toList (i + j)) := B
          have hc : ((s[i + m].toNat : Int) == (s[K].toNat : Int)) = true := by rw [byte_eq]; simpa using h3.symm
          clear h3 B H b1 b2 hK
          go_wp2_with fail
          go_quiet (fail)
          go_wp2
          go_roundw
          case rel => exact ⟨m + 1, _, by go_num, by omega, by omega, rfl, B'⟩
          case measure => simp [intOf]; omega
        · have E : Hid (alike s.data.toList (i - d) i = m) := alike_eq _ _ _ _ hm (by rw [ba_len]; exact him) H.out (.inr (.inr (by rw [hK, b1, b2]; exact h3)))
          have hc : ((s[i + m].toNat : Int) == (s[K].toNat : Int)) = false := by rw [byte_eq]; simpa using fun h => h3 h.symm
          clear h3 H b1 b2 hK
          go_wp2_with fail
          go_quiet (fail)
          go_wp2
          go_ret
          exact ⟨ret_int (by rw [E.out]), _, World.drewN_drewN _ _ _⟩
      · have E : Hid (alike s.data.toList (i - d) i = m) := alike_eq _ _ _ _ hm (by rw [ba_len]; exact him) H.out (.inr (.inl (by rw [ba_len]; omega)))
        have w1 : IntKind.i64.wrap ((s.size : Int) - i) = s.size - i := IntWalk.i64_in _ (by omega)
        obtain ⟨M, mn, hM⟩ : ∃ M : Int, (if (131 : Int) < s.size - i then 131 else (s.size : Int) - i) = M ∧ ¬ (m : Int) < M := ⟨((min (s.size - i) 131 : Nat) : Int), by split <;> omega, by omega⟩
        have g2 : decide ((m : Int) < M) = false := by simp; omega
        clear H hM h1 h2
        go_wp2_with fail
        go_quiet (fail)
        go_wp2
        go_ret
        exact ⟨ret_int (by rw [E.out]), _, World.drewN_drewN _ _ _⟩
    · have E : Hid (alike s.data.toList (i - d) i = m) := alike_eq _ _ _ _ hm (by rw [ba_len]; exact him) H.out (.inl (by omega))
      have w1 : IntKind.i64.wrap ((s.size : Int) - i) = s.size - i := IntWalk.i64_in _ (by omega)
      obtain ⟨M, mn, hM⟩ : ∃ M : Int, (if (131 : Int) < s.size - i then 131 else (s.size : Int) - i) = M ∧ ¬ (m : Int) < M := ⟨((min (s.size - i) 131 : Nat) : Int), by split <;> omega, by omega⟩
      have g2 : decide ((m : Int) < M) = false := by simp; omega
      clear H hM h1
      go_wp2_with fail
      go_quiet (fail)
      go_wp2
      go_ret
      exact ⟨ret_int (by rw [E.out]), _, World.drewN_drewN _ _ _⟩

set_option maxHeartbeats 800000 in
theorem longest_any (s : ByteArray) (i : Nat) (w : World) (hs : s.size ≤ maxLen) (hi : i ≤ s.size) :
    Calls Try.prog 19 #[.string s, .int .i64 i] w fun e w' => e = .returned (.tuple #[.int .i64 (best s.data.toList i).1, .int .i64 (best s.data.toList i).2]) ∧ ∃ n, w' = w.drewN n := by
  have hm := hs
  unfold maxLen at hs
  go_enter Try.func19, Try.ntmps19
  go_wp2
  go_loopw [4, 5, 6] (fun a b d wr => ∃ m q : Nat, d = .int .i64 (m + 1 : Nat) ∧ m ≤ min i 255 ∧ wr = w.drewN q ∧ a = .int .i64 (bestGo s.data.toList i m).1 ∧ b = .int .i64 (bestGo s.data.toList i m).2) (fun _ _ d _ => i + 1 - (intOf d).toNat)
  case atStart => exact ⟨0, 0, rfl, by omega, rfl, rfl, rfl⟩
  case round =>
    obtain ⟨m, q, rfl, hmi, rfl, rfl, rfl⟩ := hrel
    obtain ⟨M, mn, hM⟩ : ∃ M : Int, (if (255 : Int) < i then 255 else (i : Int)) = M ∧ M = ((min i 255 : Nat) : Int) := ⟨((min i 255 : Nat) : Int), by split <;> omega, rfl⟩
    have HM : Hid (M = ((min i 255 : Nat) : Int)) := hM
    clear hM
    have e : ((m + 1 : Nat) : Int) = (m : Int) + 1 := by omega
    by_cases h : m < min i 255
    · have G := bestGo.eq_2 s.data.toList i m
      have HG : Hid (bestGo s.data.toList i (m + 1) = if (bestGo s.data.toList i m).1 < alike s.data.toList (i - (m + 1)) i then (alike s.data.toList (i - (m + 1)) i, m + 1) else bestGo s.data.toList i m) := G
      clear G
      have hc := same_any s i (m + 1) (w.drewN q) hm hi (by omega) (by omega)
      generalize alike s.data.toList (i - (m + 1)) i = n at hc HG
      rw [e] at hc ⊢
      have HC := hid hc
      have gm : (m : Int) + 1 ≤ M := by have := HM.out; omega
      clear hc e h hmi
      go_wp2_with fail
      refine HC.out.mono ?_
      rintro _ _ ⟨rfl, q', rfl⟩
      by_cases hlt : (bestGo s.data.toList i m).1 < n
      · have gl : ((bestGo s.data.toList i m).1 : Int) < n := by omega
        have E : Hid (bestGo s.data.toList i (m + 1) = (n, m + 1)) := by show _ = _; rw [HG.out, if_pos hlt]
        clear hlt HG HC
        go_wp2
        go_roundw
        case rel => exact ⟨m + 1, _, by go_num, by have := HM.out; omega, rfl, by rw [E.out], by rw [E.out]; go_num⟩
        case measure => have := HM.out; simp [intOf]; omega
      · have gl : ¬ ((bestGo s.data.toList i m).1 : Int) < n := by omega
        have E : Hid (bestGo s.data.toList i (m + 1) = bestGo s.data.toList i m) := by show _ = _; rw [HG.out, if_neg hlt]
        clear hlt HG HC
        go_wp2
        go_roundw
        case rel => exact ⟨m + 1, _, by go_num, by have := HM.out; omega, rfl, by rw [E.out], by rw [E.out]⟩
        case measure => have := HM.out; simp [intOf]; omega
    · have gm : ¬ (m : Int) + 1 ≤ M := by have := HM.out; omega
      have eb : Hid (bestGo s.data.toList i m = best s.data.toList i) := by show _ = _; rw [best, show min i 255 = m by omega]
      rw [e]
      clear e h hmi
      go_wp2_with fail
      go_ret2
      exact ⟨by rw [← eb.out]; rfl, _, rfl⟩
end Go.Proofs.Ytlndioefemdpjaa
