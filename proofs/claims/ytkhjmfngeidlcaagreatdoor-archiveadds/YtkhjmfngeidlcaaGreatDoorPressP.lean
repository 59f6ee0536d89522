/- Joined texts: PressAlike, PressPlain, PressRef, PressClosure, PressPack. -/
import Derived.Test.YtkhjmfngeidlcaaGreatDoorRows
import Derived.Test.YtkhjmfngeidlcaaGreatDoorPureB
import Derived.WalkKit
import Derived.WalkLawsBesides
import Derived.Laws.IdiomStrings
import Derived.Deep.QuietTactic
import Derived.BigQuiet
import Derived.Test.YtkhjmfngeidlcaaGreatDoorMem
import Derived.Deep.RegionWith
import Derived.WalkSmall
/- How many bytes are alike: the program's sameBytes and longestPiece, the document's alike. -/
namespace Go.Proofs.YtkhjmfngeidlcaaGreatDoor
open Go.RowKit

/-- One place further: what holds up to it, and where it ends. -/
theorem same_more {l : List UInt8} {k i m : Nat} (ha : ∀ j, j < m → bat l (k + j) = bat l (i + j)) (h : bat l (k + m) = bat l (i + m)) : ∀ j, j < m + 1 → bat l (k + j) = bat l (i + j) := fun j hj => by
  rcases Nat.lt_succ_iff_lt_or_eq.1 hj with h' | rfl
  · exact ha j h'
  · exact h

set_option maxHeartbeats 800000 in
set_option maxRecDepth 4000 in
theorem alike_any (s : ByteArray) (k i : Nat) (w : World) (hs : s.size ≤ maxLen) (hi : i ≤ s.size) (hk : k < i) :
    Calls Tryz.prog 52 #[.string s, .int .i64 k, .int .i64 i] w fun e w' => e = .returned (.int .i64 (alike s.data.toList k i)) ∧ ∃ n, w' = w.drewN n := by
  unfold maxLen at hs
  go_enter Tryz.func52, Tryz.ntmps52
  go_wp2
  go_loopw [7] (fun n wr => ∃ m q : Nat, n = .int .i64 m ∧ m ≤ 131 ∧ i + m ≤ s.size ∧ wr = w.drewN q ∧ Hid (∀ j, j < m → bat s.data.toList (k + j) = bat s.data.toList (i + j))) (fun n _ => 131 - (intOf n).toNat)
  case atStart => exact ⟨0, 0, rfl, by omega, by omega, rfl, fun j hj => by omega⟩
  case round =>
    obtain ⟨m, q, rfl, hm, him, rfl, H⟩ := hrel
    by_cases h1 : m < 131
    · by_cases h2 : i + m < s.size
      · have h4 : k + m < s.size := by omega
        have b1 := bat_ba s (k + m) h4
        have b2 := bat_ba s (i + m) h2
        have g1 : (m : Int) < 131 := by omega
        have i1 : (i : Int) + m < s.size := by omega
        have i2 : (k : Int) + m < s.size := by omega
        have j1 : (0 : Int) ≤ (i : Int) + m := by omega
        have j2 : (0 : Int) ≤ (k : Int) + m := by omega
        have e1 : ((i : Int) + m).toNat = i + m := by omega
        have e2 : ((k : Int) + m).toNat = k + m := by omega
        by_cases h3 : s[k + m] = s[i + m]
        · have B := same_more H.out (by rw [b1, b2]; exact h3)
          have B' : Hid (∀ j, j < m + 1 → bat s.data.toList (k + j) = bat s.data.toList (i + j)) := B
          have hc : ((s[k + m].toNat : Int) == (s[i + m].toNat : Int)) = true := by rw [byte_eq]; simpa using h3
          clear h3 B H b1 b2
          go_wp2_with fail
          go_quiet (fail)
          go_wp2
          go_roundw
          case rel => exact ⟨m + 1, _, by go_num, by omega, by omega, rfl, B'⟩
          case measure => simp [intOf]; omega
        · have E : Hid (alike s.data.toList k i = m) := alike_eq _ _ _ _ hm (by rw [ba_len]; exact him) H.out (.inr (.inr (by rw [b1, b2]; exact h3)))
          have hc : ((s[k + m].toNat : Int) == (s[i + m].toNat : Int)) = false := by rw [byte_eq]; simpa using h3
          clear h3 H b1 b2
          go_wp2_with fail
          go_quiet (fail)
          go_wp2
          go_ret
          exact ⟨ret_int (by rw [E.out]), _, World.drewN_drewN _ _ _⟩
      · have E : Hid (alike s.data.toList k i = m) := alike_eq _ _ _ _ hm (by rw [ba_len]; exact him) H.out (.inr (.inl (by rw [ba_len]; omega)))
        have g1 : (m : Int) < 131 := by omega
        have g2 : decide ((i : Int) + m < s.size) = false := by simp; omega
        clear H
        go_wp2_with fail
        go_quiet (fail)
        go_wp2
        go_ret
        exact ⟨ret_int (by rw [E.out]), _, World.drewN_drewN _ _ _⟩
    · have E : Hid (alike s.data.toList k i = m) := alike_eq _ _ _ _ hm (by rw [ba_len]; exact him) H.out (.inl (by omega))
      have g1 : decide ((m : Int) < 131) = false := by simp; omega
      clear H
      go_wp2_with fail
      go_quiet (fail)
      go_wp2
      go_ret
      exact ⟨ret_int (by rw [E.out]), _, World.drewN_drewN _ _ _⟩

set_option maxHeartbeats 800000 in
set_option maxRecDepth 4000 in
theorem same_any (s : ByteArray) (i d : Nat) (w : World) (hs : s.size ≤ maxLen) (hi : i ≤ s.size) (hd : 1 ≤ d) (hdi : d ≤ i) :
    Calls Tryz.prog 70 #[.string s, .int .i64 i, .int .i64 d] w fun e w' => e = .returned (.int .i64 (alike s.data.toList (i - d) i)) ∧ ∃ n, w' = w.drewN n := by
  unfold maxLen at hs
  go_enter Tryz.func70, Tryz.ntmps70
  go_wp2
  go_loopw [7] (fun n wr => ∃ m q : Nat, n = .int .i64 m ∧ m ≤ 131 ∧ i + m ≤ s.size ∧ wr = w.drewN q ∧ Hid (∀ j, j < m → bat s.data.toList (i - d + j) = bat s.data.toList (i + j))) (fun n _ => 131 - (intOf n).toNat)
  case atStart => exact ⟨0, 0, rfl, by omega, by omega, rfl, fun j hj => by omega⟩
  case round =>
    obtain ⟨m, q, rfl, hm, him, rfl, H⟩ := hrel
    by_cases h1 : m < 131
    · by_cases h2 : i + m < s.size
      · obtain ⟨K, hK⟩ : ∃ K, i - d + m = K := ⟨_, rfl⟩
        have h4 : K < s.size := by omega
        have b1 := bat_ba s K h4
        have b2 := bat_ba s (i + m) h2
        have g1 : (m : Int) < 131 := by omega
        have i1 : (i : Int) + m < s.size := by omega
        have j1 : (0 : Int) ≤ (i : Int) + m := by omega
        have e1 : ((i : Int) + m).toNat = i + m := by omega
        have w1 : IntKind.i64.wrap ((s.size : Int) - i) = s.size - i := IntWalk.i64_in _ (by omega)
        have w3 : IntKind.i64.wrap ((i : Int) + m) = i + m := IntWalk.i64_in _ (by omega)
        have w2 : IntKind.i64.wrap ((i : Int) + m - d) = K := by rw [IntWalk.i64_in _ (by omega)]; omega
        obtain ⟨M, mn, hM⟩ : ∃ M : Int, (if (131 : Int) < s.size - i then 131 else (s.size : Int) - i) = M ∧ (m : Int) < M := ⟨((min (s.size - i) 131 : Nat) : Int), by split <;> omega, by omega⟩
        have gm : (m : Int) < M := by omega
        clear hM
        by_cases h3 : s[K] = s[i + m]
        · have B := same_more H.out (by rw [hK, b1, b2]; exact h3)
          have B' : Hid (∀ j, j < m + 1 → bat s.data.toList (i - d + j) = bat s.data.toList (i + j)) := B
          have hc : ((s[i + m].toNat : Int) == (s[K].toNat : Int)) = true := by rw [byte_eq]; simpa using h3.symm
          clear h3 B H b1 b2 hK
          go_wp2_with fail
          go_quiet (fail)
          go_wp2
          go_roundw
          case rel => exact ⟨m + 1, _, by go_num, by omega, by omega, rfl, B'⟩
          case measure => simp [intOf]; omega
        · have E : Hid (alike s.data.toList (i - d) i = m) := alike_eq _ _ _ _ hm (by rw [ba_len]; exact him) H.out (.inr (.inr (by rw [hK, b1, b2]; exact h3)))
          have hc : ((s[i + m].toNat : Int) == (s[K].toNat : Int)) = false := by rw [byte_eq]; simpa using fun h => h3 h.symm
          clear h3 H b1 b2 hK
          go_wp2_with fail
          go_quiet (fail)
          go_wp2
          go_ret
          exact ⟨ret_int (by rw [E.out]), _, World.drewN_drewN _ _ _⟩
      · have E : Hid (alike s.data.toList (i - d) i = m) := alike_eq _ _ _ _ hm (by rw [ba_len]; exact him) H.out (.inr (.inl (by rw [ba_len]; omega)))
        have w1 : IntKind.i64.wrap ((s.size : Int) - i) = s.size - i := IntWalk.i64_in _ (by omega)
        obtain ⟨M, mn, hM⟩ : ∃ M : Int, (if (131 : Int) < s.size - i then 131 else (s.size : Int) - i) = M ∧ ¬ (m : Int) < M := ⟨((min (s.size - i) 131 : Nat) : Int), by split <;> omega, by omega⟩
        have g2 : decide ((m : Int) < M) = false := by simp; omega
        clear H hM h1 h2
        go_wp2_with fail
        go_quiet (fail)
        go_wp2
        go_ret
        exact ⟨ret_int (by rw [E.out]), _, World.drewN_drewN _ _ _⟩
    · have E : Hid (alike s.data.toList (i - d) i = m) := alike_eq _ _ _ _ hm (by rw [ba_len]; exact him) H.out (.inl (by omega))
      have w1 : IntKind.i64.wrap ((s.size : Int) - i) = s.size - i := IntWalk.i64_in _ (by omega)
      obtain ⟨M, mn, hM⟩ : ∃ M : Int, (if (131 : Int) < s.size - i then 131 else (s.size : Int) - i) = M ∧ ¬ (m : Int) < M := ⟨((min (s.size - i) 131 : Nat) : Int), by split <;> omega, by omega⟩
      have g2 : decide ((m : Int) < M) = false := by simp; omega
      clear H hM h1
      go_wp2_with fail
      go_quiet (fail)
      go_wp2
      go_ret
      exact ⟨ret_int (by rw [E.out]), _, World.drewN_drewN _ _ _⟩

set_option maxHeartbeats 800000 in
theorem longest_any (s : ByteArray) (i : Nat) (w : World) (hs : s.size ≤ maxLen) (hi : i ≤ s.size) :
    Calls Tryz.prog 40 #[.string s, .int .i64 i] w fun e w' => e = .returned (.tuple #[.int .i64 (best s.data.toList i).1, .int .i64 (best s.data.toList i).2]) ∧ ∃ n, w' = w.drewN n := by
  have hm := hs
  unfold maxLen at hs
  go_enter Tryz.func40, Tryz.ntmps40
  go_wp2
  go_loopw [4, 5, 6] (fun a b d wr => ∃ m q : Nat, d = .int .i64 (m + 1 : Nat) ∧ m ≤ min i 255 ∧ wr = w.drewN q ∧ a = .int .i64 (bestGo s.data.toList i m).1 ∧ b = .int .i64 (bestGo s.data.toList i m).2) (fun _ _ d _ => i + 1 - (intOf d).toNat)
  case atStart => exact ⟨0, 0, rfl, by omega, rfl, rfl, rfl⟩
  case round =>
    obtain ⟨m, q, rfl, hmi, rfl, rfl, rfl⟩ := hrel
    obtain ⟨M, mn, hM⟩ : ∃ M : Int, (if (255 : Int) < i then 255 else (i : Int)) = M ∧ M = ((min i 255 : Nat) : Int) := ⟨((min i 255 : Nat) : Int), by split <;> omega, rfl⟩
    have HM : Hid (M = ((min i 255 : Nat) : Int)) := hM
    clear hM
    have e : ((m + 1 : Nat) : Int) = (m : Int) + 1 := by omega
    by_cases h : m < min i 255
    · have G := bestGo.eq_2 s.data.toList i m
      have HG : Hid (bestGo s.data.toList i (m + 1) = if (bestGo s.data.toList i m).1 < alike s.data.toList (i - (m + 1)) i then (alike s.data.toList (i - (m + 1)) i, m + 1) else bestGo s.data.toList i m) := G
      clear G
      have hc := same_any s i (m + 1) (w.drewN q) hm hi (by omega) (by omega)
      generalize alike s.data.toList (i - (m + 1)) i = n at hc HG
      rw [e] at hc ⊢
      have HC := hid hc
      have gm : (m : Int) + 1 ≤ M := by have := HM.out; omega
      clear hc e h hmi
      go_wp2_with fail
      refine HC.out.mono ?_
      rintro _ _ ⟨rfl, q', rfl⟩
      by_cases hlt : (bestGo s.data.toList i m).1 < n
      · have gl : ((bestGo s.data.toList i m).1 : Int) < n := by omega
        have E : Hid (bestGo s.data.toList i (m + 1) = (n, m + 1)) := by show _ = _; rw [HG.out, if_pos hlt]
        clear hlt HG HC
        go_wp2
        go_roundw
        case rel => exact ⟨m + 1, _, by go_num, by have := HM.out; omega, rfl, by rw [E.out], by rw [E.out]; go_num⟩
        case measure => have := HM.out; simp [intOf]; omega
      · have gl : ¬ ((bestGo s.data.toList i m).1 : Int) < n := by omega
        have E : Hid (bestGo s.data.toList i (m + 1) = bestGo s.data.toList i m) := by show _ = _; rw [HG.out, if_neg hlt]
        clear hlt HG HC
        go_wp2
        go_roundw
        case rel => exact ⟨m + 1, _, by go_num, by have := HM.out; omega, rfl, by rw [E.out], by rw [E.out]⟩
        case measure => have := HM.out; simp [intOf]; omega
    · have gm : ¬ (m : Int) + 1 ≤ M := by have := HM.out; omega
      have eb : Hid (bestGo s.data.toList i m = best s.data.toList i) := by show _ = _; rw [best, show min i 255 = m by omega]
      rw [e]
      clear e h hmi
      go_wp2_with fail
      go_ret2
      exact ⟨by rw [← eb.out]; rfl, _, rfl⟩
end Go.Proofs.YtkhjmfngeidlcaaGreatDoor

/- What the document's own packing answers: plainly, PackedOf. -/
namespace Go.Proofs.YtkhjmfngeidlcaaGreatDoor
open Go.RowKit

set_option maxHeartbeats 1600000 in
set_option maxRecDepth 4000 in
theorem plainly_any (k : Nat) : ∀ (s : ByteArray) (w : World), s.size ≤ k → s.size ≤ 600 →
    Calls Tryz.prog 53 #[.string s] w fun e w' => e = .returned (.string (str (plainly s.data.toList))) ∧ Below w.heap.size w w' := by
  induction k with
  | zero =>
    intro s w hk h6
    have h0 : ((s.size : Int) == 0) = true := beq_iff_eq.2 (by omega)
    have E : Hid (plainly s.data.toList = []) := by show _ = _; rw [plainly_eq, if_pos (by rw [ba_len]; omega)]
    clear hk h6
    go_enter Tryz.func53, Tryz.ntmps53
    go_wp2_with fail
    go_ret
    exact ⟨ret_str (by rw [E.out]; rfl), Below.refl _ _⟩
  | succ k ih =>
    intro s w hk h6
    by_cases h0 : s.size = 0
    · have h0 : ((s.size : Int) == 0) = true := beq_iff_eq.2 (by omega)
      have E : Hid (plainly s.data.toList = []) := by show _ = _; rw [plainly_eq, if_pos (by rw [ba_len]; omega)]
      clear hk h6
      go_enter Tryz.func53, Tryz.ntmps53
      go_wp2_with fail
      go_ret
      exact ⟨ret_str (by rw [E.out]; rfl), Below.refl _ _⟩
    · have h0' : ((s.size : Int) == 0) = false := beq_eq_false_iff_ne.2 (by omega)
      obtain ⟨n, hn⟩ : ∃ n, n = min s.size 128 := ⟨_, rfl⟩
      have hN := conv_at1 ((n : Int) - 1) (by omega) (by omega)
      have E : Hid (str (plainly s.data.toList) = str [byt ((n : Int) - 1)] ++ s.extract 0 n ++ str (plainly (s.extract n s.size).data.toList)) := by
        show _ = _
        rw [ext_str s 0 n, str_app, str_app, ext_list, plainly_eq, if_neg (by rw [ba_len]; exact h0), ba_len, ← hn]
        have e1 : s.data.toList.take 128 = cut s.data.toList 0 n := by rw [cut, List.drop_zero, hn, ← ba_len s, Nat.min_comm, List.take_eq_take_iff]; simp
        have e2 : s.data.toList.drop 128 = cut s.data.toList n s.size := by
          rw [cut, ← ba_len s, List.take_length, hn, ← ba_len s]
          by_cases h : s.data.toList.length ≤ 128
          · rw [Nat.min_eq_left h, List.drop_length, List.drop_eq_nil_of_le h]
          · rw [Nat.min_eq_right (by omega)]
        rw [e1, e2]; simp
      have hx := fun wx => ih (s.extract n s.size) wx (by rw [ext_size _ _ _ (Nat.le_refl _)]; omega) (by rw [ext_size _ _ _ (Nat.le_refl _)]; omega)
      have hl : (str (plainly (s.extract n s.size).data.toList)).size ≤ 1300 := by rw [str_size, plainly_length, ba_len, ext_size _ _ _ (Nat.le_refl _)]; omega
      have hl2 : (s.extract 0 n).size ≤ 600 := by rw [ext_size _ _ _ (by omega)]; omega
      generalize str (plainly (s.extract n s.size).data.toList) = R at hx hl E
      have ha1 : ∀ wx, (Op.stringOp .add (str [byt ((n : Int) - 1)]) (s.extract 0 n)).run Tryz.prog wx = .ok (.string (str [byt ((n : Int) - 1)] ++ s.extract 0 n)) wx := fun wx => run_string_add_sum wx _ _ (by rw [str_size]; simp; omega)
      have ha2 : ∀ wx, (Op.stringOp .add (str [byt ((n : Int) - 1)] ++ s.extract 0 n) R).run Tryz.prog wx = .ok (.string (str [byt ((n : Int) - 1)] ++ s.extract 0 n ++ R)) wx := fun wx => run_string_add_sum wx _ _ (by rw [ByteArray.size_append, str_size]; simp; omega)
      clear hl hl2
      have HX := hid hx
      clear hx ih
      by_cases hbig : 128 < s.size
      · have hb' : (128 : Int) < s.size := by omega
        obtain rfl : n = 128 := by omega
        have u1 : IntKind.i64.wrap 127 = 127 := rfl
        have u2 : IntKind.u8.wrap 127 = 127 := rfl
        clear hn h0 hk h6
        rw [show (((128 : Nat) : Int) - 1) = 127 from rfl] at *
        go_enter Tryz.func53, Tryz.ntmps53
        go_wp2_with fail
        go_region_with (go_at_call 53; refine (HX.out _).mono ?_; rintro _ _ ⟨rfl, hb⟩; obtain ⟨hc, hf⟩ := bcell hb)
        all_goals go_wp2
        all_goals go_ret
        all_goals refine ⟨ret_str E.out.symm, ?_⟩
        all_goals first
          | exact (((Below.refl _ _).alloc (Nat.le_refl _) _).drew).trans (hb.mono (by simp))
          | exact (((Below.refl _ _).drew).trans hb).alloc (by have := hb.size; simpa using this) _
      · obtain rfl : n = s.size := by omega
        have hb' : ¬ (128 : Int) < s.size := by omega
        have u1 : IntKind.i64.wrap ((s.size : Int) - 1) = s.size - 1 := IntWalk.i64_in _ (by omega)
        have u2 : IntKind.u8.wrap ((s.size : Int) - 1) = s.size - 1 := by rw [IntKind.wrap_u8]; omega
        have e0 : s.extract 0 s.size = s := by simp
        have e9 : s.extract s.size s.size = ByteArray.empty := by simp
        rw [e0] at ha1 ha2 E
        rw [e9] at HX
        clear hn h0 hk h6 hbig e0 e9
        go_enter Tryz.func53, Tryz.ntmps53
        go_wp2_with fail
        go_region_with (go_at_call 53; refine (HX.out _).mono ?_; rintro _ _ ⟨rfl, hb⟩; obtain ⟨hc, hf⟩ := bcell hb)
        all_goals go_wp2
        all_goals go_ret
        all_goals refine ⟨ret_str E.out.symm, ?_⟩
        all_goals first
          | exact (((Below.refl _ _).alloc (Nat.le_refl _) _).drew).trans (hb.mono (by simp))
          | exact (((Below.refl _ _).drew).trans hb).alloc (by have := hb.size; simpa using this) _
end Go.Proofs.YtkhjmfngeidlcaaGreatDoor

/- What the document's own packing answers: PackedOf. -/
namespace Go.Proofs.YtkhjmfngeidlcaaGreatDoor
open Go.RowKit

set_option maxHeartbeats 400000 in
theorem packedof_big (s : ByteArray) (w : World) (h : 600 < s.size) :
    Calls Tryz.prog 20 #[.string s] w fun e w' => e = .returned (.tuple #[.string (str []), .int .i64 1]) ∧ Below w.heap.size w w' := by
  have h' : (600 : Int) < s.size := by omega
  go_enter Tryz.func20, Tryz.ntmps20
  go_wp2_with fail
  go_ret2
  exact ⟨rfl, Below.refl _ _⟩

set_option maxHeartbeats 1600000 in
set_option maxRecDepth 4000 in
theorem packedof_any (s : ByteArray) (w : World) (h : s.size ≤ 600) :
    Calls Tryz.prog 20 #[.string s] w fun e w' => e = .returned (.tuple #[.string (str (packed s.data.toList)), .int .i64 0]) ∧ Below w.heap.size w w' := by
  have h' : ¬ (600 : Int) < s.size := by omega
  have hlen := ba_len s
  have HL := hid hlen
  have hp : (packed s.data.toList).length ≤ 1300 := by have := packed_length s.data.toList; omega
  have HP := hid hp
  clear hlen hp
  go_enter Tryz.func20, Tryz.ntmps20
  go_wp2_with fail
  go_loopw [4, 5, 6] (fun o f i wr => ∃ (O : List UInt8) (F I : Nat), o = .string (str O) ∧ f = .int .i64 F ∧ i = .int .i64 I ∧ F ≤ I ∧ I ≤ s.size ∧ Hid (O ++ rest s.data.toList F I = packed s.data.toList) ∧ Below w.heap.size w wr) (fun _ _ i _ => s.size - (intOf i).toNat)
  case atStart => exact ⟨[], 0, 0, rfl, rfl, rfl, Nat.le_refl _, Nat.zero_le _, rfl, Below.refl _ _⟩
  case round =>
    obtain ⟨O, F, I, rfl, rfl, rfl, hFI, hIs, HR, hB⟩ := hrel
    by_cases hlt : I < s.size
    · go_wp2_with fail
      go_loopw [7, 8, 9] (fun a b d wx => ∃ m q : Nat, d = .int .i64 (m + 1 : Nat) ∧ m ≤ min I 255 ∧ wx = wr.drewN q ∧ a = .int .i64 (bestGo s.data.toList I m).1 ∧ b = .int .i64 (bestGo s.data.toList I m).2) (fun _ _ d _ => I + 1 - (intOf d).toNat)
      case atStart => exact ⟨0, 0, rfl, by omega, rfl, rfl, rfl⟩
      case round =>
        obtain ⟨m, q, rfl, hmi, rfl, rfl, rfl⟩ := hrel
        have e : ((m + 1 : Nat) : Int) = (m : Int) + 1 := by omega
        by_cases hm : m < min I 255
        · have G := bestGo.eq_2 s.data.toList I m
          have HG := hid G
          have hc := fun wx => alike_any s (I - (m + 1)) I wx (by unfold maxLen; omega) (by omega) (by omega)
          generalize alike s.data.toList (I - (m + 1)) I = n at hc HG
          rw [show ((I - (m + 1) : Nat) : Int) = (I : Int) - (m + 1) by omega] at hc
          rw [e]
          have HC := hid hc
          have g1 : (m : Int) + 1 ≤ 255 := by omega
          have g2 : (m : Int) + 1 ≤ I := by omega
          clear hc e G
          by_cases hlt2 : (bestGo s.data.toList I m).1 < n
          · have gl : ((bestGo s.data.toList I m).1 : Int) < n := by omega
            have E : Hid (bestGo s.data.toList I (m + 1) = (n, m + 1)) := by show _ = _; rw [HG.out, if_pos hlt2]
            clear hlt2 HG
            go_wp2_with fail
            refine (HC.out _).mono ?_
            rintro _ _ ⟨rfl, q', rfl⟩
            clear HC
            go_wp2
            go_roundw
            case rel => exact ⟨m + 1, _, by go_num, by omega, rfl, by rw [E.out], by rw [E.out]; go_num⟩
            case measure => simp [intOf]; omega
          · have gl : ¬ ((bestGo s.data.toList I m).1 : Int) < n := by omega
            have E : Hid (bestGo s.data.toList I (m + 1) = bestGo s.data.toList I m) := by show _ = _; rw [HG.out, if_neg hlt2]
            clear hlt2 HG
            go_wp2_with fail
            refine (HC.out _).mono ?_
            rintro _ _ ⟨rfl, q', rfl⟩
            clear HC
            go_wp2
            go_roundw
            case rel => exact ⟨m + 1, _, by go_num, by omega, rfl, by rw [E.out], by rw [E.out]⟩
            case measure => simp [intOf]; omega
        · have eb : bestGo s.data.toList I m = best s.data.toList I := by rw [best, show min I 255 = m by omega]
          have hbd := best_bd s.data.toList I (by rw [ba_len]; omega)
          rw [ba_len] at hbd
          have hB' := below_drewN hB q
          rw [eb, e]
          generalize wr.drewN q = wq at hB'
          clear eb e hB
          by_cases h4 : (best s.data.toList I).1 < 4
          · have R := hid (rel_skip HR.out (by rw [ba_len]; exact hlt) h4)
            generalize (best s.data.toList I) = bb at h4
            clear hbd
            have h4' : (bb.1 : Int) < 4 := by omega
            by_cases g : (m : Int) + 1 ≤ 255
            · have g2 : ¬ (m : Int) + 1 ≤ I := by omega
              clear hm hmi
              go_wp2
              go_roundw
              case rel => exact ⟨O, F, I + 1, rfl, rfl, by go_num, by omega, by omega, R, hB'⟩
              case measure => simp [intOf]; omega
            · clear hm hmi
              go_wp2
              go_roundw
              case rel => exact ⟨O, F, I + 1, rfl, rfl, by go_num, by omega, by omega, R, hB'⟩
              case measure => simp [intOf]; omega
          · have R := hid (rel_take HR.out (by rw [ba_len]; exact hlt) (by omega))
            have hP := HP.out
            rw [← R.out] at hP
            generalize (best s.data.toList I) = bb at h4 hbd R hP
            obtain ⟨b1, b2, b3, b4, b5⟩ := hbd
            clear b5 HR
            have hx := fun wx => plainly_any 600 (s.extract F I) wx (by rw [ext_size _ _ _ (by omega)]; omega) (by rw [ext_size _ _ _ (by omega)]; omega)
            rw [ext_list] at hx
            generalize plainly (cut s.data.toList F I) = pp at hx hP R
            simp only [List.length_append] at hP
            have ha1 : ∀ wx, (Op.stringOp .add (str O) (str pp)).run Tryz.prog wx = .ok (.string (str (O ++ pp))) wx := fun wx => by rw [← str_app]; exact run_string_add_sum wx _ _ (by rw [str_size, str_size]; omega)
            have ha2 : ∀ wx, (Op.stringOp .add (str (O ++ pp)) (str [byt (124 + bb.1), byt bb.2])).run Tryz.prog wx = .ok (.string (str (O ++ pp ++ [byt (124 + bb.1), byt bb.2]))) wx := fun wx => by rw [← str_app]; exact run_string_add_sum wx _ _ (by rw [str_app, str_size, str_size, List.length_append]; simp; omega)
            have hcv := conv_at2 (124 + bb.1) bb.2 (by omega) (by omega) (by omega) (by omega)
            have u1 : IntKind.i64.wrap (124 + (bb.1 : Int)) = 124 + bb.1 := IntWalk.i64_in _ (by omega)
            have u2 : IntKind.u8.wrap (124 + (bb.1 : Int)) = 124 + bb.1 := by rw [IntKind.wrap_u8]; omega
            have u3 : IntKind.u8.wrap (bb.2 : Int) = bb.2 := by rw [IntKind.wrap_u8]; omega
            have f1 : (F : Int) ≤ I := by omega
            have f2 : (I : Int) ≤ s.size := by omega
            have HX := hid hx
            clear hx hP
            have h4' : ¬ (bb.1 : Int) < 4 := by omega
            by_cases g : (m : Int) + 1 ≤ 255
            · have g2 : ¬ (m : Int) + 1 ≤ I := by omega
              clear hm hmi h4
              go_wp2_with fail
              go_region_with (go_at_call 53; refine (HX.out _).mono ?_; rintro _ _ ⟨rfl, hb⟩; obtain ⟨hc, hf⟩ := bcell hb)
              all_goals
                go_wp2
                go_roundw
                case rel =>
                  refine ⟨O ++ pp ++ [byt (124 + bb.1), byt bb.2], I + bb.1, I + bb.1, by rw [List.append_assoc], by go_num, by go_num, Nat.le_refl _, by omega, R, ?_⟩
                  first
                    | exact ((hB'.alloc hB'.size _).drew).trans (hb.mono (by have := hB'.size; simp; omega))
                    | exact ((hB'.drew).trans (hb.mono hB'.size)).alloc (by have := hb.size; have := hB'.size; simp at *; omega) _
                case measure => simp [intOf]; omega
            · clear hm hmi h4
              go_wp2_with fail
              go_region_with (go_at_call 53; refine (HX.out _).mono ?_; rintro _ _ ⟨rfl, hb⟩; obtain ⟨hc, hf⟩ := bcell hb)
              all_goals
                go_wp2
                go_roundw
                case rel =>
                  refine ⟨O ++ pp ++ [byt (124 + bb.1), byt bb.2], I + bb.1, I + bb.1, by rw [List.append_assoc], by go_num, by go_num, Nat.le_refl _, by omega, R, ?_⟩
                  first
                    | exact ((hB'.alloc hB'.size _).drew).trans (hb.mono (by have := hB'.size; simp; omega))
                    | exact ((hB'.drew).trans (hb.mono hB'.size)).alloc (by have := hb.size; have := hB'.size; simp at *; omega) _
                case measure => simp [intOf]; omega
    · have R := rel_end HR.out (by rw [ba_len]; omega)
      have hx := plainly_any 600 (s.extract F s.size) wr (by rw [ext_size _ _ _ (Nat.le_refl _)]; omega) (by rw [ext_size _ _ _ (Nat.le_refl _)]; omega)
      rw [ext_list] at hx
      rw [HL.out] at R
      have hP := HP.out
      rw [← R] at hP
      have R' := hid R
      generalize plainly (cut s.data.toList F s.size) = pp at hx hP R'
      have ha : ∀ wx, (Op.stringOp .add (str O) (str pp)).run Tryz.prog wx = .ok (.string (str O ++ str pp)) wx := fun wx => run_string_add_sum wx _ _ (by rw [str_size, str_size]; simp at hP; omega)
      have HX := hid hx
      clear hx R hP
      go_wp2_with fail
      refine HX.out.mono ?_
      rintro _ w1 ⟨rfl, hb⟩
      clear HX
      go_wp2
      go_ret2
      exact ⟨ret_si (by rw [str_app, R'.out]), hB.trans (hb.mono hB.size)⟩
end Go.Proofs.YtkhjmfngeidlcaaGreatDoor

/- What the program's closure in Pack does: bytes as they are are written behind those that are there. -/
namespace Go.Proofs.YtkhjmfngeidlcaaGreatDoor
open Go.RowKit Go.Lib

/-- The three variables that the closure shares: the text in block B, the bytes that were written in block B + 1, how far in block B + 2. -/
structure PInv (B : Nat) (s : ByteArray) (v : Value) (O : List UInt8) (F : Nat) (w : World) : Prop where
  txt : w.heap[B]? = some (.cells #[.string s] 9 (0, 0))
  out : w.heap[B + 1]? = some (.cells #[v] 75 (0, 0))
  far : w.heap[B + 2]? = some (.cells #[.int .i64 F] 3 (0, 0))
  own : ownsB w (B + 3) v O

section
variable {B F : Nat} {s : ByteArray} {v v' : Value} {O O' : List UInt8} {w w0 w1 : World}
theorem PInv.size (h : PInv B s v O F w) : B + 3 ≤ w.heap.size := by have := lt_of_block h.far; omega
theorem PInv.drew (h : PInv B s v O F w) : PInv B s v O F w.drew := ⟨h.txt, h.out, h.far, h.own⟩
theorem PInv.drewN (h : PInv B s v O F w) (n : Nat) : PInv B s v O F (w.drewN n) := ⟨h.txt, h.out, h.far, h.own⟩
theorem PInv.alloc (h : PInv B s v O F w) (o : Obj) : PInv B s v O F (w.alloc o) := by
  have := h.size
  exact ⟨(Below.heap_alloc _ _ _ (by omega)).trans h.txt, (Below.heap_alloc _ _ _ (by omega)).trans h.out, (Below.heap_alloc _ _ _ (by omega)).trans h.far, World.ownsRow.alloc h.own o⟩
theorem ownBlock_ge (h : PInv B s v O F w) : ∀ k, v.ownBlock = some k → B + 3 ≤ k := fun k hk => (World.ownsRow.lt h.own k hk).1
/-- Behind an append and the store of what it answers. -/
theorem PInv.store (h : PInv B s v O F w) (hg : w.grownBy w1 v.ownBlock) (hown : ownsB w1 (B + 3) v' O') : PInv B s v' O' F (w1.setCell ⟨B + 1, 0, none⟩ v') := by
  have hs := h.size
  have hb : ∀ k, k < B + 3 → w1.heap[k]? = w.heap[k]? := fun k hk => hg.block k (by omega) (fun e => by have := ownBlock_ge h k e.symm; omega)
  refine ⟨?_, one_setCell ((hb _ (by omega)).trans h.out), ?_, ownsRow_setCell_below hown (by show B + 1 < B + 3; omega) _⟩
  · exact (Below.heap_setCell _ _ _ _ (by show B ≠ B + 1; omega)).trans ((hb _ (by omega)).trans h.txt)
  · exact (Below.heap_setCell _ _ _ _ (by show B + 2 ≠ B + 1; omega)).trans ((hb _ (by omega)).trans h.far)
theorem PInv.later (h : PInv B s v O F w) (hg : w.grownBy w1 v.ownBlock) : w1.cell? ⟨B + 1, 0, none⟩ = some v ∧ w1.frozen? ⟨B + 1, 0, none⟩ = false := by
  have hb : w1.heap[B + 1]? = w.heap[B + 1]? := hg.block _ (by have := h.size; omega) (fun e => by have := ownBlock_ge h _ e.symm; omega)
  exact ⟨cell_of_one (hb.trans h.out), free_of_one (hb.trans h.out)⟩
theorem PInv.later2 (h : PInv B s v O F w) (hg : w.grownBy w1 v.ownBlock) : w1.cell? ⟨B + 1 + 1, 0, none⟩ = some (.int .i64 F) ∧ w1.frozen? ⟨B + 1 + 1, 0, none⟩ = false := by
  have hb : w1.heap[B + 2]? = w.heap[B + 2]? := hg.block _ (by have := h.size; omega) (fun e => by have := ownBlock_ge h _ e.symm; omega)
  exact ⟨cell_of_one (hb.trans h.far), free_of_one (hb.trans h.far)⟩
theorem PInv.below (h : PInv B s v O F w) (hb : Below B w0 w) (hg : w.grownBy w1 v.ownBlock) : Below B w0 (w1.setCell ⟨B + 1, 0, none⟩ v') :=
  (hb.grown hg (by have := h.size; omega) (fun k hk => by have := ownBlock_ge h k hk; omega)).setCell (by show B ≤ B + 1; omega) _
theorem PInv.go (h : PInv B s v O F w) (F' : Nat) : PInv B s v O F' (w.setCell ⟨B + 2, 0, none⟩ (.int .i64 F')) := by
  refine ⟨?_, ?_, one_setCell h.far, ownsRow_setCell_below h.own (by show B + 2 < B + 3; omega) _⟩
  · exact (Below.heap_setCell _ _ _ _ (by show B ≠ B + 2; omega)).trans h.txt
  · exact (Below.heap_setCell _ _ _ _ (by show B + 1 ≠ B + 2; omega)).trans h.out
end

theorem cut_cut (l : List UInt8) (F E n : Nat) (hE : E ≤ l.length) (hF : F ≤ E) (hn : n = min (E - F) 128) : (cut l F E).take 128 = cut l F (F + n) ∧ (cut l F E).drop 128 = cut l (F + n) E := by
  constructor
  · rw [cut, cut, List.take_drop, List.take_take]
    by_cases h : E - F ≤ 128
    · rw [show F + n = E by omega, Nat.min_eq_right (by omega)]
    · rw [show F + n = F + 128 by omega, Nat.min_eq_left (by omega)]
  · rw [cut, cut, List.drop_drop]
    by_cases h : E - F ≤ 128
    · rw [show F + n = E by omega, List.drop_eq_nil_of_le (by simp; omega), List.drop_eq_nil_of_le (by simp; omega)]
    · rw [show F + n = F + 128 by omega]
/-- One round of the closure. -/
theorem plainly_cut (l : List UInt8) (F E n : Nat) (hE : E ≤ l.length) (hF : F < E) (hn : n = min (E - F) 128) : plainly (cut l F E) = byt ((n : Int) - 1) :: (cut l F (F + n) ++ plainly (cut l (F + n) E)) := by
  obtain ⟨h1, h2⟩ := cut_cut l F E n hE (by omega) hn
  rw [plainly_eq, cut_length _ _ _ hE, if_neg (by omega), h1, h2, hn]
theorem step_cut {l O : List UInt8} {F E n : Nat} {T : List UInt8} (h : O ++ plainly (cut l F E) = T) (hE : E ≤ l.length) (hF : F < E) (hn : n = min (E - F) 128) :
    O ++ [byt ((n : Int) - 1)] ++ cut l F (F + n) ++ plainly (cut l (F + n) E) = T := by rw [← h, plainly_cut l F E n hE hF hn]; simp

set_option maxHeartbeats 1600000 in
set_option maxRecDepth 4000 in
theorem closure_any (B : Nat) (s : ByteArray) (v : Value) (O : List UInt8) (F E : Nat) (w : World) (hs : s.size ≤ 600) (hP : PInv B s v O F w) (hF : F ≤ E) (hE : E ≤ s.size) (hO : O.length ≤ 2000) :
    Calls Tryz.prog 39 #[.int .i64 E, .pointer (some ⟨B + 2, 0, none⟩), .pointer (some ⟨B + 1, 0, none⟩), .pointer (some ⟨B, 0, none⟩)] w fun e w' => e = .returned (.tuple #[]) ∧ Below B w w' ∧ ∃ v', PInv B s v' (O ++ plainly (cut s.data.toList F E)) E w' := by
  obtain ⟨T, hT⟩ : ∃ T, O ++ plainly (cut s.data.toList F E) = T := ⟨_, rfl⟩
  have hTl : T.length ≤ 4000 := by
    rw [← hT, List.length_append, plainly_length, cut_length _ _ _ (by rw [ba_len]; exact hE)]; omega
  rw [hT]
  have HT := hid hT
  clear hT
  go_enter Tryz.func39, Tryz.ntmps39
  go_wp2_with fail
  go_loopg [5] (E - F) (fun g n wr => ∃ (v1 : Value) (O1 : List UInt8) (F1 : Nat), g = E - F1 ∧ F1 ≤ E ∧ PInv B s v1 O1 F1 wr ∧ Below B w wr ∧ Hid (O1 ++ plainly (cut s.data.toList F1 E) = T))
  case atStart => exact ⟨v, O, F, rfl, hF, hP, Below.refl _ _, HT⟩
  case round =>
    obtain ⟨v1, O1, F1, rfl, hF1, hP1, hB1, HR⟩ := hrel
    clear hP HT hF hO
    have cT := cell_of_one hP1.txt
    have cO := cell_of_one hP1.out
    have cF := cell_of_one hP1.far
    have fO := free_of_one hP1.out
    have fF := free_of_one hP1.far
    by_cases hlt : F1 < E
    · have hO1 : O1.length ≤ 4000 := by have := app_len HR.out; omega
      obtain ⟨n, hn⟩ : ∃ n, n = min (E - F1) 128 := ⟨_, rfl⟩
      have R := hid (step_cut HR.out (by rw [ba_len]; exact hE) hlt hn)
      have mn : (if (128 : Int) < E - F1 then 128 else (E : Int) - F1) = n := by split <;> omega
      have n1 : 1 ≤ n := by omega
      have n2 : n ≤ 128 := by omega
      have n3 : F1 + n ≤ E := by omega
      have n4 : n ≤ E - F1 := by omega
      clear hn HR
      have hlt' : (F1 : Int) < E := by omega
      have u2 : IntKind.u8.wrap ((n : Int) - 1) = n - 1 := by rw [IntKind.wrap_u8]; omega
      have hP2 := hP1.alloc (.cells #[.int .u8 ((n : Int) - 1)] 5)
      have hB2 := hB1.alloc (by have := hP1.size; omega) (.cells #[.int .u8 ((n : Int) - 1)] 5)
      have hnew := new_one wr ((n : Int) - 1) (by omega) (by omega) 5
      have HH := hid (And.intro hP2 (And.intro hB2 hnew))
      have HP := hid hP1
      clear hP2 hB2 hnew hP1
      go_wp2_with (at_builtin; (refine wpList_appendB _ rfl (.tmp 13) (.tmp 17) rfl (B + 3) v1 O1 rfl HH.out.1.own ⟨wr.heap.size, 0, none⟩ 1 [byt ((n : Int) - 1)] rfl HH.out.2.2 (by simp) (by simp; omega) HH.out.1.size ?_; intro g2 m2 cap2 w2 hm2 hg2 hown2 hgrow2; obtain ⟨cO2, fO2⟩ := HH.out.1.later hgrow2; have H2 := hid (And.intro hown2 hgrow2); clear hown2 hgrow2))
      have hP3 := HH.out.1.store H2.out.2 H2.out.1
      have hB3 := HH.out.1.below (v' := .slice (some ⟨g2, 0, none⟩) m2 cap2) HH.out.2.1 H2.out.2
      generalize w2.setCell ⟨B + 1, 0, none⟩ (.slice (some ⟨g2, 0, none⟩) m2 cap2) = X at hP3 hB3
      clear HH H2 hB1 cT cO cF fO fF cO2 fO2 mn u2
      have cT := cell_of_one hP3.txt
      have cO := cell_of_one hP3.out
      have cF := cell_of_one hP3.far
      have fO := free_of_one hP3.out
      have fF := free_of_one hP3.far
      have w1 : IntKind.i64.wrap ((F1 : Int) + n) = ((F1 + n : Nat) : Int) := by rw [IntWalk.i64_in _ (by omega)]; omega
      obtain ⟨G, hG⟩ : ∃ G, F1 + n = G := ⟨_, rfl⟩
      rw [hG] at w1
      have g1 : (F1 : Int) ≤ G := by omega
      have g3 : (G : Int) ≤ s.size := by omega
      have hsz : (s.extract F1 G).size = n := by rw [ext_size _ _ _ (by omega)]; omega
      have HP3 := hid hP3
      have HS := hid hsz
      have HG := hid hG
      clear hP3 hsz hG
      go_region_law (refine step_appendS rfl (.tmp 19) (.tmp 25) rfl (B + 3) (.slice (some ⟨g2, 0, none⟩) m2 cap2) (O1 ++ [byt ((n : Int) - 1)]) rfl HP3.out.drew.own (s.extract F1 G) rfl (by rw [HS.out]; omega) (by rw [HS.out]; simp; omega) HP3.out.drew.size ?_; intro g4 m4 cap4 w4 hm4 hg4 hown4 hgrow4; obtain ⟨cO4, fO4⟩ := HP3.out.drew.later hgrow4)
      all_goals
        have hP5 := HP3.out.drew.store hgrow4 hown4
        have hB5 := HP3.out.drew.below (v' := .slice (some ⟨g4, 0, none⟩) m4 cap4) hB3.drew hgrow4
        rw [ext_list] at hP5
        generalize w4.setCell ⟨B + 1, 0, none⟩ (.slice (some ⟨g4, 0, none⟩) m4 cap4) = Y at hP5 hB5
        have R' := R
        rw [HG.out] at R'
        clear hown4 hgrow4 cO4 fO4 HP3 hB3 cT cO cF fO fF R w1
        have cF := cell_of_one hP5.far
        have fF := free_of_one hP5.far
        have w1 : (F1 : Int) + n = G := by have := HG.out; omega
        go_wp2
        go_roundg (E - G)
        case measure => have := HG.out; omega
        case rel => exact ⟨_, _, G, rfl, by have := HG.out; omega, hP5.go G, hB5.setCell (by show B ≤ B + 2; omega) _, R'⟩
    · obtain rfl : F1 = E := by omega
      have ht := HR.out
      rw [cut_self, plainly_nil, List.append_nil] at ht
      subst ht
      have hge : ¬ (F1 : Int) < F1 := by omega
      go_wp2
      go_end0
      exact ⟨rfl, hB1, v1, hP1⟩
end Go.Proofs.YtkhjmfngeidlcaaGreatDoor

/- What the program's Pack answers. -/
namespace Go.Proofs.YtkhjmfngeidlcaaGreatDoor
open Go.RowKit Go.Lib

set_option maxHeartbeats 400000 in
theorem pack_big (s : ByteArray) (w : World) (h : 600 < s.size) :
    Calls Tryz.prog 13 #[.string s] w fun e w' => e = .returned (.tuple #[.string (str []), .int .i64 1]) ∧ Below w.heap.size w w' := by
  have h' : (600 : Int) < s.size := by omega
  go_enter Tryz.func13, Tryz.ntmps13
  go_wp2_with fail
  go_ret2
  exact ⟨rfl, (Below.refl _ _).alloc (Nat.le_refl _) _⟩

theorem pinv_start (s : ByteArray) (w : World) : PInv w.heap.size s (.slice none 0 0) [] 0 (((w.alloc (.cells #[.string s] 9)).alloc (.cells #[.slice none 0 0] 75)).alloc (.cells #[.int .i64 0] 3)) := by
  have z1 : (w.alloc (.cells #[.string s] 9)).heap.size = w.heap.size + 1 := by simp
  have z2 : ((w.alloc (.cells #[.string s] 9)).alloc (.cells #[.slice none 0 0] 75)).heap.size = w.heap.size + 2 := by simp
  refine ⟨?_, ?_, ?_, World.ownsRow_nil _ _ _ _⟩
  · rw [Below.heap_alloc _ _ _ (by omega), Below.heap_alloc _ _ _ (by omega)]; exact heap_alloc_new w _
  · rw [Below.heap_alloc _ _ _ (by omega), ← z1]; exact heap_alloc_new _ _
  · rw [← z2]; exact heap_alloc_new _ _

set_option maxHeartbeats 1600000 in
set_option maxRecDepth 4000 in
theorem pack_any (s : ByteArray) (w : World) (h : s.size ≤ 600) :
    Calls Tryz.prog 13 #[.string s] w fun e w' => e = .returned (.tuple #[.string (str (packed s.data.toList)), .int .i64 0]) ∧ Below w.heap.size w w' := by
  have h' : ¬ (600 : Int) < s.size := by omega
  have hp : (packed s.data.toList).length ≤ 1300 := by have := packed_length s.data.toList; rw [ba_len] at this; omega
  have HP := hid hp
  have hst := pinv_start s w
  have hbl : Below w.heap.size w (((w.alloc (.cells #[.string s] 9)).alloc (.cells #[.slice none 0 0] 75)).alloc (.cells #[.int .i64 0] 3)) := (((Below.refl _ _).alloc (Nat.le_refl _) _).alloc (by simp) _).alloc (by simp; omega) _
  have HS := hid (And.intro hst hbl)
  clear hp hst hbl
  go_enter Tryz.func13, Tryz.ntmps13
  go_wp2_with fail
  go_loopw [7] (fun i wr => ∃ (v : Value) (O : List UInt8) (F I : Nat), i = .int .i64 I ∧ F ≤ I ∧ I ≤ s.size ∧ PInv w.heap.size s v O F wr ∧ Below w.heap.size w wr ∧ Hid (O ++ rest s.data.toList F I = packed s.data.toList)) (fun i _ => s.size - (intOf i).toNat)
  case atStart => exact ⟨_, [], 0, 0, rfl, Nat.le_refl _, Nat.zero_le _, HS.out.1, HS.out.2, rfl⟩
  case round =>
    obtain ⟨v, O, F, I, rfl, hFI, hIs, hP, hB, HR⟩ := hrel
    clear HS
    have hO : O.length ≤ 2000 := by have := app_len HR.out; have := HP.out; omega
    have cT := cell_of_one hP.txt
    have HV := hid hP
    by_cases hlt : I < s.size
    · have hlt' : (I : Int) < s.size := by omega
      have hbd := best_bd s.data.toList I (by rw [ba_len]; omega)
      rw [ba_len] at hbd
      have hc := fun wx => longest_any s I wx (by unfold maxLen; omega) hIs
      by_cases h4 : (best s.data.toList I).1 < 4
      · have R := hid (rel_skip HR.out (by rw [ba_len]; exact hlt) h4)
        generalize best s.data.toList I = bb at h4 hc
        have h4' : (bb.1 : Int) < 4 := by omega
        have HC := hid hc
        clear hc hbd HR hP
        go_wp2_with fail
        refine (HC.out _).mono ?_
        rintro _ _ ⟨rfl, q, rfl⟩
        clear HC
        go_wp2
        go_roundw
        case rel => exact ⟨v, O, F, I + 1, by go_num, by omega, by omega, HV.out.drewN q, below_drewN hB q, R⟩
        case measure => simp [intOf]; omega
      · have R := hid (rel_take HR.out (by rw [ba_len]; exact hlt) (by omega))
        have hl2 : (O ++ plainly (cut s.data.toList F I)).length ≤ 2000 := by have := HP.out; rw [← R.out] at this; simp only [List.length_append] at this ⊢; omega
        generalize best s.data.toList I = bb at h4 hc hbd R
        obtain ⟨b1, b2, b3, b4, b5⟩ := hbd
        clear b5 HR
        have h4' : ¬ (bb.1 : Int) < 4 := by omega
        have u2 : IntKind.u8.wrap (124 + (bb.1 : Int)) = 124 + bb.1 := by rw [IntKind.wrap_u8]; omega
        have u3 : IntKind.u8.wrap (bb.2 : Int) = bb.2 := by rw [IntKind.wrap_u8]; omega
        have HC := hid hc
        clear hc hP
        go_wp2_with fail
        refine (HC.out _).mono ?_
        rintro _ _ ⟨rfl, q, rfl⟩
        clear HC
        go_wp2_with fail
        refine (closure_any w.heap.size s v O F I (wr.drewN q) h (HV.out.drewN q) hFI hIs hO).mono ?_
        rintro _ w2 ⟨rfl, hB2, v2, hP2⟩
        have hB3 := (below_drewN hB q).trans hB2
        generalize O ++ plainly (cut s.data.toList F I) = O2 at hP2 hl2 R
        clear hB2 hB HV cT
        have cT := cell_of_one hP2.txt
        have cO := cell_of_one hP2.out
        have fO := free_of_one hP2.out
        have cF := cell_of_one hP2.far
        have fF := free_of_one hP2.far
        have hP3 := hP2.alloc (.cells #[.int .u8 (124 + (bb.1 : Int)), .int .u8 (bb.2 : Int)] 5)
        have hB4 := hB3.alloc (by have := hP2.size; omega) (.cells #[.int .u8 (124 + (bb.1 : Int)), .int .u8 (bb.2 : Int)] 5)
        have hnew := new_two w2 (124 + (bb.1 : Int)) bb.2 (by omega) (by omega) (by omega) (by omega) 5
        have HH := hid (And.intro hP3 (And.intro hB4 hnew))
        clear hP3 hB4 hnew hP2 hB3
        go_wp2_with (at_builtin; (refine wpList_appendB _ rfl (.tmp 31) (.tmp 37) rfl (w.heap.size + 3) v2 O2 rfl HH.out.1.own ⟨w2.heap.size, 0, none⟩ 2 [byt (124 + (bb.1 : Int)), byt (bb.2 : Int)] rfl HH.out.2.2 (by simp) (by simp; omega) HH.out.1.size ?_; intro g5 m5 cap5 w5 hm5 hg5 hown5 hgrow5; obtain ⟨cO5, fO5⟩ := HH.out.1.later hgrow5; obtain ⟨cF5, fF5⟩ := HH.out.1.later2 hgrow5; have H5 := hid (And.intro hown5 hgrow5); clear hown5 hgrow5))
        go_roundw
        case rel =>
          have k1 := (HH.out.1.store H5.out.2 H5.out.1).go (I + bb.1)
          have k2 := (HH.out.1.below (v' := .slice (some ⟨g5, 0, none⟩) m5 cap5) HH.out.2.1 H5.out.2).setCell (p := ⟨w.heap.size + 2, 0, none⟩) (by show w.heap.size ≤ w.heap.size + 2; omega) (.int .i64 ((I + bb.1 : Nat) : Int))
          rw [Int.natCast_add] at k1 k2
          exact ⟨_, _, _, I + bb.1, by go_num, Nat.le_refl _, by omega, k1, k2, R⟩
        case measure => simp [intOf]; omega
    · obtain rfl : I = s.size := by omega
      have R := rel_end HR.out (by rw [ba_len]; omega)
      rw [ba_len] at R
      have HR' := hid R
      clear R HR hP hlt
      have hnl : ¬ (s.size : Int) < s.size := by omega
      go_wp2_with fail
      refine (closure_any w.heap.size s v O F s.size wr h HV.out hFI (Nat.le_refl _) hO).mono ?_
      rintro _ w2 ⟨rfl, hB2, v2, hP2⟩
      have cO := cell_of_one hP2.out
      have hcv := conv_own hP2.own
      have HH := hid (hB.trans hB2)
      clear cT hP2 hB hB2 HV
      go_wp2
      go_ret2
      exact ⟨ret_si (by rw [HR'.out]), HH.out⟩
end Go.Proofs.YtkhjmfngeidlcaaGreatDoor
