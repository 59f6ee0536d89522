/- How many sectors so many bytes need: the program's and the document's. -/
import Derived.Test.YtkhjmfngeidlcaaGreatDoorRows
import Derived.Test.YtkhjmfngeidlcaaGreatDoorPureB
import Derived.Test.YtkhjmfngeidlcaaGreatDoorMem
import Derived.WalkKit
import Derived.Handy
import Derived.Deep.LoopGhost
namespace Go.Proofs.YtkhjmfngeidlcaaGreatDoor
open Go.RowKit Go.Lib

set_option maxHeartbeats 400000 in
theorem sectors_ok (n : Nat) (w : World) (h : n ≤ 1073741824) :
    Calls Tryz.prog 44 #[.int .i64 n] w fun e w' => e = .returned (.int .i64 (secs n)) ∧ w' = w := by
  unfold secs
  by_cases e : n % 24 = 0
  · have e' : ((n : Int) % 24 != 0) = false := by rw [bne_eq_false_iff_eq]; omega
    go_enter Tryz.func44, Tryz.ntmps44
    go_wp2
    go_ret
    exact ⟨ret_int (by omega), rfl⟩
  · have e' : ((n : Int) % 24 != 0) = true := by rw [bne_iff_ne]; omega
    go_enter Tryz.func44, Tryz.ntmps44
    go_wp2
    go_ret
    exact ⟨ret_int (by omega), rfl⟩

set_option maxHeartbeats 400000 in
theorem refsectors_ok (n : Nat) (w : World) (h : n ≤ 1073741824) :
    Calls Tryz.prog 22 #[.int .i64 n] w fun e w' => e = .returned (.int .i64 (secs n)) ∧ w' = w := by
  have h1 := secs_le n
  have h2 : secs n ≤ n := by unfold secs; omega
  have h3 : ∀ i, i < secs n → 24 * i < n := secs_lt n
  have h4 : ∀ i, n ≤ 24 * i → secs n ≤ i := secs_ge n
  go_enter Tryz.func22, Tryz.ntmps22
  go_wp2_with fail
  go_loopw [3] (fun i wr => ∃ k : Nat, k ≤ secs n ∧ i = .int .i64 k ∧ wr = w) (fun i _ => secs n - (intOf i).toNat)
  case atStart => exact ⟨0, Nat.zero_le _, rfl, rfl⟩
  case round =>
    obtain ⟨k, hk, rfl, rfl⟩ := hrel
    by_cases hlt : 24 * k < n
    · have hlt' : (k : Int) * 24 < n := by omega
      have hk2 : k < secs n := by
        rcases Nat.lt_or_ge k (secs n) with h | h
        · exact h
        · omega
      go_wp2
      go_roundw
      case rel => exact ⟨k + 1, hk2, by go_num, by first | rfl | trivial⟩
      case measure => simp [intOf]; omega
    · have hlt' : ¬ (k : Int) * 24 < n := by omega
      have hk2 : k = secs n := by have := h4 k (by omega); omega
      go_wp2
      go_ret
      exact ⟨ret_int (by omega), rfl⟩

end Go.Proofs.YtkhjmfngeidlcaaGreatDoor
