/- What 'picked' answers: a number from 0 to many - 1; it changes nothing. -/
import Derived.Test.YtelgpiedchnncabDoorRows
import Derived.Test.YtelgpiedchnncabDoorLow
import Derived.WalkKit
namespace Go.Proofs.YtelgpiedchnncabDoor
open Go.RowKit
set_option maxHeartbeats 400000 in
theorem picked_any (n many : Int) (w : World) (hn : -9223372036854775808 ≤ n) (hn' : n ≤ 9223372036854775807) (hm : 0 < many) (hm' : many ≤ 9223372036854775807) :
    Calls Tryd.prog 11 #[.int .i64 n, .int .i64 many] w fun e w' => e = .returned (.int .i64 (pick n many)) ∧ w' = w := by
  unfold pick
  by_cases h : n < 0
  · rw [if_pos h]
    go_enter Tryd.func11, Tryd.ntmps11
    go_wp2
    go_ret
    exact ⟨ret_int (by rw [← Int.neg_tmod, Int.tmod_eq_emod_of_nonneg (by omega)]), rfl⟩
  · rw [if_neg h]
    have h' : 0 ≤ n := by omega
    go_enter Tryd.func11, Tryd.ntmps11
    go_wp2
    go_ret
    exact ⟨rfl, rfl⟩
end Go.Proofs.YtelgpiedchnncabDoor
