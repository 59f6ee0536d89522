/- How many sectors so many bytes need: the program's and the document's. -/
import Derived.Test.YtkhjmfngeidlcabGreatDoorRows
import Derived.Test.YtkhjmfngeidlcabGreatDoorPureB
import Derived.Test.YtkhjmfngeidlcabGreatDoorMem
import Derived.WalkKit
import Derived.Handy
import Derived.Deep.LoopGhost
namespace Go.Proofs.YtkhjmfngeidlcabGreatDoor
open Go.RowKit Go.Lib

set_option maxHeartbeats 400000 in
theorem sectors_ok (n : Nat) (w : World) (h : n ≤ 1073741824) :
    Calls Tryz.prog 48 #[.int .i64 n] w fun e w' => e = .returned (.int .i64 (secs n)) ∧ w' = w := by
  unfold secs
  by_cases e : n % 24 = 0
  · have e' : ((n : Int) % 24 != 0) = false := by rw [bne_eq_false_iff_eq]; omega
    go_enter Tryz.func48, Tryz.ntmps48
    go_wp2
    go_ret
    exact ⟨ret_int (by omega), rfl⟩
  · have e' : ((n : Int) % 24 != 0) = true := by rw [bne_iff_ne]; omega
    go_enter Tryz.func48, Tryz.ntmps48
    go_wp2
    go_ret
    exact ⟨ret_int (by omega), rfl⟩

end Go.Proofs.YtkhjmfngeidlcabGreatDoor
