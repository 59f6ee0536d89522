/- What the document's own SectorBytes answers: the very bytes and the very error of 'encd'. -/
import Derived.Test.YtelgpiedchnncabDoorLow
import Derived.Test.YtelgpiedchnncabDoorSumRef
import Derived.Test.YtelgpiedchnncabDoorBytes
import Derived.Deep.RegionWith
namespace Go.Proofs.YtelgpiedchnncabDoor
open Go.RowKit Go.Lib

theorem in_any (n a b : Int) (w : World) :
    Calls Tryd.prog 40 #[.int .i64 n, .int .i64 a, .int .i64 b] w fun e w' => e = .returned (.bool (decide (a ≤ n ∧ n ≤ b))) ∧ w' = w := by
  by_cases h : a ≤ n
  · by_cases h2 : n ≤ b
    · go_enter Tryd.func40, Tryd.ntmps40
      go_wp2
      go_ret
      exact ⟨ret_bool (by simp [h, h2]), rfl⟩
    · go_enter Tryd.func40, Tryd.ntmps40
      go_wp2
      go_ret
      exact ⟨ret_bool (by simp; omega), rfl⟩
  · go_enter Tryd.func40, Tryd.ntmps40
    go_wp2
    go_ret
    exact ⟨ret_bool (by simp; omega), rfl⟩

end Go.Proofs.YtelgpiedchnncabDoor
