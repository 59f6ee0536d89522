/- What the document's own SectorBytes answers: the very bytes and the very error of 'encd'. -/
import Derived.Test.YtelgpiedchnncaaLow
import Derived.Test.YtelgpiedchnncaaSumRef
import Derived.Test.YtelgpiedchnncaaBytes
import Derived.Deep.RegionWith
namespace Go.Proofs.Ytelgpiedchnncaa
open Go.RowKit Go.Lib

theorem in_any (n a b : Int) (w : World) :
    Calls Try.prog 22 #[.int .i64 n, .int .i64 a, .int .i64 b] w fun e w' => e = .returned (.bool (decide (a ≤ n ∧ n ≤ b))) ∧ w' = w := by
  by_cases h : a ≤ n
  · by_cases h2 : n ≤ b
    · go_enter Try.func22, Try.ntmps22
      go_wp2
      go_ret
      exact ⟨ret_bool (by simp [h, h2]), rfl⟩
    · go_enter Try.func22, Try.ntmps22
      go_wp2
      go_ret
      exact ⟨ret_bool (by simp; omega), rfl⟩
  · go_enter Try.func22, Try.ntmps22
    go_wp2
    go_ret
    exact ⟨ret_bool (by simp; omega), rfl⟩

end Go.Proofs.Ytelgpiedchnncaa
