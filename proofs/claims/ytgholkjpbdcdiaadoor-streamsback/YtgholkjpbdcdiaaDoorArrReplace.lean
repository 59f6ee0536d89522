/- What the program's array.Replace answers. -/
import Derived.Test.YtgholkjpbdcdiaaDoorArrCheck
import Derived.Test.YtgholkjpbdcdiaaDoorArrCopy
import Derived.Test.YtgholkjpbdcdiaaDoorArrNew
import Derived.Test.YtgholkjpbdcdiaaDoorArrBlank
namespace Go.Proofs.YtgholkjpbdcdiaaDoor
open Go.RowKit Go.Lib

theorem new_devs (K M : Nat) (hk : K < 3) (h : 16 ≤ M ∧ M ≤ 64 ∧ M % 2 = 0) : dev (arNew M).1 K = devNew K M := by
  rw [arNew_devs M h]
  match K, hk with
  | 0, _ => rfl
  | 1, _ => rfl
  | 2, _ => rfl
end Go.Proofs.YtgholkjpbdcdiaaDoor
