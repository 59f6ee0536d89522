/- What the document's own DeviceMay answers. -/
import Derived.Test.YtgholkjpbdcdiaaDoorDevMem
import Derived.Test.YtgholkjpbdcdiaaDoorSectorRef
import Derived.Handy
namespace Go.Proofs.YtgholkjpbdcdiaaDoor
open Go.RowKit Go.Lib

theorem may_no (D : Dv) (k : Nat) (hk : k < D.1.length) (h : (sec D k).size ≠ 30) : dvMay D = false := by
  rw [Bool.eq_false_iff]
  intro hm
  exact h (sec_size D k hm hk)
theorem may_all (D : Dv) (h : ∀ j, j < D.1.length → (sec D j).size = 30) : dvMay D = (decide (1 ≤ D.1.length ∧ D.1.length ≤ 64) && (D.2.length == D.1.length)) := by
  have e : (D.1.all fun s => s.size == 30) = true := by
    rw [List.all_eq_true]
    intro s hs
    obtain ⟨j, hj, rfl⟩ := List.mem_iff_getElem.1 hs
    have := h j hj
    rw [sec_lt D j hj] at this
    simp [this]
  unfold dvMay
  rw [e, Bool.and_true, Bool.eq_iff_iff]
  simp [and_assoc]

end Go.Proofs.YtgholkjpbdcdiaaDoor
