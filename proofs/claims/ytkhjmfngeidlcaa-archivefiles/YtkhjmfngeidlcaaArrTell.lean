/- Arrays, purely: how long what is told is; what a write makes of the parity. -/
import Derived.Test.YtkhjmfngeidlcaaLow
import Derived.Test.YtkhjmfngeidlcaaArrDiff
namespace Go.Proofs.Ytkhjmfngeidlcaa
open Go.RowKit

theorem xors_len (s t : List UInt8) : (xors s t).length = min s.length t.length := by simp [xors]
theorem tell_len (A : Ar) (n : Nat) (h : (tell A n).2.2 = 0) : (tell A n).1.length = 24 := by
  unfold tell at h ⊢
  split
  · rename_i e
    exact mirr_len A n (by omega)
  · rename_i e
    rw [if_neg e] at h
    split
    · rename_i e2
      rw [if_pos e2] at h
      cases h
    · rename_i e2
      have l1 := mirr_len A (part n) (fun x => e2 (.inl x))
      have l2 : (pari A n).1.length = 24 := dvRead_len _ _ _ (Classical.byContradiction fun x => e2 (.inr x))
      show (xors _ _).length = 24
      rw [xors_len, l1, l2]; rfl
theorem tell_three (A : Ar) (n : Nat) (h : (tell A n).2.1 = 3) : (tell A n).2.2 = 0 := by
  unfold tell at h ⊢
  split
  · rfl
  · rename_i e
    rw [if_neg e] at h
    split
    · rename_i e2
      rw [if_pos e2] at h
      cases h
    · rfl
theorem xors_comm (s t : List UInt8) : xors s t = xors t s := by
  unfold xors
  rw [List.zipWith_comm]
  congr 1
  funext x y
  exact UInt8.xor_comm _ _
theorem diffs_pad (r s : List UInt8) (hr : r.length = 24) (hs : s.length ≤ 24) : diffs r s = xors (pad s) r := by
  rw [xors_comm (pad s) r]
  unfold diffs pad
  apply List.ext_getElem
  · simp [xors]; omega
  · intro j h1 h2
    by_cases hj : j < s.length
    · rw [List.getElem_append_left (by simp [xors]; omega)]
      simp only [xors, List.getElem_zipWith]
      rw [List.getElem_append_left hj]
    · rw [List.getElem_append_right (by simp [xors]; omega)]
      simp only [xors, List.getElem_zipWith, List.length_zipWith, List.getElem_drop]
      rw [List.getElem_append_right (by omega), List.getElem_replicate, UInt8.xor_zero]
      congr 1
      omega
theorem arRead_tell (A : Ar) (n : Nat) (hm : arMay A = true) (hn : n < many A) : arRead A n = tell A n := by
  have : arTouch A n = 0 := by rw [arTouch, if_pos hm, if_pos ⟨by omega, by omega⟩]
  rw [arRead, if_pos this]; simp
/-- The array behind the partner's writing. -/
def mid (A : Ar) (n : Nat) : Ar := if (tell A (part n)).2.1 = 3 then both A (part n) (tell A (part n)).1 else A
theorem put_mid (A : Ar) (n : Nat) (s : List UInt8) : put A n s = if (tell A (part n)).2.2 = 0 then (both (mid A n) n s).set 2 (dvWrite (dev (both (mid A n) n s) 2) ((n / 2 : Nat) : Int) ((512 + n / 2 : Nat) : Int) (xors (pad s) (tell A (part n)).1)).1 else (both (mid A n) n s).set 2 (dvLose (dev (both (mid A n) n s) 2) ((n / 2 : Nat) : Int)).1 := by
  have e : (if (tell A (part n)).2.2 = 0 ∧ (tell A (part n)).2.1 = 3 then both A (part n) (tell A (part n)).1 else A) = mid A n := by
    unfold mid
    by_cases h : (tell A (part n)).2.1 = 3
    · rw [if_pos h, if_pos ⟨tell_three A _ h, h⟩]
    · rw [if_neg h, if_neg (fun x => h x.2)]
  unfold put
  simp only [e]
end Go.Proofs.Ytkhjmfngeidlcaa
