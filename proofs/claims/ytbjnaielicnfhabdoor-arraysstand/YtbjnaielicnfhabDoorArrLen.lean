/- Arrays, purely: how long what is read is; what may not be. -/
import Derived.Test.YtbjnaielicnfhabDoorArrMath
namespace Go.Proofs.YtbjnaielicnfhabDoor
open Go.RowKit

theorem dvRead_len (D : Dv) (n no : Int) (h : (dvRead D n no).2 = 0) : (dvRead D n no).1.length = 24 := by
  unfold dvRead at h ⊢
  split
  · rename_i ht
    rw [if_pos ht] at h
    split
    · rename_i hl
      rw [if_pos hl] at h; cases h
    · rename_i hl
      rw [if_neg hl] at h
      unfold decd at h ⊢
      split
      · rename_i e; rw [if_pos e] at h; cases h
      · rename_i e
        rw [if_neg e] at h
        split
        · rename_i e2; rw [if_pos e2] at h; cases h
        · rename_i e2
          rw [if_neg e2] at h
          split
          · rename_i e3; rw [if_pos e3] at h; cases h
          · rw [cut_length _ _ _ (by omega)]
  · rename_i ht
    rw [if_neg ht] at h
    exact absurd h ht
theorem mirr_len (A : Ar) (n : Nat) (h : (mirr A n).2 ≠ 0) : (mirr A n).1.length = 24 := by
  unfold mirr at h ⊢
  split
  · rename_i e; exact dvRead_len _ _ _ e
  · rename_i e
    rw [if_neg e] at h
    split
    · rename_i e2; exact dvRead_len _ _ _ e2
    · rename_i e2; rw [if_neg e2] at h; exact absurd rfl h
theorem mirr_bd (A : Ar) (n : Nat) : (mirr A n).2 = 0 ∨ 0 < (mirr A n).2 := by
  unfold mirr
  split
  · right; show (0 : Int) < 1; decide
  · split
    · right; show (0 : Int) < 2; decide
    · left; rfl

theorem str_len (l : List UInt8) : (str l).data.toList = l := str_list l

theorem xors_snoc (s t : List UInt8) (I : Nat) (h : I < s.length) (h' : I < t.length) : xors (s.take (I + 1)) (t.take (I + 1)) = xors (s.take I) (t.take I) ++ [s[I] ^^^ t[I]] := by
  unfold xors
  rw [List.take_succ_eq_append_getElem h, List.take_succ_eq_append_getElem h', List.zipWith_append (by simp; omega)]
  rfl

theorem arMay_len (A : Ar) (h : A.length ≠ 3) : arMay A = false := by
  rw [Bool.eq_false_iff]; intro hm; exact h ((arMay_iff A).1 hm).1
theorem arMay_dev (A : Ar) (k : Nat) (hk : k < A.length) (h : dvMay (dev A k) = false) : arMay A = false := by
  rw [Bool.eq_false_iff]; intro hm
  have := ((arMay_iff A).1 hm).2.1 _ (dev_mem A k hk)
  rw [h] at this; cases this
theorem arMay_all (A : Ar) (h3 : A.length = 3) (h : ∀ j, j < 3 → dvMay (dev A j) = true) : arMay A = decide (16 ≤ many A ∧ many A ≤ 64 ∧ many A % 2 = 0 ∧ (dev A 1).1.length = many A ∧ (dev A 2).1.length = many A / 2) := by
  rw [Bool.eq_iff_iff, arMay_iff, decide_eq_true_eq]
  constructor
  · rintro ⟨_, _, r⟩; exact r
  · intro r
    refine ⟨h3, fun D hD => ?_, r⟩
    obtain ⟨j, hj, rfl⟩ := List.mem_iff_getElem.1 hD
    have := h j (by omega)
    rwa [dev_lt A j hj] at this

end Go.Proofs.YtbjnaielicnfhabDoor
