/- Catalogs that are made of raw things may be. -/
import Derived.Test.YtelgpiedchnncabDoorCatRead
import Derived.Test.YtelgpiedchnncabDoorKeepRaw
namespace Go.Proofs.YtelgpiedchnncabDoor
open Go.RowKit

/-- So many blocks and entries of raw things. -/
def kB (R : List Raw4) : Nat → List Bk
  | 0 => []
  | k + 1 => kB R k ++ [⟨behB (kB R k), pick (raw R k).a 140⟩]
def kName (k : Nat) : ByteArray := str [110, byt (97 + k)]
def kE (R : List Raw4) : Nat → List En
  | 0 => []
  | k + 1 => kE R k ++ [⟨kName k, pick (raw R k).b (k + 1), pick (raw R k).c 600, pick (raw R k).kind 201⟩]
theorem kB_len (R : List Raw4) (k : Nat) : (kB R k).length = k := by
  induction k with
  | zero => rfl
  | succ k ih => rw [kB, List.length_append, ih]; rfl
theorem kE_len (R : List Raw4) (k : Nat) : (kE R k).length = k := by
  induction k with
  | zero => rfl
  | succ k ih => rw [kE, List.length_append, ih]; rfl
theorem kB_at (R : List Raw4) (k j : Nat) (h : j < k) : bk (kB R k) j = ⟨behB (kB R j), pick (raw R j).a 140⟩ := by
  induction k with
  | zero => omega
  | succ k ih =>
    have hl := kB_len R k
    rw [kB]
    by_cases hj : j < k
    · rw [← ih hj]
      simp [bk, List.getElem?_append_left (show j < (kB R k).length by omega)]
    · obtain rfl : j = k := by omega
      simp [bk, hl]
theorem kE_at (R : List Raw4) (k j : Nat) (h : j < k) : en (kE R k) j = ⟨kName j, pick (raw R j).b (j + 1), pick (raw R j).c 600, pick (raw R j).kind 201⟩ := by
  induction k with
  | zero => omega
  | succ k ih =>
    have hl := kE_len R k
    rw [kE]
    by_cases hj : j < k
    · rw [← ih hj]
      simp [en, List.getElem?_append_left (show j < (kE R k).length by omega)]
    · obtain rfl : j = k := by omega
      simp [en, hl]
theorem kB_beh (R : List Raw4) (k : Nat) : behB (kB R (k + 1)) = behB (kB R k) + secs (pick (raw R k).a 140).toNat := by
  rw [kB]
  simp [behB]
theorem kB_bd (R : List Raw4) (k : Nat) : 8 ≤ behB (kB R k) ∧ behB (kB R k) ≤ 8 + 6 * k := by
  induction k with
  | zero => simp [kB, behB]
  | succ k ih =>
    have := pick_bd (raw R k).a 140 (by omega)
    rw [kB_beh]
    unfold secs
    omega
theorem kB_atB (R : List Raw4) (N k : Nat) (h : k ≤ N) : (atB (kB R N) k : Int) = behB (kB R k) := by
  induction k with
  | zero => rfl
  | succ k ih =>
    rw [atB_succ, kB_beh, kB_at R N k (by omega), ← ih (by omega)]
    dsimp only
    omega
theorem blkN_all (L : List Bk) (k : Nat) (h : ∀ j, j < k → bkOk L j = true) : blkN L k = 0 := by
  induction k with
  | zero => rfl
  | succ k ih => rw [blk_succ L k (ih (fun j hj => h j (by omega))), h k (by omega)]; rfl
theorem entN_all (E : List En) (m k : Nat) (h : ∀ j, j < k → enOk (en E j) m = true ∧ enBad E j = false) : entN E m k = 0 := by
  induction k with
  | zero => rfl
  | succ k ih =>
    obtain ⟨h1, h2⟩ := h k (by omega)
    exact ent_next E m k (ih (fun j hj => h j (by omega))) h1 h2
theorem kName_may (j : Nat) (h : j < 9) : nameMay (kName j) = true := by
  have q : j = 0 ∨ j = 1 ∨ j = 2 ∨ j = 3 ∨ j = 4 ∨ j = 5 ∨ j = 6 ∨ j = 7 ∨ j = 8 := by omega
  rcases q with rfl | rfl | rfl | rfl | rfl | rfl | rfl | rfl | rfl <;> decide
theorem kName_order (j : Nat) (h : j + 1 < 9) : notAbove (kName (j + 1)) (kName j) = false := by
  have q : j = 0 ∨ j = 1 ∨ j = 2 ∨ j = 3 ∨ j = 4 ∨ j = 5 ∨ j = 6 ∨ j = 7 := by omega
  unfold notAbove
  simp only [ByteArray.toList_eq]
  rcases q with rfl | rfl | rfl | rfl | rfl | rfl | rfl | rfl <;> decide
theorem k_chk (R : List Raw4) (N : Nat) (h : N ≤ 9) : catChk (kB R N, kE R N) = 0 := by
  unfold catChk
  dsimp only
  rw [kB_len, kE_len, if_neg (by omega), if_pos]
  · refine entN_all _ _ _ fun j hj => ⟨?_, ?_⟩
    · rw [kE_at R N j hj, enOk_iff]
      have h1 := pick_bd (raw R j).b (j + 1) (by omega)
      have h2 := pick_bd (raw R j).c 600 (by omega)
      have h3 := pick_bd (raw R j).kind 201 (by omega)
      exact ⟨kName_may j (by omega), by dsimp only; omega, by dsimp only; omega, by dsimp only; omega⟩
    · unfold enBad
      cases j with
      | zero => rfl
      | succ j =>
        rw [kE_at R N (j + 1) hj, Nat.add_sub_cancel, kE_at R N j (by omega)]
        dsimp only
        rw [kName_order j (by omega), Bool.and_false]
  · refine blkN_all _ _ fun j hj => ?_
    rw [bkOk_iff, kB_at R N j hj, kB_atB R N j (by omega)]
    have h1 := pick_bd (raw R j).a 140 (by omega)
    have h2 := kB_atB R N (j + 1) (by omega)
    have h3 := kB_bd R (j + 1)
    dsimp only
    omega
end Go.Proofs.YtelgpiedchnncabDoor
