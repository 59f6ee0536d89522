/- Bytes over sectors, purely: how many sectors, what is refused, written, read. -/
import Derived.Test.YtkhjmfngeidlcaaArrTell
import Derived.Test.YtkhjmfngeidlcaaSecs
namespace Go.Proofs.Ytkhjmfngeidlcaa
open Go.RowKit

/-- What is refused ahead of both. -/
def stChk (A : Ar) (x n : Int) : Int := if arMay A = true then (if 0 ≤ n ∧ n ≤ 1536 then (if 0 ≤ x ∧ x + secs n.toNat ≤ many A then 0 else 2) else 1) else 9
/-- The bytes of one sector. -/
def chunk (s : List UInt8) (i : Nat) : List UInt8 := (s.drop (24 * i)).take 24
/-- So many sectors written. -/
def stN (A : Ar) (x : Nat) (s : List UInt8) : Nat → Ar
  | 0 => A
  | i + 1 => (arWrite (stN A x s i) ((x + i : Nat) : Int) (chunk s i)).1
def stWrite (A : Ar) (x : Int) (s : List UInt8) : Ar × Int := if stChk A x s.length = 0 then (stN A x.toNat s (secs s.length), 0) else ([], stChk A x s.length)
/-- So many sectors read. -/
def rdN (A : Ar) (x : Nat) : Nat → List UInt8 × Int
  | 0 => ([], 0)
  | i + 1 => if (rdN A x i).2 = 0 then (if (arRead A ((x + i : Nat) : Int)).2.2 = 0 then ((rdN A x i).1 ++ (arRead A ((x + i : Nat) : Int)).1, 0) else ([], (arRead A ((x + i : Nat) : Int)).2.2)) else rdN A x i
def stRead (A : Ar) (x n : Int) : List UInt8 × Int := if stChk A x n = 0 then ((rdN A x.toNat (secs n.toNat)).1.take n.toNat, (rdN A x.toNat (secs n.toNat)).2) else ([], stChk A x n)

theorem stChk_ok (A : Ar) (x n : Int) (h : stChk A x n = 0) : arMay A = true ∧ (0 ≤ n ∧ n ≤ 1536) ∧ 0 ≤ x ∧ x + secs n.toNat ≤ many A := by
  unfold stChk at h
  split at h
  · rename_i h1
    split at h
    · rename_i h2
      split at h
      · rename_i h3
        exact ⟨h1, h2, h3⟩
      · cases h
    · cases h
  · cases h
theorem chunk_len (s : List UInt8) (i : Nat) : (chunk s i).length ≤ 24 := by simp [chunk]; omega
theorem rd_succ (A : Ar) (x i : Nat) (h : (rdN A x i).2 = 0) (h2 : (arRead A ((x + i : Nat) : Int)).2.2 = 0) : rdN A x (i + 1) = ((rdN A x i).1 ++ (arRead A ((x + i : Nat) : Int)).1, 0) := by rw [rdN, if_pos h, if_pos h2]
theorem rd_stop (A : Ar) (x i : Nat) (h : (rdN A x i).2 = 0) (h2 : (arRead A ((x + i : Nat) : Int)).2.2 ≠ 0) : ∀ j, i + 1 ≤ j → rdN A x j = ([], (arRead A ((x + i : Nat) : Int)).2.2)
  | 0, hj => absurd hj (by omega)
  | j + 1, hj => by
    by_cases e : j = i
    · subst e
      rw [rdN, if_pos h, if_neg h2]
    · have ih := rd_stop A x i h h2 j (by omega)
      rw [rdN, ih, if_neg h2]
theorem arRead_len (A : Ar) (k : Nat) (h : (arRead A k).2.2 = 0) : (arRead A k).1.length = 24 := by
  unfold arRead at h ⊢
  split at h
  · rename_i ht
    rw [if_pos ht]
    exact tell_len A _ h
  · rename_i ht
    exact absurd h ht
theorem rd_len (A : Ar) (x : Nat) : ∀ i, (rdN A x i).2 = 0 → (rdN A x i).1.length = 24 * i
  | 0, _ => rfl
  | i + 1, h => by
    rw [rdN] at h ⊢
    split at h
    · rename_i h1
      rw [if_pos h1]
      split at h
      · rename_i h2
        rw [if_pos h2]
        rw [List.length_append, rd_len A x i h1, arRead_len A _ h2]
        omega
      · rename_i h2
        exact absurd h h2
    · rename_i h1
      exact absurd h h1
end Go.Proofs.Ytkhjmfngeidlcaa
