/- Bytes over the sectors of a whole array, purely: they are read as they were written, and what stands around them stays. -/
import Derived.Test.YtgholkjpbdcdiaaDoorStreamMath
import Derived.Test.YtgholkjpbdcdiaaDoorHigh
namespace Go.Proofs.YtgholkjpbdcdiaaDoor
open Go.RowKit

/-- The payloads behind so many sectors. -/
def over (all : List (List UInt8)) (x : Nat) (s : List UInt8) : Nat → List (List UInt8)
  | 0 => all
  | i + 1 => (over all x s i).set (x + i) (pad (chunk s i))
theorem over_len (all : List (List UInt8)) (x : Nat) (s : List UInt8) : ∀ i, (over all x s i).length = all.length
  | 0 => rfl
  | i + 1 => by rw [over, List.length_set, over_len all x s i]
theorem over_alls {all : List (List UInt8)} (h : Alls all) (x : Nat) (s : List UInt8) : ∀ i, x + i ≤ all.length → Alls (over all x s i)
  | 0, _ => h
  | i + 1, hi => (over_alls h x s i (by omega)).set (x + i) _ (by rw [over_len]; omega) (pad_length _ (chunk_len s i))
theorem st_good {all : List (List UInt8)} (h : Alls all) (x : Nat) (s : List UInt8) : ∀ i, x + i ≤ all.length → stN (goodA all) x s i = goodA (over all x s i)
  | 0, _ => rfl
  | i + 1, hi => by
    rw [stN, st_good h x s i (by omega), good_write (over_alls h x s i (by omega)) (x + i) (by rw [over_len]; omega) _ (chunk_len s i)]
    rfl
theorem over_pay (all : List (List UInt8)) (x : Nat) (s : List UInt8) : ∀ i, x + i ≤ all.length → ∀ j, pay (over all x s i) j = if x ≤ j ∧ j < x + i then pad (chunk s (j - x)) else pay all j
  | 0, _, j => by rw [if_neg (by omega)]; rfl
  | i + 1, hi, j => by
    rw [over, pay_set (x + i) _ (by rw [over_len]; omega), over_pay all x s i (by omega) j]
    by_cases e : j = x + i
    · rw [if_pos e, if_pos (by omega), e, show x + i - x = i by omega]
    · rw [if_neg e]
      by_cases e2 : x ≤ j ∧ j < x + i
      · rw [if_pos e2, if_pos (by omega)]
      · rw [if_neg e2, if_neg (by omega)]
theorem pad_app (l : List UInt8) : pad l = l ++ List.replicate (24 - l.length) 0 := rfl
theorem take_chunk (s : List UInt8) (i : Nat) : s.take (24 * i) ++ chunk s i = s.take (24 * (i + 1)) := by
  rw [chunk, Nat.mul_add, Nat.mul_one, List.take_add]
theorem rd_good {all : List (List UInt8)} (h : Alls all) (x : Nat) (s : List UInt8) (hx : x + secs s.length ≤ all.length) : ∀ i, i ≤ secs s.length → rdN (goodA (over all x s (secs s.length))) x i = (s.take (24 * i) ++ List.replicate (24 * i - s.length) 0, 0)
  | 0, _ => by simp [rdN]
  | i + 1, hi => by
    have ih := rd_good h x s hx i (by omega)
    have hA := over_alls h x s _ hx
    have hr := good_read hA (x + i) (by rw [over_len]; omega)
    rw [over_pay all x s _ hx, if_pos (by omega), show x + i - x = i by omega] at hr
    have hl := secs_lt s.length i (by omega)
    rw [rd_succ _ _ _ (by rw [ih]) (by rw [hr]), ih, hr]
    have e0 : 24 * i - s.length = 0 := by omega
    have ec : (chunk s i).length = min 24 (s.length - 24 * i) := by simp [chunk]
    rw [e0, List.replicate_zero, List.append_nil, pad_app, ← List.append_assoc, take_chunk, ec, show 24 - min 24 (s.length - 24 * i) = 24 * (i + 1) - s.length by omega]
/-- Bytes are read as they were written. -/
theorem stream_back {all : List (List UInt8)} (h : Alls all) (x : Nat) (s : List UInt8) (hs : s.length ≤ 1536) (hx : x + secs s.length ≤ all.length) :
    stWrite (goodA all) x s = (goodA (over all x s (secs s.length)), 0) ∧ stRead (goodA (over all x s (secs s.length))) x s.length = (s, 0) := by
  have hA := over_alls h x s _ hx
  have hc : ∀ l : List (List UInt8), Alls l → l.length = all.length → stChk (goodA l) x s.length = 0 := fun l hl e => by
    rw [stChk, if_pos (good_may hl), if_pos ⟨by omega, by omega⟩, if_pos ⟨by omega, by rw [good_many, e, show ((s.length : Int)).toNat = s.length by omega]; omega⟩]
  refine ⟨?_, ?_⟩
  · rw [stWrite, if_pos (hc all h rfl), show ((x : Int)).toNat = x by omega, st_good h x s _ hx]
  · rw [stRead, if_pos (hc _ hA (over_len all x s _)), show ((x : Int)).toNat = x by omega, show ((s.length : Int)).toNat = s.length by omega, rd_good h x s hx _ (Nat.le_refl _)]
    have := secs_le s.length
    simp [List.take_of_length_le this]
/-- One byte more than there is room for is refused. -/
theorem stream_far {all : List (List UInt8)} (h : Alls all) (x : Nat) (hx : x ≤ all.length) (hn : all.length ≤ 60) : stRead (goodA all) x ((((all.length - x) * 24 + 1 : Nat)) : Int) = ([], 2) := by
  have e : stChk (goodA all) x ((((all.length - x) * 24 + 1 : Nat)) : Int) = 2 := by
    rw [stChk, if_pos (good_may h), if_pos ⟨by omega, by omega⟩, if_neg]
    rw [good_many, show (((((all.length - x) * 24 + 1 : Nat)) : Int)).toNat = (all.length - x) * 24 + 1 by omega]
    unfold secs
    omega
  rw [stRead, e, if_neg (by decide)]
/-- What stands around them stays. -/
theorem stream_stays {all : List (List UInt8)} (h : Alls all) (x : Nat) (s : List UInt8) (hx : x + secs s.length ≤ all.length) (j : Nat) (hj : j < all.length) (ho : ¬ (x ≤ j ∧ j < x + secs s.length)) : arRead (goodA (over all x s (secs s.length))) j = (pay all j, 1, 0) := by
  rw [good_read (over_alls h x s _ hx) j (by rw [over_len]; exact hj), over_pay all x s _ hx, if_neg ho]
end Go.Proofs.YtgholkjpbdcdiaaDoor
