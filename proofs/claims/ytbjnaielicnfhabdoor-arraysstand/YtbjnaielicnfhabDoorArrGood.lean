/- Arrays of which nothing is hurt: what a new one is, what a write makes of one, what is read. -/
import Derived.Test.YtbjnaielicnfhabDoorArrMath
import Derived.Test.YtbjnaielicnfhabDoorDevKeepMath
namespace Go.Proofs.YtbjnaielicnfhabDoor
open Go.RowKit

theorem zip_comm (s t : List UInt8) : xors s t = xors t s := by
  unfold xors
  rw [List.zipWith_comm]
  congr 1
  funext x y
  exact UInt8.xor_comm _ _
theorem xors_length (s t : List UInt8) : (xors s t).length = min s.length t.length := by simp [xors]
/-- What is xored twice is as it was. -/
theorem xors_back (s t : List UInt8) (h : s.length = t.length) : xors (xors s t) t = s := by
  unfold xors
  apply List.ext_getElem
  · simp; omega
  · intro i h1 h2
    simp [UInt8.xor_assoc]
theorem xors_self_zero (n : Nat) : xors (List.replicate n 0) (List.replicate n 0) = List.replicate n 0 := by
  unfold xors
  rw [List.zipWith_replicate']
  rfl
theorem pad_full (l : List UInt8) (h : l.length = 24) : pad l = l := by simp [pad, h]
theorem pad_pad (l : List UInt8) (h : l.length ≤ 24) : pad (pad l) = pad l := pad_full _ (pad_length l h)
theorem body_pad (no : Int) (l : List UInt8) (h : l.length ≤ 24) : body no (pad l) = body no l := by rw [body, body, pad_pad l h]

/-- A whole device: numbers from a first one on, payloads. -/
def whole (n : Nat) (start : Nat) (pay : Nat → List UInt8) : Dv := ((List.range n).map fun (i : Nat) => str (sealed (body ((start + i : Nat) : Int) (pay i))), List.replicate n false)
section
variable {n start k : Nat} {pay pay' : Nat → List UInt8}
theorem mk_len : (whole n start pay).1.length = n ∧ (whole n start pay).2.length = n := by simp [whole]
theorem mk_sec (h : k < n) : sec (whole n start pay) k = str (sealed (body ((start + k : Nat) : Int) (pay k))) := by
  rw [sec_lt _ _ (by rw [mk_len.1]; exact h)]
  simp [whole]
theorem mk_los (h : k < n) : los (whole n start pay) k = false := by
  rw [los_lt _ _ (by rw [mk_len.2]; exact h)]
  simp [whole]
theorem mk_congr (h : ∀ i, i < n → body ((start + i : Nat) : Int) (pay i) = body ((start + i : Nat) : Int) (pay' i)) : whole n start pay = whole n start pay' := by
  unfold whole
  congr 1
  apply List.map_congr_left
  intro i hi
  rw [h i (List.mem_range.1 hi)]
theorem mk_may (h1 : 1 ≤ n) (h2 : n ≤ 64) (hp : ∀ i, i < n → (pay i).length ≤ 24) : dvMay (whole n start pay) = true := by
  rw [dvMay_iff, mk_len.1, mk_len.2]
  refine ⟨by omega, fun s hs => ?_⟩
  simp only [whole, List.mem_map, List.mem_range] at hs
  obtain ⟨i, hi, rfl⟩ := hs
  exact sealed_size _ _ (hp i hi)
theorem mk_touch (h1 : 1 ≤ n) (h2 : n ≤ 64) (hp : ∀ i, i < n → (pay i).length ≤ 24) (hk : k < n) : dvTouch (whole n start pay) k = 0 := (touch_iff _ _).2 ⟨mk_may h1 h2 hp, by rw [mk_len.1]; exact hk⟩
theorem mk_read (h1 : 1 ≤ n) (h2 : n ≤ 64) (hs : start ≤ 1000) (hp : ∀ i, i < n → (pay i).length ≤ 24) (hk : k < n) : dvRead (whole n start pay) k ((start + k : Nat) : Int) = (pad (pay k), 0) := by
  rw [read_ok (mk_touch h1 h2 hp hk) _ (mk_los hk), mk_sec hk, str_list]
  have := decd_encd ((start + k : Nat) : Int) (pay k) (by omega) (by omega) (hp k hk)
  rwa [encd_ok _ _ (by omega) (by omega) (hp k hk)] at this
theorem mk_put (_hk : k < n) (s : List UInt8) : dvPut (whole n start pay) k (str (sealed (body ((start + k : Nat) : Int) s))) false = whole n start (fun i => if i = k then s else pay i) := by
  unfold dvPut whole
  congr 1
  · apply List.ext_getElem
    · simp
    · intro i h1 h2
      simp only [List.getElem_set, List.getElem_map, List.getElem_range]
      by_cases e : k = i
      · subst e; simp
      · have e' : ¬ i = k := fun h => e h.symm
        simp [e, e']
  · apply List.ext_getElem
    · simp
    · intro i h1 h2
      simp
theorem mk_write (h1 : 1 ≤ n) (h2 : n ≤ 64) (hs : start ≤ 1000) (hp : ∀ i, i < n → (pay i).length ≤ 24) (hk : k < n) (s : List UInt8) (h24 : s.length ≤ 24) : dvWrite (whole n start pay) k ((start + k : Nat) : Int) s = (whole n start (fun i => if i = k then s else pay i), 0) := by
  rw [write_ok (mk_touch h1 h2 hp hk) _ s (by omega) (by omega) h24, mk_put hk]
end
theorem new_mk (n start : Nat) (h1 : 1 ≤ n) (h2 : n ≤ 64) (h3 : start ≤ 512) : dvNew n start = (whole n start (fun _ => []), 0) := by
  have e : (n : Int).toNat = n := by omega
  rw [dvNew, if_pos (by omega), e]
  unfold whole
  congr 2
  apply List.map_congr_left
  intro i hi
  have := List.mem_range.1 hi
  rw [encd_ok _ _ (by omega) (by omega) (by simp)]
  simp

/-- The payload of a sector. -/
def pay (all : List (List UInt8)) (i : Nat) : List UInt8 := all[i]?.getD []
/-- The whole array that tells these payloads. -/
def goodA (all : List (List UInt8)) : Ar := [whole all.length 0 (pay all), whole all.length 0 (pay all), whole (all.length / 2) 512 (fun j => xors (pay all (2 * j)) (pay all (2 * j + 1)))]
/-- Payloads of an array: as many as there may be, each of 24 bytes. -/
structure Alls (all : List (List UInt8)) : Prop where
  lo : 16 ≤ all.length
  hi : all.length ≤ 64
  even : all.length % 2 = 0
  full : ∀ i, i < all.length → (pay all i).length = 24
section
variable {all : List (List UInt8)}
theorem pay_lt (i : Nat) (h : i < all.length) : pay all i = all[i] := by simp [pay, h]
theorem Alls.le (h : Alls all) : ∀ i, i < all.length → (pay all i).length ≤ 24 := fun i hi => by rw [h.full i hi]; exact Nat.le_refl _
theorem Alls.xle (h : Alls all) : ∀ j, j < all.length / 2 → (xors (pay all (2 * j)) (pay all (2 * j + 1))).length = 24 := fun j hj => by
  rw [xors_length, h.full _ (by omega), h.full _ (by omega)]; rfl
theorem good_many : many (goodA all) = all.length := mk_len.1
theorem good_may (h : Alls all) : arMay (goodA all) = true := by
  have h1 := h.lo
  have h2 := h.hi
  rw [arMay_iff]
  refine ⟨rfl, ?_, by rw [good_many]; exact h.lo, by rw [good_many]; exact h.hi, by rw [good_many]; exact h.even, ?_, ?_⟩
  · intro D hD
    simp only [goodA, List.mem_cons, List.not_mem_nil, or_false] at hD
    rcases hD with rfl | rfl | rfl
    · exact mk_may (by omega) h2 h.le
    · exact mk_may (by omega) h2 h.le
    · exact mk_may (by omega) (by omega) (fun j hj => by rw [h.xle j hj]; exact Nat.le_refl _)
  · rw [good_many]; exact mk_len.1
  · rw [good_many]; exact mk_len.1
theorem read0 (h : Alls all) (i : Nat) (hi : i < all.length) : dvRead (whole all.length 0 (pay all)) i i = (pay all i, 0) := by
  have h1 := h.lo
  have := mk_read (start := 0) (by omega) h.hi (by omega) h.le hi
  rw [Nat.zero_add, pad_full _ (h.full i hi)] at this
  exact this
theorem good_mirr (h : Alls all) (i : Nat) (hi : i < all.length) : mirr (goodA all) i = (pay all i, 1) := by
  have := read0 h i hi
  unfold mirr
  show (if (dvRead (whole all.length 0 (pay all)) i i).2 = 0 then ((dvRead (whole all.length 0 (pay all)) i i).1, 1) else _) = _
  rw [this, if_pos rfl]
theorem good_tell (h : Alls all) (i : Nat) (hi : i < all.length) : tell (goodA all) i = (pay all i, 1, 0) := by
  unfold tell
  rw [good_mirr h i hi, if_pos (show (0 : Int) < 1 by decide)]
theorem good_pari (h : Alls all) (i : Nat) (hi : i < all.length) : pari (goodA all) i = (xors (pay all (2 * (i / 2))) (pay all (2 * (i / 2) + 1)), 0) := by
  have h1 := h.lo
  have h2 := h.hi
  have := mk_read (n := all.length / 2) (start := 512) (k := i / 2) (pay := fun j => xors (pay all (2 * j)) (pay all (2 * j + 1))) (by omega) (by omega) (by omega) (fun j hj => by rw [h.xle j hj]; exact Nat.le_refl _) (by have := h.even; omega)
  rw [pad_full _ (h.xle _ (by have := h.even; omega))] at this
  exact this
/-- The two payloads of a parity, the given one first. -/
theorem two (n : Nat) : (2 * (n / 2) = n ∧ 2 * (n / 2) + 1 = part n) ∨ (2 * (n / 2) = part n ∧ 2 * (n / 2) + 1 = n) := by
  unfold part; split <;> omega
theorem two_xors (n : Nat) : xors (pay all (2 * (n / 2))) (pay all (2 * (n / 2) + 1)) = xors (pay all n) (pay all (part n)) := by
  rcases two n with ⟨h1, h2⟩ | ⟨h1, h2⟩
  · rw [h2, h1]
  · rw [h2, h1, zip_comm]
theorem pay_set (k : Nat) (s : List UInt8) (hk : k < all.length) (i : Nat) : pay (all.set k s) i = if i = k then s else pay all i := by
  unfold pay
  by_cases e : i = k
  · subst e; simp [hk]
  · rw [List.getElem?_set_ne (fun h => e h.symm), if_neg e]
theorem Alls.set (h : Alls all) (k : Nat) (s : List UInt8) (hk : k < all.length) (hs : s.length = 24) : Alls (all.set k s) := by
  refine ⟨by rw [List.length_set]; exact h.lo, by rw [List.length_set]; exact h.hi, by rw [List.length_set]; exact h.even, fun i hi => ?_⟩
  rw [List.length_set] at hi
  rw [pay_set k s hk]
  split
  · exact hs
  · exact h.full i hi
/-- A write into a whole array. -/
theorem good_put (h : Alls all) (k : Nat) (hk : k < all.length) (s : List UInt8) (hs : s.length ≤ 24) : put (goodA all) k s = goodA (all.set k (pad s)) := by
  have h1 := h.lo
  have h2 := h.hi
  have h3 := h.even
  have hp := part_lt k all.length hk h.even
  have w0 := mk_write (start := 0) (k := k) (by omega) h.hi (by omega) h.le hk s hs
  rw [Nat.zero_add] at w0
  have hx : (xors (pad s) (pay all (part k))).length = 24 := by rw [xors_length, pad_length s hs, h.full _ hp]; rfl
  have w2 := mk_write (n := all.length / 2) (start := 512) (k := k / 2) (pay := fun j => xors (pay all (2 * j)) (pay all (2 * j + 1))) (by omega) (by omega) (by omega) (fun j hj => by rw [h.xle j hj]; exact Nat.le_refl _) (by omega) (xors (pad s) (pay all (part k))) (by rw [hx]; exact Nat.le_refl _)
  unfold put
  rw [good_tell h (part k) hp]
  show (((goodA all).set 0 (dvWrite (whole all.length 0 (pay all)) k k s).1).set 1 (dvWrite (whole all.length 0 (pay all)) k k s).1).set 2 (dvWrite (whole (all.length / 2) 512 (fun j => xors (pay all (2 * j)) (pay all (2 * j + 1)))) ((k / 2 : Nat) : Int) ((512 + k / 2 : Nat) : Int) (xors (pad s) (pay all (part k)))).1 = _
  rw [w0, w2]
  have m0 : whole all.length 0 (fun i => if i = k then s else pay all i) = whole (all.set k (pad s)).length 0 (pay (all.set k (pad s))) := by
    rw [List.length_set]
    apply mk_congr
    intro i hi
    rw [pay_set k _ hk]
    by_cases e : i = k
    · rw [if_pos e, if_pos e, body_pad _ s hs]
    · rw [if_neg e, if_neg e]
  have m2 : whole (all.length / 2) 512 (fun i => if i = k / 2 then xors (pad s) (pay all (part k)) else xors (pay all (2 * i)) (pay all (2 * i + 1))) = whole ((all.set k (pad s)).length / 2) 512 (fun j => xors (pay (all.set k (pad s)) (2 * j)) (pay (all.set k (pad s)) (2 * j + 1))) := by
    rw [List.length_set]
    apply mk_congr
    intro i hi
    congr 1
    by_cases e : i = k / 2
    · subst e
      rw [if_pos rfl, two_xors, pay_set k _ hk, pay_set k _ hk, if_pos rfl, if_neg (part_ne k)]
    · rw [if_neg e, pay_set k _ hk, pay_set k _ hk, if_neg (by omega), if_neg (by omega)]
  simp only [goodA, List.set_cons_zero, List.set_cons_succ, m0, m2]
theorem good_touch (h : Alls all) (k : Nat) (hk : k < all.length) : arTouch (goodA all) k = 0 := by
  rw [arTouch, if_pos (good_may h), if_pos (by rw [good_many]; omega)]
theorem good_write (h : Alls all) (k : Nat) (hk : k < all.length) (s : List UInt8) (hs : s.length ≤ 24) : arWrite (goodA all) k s = (goodA (all.set k (pad s)), 0) := by
  have e : (k : Int).toNat = k := by omega
  rw [arWrite, if_pos (good_touch h k hk), if_neg (by omega), e, good_put h k hk s hs]
theorem good_read (h : Alls all) (k : Nat) (hk : k < all.length) : arRead (goodA all) k = (pay all k, 1, 0) := by
  have e : (k : Int).toNat = k := by omega
  rw [arRead, if_pos (good_touch h k hk), e, good_tell h k hk]
end
/-- No payload at all. -/
def zeros (n : Nat) : List (List UInt8) := List.replicate n (List.replicate 24 0)
theorem zeros_pay (n i : Nat) (h : i < n) : pay (zeros n) i = List.replicate 24 0 := by simp [pay, zeros, h]
theorem zeros_alls (n : Nat) (h1 : 16 ≤ n) (h2 : n ≤ 64) (h3 : n % 2 = 0) : Alls (zeros n) := by
  refine ⟨by simp [zeros]; exact h1, by simp [zeros]; exact h2, by simp [zeros]; exact h3, fun i hi => ?_⟩
  rw [zeros_pay n i (by simpa [zeros] using hi)]
  simp
theorem new_good (n : Nat) (h1 : 16 ≤ n) (h2 : n ≤ 64) (h3 : n % 2 = 0) : arNew n = (goodA (zeros n), 0) := by
  have e2 : ((n : Int) / 2) = ((n / 2 : Nat) : Int) := by omega
  rw [arNew, if_pos (by omega), e2]
  have a := new_mk n 0 (by omega) h2 (by omega)
  have b := new_mk (n / 2) 512 (by omega) (by omega) (by omega)
  have a' : dvNew n 0 = (whole n 0 (fun _ => []), 0) := a
  have b' : dvNew ((n / 2 : Nat) : Int) 512 = (whole (n / 2) 512 (fun _ => []), 0) := b
  rw [a', b']
  have hl : (zeros n).length = n := by simp [zeros]
  have m0 : whole n 0 (fun _ => []) = whole n 0 (pay (zeros n)) := by
    apply mk_congr
    intro i hi
    rw [zeros_pay n i hi]
    exact (body_pad _ [] (by simp)).symm
  have m2 : whole (n / 2) 512 (fun _ => []) = whole (n / 2) 512 (fun j => xors (pay (zeros n) (2 * j)) (pay (zeros n) (2 * j + 1))) := by
    apply mk_congr
    intro i hi
    rw [zeros_pay n _ (by omega), zeros_pay n _ (by omega), xors_self_zero]
    exact (body_pad _ [] (by simp)).symm
  simp only [goodA, hl]
  rw [m0, m2]
end Go.Proofs.YtbjnaielicnfhabDoor
