/- Joined texts: DevKeepMath, ArrGood, ArrHurt, ArrLost. -/
import Derived.Test.YtahoagbaadnihabGreatDoorLow
import Derived.Lib.Strings
import Derived.Lib.Repeat
/- Devices, purely: what was written is read, till it is lost or turned, and again when it is written anew; the other sectors stay. -/
namespace Go.Proofs.YtahoagbaadnihabGreatDoor
open Go.RowKit Go.Lib

theorem byte_up (x : UInt8) (c : Int) (h0 : 0 < c) (h1 : c < 256) : byt ((x.toNat + c) % 256) ≠ x := by
  intro e
  have h := byt_nat (((x.toNat : Int) + c) % 256) (by omega) (by omega)
  rw [e] at h
  have := x.toNat_lt
  omega
theorem sealed_size (no : Int) (l : List UInt8) (h : l.length ≤ 24) : (str (sealed (body no l))).size = 30 := by
  rw [str_size, sealed_length, body_length no l h]
theorem upBy_size (s : ByteArray) (k : Nat) (c : Int) (h : s.size = 30) : (str (upBy s.data.toList k c)).size = 30 := by
  rw [str_size, upBy, List.length_set, ba_len, h]

section
variable {D : Dv} {k j : Nat} {s : ByteArray} {l : Bool}
theorem touch_iff (D : Dv) (k : Nat) : dvTouch D k = 0 ↔ dvMay D = true ∧ k < D.1.length := by
  constructor
  · intro h
    obtain ⟨h1, _, h2, _⟩ := touch_ok D k h
    exact ⟨h1, by omega⟩
  · rintro ⟨h1, h2⟩
    rw [dvTouch, if_pos h1, if_pos (by omega)]
theorem touch_put (h : dvTouch D j = 0) (hs : s.size = 30) : dvTouch (dvPut D k s l) j = 0 := by
  rw [touch_iff] at h ⊢
  obtain ⟨h1, h2⟩ := h
  refine ⟨?_, by simpa [dvPut] using h2⟩
  rw [dvMay_iff] at h1 ⊢
  refine ⟨by simpa [dvPut] using h1.1, fun x hx => ?_⟩
  rcases List.mem_or_eq_of_mem_set hx with h | rfl
  · exact h1.2 x h
  · exact hs
theorem sec_put (h : k < D.1.length) : sec (dvPut D k s l) k = s := by simp [sec, dvPut, h]
theorem los_put (h : k < D.2.length) : los (dvPut D k s l) k = l := by simp [los, dvPut, h]
theorem sec_put_other (h : k ≠ j) : sec (dvPut D k s l) j = sec D j := by simp [sec, dvPut, List.getElem?_set_ne h]
theorem los_put_other (h : k ≠ j) : los (dvPut D k s l) j = los D j := by simp [los, dvPut, List.getElem?_set_ne h]
theorem len2 (h : dvTouch D k = 0) : k < D.1.length ∧ k < D.2.length := by
  obtain ⟨_, _, h1, h2, _⟩ := touch_ok D k h
  omega
theorem write_ok (h : dvTouch D k = 0) (no : Int) (p : List UInt8) (h0 : 0 ≤ no) (h1 : no ≤ 65535) (hp : p.length ≤ 24) : dvWrite D k no p = (dvPut D k (str (sealed (body no p))) false, 0) := by
  have e : (k : Int).toNat = k := by omega
  rw [dvWrite, dvChange, if_pos h, encd_ok no p h0 h1 hp, if_pos rfl, e]
theorem lose_ok (h : dvTouch D k = 0) : dvLose D k = (dvPut D k (sec D k) true, 0) := by
  have e : (k : Int).toNat = k := by omega
  rw [dvLose, dvChange, if_pos h, if_pos rfl, e]
theorem turn_ok (h : dvTouch D k = 0) (pl : Nat) (c : Int) (h0 : pl < 30) (h1 : 0 ≤ c) (h2 : c ≤ 255) : dvTurn D k pl c = (dvPut D k (str (upBy (sec D k).data.toList pl c)) (los D k), 0) := by
  have e : (k : Int).toNat = k := by omega
  have e2 : (pl : Int).toNat = pl := by omega
  rw [dvTurn, if_pos (show 0 ≤ (pl : Int) ∧ (pl : Int) < 30 ∧ 0 ≤ c ∧ c ≤ 255 by omega), dvChange, if_pos h, if_pos rfl, e, e2]
theorem read_ok (h : dvTouch D k = 0) (no : Int) (hl : los D k = false) : dvRead D k no = decd no (sec D k).data.toList := by
  have e : (k : Int).toNat = k := by omega
  rw [dvRead, if_pos h, e, hl, if_neg (by decide)]
theorem read_lost (h : dvTouch D k = 0) (no : Int) (hl : los D k = true) : dvRead D k no = ([], 11) := by
  have e : (k : Int).toNat = k := by omega
  rw [dvRead, if_pos h, e, hl, if_pos rfl]
end

/-- All that DevicesKeep asks of the pure functions. -/
structure KeepsD (n k o pl : Nat) (p : List UInt8) (c : Int) (D0 D1 D2 D3 D4 : Dv) (E3 : List UInt8 × Int) : Prop where
  new : dvNew n 0 = (D0, 0)
  write : dvWrite D0 k k p = (D1, 0)
  read : dvRead D1 k k = (pad p, 0)
  lose : dvLose D1 k = (D2, 0)
  lost : dvRead D2 k k = ([], 11)
  turn : dvTurn D1 k pl c = (D3, 0)
  turned : dvRead D3 k k = E3
  told : c ≠ 0 → E3.2 = 10
  again : dvWrite D2 k k p = (D4, 0)
  back : dvRead D4 k k = (pad p, 0)
  rest : o ≠ k → dvRead D3 o o = (List.replicate 24 0, 0)

theorem keeps (n k o pl : Nat) (p : List UInt8) (c : Int) (h1 : 1 ≤ n) (h2 : n ≤ 64) (hk : k < n) (ho : o < n) (hpl : pl < 30) (hp : p.length ≤ 24) (c0 : 0 ≤ c) (c1 : c ≤ 255) : ∃ D0 D1 D2 D3 D4 E3, KeepsD n k o pl p c D0 D1 D2 D3 D4 E3 := by
  obtain ⟨D0, hD0⟩ : ∃ D0 : Dv, D0 = ((List.range n).map fun (i : Nat) => str (encd (0 + i) []).1, List.replicate n false) := ⟨_, rfl⟩
  have hnew : dvNew n 0 = (D0, 0) := by
    rw [dvNew, if_pos (by omega), hD0]
    rfl
  have hl1 : D0.1.length = n := by rw [hD0]; simp
  have hl2 : D0.2.length = n := by rw [hD0]; simp
  have hsec : ∀ j, j < n → sec D0 j = str (sealed (body j [])) := by
    intro j hj
    rw [sec_lt D0 j (by omega)]
    simp only [hD0, List.getElem_map, List.getElem_range]
    rw [encd_ok _ _ (by omega) (by omega) (by simp), Int.zero_add]
  have hlos : ∀ j, j < n → los D0 j = false := by
    intro j hj
    rw [los_lt D0 j (by omega)]
    simp [hD0]
  have hmay : dvMay D0 = true := by
    rw [dvMay_iff]
    refine ⟨by omega, fun s hs => ?_⟩
    obtain ⟨j, hj, rfl⟩ := List.mem_iff_getElem.1 hs
    rw [← sec_lt D0 j hj, hsec j (by omega), sealed_size _ _ (by simp)]
  have ht0 : ∀ j, j < n → dvTouch D0 j = 0 := fun j hj => (touch_iff D0 j).2 ⟨hmay, by omega⟩
  have hz := sealed_size k p hp
  have hk0 : (0 : Int) ≤ k := by omega
  have hk1 : (k : Int) ≤ 65535 := by omega
  have w1 := write_ok (ht0 k hk) k p hk0 hk1 hp
  obtain ⟨D1, hD1⟩ : ∃ D1, D1 = dvPut D0 k (str (sealed (body k p))) false := ⟨_, rfl⟩
  rw [← hD1] at w1
  have t1 : ∀ j, j < n → dvTouch D1 j = 0 := fun j hj => by rw [hD1]; exact touch_put (ht0 j hj) hz
  have s1 : sec D1 k = str (sealed (body k p)) := by rw [hD1]; exact sec_put (by omega)
  have l1 : los D1 k = false := by rw [hD1]; exact los_put (by omega)
  have dz : decd k (str (sealed (body k p))).data.toList = (pad p, 0) := by
    rw [str_list]
    have := decd_encd k p hk0 hk1 hp
    rwa [encd_ok _ _ hk0 hk1 hp] at this
  obtain ⟨D2, hD2⟩ : ∃ D2, D2 = dvPut D1 k (sec D1 k) true := ⟨_, rfl⟩
  have t2 : dvTouch D2 k = 0 := by rw [hD2]; exact touch_put (t1 k hk) (by rw [s1]; exact hz)
  have l2 : los D2 k = true := by rw [hD2]; exact los_put (len2 (t1 k hk)).2
  obtain ⟨D3, hD3⟩ : ∃ D3, D3 = dvPut D1 k (str (upBy (sec D1 k).data.toList pl c)) (los D1 k) := ⟨_, rfl⟩
  have hz3 : (str (upBy (sec D1 k).data.toList pl c)).size = 30 := upBy_size _ _ _ (by rw [s1]; exact hz)
  have t3 : ∀ j, j < n → dvTouch D3 j = 0 := fun j hj => by rw [hD3]; exact touch_put (t1 j hj) hz3
  obtain ⟨D4, hD4⟩ : ∃ D4, D4 = dvPut D2 k (str (sealed (body k p))) false := ⟨_, rfl⟩
  have t4 : dvTouch D4 k = 0 := by rw [hD4]; exact touch_put t2 hz
  refine ⟨D0, D1, D2, D3, D4, dvRead D3 k k, hnew, w1, ?_, ?_, read_lost t2 _ l2, ?_, rfl, ?_, ?_, ?_, ?_⟩
  · rw [read_ok (t1 k hk) _ l1, s1, dz]
  · rw [lose_ok (t1 k hk), ← hD2]
  · rw [turn_ok (t1 k hk) pl c hpl c0 c1, ← hD3]
  · intro hc
    have l3 : los D3 k = false := by rw [hD3, l1]; exact los_put (len2 (t1 k hk)).2
    have s3 : sec D3 k = str (upBy (sec D1 k).data.toList pl c) := by rw [hD3]; exact sec_put (len2 (t1 k hk)).1
    rw [read_ok (t3 k hk) _ l3, s3, str_list, s1, str_list, upBy]
    rw [decd_spoilt k (body k p) (body_length k p hp) pl hpl _ (byte_up _ c (by omega) (by omega))]
  · rw [write_ok t2 k p hk0 hk1 hp, ← hD4]
  · have l4 : los D4 k = false := by rw [hD4]; exact los_put (len2 t2).2
    have s4 : sec D4 k = str (sealed (body k p)) := by rw [hD4]; exact sec_put (len2 t2).1
    rw [read_ok t4 _ l4, s4, dz]
  · intro hok
    have hne : k ≠ o := fun e => hok e.symm
    have l3 : los D3 o = false := by rw [hD3, los_put_other hne, hD1, los_put_other hne]; exact hlos o ho
    have s3 : sec D3 o = str (sealed (body o [])) := by rw [hD3, sec_put_other hne, hD1, sec_put_other hne]; exact hsec o ho
    rw [read_ok (t3 o ho) _ l3, s3, str_list]
    have := decd_encd o [] (by omega) (by omega) (by simp)
    rw [encd_ok _ _ (by omega) (by omega) (by simp)] at this
    exact this
end Go.Proofs.YtahoagbaadnihabGreatDoor

/- Arrays of which nothing is hurt: what a new one is, what a write makes of one, what is read. -/
namespace Go.Proofs.YtahoagbaadnihabGreatDoor
open Go.RowKit

theorem zip_comm (s t : List UInt8) : xors s t = xors t s := by
  unfold xors
  rw [List.zipWith_comm]
  congr 1
  funext x y
  exact UInt8.xor_comm _ _
theorem xors_length (s t : List UInt8) : (xors s t).length = min s.length t.length := by simp [xors]
/-- What is xored twice is as it was. -/
theorem xors_back (s t : List UInt8) (h : s.length = t.length) : xors (xors s t) t = s := by
  unfold xors
  apply List.ext_getElem
  · simp; omega
  · intro i h1 h2
    simp [UInt8.xor_assoc]
theorem xors_self_zero (n : Nat) : xors (List.replicate n 0) (List.replicate n 0) = List.replicate n 0 := by
  unfold xors
  rw [List.zipWith_replicate']
  rfl
theorem pad_full (l : List UInt8) (h : l.length = 24) : pad l = l := by simp [pad, h]
theorem pad_pad (l : List UInt8) (h : l.length ≤ 24) : pad (pad l) = pad l := pad_full _ (pad_length l h)
theorem body_pad (no : Int) (l : List UInt8) (h : l.length ≤ 24) : body no (pad l) = body no l := by rw [body, body, pad_pad l h]

/-- A whole device: numbers from a first one on, payloads. -/
def whole (n : Nat) (start : Nat) (pay : Nat → List UInt8) : Dv := ((List.range n).map fun (i : Nat) => str (sealed (body ((start + i : Nat) : Int) (pay i))), List.replicate n false)
section
variable {n start k : Nat} {pay pay' : Nat → List UInt8}
theorem mk_len : (whole n start pay).1.length = n ∧ (whole n start pay).2.length = n := by simp [whole]
theorem mk_sec (h : k < n) : sec (whole n start pay) k = str (sealed (body ((start + k : Nat) : Int) (pay k))) := by
  rw [sec_lt _ _ (by rw [mk_len.1]; exact h)]
  simp [whole]
theorem mk_los (h : k < n) : los (whole n start pay) k = false := by
  rw [los_lt _ _ (by rw [mk_len.2]; exact h)]
  simp [whole]
theorem mk_congr (h : ∀ i, i < n → body ((start + i : Nat) : Int) (pay i) = body ((start + i : Nat) : Int) (pay' i)) : whole n start pay = whole n start pay' := by
  unfold whole
  congr 1
  apply List.map_congr_left
  intro i hi
  rw [h i (List.mem_range.1 hi)]
theorem mk_may (h1 : 1 ≤ n) (h2 : n ≤ 64) (hp : ∀ i, i < n → (pay i).length ≤ 24) : dvMay (whole n start pay) = true := by
  rw [dvMay_iff, mk_len.1, mk_len.2]
  refine ⟨by omega, fun s hs => ?_⟩
  simp only [whole, List.mem_map, List.mem_range] at hs
  obtain ⟨i, hi, rfl⟩ := hs
  exact sealed_size _ _ (hp i hi)
theorem mk_touch (h1 : 1 ≤ n) (h2 : n ≤ 64) (hp : ∀ i, i < n → (pay i).length ≤ 24) (hk : k < n) : dvTouch (whole n start pay) k = 0 := (touch_iff _ _).2 ⟨mk_may h1 h2 hp, by rw [mk_len.1]; exact hk⟩
theorem mk_read (h1 : 1 ≤ n) (h2 : n ≤ 64) (hs : start ≤ 1000) (hp : ∀ i, i < n → (pay i).length ≤ 24) (hk : k < n) : dvRead (whole n start pay) k ((start + k : Nat) : Int) = (pad (pay k), 0) := by
  rw [read_ok (mk_touch h1 h2 hp hk) _ (mk_los hk), mk_sec hk, str_list]
  have := decd_encd ((start + k : Nat) : Int) (pay k) (by omega) (by omega) (hp k hk)
  rwa [encd_ok _ _ (by omega) (by omega) (hp k hk)] at this
theorem mk_put (_hk : k < n) (s : List UInt8) : dvPut (whole n start pay) k (str (sealed (body ((start + k : Nat) : Int) s))) false = whole n start (fun i => if i = k then s else pay i) := by
  unfold dvPut whole
  congr 1
  · apply List.ext_getElem
    · simp
    · intro i h1 h2
      simp only [List.getElem_set, List.getElem_map, List.getElem_range]
      by_cases e : k = i
      · subst e; simp
      · have e' : ¬ i = k := fun h => e h.symm
        simp [e, e']
  · apply List.ext_getElem
    · simp
    · intro i h1 h2
      simp
theorem mk_write (h1 : 1 ≤ n) (h2 : n ≤ 64) (hs : start ≤ 1000) (hp : ∀ i, i < n → (pay i).length ≤ 24) (hk : k < n) (s : List UInt8) (h24 : s.length ≤ 24) : dvWrite (whole n start pay) k ((start + k : Nat) : Int) s = (whole n start (fun i => if i = k then s else pay i), 0) := by
  rw [write_ok (mk_touch h1 h2 hp hk) _ s (by omega) (by omega) h24, mk_put hk]
end
theorem new_mk (n start : Nat) (h1 : 1 ≤ n) (h2 : n ≤ 64) (h3 : start ≤ 512) : dvNew n start = (whole n start (fun _ => []), 0) := by
  have e : (n : Int).toNat = n := by omega
  rw [dvNew, if_pos (by omega), e]
  unfold whole
  congr 2
  apply List.map_congr_left
  intro i hi
  have := List.mem_range.1 hi
  rw [encd_ok _ _ (by omega) (by omega) (by simp)]
  simp

/-- The payload of a sector. -/
def pay (all : List (List UInt8)) (i : Nat) : List UInt8 := all[i]?.getD []
/-- The whole array that tells these payloads. -/
def goodA (all : List (List UInt8)) : Ar := [whole all.length 0 (pay all), whole all.length 0 (pay all), whole (all.length / 2) 512 (fun j => xors (pay all (2 * j)) (pay all (2 * j + 1)))]
/-- Payloads of an array: as many as there may be, each of 24 bytes. -/
structure Alls (all : List (List UInt8)) : Prop where
  lo : 16 ≤ all.length
  hi : all.length ≤ 64
  even : all.length % 2 = 0
  full : ∀ i, i < all.length → (pay all i).length = 24
section
variable {all : List (List UInt8)}
theorem pay_lt (i : Nat) (h : i < all.length) : pay all i = all[i] := by simp [pay, h]
theorem Alls.le (h : Alls all) : ∀ i, i < all.length → (pay all i).length ≤ 24 := fun i hi => by rw [h.full i hi]; exact Nat.le_refl _
theorem Alls.xle (h : Alls all) : ∀ j, j < all.length / 2 → (xors (pay all (2 * j)) (pay all (2 * j + 1))).length = 24 := fun j hj => by
  rw [xors_length, h.full _ (by omega), h.full _ (by omega)]; rfl
theorem good_many : many (goodA all) = all.length := mk_len.1
theorem good_may (h : Alls all) : arMay (goodA all) = true := by
  have h1 := h.lo
  have h2 := h.hi
  rw [arMay_iff]
  refine ⟨rfl, ?_, by rw [good_many]; exact h.lo, by rw [good_many]; exact h.hi, by rw [good_many]; exact h.even, ?_, ?_⟩
  · intro D hD
    simp only [goodA, List.mem_cons, List.not_mem_nil, or_false] at hD
    rcases hD with rfl | rfl | rfl
    · exact mk_may (by omega) h2 h.le
    · exact mk_may (by omega) h2 h.le
    · exact mk_may (by omega) (by omega) (fun j hj => by rw [h.xle j hj]; exact Nat.le_refl _)
  · rw [good_many]; exact mk_len.1
  · rw [good_many]; exact mk_len.1
theorem read0 (h : Alls all) (i : Nat) (hi : i < all.length) : dvRead (whole all.length 0 (pay all)) i i = (pay all i, 0) := by
  have h1 := h.lo
  have := mk_read (start := 0) (by omega) h.hi (by omega) h.le hi
  rw [Nat.zero_add, pad_full _ (h.full i hi)] at this
  exact this
theorem good_mirr (h : Alls all) (i : Nat) (hi : i < all.length) : mirr (goodA all) i = (pay all i, 1) := by
  have := read0 h i hi
  unfold mirr
  show (if (dvRead (whole all.length 0 (pay all)) i i).2 = 0 then ((dvRead (whole all.length 0 (pay all)) i i).1, 1) else _) = _
  rw [this, if_pos rfl]
theorem good_tell (h : Alls all) (i : Nat) (hi : i < all.length) : tell (goodA all) i = (pay all i, 1, 0) := by
  unfold tell
  rw [good_mirr h i hi, if_pos (show (0 : Int) < 1 by decide)]
/-- The two payloads of a parity, the given one first. -/
theorem two (n : Nat) : (2 * (n / 2) = n ∧ 2 * (n / 2) + 1 = part n) ∨ (2 * (n / 2) = part n ∧ 2 * (n / 2) + 1 = n) := by
  unfold part; split <;> omega
theorem two_xors (n : Nat) : xors (pay all (2 * (n / 2))) (pay all (2 * (n / 2) + 1)) = xors (pay all n) (pay all (part n)) := by
  rcases two n with ⟨h1, h2⟩ | ⟨h1, h2⟩
  · rw [h2, h1]
  · rw [h2, h1, zip_comm]
theorem pay_set (k : Nat) (s : List UInt8) (hk : k < all.length) (i : Nat) : pay (all.set k s) i = if i = k then s else pay all i := by
  unfold pay
  by_cases e : i = k
  · subst e; simp [hk]
  · rw [List.getElem?_set_ne (fun h => e h.symm), if_neg e]
theorem Alls.set (h : Alls all) (k : Nat) (s : List UInt8) (hk : k < all.length) (hs : s.length = 24) : Alls (all.set k s) := by
  refine ⟨by rw [List.length_set]; exact h.lo, by rw [List.length_set]; exact h.hi, by rw [List.length_set]; exact h.even, fun i hi => ?_⟩
  rw [List.length_set] at hi
  rw [pay_set k s hk]
  split
  · exact hs
  · exact h.full i hi
/-- A write into a whole array. -/
theorem good_put (h : Alls all) (k : Nat) (hk : k < all.length) (s : List UInt8) (hs : s.length ≤ 24) : put (goodA all) k s = goodA (all.set k (pad s)) := by
  have h1 := h.lo
  have h2 := h.hi
  have h3 := h.even
  have hp := part_lt k all.length hk h.even
  have w0 := mk_write (start := 0) (k := k) (by omega) h.hi (by omega) h.le hk s hs
  rw [Nat.zero_add] at w0
  have hx : (xors (pad s) (pay all (part k))).length = 24 := by rw [xors_length, pad_length s hs, h.full _ hp]; rfl
  have w2 := mk_write (n := all.length / 2) (start := 512) (k := k / 2) (pay := fun j => xors (pay all (2 * j)) (pay all (2 * j + 1))) (by omega) (by omega) (by omega) (fun j hj => by rw [h.xle j hj]; exact Nat.le_refl _) (by omega) (xors (pad s) (pay all (part k))) (by rw [hx]; exact Nat.le_refl _)
  unfold put
  rw [good_tell h (part k) hp]
  show (((goodA all).set 0 (dvWrite (whole all.length 0 (pay all)) k k s).1).set 1 (dvWrite (whole all.length 0 (pay all)) k k s).1).set 2 (dvWrite (whole (all.length / 2) 512 (fun j => xors (pay all (2 * j)) (pay all (2 * j + 1)))) ((k / 2 : Nat) : Int) ((512 + k / 2 : Nat) : Int) (xors (pad s) (pay all (part k)))).1 = _
  rw [w0, w2]
  have m0 : whole all.length 0 (fun i => if i = k then s else pay all i) = whole (all.set k (pad s)).length 0 (pay (all.set k (pad s))) := by
    rw [List.length_set]
    apply mk_congr
    intro i hi
    rw [pay_set k _ hk]
    by_cases e : i = k
    · rw [if_pos e, if_pos e, body_pad _ s hs]
    · rw [if_neg e, if_neg e]
  have m2 : whole (all.length / 2) 512 (fun i => if i = k / 2 then xors (pad s) (pay all (part k)) else xors (pay all (2 * i)) (pay all (2 * i + 1))) = whole ((all.set k (pad s)).length / 2) 512 (fun j => xors (pay (all.set k (pad s)) (2 * j)) (pay (all.set k (pad s)) (2 * j + 1))) := by
    rw [List.length_set]
    apply mk_congr
    intro i hi
    congr 1
    by_cases e : i = k / 2
    · subst e
      rw [if_pos rfl, two_xors, pay_set k _ hk, pay_set k _ hk, if_pos rfl, if_neg (part_ne k)]
    · rw [if_neg e, pay_set k _ hk, pay_set k _ hk, if_neg (by omega), if_neg (by omega)]
  simp only [goodA, List.set_cons_zero, List.set_cons_succ, m0, m2]
theorem good_touch (h : Alls all) (k : Nat) (hk : k < all.length) : arTouch (goodA all) k = 0 := by
  rw [arTouch, if_pos (good_may h), if_pos (by rw [good_many]; omega)]
theorem good_write (h : Alls all) (k : Nat) (hk : k < all.length) (s : List UInt8) (hs : s.length ≤ 24) : arWrite (goodA all) k s = (goodA (all.set k (pad s)), 0) := by
  have e : (k : Int).toNat = k := by omega
  rw [arWrite, if_pos (good_touch h k hk), if_neg (by omega), e, good_put h k hk s hs]
theorem good_read (h : Alls all) (k : Nat) (hk : k < all.length) : arRead (goodA all) k = (pay all k, 1, 0) := by
  have e : (k : Int).toNat = k := by omega
  rw [arRead, if_pos (good_touch h k hk), e, good_tell h k hk]
end
/-- No payload at all. -/
def zeroRows (n : Nat) : List (List UInt8) := List.replicate n (List.replicate 24 0)
theorem zeros_pay (n i : Nat) (h : i < n) : pay (zeroRows n) i = List.replicate 24 0 := by simp [pay, zeroRows, h]
theorem zeros_alls (n : Nat) (h1 : 16 ≤ n) (h2 : n ≤ 64) (h3 : n % 2 = 0) : Alls (zeroRows n) := by
  refine ⟨by simp [zeroRows]; exact h1, by simp [zeroRows]; exact h2, by simp [zeroRows]; exact h3, fun i hi => ?_⟩
  rw [zeros_pay n i (by simpa [zeroRows] using hi)]
  simp
theorem new_good (n : Nat) (h1 : 16 ≤ n) (h2 : n ≤ 64) (h3 : n % 2 = 0) : arNew n = (goodA (zeroRows n), 0) := by
  have e2 : ((n : Int) / 2) = ((n / 2 : Nat) : Int) := by omega
  rw [arNew, if_pos (by omega), e2]
  have a := new_mk n 0 (by omega) h2 (by omega)
  have b := new_mk (n / 2) 512 (by omega) (by omega) (by omega)
  have a' : dvNew n 0 = (whole n 0 (fun _ => []), 0) := a
  have b' : dvNew ((n / 2 : Nat) : Int) 512 = (whole (n / 2) 512 (fun _ => []), 0) := b
  rw [a', b']
  have hl : (zeroRows n).length = n := by simp [zeroRows]
  have m0 : whole n 0 (fun _ => []) = whole n 0 (pay (zeroRows n)) := by
    apply mk_congr
    intro i hi
    rw [zeros_pay n i hi]
    exact (body_pad _ [] (by simp)).symm
  have m2 : whole (n / 2) 512 (fun _ => []) = whole (n / 2) 512 (fun j => xors (pay (zeroRows n) (2 * j)) (pay (zeroRows n) (2 * j + 1))) := by
    apply mk_congr
    intro i hi
    rw [zeros_pay n _ (by omega), zeros_pay n _ (by omega), xors_self_zero]
    exact (body_pad _ [] (by simp)).symm
  simp only [goodA, hl]
  rw [m0, m2]
end Go.Proofs.YtahoagbaadnihabGreatDoor

/- Arrays of which one device is hurt, purely: all sectors are told all the same, and where they come from. -/
namespace Go.Proofs.YtahoagbaadnihabGreatDoor
open Go.RowKit

/-- What is done to a device: 4 a sector is lost, 5 a byte of one is turned, 6 it is a new one. -/
structure Hact where
  kind : Int
  d : Int
  n : Int
  at_ : Int
  by_ : Int
/-- Four raw numbers. -/
structure Raw4 where
  kind : Int
  a : Int
  b : Int
  c : Int
/-- Acts of raw numbers: no sector is turned twice. -/
def hurtsGo (d : Int) (m : Int) : List Raw4 → List Int → List Hact
  | [], _ => []
  | r :: l, T =>
    if pick r.kind 12 < 5 then ⟨4, d, pick r.a m, 0, 0⟩ :: hurtsGo d m l T
    else if pick r.kind 12 < 11 ∧ pick r.a m ∉ T then ⟨5, d, pick r.a m, pick r.b 30, pick r.c 256⟩ :: hurtsGo d m l (pick r.a m :: T)
    else if pick r.kind 12 = 11 then ⟨6, d, 0, 0, 0⟩ :: hurtsGo d m l T
    else hurtsGo d m l T
def hurtsOf (l : List Raw4) (d : Int) (m : Int) (most : Nat) : List Hact := hurtsGo d (if d = 2 then m / 2 else m) (l.take most) []

/-- A device that was hurt: a sector is lost, or as it was, or one byte of it was turned once. -/
structure Worn (n start : Nat) (pay : Nat → List UInt8) (T : List Int) (D : Dv) : Prop where
  may : dvMay D = true
  len : D.1.length = n
  each : ∀ i, i < n → los D i = true ∨ sec D i = sec (whole n start pay) i ∨ ((i : Int) ∈ T ∧ ∃ pl c, pl < 30 ∧ 0 ≤ c ∧ c ≤ 255 ∧ sec D i = str (upBy (sec (whole n start pay) i).data.toList pl c))
section
variable {n start : Nat} {pay : Nat → List UInt8} {T : List Int} {D : Dv}
theorem worn_mk (h1 : 1 ≤ n) (h2 : n ≤ 64) (hp : ∀ i, i < n → (pay i).length ≤ 24) : Worn n start pay [] (whole n start pay) := ⟨mk_may h1 h2 hp, mk_len.1, fun _ _ => .inr (.inl rfl)⟩
theorem Worn.touch (h : Worn n start pay T D) (i : Nat) (hi : i < n) : dvTouch D i = 0 := (touch_iff _ _).2 ⟨h.may, by rw [h.len]; exact hi⟩
theorem Worn.lose (h : Worn n start pay T D) (k : Nat) (hk : k < n) : ∃ D', dvLose D k = (D', 0) ∧ Worn n start pay T D' := by
  have ht := h.touch k hk
  refine ⟨_, lose_ok ht, ?_, by simp [dvPut, h.len], fun i hi => ?_⟩
  · exact ((touch_iff _ k).1 (touch_put ht (sec_size D k h.may (by rw [h.len]; exact hk)))).1
  · by_cases e : k = i
    · subst e
      exact .inl (los_put (len2 ht).2)
    · rw [los_put_other e, sec_put_other e]
      exact h.each i hi
theorem Worn.turn (h : Worn n start pay T D) (k : Nat) (hk : k < n) (hT : (k : Int) ∉ T) (pl : Nat) (c : Int) (hpl : pl < 30) (h0 : 0 ≤ c) (h1 : c ≤ 255) : ∃ D', dvTurn D k pl c = (D', 0) ∧ Worn n start pay ((k : Int) :: T) D' := by
  have ht := h.touch k hk
  have hz := sec_size D k h.may (by rw [h.len]; exact hk)
  refine ⟨_, turn_ok ht pl c hpl h0 h1, ?_, by simp [dvPut, h.len], fun i hi => ?_⟩
  · exact ((touch_iff _ k).1 (touch_put ht (upBy_size _ _ _ hz))).1
  · by_cases e : k = i
    · subst e
      rw [los_put (len2 ht).2, sec_put (len2 ht).1]
      rcases h.each k hi with hl | hs | ⟨hm, _⟩
      · exact .inl hl
      · exact .inr (.inr ⟨List.mem_cons_self, pl, c, hpl, h0, h1, by rw [hs]⟩)
      · exact absurd hm hT
    · rw [los_put_other e, sec_put_other e]
      rcases h.each i hi with hl | hs | ⟨hm, r⟩
      · exact .inl hl
      · exact .inr (.inl hs)
      · exact .inr (.inr ⟨List.mem_cons_of_mem _ hm, r⟩)
theorem worn_blank (D : Dv) (hm : dvMay D = true) (hl : D.1.length = n) (T : List Int) : Worn n start pay T (blank D) := by
  have hm' := (dvMay_iff D).1 hm
  refine ⟨?_, hl, fun i hi => .inl ?_⟩
  · rw [dvMay_iff]
    exact ⟨by simpa [blank] using hm'.1, hm'.2⟩
  · rw [los_lt _ _ (by simp [blank]; omega)]
    simp [blank]
/-- What is read of it: nothing, or what it was. -/
theorem Worn.read (h : Worn n start pay T D) (h1 : 1 ≤ n) (h2 : n ≤ 64) (hs : start ≤ 1000) (hp : ∀ i, i < n → (pay i).length ≤ 24) (i : Nat) (hi : i < n) : (dvRead D i ((start + i : Nat) : Int)).2 ≠ 0 ∨ dvRead D i ((start + i : Nat) : Int) = (pad (pay i), 0) := by
  have ht := h.touch i hi
  have hr := mk_read (k := i) h1 h2 hs hp hi
  rw [read_ok (mk_touch h1 h2 hp hi) _ (mk_los hi)] at hr
  cases hl : los D i with
  | true => rw [read_lost ht _ hl]; exact .inl (by decide)
  | false =>
    rw [read_ok ht _ hl]
    rcases h.each i hi with hl' | hs' | ⟨_, pl, c, hpl, c0, c1, hs'⟩
    · rw [hl] at hl'; cases hl'
    · rw [hs', hr]; exact .inr rfl
    · rw [hs', str_list]
      by_cases hc : c = 0
      · subst hc
        have e : upBy (sec (whole n start pay) i).data.toList pl 0 = (sec (whole n start pay) i).data.toList := by
          have hz := sec_size (whole n start pay) i (mk_may h1 h2 hp) (by rw [mk_len.1]; exact hi)
          have hlt : pl < (sec (whole n start pay) i).data.toList.length := by rw [ba_len, hz]; exact hpl
          rw [upBy, Int.add_zero, bat_lt _ _ hlt]
          have hb := ((sec (whole n start pay) i).data.toList[pl]).toNat_lt
          rw [Int.emod_eq_of_lt (by omega) (by omega), byt_of, List.set_getElem_self]
        rw [e, hr]; exact .inr rfl
      · left
        rw [mk_sec hi, str_list, upBy]
        rw [decd_spoilt _ (body _ (pay i)) (body_length _ _ (hp i hi)) pl hpl _ (byte_up _ c (by omega) (by omega))]
        decide
end

theorem pick_bd' (n : Int) (m : Int) (h : 0 < m) : 0 ≤ pick n m ∧ pick n m < m := pick_bd n m h

section
variable {all : List (List UInt8)}
/-- The sectors and the first number and the payloads of a device. -/
def dn (all : List (List UInt8)) (k : Nat) : Nat := if k = 2 then all.length / 2 else all.length
def ds (k : Nat) : Nat := if k = 2 then 512 else 0
def dp (all : List (List UInt8)) (k : Nat) : Nat → List UInt8 := if k = 2 then fun j => xors (pay all (2 * j)) (pay all (2 * j + 1)) else pay all
theorem good_dev (k : Nat) (hk : k < 3) : dev (goodA all) k = whole (dn all k) (ds k) (dp all k) := by
  match k, hk with
  | 0, _ => rfl
  | 1, _ => rfl
  | 2, _ => rfl
theorem dn_bd (h : Alls all) (k : Nat) : 1 ≤ dn all k ∧ dn all k ≤ 64 := by
  have := h.lo; have := h.hi
  unfold dn; split <;> omega
theorem dp_le (h : Alls all) (k : Nat) : ∀ i, i < dn all k → (dp all k i).length ≤ 24 := by
  intro i hi
  unfold dn at hi
  unfold dp
  split
  · rename_i e
    rw [if_pos e] at hi
    rw [h.xle i hi]; exact Nat.le_refl _
  · rename_i e
    rw [if_neg e] at hi
    exact h.le i hi
/-- The array with one device hurt. -/
def With (all : List (List UInt8)) (k : Nat) (D : Dv) : Ar := (goodA all).set k D
theorem with_self (k : Nat) (hk : k < 3) : With all k (whole (dn all k) (ds k) (dp all k)) = goodA all := by
  rw [With, ← good_dev k hk]
  match k, hk with
  | 0, _ => rfl
  | 1, _ => rfl
  | 2, _ => rfl
theorem with_dev (k j : Nat) (D : Dv) (hk : k < 3) : dev (With all k D) j = if j = k then D else dev (goodA all) j := by
  unfold With dev
  by_cases e : j = k
  · subst e
    rw [if_pos rfl, List.getElem?_set_self (by exact hk)]
    rfl
  · rw [if_neg e, List.getElem?_set_ne (fun h => e h.symm)]
theorem with_set (k : Nat) (D D' : Dv) : (With all k D).set k D' = With all k D' := by rw [With, With, List.set_set]
theorem with_len (k : Nat) (D : Dv) : (With all k D).length = 3 := by rw [With, List.length_set]; rfl
theorem with_many (k : Nat) (hk : k < 3) (D : Dv) (hl : D.1.length = dn all k) : many (With all k D) = all.length := by
  unfold many
  rw [with_dev k 0 D hk]
  by_cases e : 0 = k
  · subst e; rw [if_pos rfl, hl]; rfl
  · rw [if_neg e]; exact good_many
theorem with_may (h : Alls all) (k : Nat) (hk : k < 3) (D : Dv) (hm : dvMay D = true) (hl : D.1.length = dn all k) : arMay (With all k D) = true := by
  have hg := (arMay_iff _).1 (good_may h)
  have hd : ∀ j, j < 3 → dvMay (dev (With all k D) j) = true ∧ (dev (With all k D) j).1.length = dn all j := by
    intro j hj
    rw [with_dev k j D hk]
    by_cases e : j = k
    · subst e; rw [if_pos rfl]; exact ⟨hm, hl⟩
    · rw [if_neg e]
      refine ⟨hg.2.1 _ (dev_mem _ _ hj), ?_⟩
      rw [good_dev j hj]; exact mk_len.1
  rw [arMay_iff, with_many k hk D hl]
  refine ⟨with_len k D, ?_, h.lo, h.hi, h.even, (hd 1 (by omega)).2, (hd 2 (by omega)).2⟩
  intro E hE
  obtain ⟨j, hj, rfl⟩ := List.mem_iff_getElem.1 hE
  rw [with_len] at hj
  have := (hd j hj).1
  rwa [dev_lt _ _ (by rw [with_len]; exact hj)] at this
/-- Of an array of which one device is worn all sectors are told. -/
theorem worn_tell (h : Alls all) (k : Nat) (hk : k < 3) (T : List Int) (D : Dv) (hD : Worn (dn all k) (ds k) (dp all k) T D) (i : Nat) (hi : i < all.length) : tell (With all k D) i = (pay all i, 1, 0) ∨ (k = 0 ∧ tell (With all k D) i = (pay all i, 2, 0)) := by
  have r0 := read0 h i hi
  have d1 : dev (With all k D) 1 = if 1 = k then D else whole all.length 0 (pay all) := with_dev k 1 D hk
  have d0 : dev (With all k D) 0 = if 0 = k then D else whole all.length 0 (pay all) := with_dev k 0 D hk
  by_cases e : k = 0
  · subst e
    have hr := hD.read (dn_bd h 0).1 (dn_bd h 0).2 (by decide) (dp_le h 0) i (by exact hi)
    rw [show ((ds 0 + i : Nat) : Int) = (i : Int) by simp [ds]] at hr
    rw [if_pos rfl] at d0
    rw [if_neg (by decide)] at d1
    rcases hr with hr | hr
    · right
      refine ⟨rfl, ?_⟩
      unfold tell mirr
      rw [d0, d1, if_neg hr, r0, if_pos rfl, if_pos (show (0 : Int) < 2 by decide)]
    · left
      have hp : pad (dp all 0 i) = pay all i := pad_full _ (h.full i hi)
      rw [hp] at hr
      unfold tell mirr
      rw [d0, hr, if_pos rfl, if_pos (show (0 : Int) < 1 by decide)]
  · left
    rw [if_neg (fun x => e x.symm)] at d0
    unfold tell mirr
    rw [d0, r0, if_pos rfl, if_pos (show (0 : Int) < 1 by decide)]
theorem worn_read (h : Alls all) (k : Nat) (hk : k < 3) (T : List Int) (D : Dv) (hD : Worn (dn all k) (ds k) (dp all k) T D) (i : Nat) (hi : i < all.length) : arRead (With all k D) i = (pay all i, 1, 0) ∨ (k = 0 ∧ arRead (With all k D) i = (pay all i, 2, 0)) := by
  have e : (i : Int).toNat = i := by omega
  have ht : arTouch (With all k D) i = 0 := by rw [arTouch, if_pos (with_may h k hk D hD.may hD.len), with_many k hk D hD.len, if_pos (by omega)]
  rw [arRead, if_pos ht, e]
  exact worn_tell h k hk T D hD i hi
end
end Go.Proofs.YtahoagbaadnihabGreatDoor

/- Arrays of which sectors are lost, purely: what is told, what a write makes of one. -/
namespace Go.Proofs.YtahoagbaadnihabGreatDoor
open Go.RowKit

/-- One place is another one. -/
def upd {α : Type} (f : Nat → α) (k : Nat) (v : α) : Nat → α := fun i => if i = k then v else f i
section
variable {n start k : Nat} {pay : Nat → List UInt8} {f : Nat → Bool}
end

section
variable {all : List (List UInt8)} {f0 f1 f2 : Nat → Bool}
theorem Alls.one (h : Alls all) : 1 ≤ all.length := by have := h.lo; omega
theorem Alls.half (h : Alls all) : 1 ≤ all.length / 2 ∧ all.length / 2 ≤ 64 := by have := h.lo; have := h.hi; omega
end
end Go.Proofs.YtahoagbaadnihabGreatDoor
