/- Devices, purely: what was written is read, till it is lost or turned, and again when it is written anew; the other sectors stay. -/
import Derived.Test.YtbjnaielicnfhabDoorDevMath
import Derived.Test.YtbjnaielicnfhabDoorSectorMath
import Derived.Lib.Strings
import Derived.Lib.Repeat
namespace Go.Proofs.YtbjnaielicnfhabDoor
open Go.RowKit Go.Lib

theorem pad_pre (l : List UInt8) : Lib.hasPrefix (pad l) l = true := by
  rw [Lib.hasPrefix, List.isPrefixOf_iff_prefix]; exact List.prefix_append _ _
theorem byte_up (x : UInt8) (c : Int) (h0 : 0 < c) (h1 : c < 256) : byt ((x.toNat + c) % 256) ≠ x := by
  intro e
  have h := byt_nat (((x.toNat : Int) + c) % 256) (by omega) (by omega)
  rw [e] at h
  have := x.toNat_lt
  omega
theorem sealed_size (no : Int) (l : List UInt8) (h : l.length ≤ 24) : (str (sealed (body no l))).size = 30 := by
  rw [str_size, sealed_length, body_length no l h]
theorem upBy_size (s : ByteArray) (k : Nat) (c : Int) (h : s.size = 30) : (str (upBy s.data.toList k c)).size = 30 := by
  rw [str_size, upBy, List.length_set, ba_len, h]

section
variable {D : Dv} {k j : Nat} {s : ByteArray} {l : Bool}
theorem touch_iff (D : Dv) (k : Nat) : dvTouch D k = 0 ↔ dvMay D = true ∧ k < D.1.length := by
  constructor
  · intro h
    obtain ⟨h1, _, h2, _⟩ := touch_ok D k h
    exact ⟨h1, by omega⟩
  · rintro ⟨h1, h2⟩
    rw [dvTouch, if_pos h1, if_pos (by omega)]
theorem touch_put (h : dvTouch D j = 0) (hs : s.size = 30) : dvTouch (dvPut D k s l) j = 0 := by
  rw [touch_iff] at h ⊢
  obtain ⟨h1, h2⟩ := h
  refine ⟨?_, by simpa [dvPut] using h2⟩
  rw [dvMay_iff] at h1 ⊢
  refine ⟨by simpa [dvPut] using h1.1, fun x hx => ?_⟩
  rcases List.mem_or_eq_of_mem_set hx with h | rfl
  · exact h1.2 x h
  · exact hs
theorem sec_put (h : k < D.1.length) : sec (dvPut D k s l) k = s := by simp [sec, dvPut, h]
theorem los_put (h : k < D.2.length) : los (dvPut D k s l) k = l := by simp [los, dvPut, h]
theorem sec_put_other (h : k ≠ j) : sec (dvPut D k s l) j = sec D j := by simp [sec, dvPut, List.getElem?_set_ne h]
theorem los_put_other (h : k ≠ j) : los (dvPut D k s l) j = los D j := by simp [los, dvPut, List.getElem?_set_ne h]
theorem len2 (h : dvTouch D k = 0) : k < D.1.length ∧ k < D.2.length := by
  obtain ⟨_, _, h1, h2, _⟩ := touch_ok D k h
  omega
theorem write_ok (h : dvTouch D k = 0) (no : Int) (p : List UInt8) (h0 : 0 ≤ no) (h1 : no ≤ 65535) (hp : p.length ≤ 24) : dvWrite D k no p = (dvPut D k (str (sealed (body no p))) false, 0) := by
  have e : (k : Int).toNat = k := by omega
  rw [dvWrite, dvChange, if_pos h, encd_ok no p h0 h1 hp, if_pos rfl, e]
theorem lose_ok (h : dvTouch D k = 0) : dvLose D k = (dvPut D k (sec D k) true, 0) := by
  have e : (k : Int).toNat = k := by omega
  rw [dvLose, dvChange, if_pos h, if_pos rfl, e]
theorem turn_ok (h : dvTouch D k = 0) (pl : Nat) (c : Int) (h0 : pl < 30) (h1 : 0 ≤ c) (h2 : c ≤ 255) : dvTurn D k pl c = (dvPut D k (str (upBy (sec D k).data.toList pl c)) (los D k), 0) := by
  have e : (k : Int).toNat = k := by omega
  have e2 : (pl : Int).toNat = pl := by omega
  rw [dvTurn, if_pos (show 0 ≤ (pl : Int) ∧ (pl : Int) < 30 ∧ 0 ≤ c ∧ c ≤ 255 by omega), dvChange, if_pos h, if_pos rfl, e, e2]
theorem read_ok (h : dvTouch D k = 0) (no : Int) (hl : los D k = false) : dvRead D k no = decd no (sec D k).data.toList := by
  have e : (k : Int).toNat = k := by omega
  rw [dvRead, if_pos h, e, hl, if_neg (by decide)]
theorem read_lost (h : dvTouch D k = 0) (no : Int) (hl : los D k = true) : dvRead D k no = ([], 11) := by
  have e : (k : Int).toNat = k := by omega
  rw [dvRead, if_pos h, e, hl, if_pos rfl]
end

/-- All that DevicesKeep asks of the pure functions. -/
structure Keeps (n k o pl : Nat) (p : List UInt8) (c : Int) (D0 D1 D2 D3 D4 : Dv) (E3 : List UInt8 × Int) : Prop where
  new : dvNew n 0 = (D0, 0)
  write : dvWrite D0 k k p = (D1, 0)
  read : dvRead D1 k k = (pad p, 0)
  lose : dvLose D1 k = (D2, 0)
  lost : dvRead D2 k k = ([], 11)
  turn : dvTurn D1 k pl c = (D3, 0)
  turned : dvRead D3 k k = E3
  told : c ≠ 0 → E3.2 = 10
  again : dvWrite D2 k k p = (D4, 0)
  back : dvRead D4 k k = (pad p, 0)
  rest : o ≠ k → dvRead D3 o o = (List.replicate 24 0, 0)

theorem keeps (n k o pl : Nat) (p : List UInt8) (c : Int) (h1 : 1 ≤ n) (h2 : n ≤ 64) (hk : k < n) (ho : o < n) (hpl : pl < 30) (hp : p.length ≤ 24) (c0 : 0 ≤ c) (c1 : c ≤ 255) : ∃ D0 D1 D2 D3 D4 E3, Keeps n k o pl p c D0 D1 D2 D3 D4 E3 := by
  obtain ⟨D0, hD0⟩ : ∃ D0 : Dv, D0 = ((List.range n).map fun (i : Nat) => str (encd (0 + i) []).1, List.replicate n false) := ⟨_, rfl⟩
  have hnew : dvNew n 0 = (D0, 0) := by
    rw [dvNew, if_pos (by omega), hD0]
    rfl
  have hl1 : D0.1.length = n := by rw [hD0]; simp
  have hl2 : D0.2.length = n := by rw [hD0]; simp
  have hsec : ∀ j, j < n → sec D0 j = str (sealed (body j [])) := by
    intro j hj
    rw [sec_lt D0 j (by omega)]
    simp only [hD0, List.getElem_map, List.getElem_range]
    rw [encd_ok _ _ (by omega) (by omega) (by simp), Int.zero_add]
  have hlos : ∀ j, j < n → los D0 j = false := by
    intro j hj
    rw [los_lt D0 j (by omega)]
    simp [hD0]
  have hmay : dvMay D0 = true := by
    rw [dvMay_iff]
    refine ⟨by omega, fun s hs => ?_⟩
    obtain ⟨j, hj, rfl⟩ := List.mem_iff_getElem.1 hs
    rw [← sec_lt D0 j hj, hsec j (by omega), sealed_size _ _ (by simp)]
  have ht0 : ∀ j, j < n → dvTouch D0 j = 0 := fun j hj => (touch_iff D0 j).2 ⟨hmay, by omega⟩
  have hz := sealed_size k p hp
  have hk0 : (0 : Int) ≤ k := by omega
  have hk1 : (k : Int) ≤ 65535 := by omega
  have w1 := write_ok (ht0 k hk) k p hk0 hk1 hp
  obtain ⟨D1, hD1⟩ : ∃ D1, D1 = dvPut D0 k (str (sealed (body k p))) false := ⟨_, rfl⟩
  rw [← hD1] at w1
  have t1 : ∀ j, j < n → dvTouch D1 j = 0 := fun j hj => by rw [hD1]; exact touch_put (ht0 j hj) hz
  have s1 : sec D1 k = str (sealed (body k p)) := by rw [hD1]; exact sec_put (by omega)
  have l1 : los D1 k = false := by rw [hD1]; exact los_put (by omega)
  have dz : decd k (str (sealed (body k p))).data.toList = (pad p, 0) := by
    rw [str_list]
    have := decd_encd k p hk0 hk1 hp
    rwa [encd_ok _ _ hk0 hk1 hp] at this
  obtain ⟨D2, hD2⟩ : ∃ D2, D2 = dvPut D1 k (sec D1 k) true := ⟨_, rfl⟩
  have t2 : dvTouch D2 k = 0 := by rw [hD2]; exact touch_put (t1 k hk) (by rw [s1]; exact hz)
  have l2 : los D2 k = true := by rw [hD2]; exact los_put (len2 (t1 k hk)).2
  obtain ⟨D3, hD3⟩ : ∃ D3, D3 = dvPut D1 k (str (upBy (sec D1 k).data.toList pl c)) (los D1 k) := ⟨_, rfl⟩
  have hz3 : (str (upBy (sec D1 k).data.toList pl c)).size = 30 := upBy_size _ _ _ (by rw [s1]; exact hz)
  have t3 : ∀ j, j < n → dvTouch D3 j = 0 := fun j hj => by rw [hD3]; exact touch_put (t1 j hj) hz3
  obtain ⟨D4, hD4⟩ : ∃ D4, D4 = dvPut D2 k (str (sealed (body k p))) false := ⟨_, rfl⟩
  have t4 : dvTouch D4 k = 0 := by rw [hD4]; exact touch_put t2 hz
  refine ⟨D0, D1, D2, D3, D4, dvRead D3 k k, hnew, w1, ?_, ?_, read_lost t2 _ l2, ?_, rfl, ?_, ?_, ?_, ?_⟩
  · rw [read_ok (t1 k hk) _ l1, s1, dz]
  · rw [lose_ok (t1 k hk), ← hD2]
  · rw [turn_ok (t1 k hk) pl c hpl c0 c1, ← hD3]
  · intro hc
    have l3 : los D3 k = false := by rw [hD3, l1]; exact los_put (len2 (t1 k hk)).2
    have s3 : sec D3 k = str (upBy (sec D1 k).data.toList pl c) := by rw [hD3]; exact sec_put (len2 (t1 k hk)).1
    rw [read_ok (t3 k hk) _ l3, s3, str_list, s1, str_list, upBy]
    rw [decd_spoilt k (body k p) (body_length k p hp) pl hpl _ (byte_up _ c (by omega) (by omega))]
  · rw [write_ok t2 k p hk0 hk1 hp, ← hD4]
  · have l4 : los D4 k = false := by rw [hD4]; exact los_put (len2 t2).2
    have s4 : sec D4 k = str (sealed (body k p)) := by rw [hD4]; exact sec_put (len2 t2).1
    rw [read_ok t4 _ l4, s4, dz]
  · intro hok
    have hne : k ≠ o := fun e => hok e.symm
    have l3 : los D3 o = false := by rw [hD3, los_put_other hne, hD1, los_put_other hne]; exact hlos o ho
    have s3 : sec D3 o = str (sealed (body o [])) := by rw [hD3, sec_put_other hne, hD1, sec_put_other hne]; exact hsec o ho
    rw [read_ok (t3 o ho) _ l3, s3, str_list]
    have := decd_encd o [] (by omega) (by omega) (by simp)
    rw [encd_ok _ _ (by omega) (by omega) (by simp)] at this
    exact this
end Go.Proofs.YtbjnaielicnfhabDoor
