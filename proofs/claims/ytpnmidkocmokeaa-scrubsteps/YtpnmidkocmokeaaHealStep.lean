/- Healing, purely: what the program's steps make of an array; the array behind them may be, and tells what it told. -/
import Derived.Test.YtpnmidkocmokeaaHealMath
import Derived.Test.YtpnmidkocmokeaaArrTell
namespace Go.Proofs.Ytpnmidkocmokeaa
open Go.RowKit

/-- Does a device tell this? -/
def tellsD (D : Dv) (p no : Int) (s : List UInt8) : Bool := decide ((dvRead D p no).2 = 0 ∧ (dvRead D p no).1 = s)
/-- A sector of a device is written, where it does not tell this; how many were written. -/
def renA (A : Ar) (d : Nat) (p no : Int) (s : List UInt8) : Ar := if tellsD (dev A d) p no s = true then A else A.set d (dvWrite (dev A d) p no s).1
def renN (A : Ar) (d : Nat) (p no : Int) (s : List UInt8) : Int := if tellsD (dev A d) p no s = true then 0 else 1

theorem dev_set_far (A : Ar) (i j : Nat) (D : Dv) (h : i ≠ j) : dev (A.set i D) j = dev A j := by simp [dev, List.getElem?_set_ne h]
theorem dev_set (A : Ar) (i j : Nat) (D : Dv) (hi : i < A.length) : dev (A.set i D) j = if j = i then D else dev A j := by
  by_cases e : j = i
  · subst e; simp [dev, hi]
  · rw [if_neg e, dev_set_far A i j D (fun x => e x.symm)]
theorem set_may (A : Ar) (hm : arMay A = true) (i : Nat) (hi : i < 3) (D : Dv) (hD : dvMay D = true) (hl : D.1.length = (dev A i).1.length) : arMay (A.set i D) = true ∧ many (A.set i D) = many A := by
  have hh := (arMay_iff A).1 hm
  have hd : ∀ j, (dev (A.set i D) j).1.length = (dev A j).1.length := fun j => by
    rw [dev_set A i j D (by rw [hh.1]; exact hi)]
    split
    · rename_i e; rw [e]; exact hl
    · rfl
  have hmn : many (A.set i D) = many A := hd 0
  refine ⟨(arMay_iff _).2 ⟨by rw [List.length_set]; exact hh.1, fun E hE => ?_, ?_⟩, hmn⟩
  · rcases List.mem_or_eq_of_mem_set hE with h | rfl
    · exact hh.2.1 E h
    · exact hD
  · rw [hmn, hd 1, hd 2]; exact hh.2.2
/-- The place of a sector, or of a parity, can be touched. -/
theorem may_touch (A : Ar) (hm : arMay A = true) (k : Nat) (hk : k < many A) : dvTouch (dev A 0) k = 0 ∧ dvTouch (dev A 1) k = 0 ∧ dvTouch (dev A 2) ((k / 2 : Nat) : Int) = 0 := by
  have hh := (arMay_iff A).1 hm
  have hd : ∀ i, i < 3 → dvMay (dev A i) = true := fun i hi => hh.2.1 _ (dev_mem A i (by rw [hh.1]; exact hi))
  refine ⟨(touch_iff _ _).2 ⟨hd 0 (by omega), hk⟩, (touch_iff _ _).2 ⟨hd 1 (by omega), by rw [hh.2.2.2.2.2.1]; exact hk⟩, (touch_iff _ _).2 ⟨hd 2 (by omega), by rw [hh.2.2.2.2.2.2]; omega⟩⟩
theorem write_may (D : Dv) (k : Nat) (no : Int) (s : List UInt8) (ht : dvTouch D k = 0) (h0 : 0 ≤ no) (h1 : no ≤ 65535) (hs : s.length = 24) :
    dvMay (dvWrite D k no s).1 = true ∧ (dvWrite D k no s).1.1.length = D.1.length ∧ dvRead (dvWrite D k no s).1 k no = (s, 0) ∧ ∀ j : Nat, dvTouch D j = 0 → k ≠ j → ∀ m, dvRead (dvWrite D k no s).1 j m = dvRead D j m := by
  have hz := sealed_size no s (by omega)
  have ht2 := touch_put (D := D) (k := k) (s := str (sealed (body no s))) (l := false) ht hz
  rw [write_ok ht no s h0 h1 (by omega)]
  refine ⟨((touch_iff _ _).1 ht2).1, (put_len _ _ _ _).1, ?_, fun j hj hne m => read_put_other hj hne hz m⟩
  rw [read_ok ht2 no (los_put (len2 ht).2), sec_put (len2 ht).1, str_list]
  have e := decd_encd no s h0 h1 (by omega)
  rw [encd_ok no s h0 h1 (by omega)] at e
  rw [e, pad_full s hs]

theorem tell_first (B : Ar) (n : Nat) (s : List UInt8) (e : dvRead (dev B 0) n n = (s, 0)) : tell B n = (s, 1, 0) := by
  have em : mirr B n = (s, 1) := by unfold mirr; rw [e, if_pos rfl]
  unfold tell
  rw [em, if_pos (show (0 : Int) < 1 by decide)]
theorem sick0_eq (A : Ar) (n : Nat) : sick0 A n = !tellsD (dev A 0) n n (tell A n).1 := by
  unfold sick0 tellsD
  by_cases e0 : (dvRead (dev A 0) n n).2 = 0
  · have em : mirr A n = ((dvRead (dev A 0) n n).1, 1) := by unfold mirr; rw [if_pos e0]
    have et : tell A n = ((dvRead (dev A 0) n n).1, 1, 0) := by unfold tell; rw [em, if_pos (show (0 : Int) < 1 by decide)]
    rw [et]
    simp [e0]
  · have : (tell A n).2.1 ≠ 1 := by
      have hm2 : (mirr A n).2 ≠ 1 := by
        unfold mirr
        rw [if_neg e0]
        split <;> simp
      unfold tell
      split
      · exact hm2
      · split <;> simp
    simp [this, e0]
theorem sick1_eq (A : Ar) (n : Nat) : sick1 A n = !tellsD (dev A 1) n n (tell A n).1 := by
  unfold sick1 tellsD
  by_cases e0 : (dvRead (dev A 1) n n).2 = 0
  · by_cases e1 : (dvRead (dev A 1) n n).1 = (tell A n).1 <;> simp [e0, e1]
  · simp [e0]
theorem heal0_eq (A : Ar) (n : Nat) : heal0 A n = renA A 0 n n (tell A n).1 := by
  unfold heal0 renA
  rw [sick0_eq A n]
  cases tellsD (dev A 0) n n (tell A n).1 <;> simp
theorem heal0_dev (A : Ar) (n : Nat) : dev (heal0 A n) 1 = dev A 1 ∧ dev (heal0 A n) 2 = dev A 2 := by
  unfold heal0
  split
  · exact ⟨dev_set_far A 0 1 _ (by decide), dev_set_far A 0 2 _ (by decide)⟩
  · exact ⟨rfl, rfl⟩
theorem heal1_eq (A : Ar) (n : Nat) : heal1 A n = renA (heal0 A n) 1 n n (tell A n).1 := by
  unfold heal1 renA
  rw [sick1_eq A n, (heal0_dev A n).1]
  cases tellsD (dev A 1) n n (tell A n).1 <;> simp
theorem ren_may (A : Ar) (hm : arMay A = true) (d : Nat) (hd : d < 3) (p : Nat) (no : Int) (s : List UInt8) (ht : dvTouch (dev A d) p = 0) (h0 : 0 ≤ no) (h1 : no ≤ 65535) (hs : s.length = 24) :
    arMay (renA A d p no s) = true ∧ many (renA A d p no s) = many A ∧ dvRead (dev (renA A d p no s) d) p no = (s, 0) ∧ ∀ j, j ≠ d → dev (renA A d p no s) j = dev A j := by
  unfold renA
  split
  · rename_i e
    unfold tellsD at e
    rw [decide_eq_true_eq] at e
    exact ⟨hm, rfl, Prod.ext e.2 e.1, fun _ _ => rfl⟩
  · obtain ⟨w1, w2, w3, _⟩ := write_may _ p no s ht h0 h1 hs
    obtain ⟨m1, m2⟩ := set_may A hm d hd _ w1 w2
    have hl : d < A.length := by rw [((arMay_iff A).1 hm).1]; exact hd
    refine ⟨m1, m2, ?_, fun j hj => ?_⟩
    · rw [dev_set A d d _ hl, if_pos rfl]; exact w3
    · rw [dev_set A d j _ hl, if_neg hj]
/-- Behind the mirrors. -/
theorem heal1_may (A : Ar) (hm : arMay A = true) (n : Nat) (hn : n < many A) (h : (tell A n).2.2 = 0) : arMay (heal0 A n) = true ∧ arMay (heal1 A n) = true ∧ many (heal1 A n) = many A ∧ tell (heal1 A n) n = ((tell A n).1, 1, 0) := by
  have hb := ((arMay_iff A).1 hm).2.2.2.1
  have hl := tell_len A n h
  obtain ⟨t0, t1, _⟩ := may_touch A hm n hn
  obtain ⟨a1, a2, a3, a4⟩ := ren_may A hm 0 (by decide) n n _ t0 (by omega) (by omega) hl
  rw [← heal0_eq A n] at a1 a2 a3 a4
  obtain ⟨b1, b2, b3, b4⟩ := ren_may (heal0 A n) a1 1 (by decide) n n _ (by rw [a4 1 (by decide)]; exact t1) (by omega) (by omega) hl
  rw [← heal1_eq A n] at b1 b2 b3 b4
  refine ⟨a1, b1, b2.trans a2, ?_⟩
  have e0 : dvRead (dev (heal1 A n) 0) n n = ((tell A n).1, 0) := by rw [b4 0 (by decide)]; exact a3
  exact tell_first _ n _ e0
theorem sick2_eq (A : Ar) (n : Nat) : sick2 A n = (known (heal1 A n) n && !tellsD (dev (heal1 A n) 2) ((n / 2 : Nat) : Int) ((512 + n / 2 : Nat) : Int) (xors (tell (heal1 A n) n).1 (tell (heal1 A n) (part n)).1)) := by
  unfold sick2 right tellsD pari
  cases known (heal1 A n) n <;> rfl
theorem heal2_eq (A : Ar) (hm : arMay A = true) (n : Nat) (hn : n < many A) (h : (tell A n).2.2 = 0) :
    heal2 A n = if known (heal1 A n) n = true then renA (heal1 A n) 2 ((n / 2 : Nat) : Int) ((512 + n / 2 : Nat) : Int) (xors (tell (heal1 A n) n).1 (tell (heal1 A n) (part n)).1) else heal1 A n := by
  have e : (tell (heal1 A n) n).1 = (tell A n).1 := by rw [(heal1_may A hm n hn h).2.2.2]
  unfold heal2
  rw [sick2_eq A n, e]
  unfold renA
  cases known (heal1 A n) n
  · rfl
  · cases tellsD (dev (heal1 A n) 2) ((n / 2 : Nat) : Int) ((512 + n / 2 : Nat) : Int) (xors (tell A n).1 (tell (heal1 A n) (part n)).1) <;> simp
theorem healN_eq (A : Ar) (n : Nat) :
    healN A n = renN A 0 n n (tell A n).1 + renN (heal0 A n) 1 n n (tell A n).1 + if known (heal1 A n) n = true then renN (heal1 A n) 2 ((n / 2 : Nat) : Int) ((512 + n / 2 : Nat) : Int) (xors (tell (heal1 A n) n).1 (tell (heal1 A n) (part n)).1) else 0 := by
  unfold healN renN
  rw [sick0_eq A n, sick1_eq A n, sick2_eq A n, (heal0_dev A n).1]
  cases tellsD (dev A 0) n n (tell A n).1 <;> cases tellsD (dev A 1) n n (tell A n).1 <;> cases known (heal1 A n) n <;> cases tellsD (dev (heal1 A n) 2) ((n / 2 : Nat) : Int) ((512 + n / 2 : Nat) : Int) (xors (tell (heal1 A n) n).1 (tell (heal1 A n) (part n)).1) <;> rfl
theorem txt_eq (a b : List UInt8) : ((str a).toList == (str b).toList) = decide (a = b) := by
  rw [ByteArray.toList_eq, ByteArray.toList_eq, str_list, str_list, Bool.eq_iff_iff]
  simp only [beq_iff_eq, decide_eq_true_eq]
end Go.Proofs.Ytpnmidkocmokeaa
