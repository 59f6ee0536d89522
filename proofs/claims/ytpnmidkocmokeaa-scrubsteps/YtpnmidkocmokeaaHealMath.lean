/- Healing, purely: how many copies are bad, what is written anew; a hurt array of which a sector was made whole. -/
import Derived.Test.YtpnmidkocmokeaaHigh
namespace Go.Proofs.Ytpnmidkocmokeaa
open Go.RowKit

/-- Can both of a sector's two be told? -/
def known (A : Ar) (n : Nat) : Bool := decide ((tell A n).2.2 = 0 ∧ (tell A (part n)).2.2 = 0)
/-- .. and does the parity tell where they differ? -/
def right (A : Ar) (n : Nat) : Bool := known A n && decide ((pari A n).2 = 0 ∧ (pari A n).1 = xors (tell A n).1 (tell A (part n)).1)
def bad1 (A : Ar) (n : Nat) : Int := (if (dvRead (dev A 0) n n).2 = 0 then 0 else 1) + (if (dvRead (dev A 1) n n).2 = 0 then 0 else 1) + (if n % 2 = 0 ∧ right A n = false then 1 else 0)
def arBad (A : Ar) (n : Int) : Int × Int := if arTouch A n = 0 then (bad1 A n.toNat, 0) else (0, arTouch A n)
/-- Which mirrors do not tell what is told. -/
def sick0 (A : Ar) (n : Nat) : Bool := decide ((tell A n).2.1 ≠ 1)
def sick1 (A : Ar) (n : Nat) : Bool := decide ((dvRead (dev A 1) n n).2 ≠ 0 ∨ (dvRead (dev A 1) n n).1 ≠ (tell A n).1)
def heal0 (A : Ar) (n : Nat) : Ar := if sick0 A n = true then A.set 0 (dvWrite (dev A 0) n n (tell A n).1).1 else A
def heal1 (A : Ar) (n : Nat) : Ar := if sick1 A n = true then (heal0 A n).set 1 (dvWrite (dev A 1) n n (tell A n).1).1 else heal0 A n
/-- Is the parity written? -/
def sick2 (A : Ar) (n : Nat) : Bool := known (heal1 A n) n && !right (heal1 A n) n
def heal2 (A : Ar) (n : Nat) : Ar := if sick2 A n = true then (heal1 A n).set 2 (dvWrite (dev (heal1 A n) 2) ((n / 2 : Nat) : Int) ((512 + n / 2 : Nat) : Int) (xors (tell A n).1 (tell (heal1 A n) (part n)).1)).1 else heal1 A n
def healN (A : Ar) (n : Nat) : Int := (if sick0 A n = true then 1 else 0) + (if sick1 A n = true then 1 else 0) + (if sick2 A n = true then 1 else 0)
def arHeal (A : Ar) (n : Int) : Ar × Int × Int := if (arRead A n).2.2 = 0 then (heal2 A n.toNat, healN A n.toNat, 0) else ([], 0, (arRead A n).2.2)

theorem healN_ge (A : Ar) (n : Nat) : 0 ≤ healN A n := by unfold healN; split <;> split <;> split <;> omega

/-- What is read of another place. -/
theorem read_put_other {D : Dv} {p q : Nat} {s : ByteArray} {l : Bool} (hq : dvTouch D q = 0) (hne : p ≠ q) (hs : s.size = 30) (no : Int) : dvRead (dvPut D p s l) q no = dvRead D q no := by
  have ht : dvTouch (dvPut D p s l) q = 0 := touch_put hq hs
  cases e : los D q with
  | true => rw [read_lost ht no (by rw [los_put_other hne]; exact e), read_lost hq no e]
  | false => rw [read_ok ht no (by rw [los_put_other hne]; exact e), read_ok hq no e, sec_put_other hne]

section
variable {n start : Nat} {pay : Nat → List UInt8} {T : List Int} {D : Dv}
/-- A sector of a worn device is written as it was. -/
theorem Worn.write (h : Worn n start pay T D) (h1 : 1 ≤ n) (h2 : n ≤ 64) (hs : start ≤ 1000) (hp : ∀ i, i < n → (pay i).length ≤ 24) (k : Nat) (hk : k < n) :
    ∃ D', dvWrite D k ((start + k : Nat) : Int) (pay k) = (D', 0) ∧ Worn n start pay T D' ∧ dvRead D' k ((start + k : Nat) : Int) = (pad (pay k), 0) ∧ ∀ j, j < n → j ≠ k → ∀ no, dvRead D' j no = dvRead D j no := by
  have ht := h.touch k hk
  have hz := sealed_size ((start + k : Nat) : Int) (pay k) (hp k hk)
  refine ⟨_, write_ok ht _ (pay k) (by omega) (by omega) (hp k hk), ⟨?_, by simp [dvPut, h.len], fun i hi => ?_⟩, ?_⟩
  · exact ((touch_iff _ k).1 (touch_put ht hz)).1
  · by_cases e : k = i
    · subst e
      rw [sec_put (len2 ht).1, mk_sec hk]
      exact .inr (.inl rfl)
    · rw [los_put_other e, sec_put_other e]
      exact h.each i hi
  · refine ⟨?_, fun j hj hne no => read_put_other (h.touch j hj) (fun e => hne e.symm) hz no⟩
    rw [read_ok (touch_put ht hz) _ (los_put (len2 ht).2), sec_put (len2 ht).1, ← mk_sec hk]
    have := mk_read (k := k) h1 h2 hs hp hk
    rwa [read_ok (mk_touch h1 h2 hp hk) _ (mk_los hk)] at this
end

section
variable {all : List (List UInt8)}
/-- The place of a sector, or of its parity, on a device. -/
def pl (kd k : Nat) : Nat := if kd = 2 then k / 2 else k
theorem pl_lt (h : Alls all) (kd k : Nat) (hk : k < all.length) : pl kd k < dn all kd := by
  have := h.even
  unfold pl dn
  split <;> omega
/-- A worn device tells this place. -/
def Fit (all : List (List UInt8)) (kd k : Nat) (D : Dv) : Prop := dvRead D (pl kd k) ((ds kd + pl kd k : Nat) : Int) = (dp all kd (pl kd k), 0)
theorem dp_full (h : Alls all) (kd k : Nat) (hk : k < all.length) : (dp all kd (pl kd k)).length = 24 := by
  have := h.even
  unfold dp pl
  split
  · exact h.xle (k / 2) (by omega)
  · exact h.full k hk
theorem fit_or (h : Alls all) (kd k : Nat) (hk : k < all.length) (T : List Int) (D : Dv) (hD : Worn (dn all kd) (ds kd) (dp all kd) T D) : (dvRead D (pl kd k) ((ds kd + pl kd k : Nat) : Int)).2 ≠ 0 ∨ Fit all kd k D := by
  rcases hD.read (dn_bd h kd).1 (dn_bd h kd).2 (by unfold ds; split <;> omega) (dp_le h kd) (pl kd k) (pl_lt h kd k hk) with e | e
  · exact .inl e
  · right
    unfold Fit
    rw [e, pad_full _ (dp_full h kd k hk)]
theorem fit_write (h : Alls all) (kd k : Nat) (hk : k < all.length) (T : List Int) (D : Dv) (hD : Worn (dn all kd) (ds kd) (dp all kd) T D) : ∃ D', dvWrite D (pl kd k) ((ds kd + pl kd k : Nat) : Int) (dp all kd (pl kd k)) = (D', 0) ∧ Worn (dn all kd) (ds kd) (dp all kd) T D' ∧ Fit all kd k D' ∧ ∀ j, j < all.length → Fit all kd j D → Fit all kd j D' := by
  obtain ⟨D', e1, e2, e3, e4⟩ := hD.write (dn_bd h kd).1 (dn_bd h kd).2 (by unfold ds; split <;> omega) (dp_le h kd) (pl kd k) (pl_lt h kd k hk)
  have hF : Fit all kd k D' := by
    unfold Fit
    rw [e3, pad_full _ (dp_full h kd k hk)]
  refine ⟨D', e1, e2, hF, fun j hj f => ?_⟩
  by_cases e : pl kd j = pl kd k
  · unfold Fit at hF ⊢
    rw [e]; exact hF
  · unfold Fit at f ⊢
    rw [e4 _ (pl_lt h kd j hj) e]; exact f
theorem par_two (k : Nat) : dp all 2 (k / 2) = xors (pay all k) (pay all (part k)) := two_xors k
theorem good_rd (h : Alls all) (k : Nat) (hk : k < all.length) : dvRead (whole all.length 0 (pay all)) k k = (pay all k, 0) := read0 h k hk
theorem worn_known (h : Alls all) (kd k : Nat) (hkd : kd < 3) (hk : k < all.length) (T : List Int) (D : Dv) (hD : Worn (dn all kd) (ds kd) (dp all kd) T D) : (tell (With all kd D) k).1 = pay all k ∧ (tell (With all kd D) k).2.2 = 0 ∧ known (With all kd D) k = true := by
  have a : ∀ i, i < all.length → (tell (With all kd D) i).1 = pay all i ∧ (tell (With all kd D) i).2.2 = 0 := fun i hi => by
    rcases worn_tell h kd hkd T D hD i hi with e | ⟨_, e⟩ <;> rw [e] <;> exact ⟨rfl, rfl⟩
  refine ⟨(a k hk).1, (a k hk).2, ?_⟩
  unfold known
  rw [decide_eq_true_eq]
  exact ⟨(a k hk).2, (a _ (part_lt k _ hk h.even)).2⟩
theorem with_pari (kd : Nat) (hkd : kd < 3) (D : Dv) (k : Nat) : pari (With all kd D) k = if kd = 2 then dvRead D ((k / 2 : Nat) : Int) ((512 + k / 2 : Nat) : Int) else pari (goodA all) k := by
  unfold pari
  rw [with_dev kd 2 D hkd]
  by_cases e : kd = 2
  · rw [if_pos e, if_pos e.symm]
  · rw [if_neg e, if_neg (fun x => e x.symm)]
/-- The parity is right, where the third device tells it. -/
theorem worn_right (h : Alls all) (kd k : Nat) (hkd : kd < 3) (hk : k < all.length) (T : List Int) (D : Dv) (hD : Worn (dn all kd) (ds kd) (dp all kd) T D) : right (With all kd D) k = if kd = 2 then decide ((dvRead D ((k / 2 : Nat) : Int) ((512 + k / 2 : Nat) : Int)).2 = 0) else true := by
  obtain ⟨t1, _, t3⟩ := worn_known h kd k hkd hk T D hD
  obtain ⟨u1, _, _⟩ := worn_known h kd (part k) hkd (part_lt k _ hk h.even) T D hD
  unfold right
  rw [t3, t1, u1, with_pari kd hkd D k, Bool.true_and]
  by_cases e : kd = 2
  · subst e
    rw [if_pos rfl, if_pos rfl]
    rcases fit_or h 2 k hk T D hD with f | f
    · rw [decide_eq_false (fun x => f x.1)]
      exact (decide_eq_false f).symm
    · have f' : dvRead D ((k / 2 : Nat) : Int) ((512 + k / 2 : Nat) : Int) = (dp all 2 (k / 2), 0) := f
      rw [f', par_two]
      simp
  · rw [if_neg e, if_neg e, good_pari h k hk, two_xors]
    simp
/-- A sector is made whole. -/
theorem heal_worn (h : Alls all) (kd k : Nat) (hkd : kd < 3) (hk : k < all.length) (T : List Int) (D : Dv) (hD : Worn (dn all kd) (ds kd) (dp all kd) T D) :
    ∃ D', heal2 (With all kd D) k = With all kd D' ∧ Worn (dn all kd) (ds kd) (dp all kd) T D' ∧ Fit all kd k D' ∧ ∀ j, j < all.length → Fit all kd j D → Fit all kd j D' := by
  obtain ⟨t1, _, t3⟩ := worn_known h kd k hkd hk T D hD
  have r0 := good_rd h k hk
  match kd, hkd with
  | 0, _ =>
    have d0 : dev (With all 0 D) 0 = D := by rw [with_dev 0 0 D (by omega)]; rfl
    have d1 : dev (With all 0 D) 1 = whole all.length 0 (pay all) := by rw [with_dev 0 1 D (by omega)]; rfl
    have s1 : sick1 (With all 0 D) k = false := by unfold sick1; rw [d1, r0, t1]; simp
    have hh : ∃ D', heal1 (With all 0 D) k = With all 0 D' ∧ Worn (dn all 0) (ds 0) (dp all 0) T D' ∧ Fit all 0 k D' ∧ ∀ j, j < all.length → Fit all 0 j D → Fit all 0 j D' := by
      unfold heal1 heal0
      rw [s1, if_neg (by decide), t1, d0]
      rcases fit_or h 0 k hk T D hD with f | f
      · have : sick0 (With all 0 D) k = true := by
          have f' : (dvRead D k k).2 ≠ 0 := by simpa [pl, ds] using f
          unfold sick0 tell mirr
          rw [d0, d1, if_neg f', r0]
          simp
        rw [if_pos this]
        obtain ⟨D', e1, e2, e3⟩ := fit_write h 0 k hk T D hD
        have e1' : dvWrite D k k (pay all k) = (D', 0) := by simpa [pl, ds, dp] using e1
        rw [e1', with_set]
        exact ⟨D', rfl, e2, e3⟩
      · have : sick0 (With all 0 D) k = false := by
          have f' : dvRead D k k = (pay all k, 0) := by simpa [Fit, pl, ds, dp] using f
          unfold sick0 tell mirr
          rw [d0, f']
          simp
        rw [this, if_neg (by decide)]
        exact ⟨D, rfl, hD, f, fun _ _ x => x⟩
    obtain ⟨D', e1, e2, e3⟩ := hh
    have s2 : sick2 (With all 0 D) k = false := by
      unfold sick2
      rw [e1, worn_right h 0 k (by omega) hk T D' e2]
      simp
    unfold heal2
    rw [s2, if_neg (by decide)]
    exact ⟨D', e1, e2, e3⟩
  | 1, _ =>
    have d0 : dev (With all 1 D) 0 = whole all.length 0 (pay all) := by rw [with_dev 1 0 D (by omega)]; rfl
    have d1 : dev (With all 1 D) 1 = D := by rw [with_dev 1 1 D (by omega)]; rfl
    have s0 : sick0 (With all 1 D) k = false := by unfold sick0 tell mirr; rw [d0, r0]; simp
    have e0 : heal0 (With all 1 D) k = With all 1 D := by unfold heal0; rw [s0, if_neg (by decide)]
    have hh : ∃ D', heal1 (With all 1 D) k = With all 1 D' ∧ Worn (dn all 1) (ds 1) (dp all 1) T D' ∧ Fit all 1 k D' ∧ ∀ j, j < all.length → Fit all 1 j D → Fit all 1 j D' := by
      unfold heal1
      rw [e0, t1, d1]
      rcases fit_or h 1 k hk T D hD with f | f
      · have : sick1 (With all 1 D) k = true := by
          have f' : (dvRead D k k).2 ≠ 0 := by simpa [pl, ds] using f
          unfold sick1
          rw [d1]
          simp [f']
        rw [if_pos this]
        obtain ⟨D', e1, e2, e3⟩ := fit_write h 1 k hk T D hD
        have e1' : dvWrite D k k (pay all k) = (D', 0) := by simpa [pl, ds, dp] using e1
        rw [e1', with_set]
        exact ⟨D', rfl, e2, e3⟩
      · have : sick1 (With all 1 D) k = false := by
          have f' : dvRead D k k = (pay all k, 0) := by simpa [Fit, pl, ds, dp] using f
          unfold sick1
          rw [d1, f', t1]
          simp
        rw [this, if_neg (by decide)]
        exact ⟨D, rfl, hD, f, fun _ _ x => x⟩
    obtain ⟨D', e1, e2, e3⟩ := hh
    have s2 : sick2 (With all 1 D) k = false := by
      unfold sick2
      rw [e1, worn_right h 1 k (by omega) hk T D' e2]
      simp
    unfold heal2
    rw [s2, if_neg (by decide)]
    exact ⟨D', e1, e2, e3⟩
  | 2, _ =>
    have d0 : dev (With all 2 D) 0 = whole all.length 0 (pay all) := by rw [with_dev 2 0 D (by omega)]; rfl
    have d1 : dev (With all 2 D) 1 = whole all.length 0 (pay all) := by rw [with_dev 2 1 D (by omega)]; rfl
    have d2 : dev (With all 2 D) 2 = D := by rw [with_dev 2 2 D (by omega)]; rfl
    have s0 : sick0 (With all 2 D) k = false := by unfold sick0 tell mirr; rw [d0, r0]; simp
    have s1 : sick1 (With all 2 D) k = false := by unfold sick1; rw [d1, r0, t1]; simp
    have e1 : heal1 (With all 2 D) k = With all 2 D := by
      unfold heal1 heal0
      rw [s1, s0, if_neg (by decide), if_neg (by decide)]
    obtain ⟨u1, _, _⟩ := worn_known h 2 (part k) (by omega) (part_lt k _ hk h.even) T D hD
    unfold heal2 sick2
    rw [e1, t3, worn_right h 2 k (by omega) hk T D hD, if_pos rfl, t1, u1, d2]
    rcases fit_or h 2 k hk T D hD with f | f
    · have f' : ¬ (dvRead D ((k / 2 : Nat) : Int) ((512 + k / 2 : Nat) : Int)).2 = 0 := f
      rw [decide_eq_false f', if_pos (by decide), ← par_two]
      obtain ⟨D', g1, g2, g3⟩ := fit_write h 2 k hk T D hD
      have g1' : dvWrite D ((k / 2 : Nat) : Int) ((512 + k / 2 : Nat) : Int) (dp all 2 (k / 2)) = (D', 0) := g1
      rw [g1', with_set]
      exact ⟨D', rfl, g2, g3⟩
    · have f' : dvRead D ((k / 2 : Nat) : Int) ((512 + k / 2 : Nat) : Int) = (dp all 2 (k / 2), 0) := f
      rw [f', decide_eq_true rfl, if_neg (by decide)]
      exact ⟨D, rfl, hD, f, fun _ _ x => x⟩
/-- Again there is nothing to do. -/
theorem heal_none (h : Alls all) (kd k : Nat) (hkd : kd < 3) (hk : k < all.length) (T : List Int) (D : Dv) (hD : Worn (dn all kd) (ds kd) (dp all kd) T D) (hf : Fit all kd k D) : heal2 (With all kd D) k = With all kd D ∧ healN (With all kd D) k = 0 ∧ bad1 (With all kd D) k = 0 := by
  obtain ⟨t1, _, t3⟩ := worn_known h kd k hkd hk T D hD
  have r0 := good_rd h k hk
  have q0 : dvRead (dev (With all kd D) 0) k k = (pay all k, 0) := by
    rw [with_dev kd 0 D hkd]
    by_cases e : 0 = kd
    · subst e
      rw [if_pos rfl]
      simpa [Fit, pl, ds, dp] using hf
    · rw [if_neg e]; exact r0
  have q1 : dvRead (dev (With all kd D) 1) k k = (pay all k, 0) := by
    rw [with_dev kd 1 D hkd]
    by_cases e : 1 = kd
    · subst e
      rw [if_pos rfl]
      simpa [Fit, pl, ds, dp] using hf
    · rw [if_neg e]; exact r0
  have rt : right (With all kd D) k = true := by
    rw [worn_right h kd k hkd hk T D hD]
    by_cases e : kd = 2
    · subst e
      have f' : dvRead D ((k / 2 : Nat) : Int) ((512 + k / 2 : Nat) : Int) = (dp all 2 (k / 2), 0) := hf
      rw [if_pos rfl, f']; rfl
    · rw [if_neg e]
  have s0 : sick0 (With all kd D) k = false := by unfold sick0 tell mirr; rw [q0]; simp
  have s1 : sick1 (With all kd D) k = false := by unfold sick1; rw [q1, t1]; simp
  have e1 : heal1 (With all kd D) k = With all kd D := by
    unfold heal1 heal0
    rw [s1, s0, if_neg (by decide), if_neg (by decide)]
  have s2 : sick2 (With all kd D) k = false := by unfold sick2; rw [e1, rt]; simp
  refine ⟨by unfold heal2; rw [s2, if_neg (by decide)]; exact e1, by unfold healN; rw [s0, s1, s2]; rfl, ?_⟩
  unfold bad1
  rw [q0, q1, rt]
  simp
theorem worn_touch (h : Alls all) (kd k : Nat) (hkd : kd < 3) (hk : k < all.length) (T : List Int) (D : Dv) (hD : Worn (dn all kd) (ds kd) (dp all kd) T D) : arTouch (With all kd D) k = 0 := by
  rw [arTouch, if_pos (with_may h kd hkd D hD.may hD.len), with_many kd hkd D hD.len, if_pos (by omega)]
/-- All of it together: a sector is healed, again, and looked at. -/
theorem heals (h : Alls all) (kd k : Nat) (hkd : kd < 3) (hk : k < all.length) (T : List Int) (D : Dv) (hD : Worn (dn all kd) (ds kd) (dp all kd) T D) :
    ∃ D' m, arHeal (With all kd D) k = (With all kd D', m, 0) ∧ 0 ≤ m ∧ Worn (dn all kd) (ds kd) (dp all kd) T D' ∧ arHeal (With all kd D') k = (With all kd D', 0, 0) ∧ arBad (With all kd D') k = (0, 0) := by
  have e : (k : Int).toNat = k := by omega
  have rd : ∀ E, Worn (dn all kd) (ds kd) (dp all kd) T E → (arRead (With all kd E) k).2.2 = 0 := fun E hE => by
    rcases worn_read h kd hkd T E hE k hk with x | ⟨_, x⟩ <;> rw [x]
  obtain ⟨D', e1, e2, e3, _⟩ := heal_worn h kd k hkd hk T D hD
  obtain ⟨n1, n2, n3⟩ := heal_none h kd k hkd hk T D' e2 e3
  refine ⟨D', healN (With all kd D) k, ?_, healN_ge _ _, e2, ?_, ?_⟩
  · rw [arHeal, if_pos (rd D hD), e, e1]
  · rw [arHeal, if_pos (rd D' e2), e, n1, n2]
  · rw [arBad, if_pos (worn_touch h kd k hkd hk T D' e2), e, n3]
end
end Go.Proofs.Ytpnmidkocmokeaa
