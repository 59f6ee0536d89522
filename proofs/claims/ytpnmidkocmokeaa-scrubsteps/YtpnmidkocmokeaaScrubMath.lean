/- The scrub, purely: sector by sector, round and round; a hurt array of which all sectors were looked at. -/
import Derived.Test.YtpnmidkocmokeaaHealMath
namespace Go.Proofs.Ytpnmidkocmokeaa
open Go.RowKit

/-- A scrub under way: the array, the cursor's two numbers, how many copies were written, which sectors could not be read. -/
structure Sc where
  A : Ar
  nx : Nat
  rd : Int
  ct : Int
  lo : Nat → Bool
/-- One sector. -/
def scOne (n : Nat) (s : Sc) : Sc :=
  ⟨if (arHeal s.A s.nx).2.2 = 0 then (arHeal s.A s.nx).1 else s.A, if s.nx + 1 < n then s.nx + 1 else 0, if s.nx + 1 < n then s.rd else s.rd + 1,
    if (arHeal s.A s.nx).2.2 = 0 then s.ct + (arHeal s.A s.nx).2.1 else s.ct, if (arHeal s.A s.nx).2.2 = 0 then s.lo else upd s.lo s.nx true⟩
/-- So many sectors. -/
def scN (n : Nat) (s : Sc) : Nat → Sc
  | 0 => s
  | k + 1 => scOne n (scN n s k)
def scBegin (A : Ar) (nx : Nat) (rd : Int) : Sc := ⟨A, nx, rd, 0, fun _ => false⟩
/-- The sectors, rising. -/
def goneOf (n : Nat) (f : Nat → Bool) : List Nat := (List.range n).filter f
/-- What Step answers: the array, the cursor's two numbers, how many, which, and the error. -/
structure StepR where
  A : Ar
  nx : Int
  rd : Int
  ct : Int
  gone : List Nat
  e : Int
def stepNo (e : Int) : StepR := ⟨[], 0, 0, 0, [], e⟩
def stepYes (n : Nat) (s : Sc) : StepR := ⟨s.A, s.nx, s.rd, s.ct, goneOf n s.lo, 0⟩
def arStep (A : Ar) (nx rd m : Int) : StepR :=
  if arMay A = true then (if (0 ≤ nx ∧ nx < many A) ∧ 0 ≤ rd ∧ rd ≤ 1073741824 then (if 0 ≤ m ∧ m ≤ 64 then stepYes (many A) (scN (many A) (scBegin A nx.toNat rd) m.toNat) else stepNo 2) else stepNo 9) else stepNo 9
/-- Copies that are bad, of so many sectors; which can't be read. -/
def badN (A : Ar) : Nat → Int
  | 0 => 0
  | k + 1 => badN A k + bad1 A k
def lostAt (A : Ar) (i : Nat) : Bool := decide ((arRead A i).2.2 ≠ 0)
def arHealth (A : Ar) : Int × List Nat × Int := if arMay A = true then (badN A (many A), goneOf (many A) (lostAt A), 0) else (0, [], 9)

theorem goneOf_none (n : Nat) (f : Nat → Bool) (h : ∀ i, i < n → f i = false) : goneOf n f = [] := by
  unfold goneOf
  rw [List.filter_eq_nil_iff]
  intro i hi
  rw [h i (by simpa using hi)]
  decide
theorem goneOf_succ (n : Nat) (f : Nat → Bool) : goneOf (n + 1) f = if f n = true then goneOf n f ++ [n] else goneOf n f := by
  unfold goneOf
  rw [List.range_succ, List.filter_append]
  cases h : f n <;> simp [h]

/-- Where the cursor stands behind so many sectors. -/
def nxAt (n nx k : Nat) : Nat := (nx + k) % n
theorem nxAt_step (n nx k : Nat) (hn : nx < n) : (if nxAt n nx k + 1 < n then nxAt n nx k + 1 else 0) = nxAt n nx (k + 1) := by
  have h0 : 0 < n := by omega
  have hl := Nat.mod_lt (nx + k) h0
  have e : nx + (k + 1) = nx + k + 1 := by omega
  unfold nxAt
  rw [e, Nat.add_mod (nx + k) 1 n]
  by_cases h1 : n = 1
  · subst h1; simp [Nat.mod_one]
  · rw [Nat.mod_eq_of_lt (show 1 < n by omega)]
    split
    · rename_i h; exact (Nat.mod_eq_of_lt h).symm
    · rename_i h
      have : (nx + k) % n + 1 = n := by omega
      rw [this, Nat.mod_self]
theorem scN_nx (n : Nat) (A : Ar) (nx : Nat) (rd : Int) (hn : nx < n) : ∀ k, (scN n (scBegin A nx rd) k).nx = nxAt n nx k
  | 0 => (Nat.mod_eq_of_lt hn).symm
  | k + 1 => by
    show (if (scN n _ k).nx + 1 < n then (scN n _ k).nx + 1 else 0) = _
    rw [scN_nx n A nx rd hn k]
    exact nxAt_step n nx k hn
theorem scN_rd (n : Nat) (A : Ar) (nx : Nat) (rd : Int) (hn : nx < n) : ∀ k, (scN n (scBegin A nx rd) k).rd = rd + ((nx + k) / n : Nat)
  | 0 => by
    show rd = rd + ((nx + 0) / n : Nat)
    rw [Nat.add_zero, Nat.div_eq_of_lt hn]; simp
  | k + 1 => by
    show (if (scN n _ k).nx + 1 < n then (scN n _ k).rd else (scN n _ k).rd + 1) = _
    rw [scN_nx n A nx rd hn k, scN_rd n A nx rd hn k]
    have h0 : 0 < n := by omega
    have hl := Nat.mod_lt (nx + k) h0
    have hd := Nat.div_add_mod (nx + k) n
    unfold nxAt
    split
    · rename_i h
      have : (nx + (k + 1)) / n = (nx + k) / n := by
        rw [Nat.div_eq_iff h0] 
        rw [Nat.mul_comm] at hd
        omega
      rw [this]
    · rename_i h
      have : (nx + (k + 1)) / n = (nx + k) / n + 1 := by
        rw [Nat.div_eq_iff h0, Nat.add_mul]
        rw [Nat.mul_comm] at hd
        omega
      rw [this]; omega
section
variable {all : List (List UInt8)}
theorem worn_heal (h : Alls all) (kd k : Nat) (hkd : kd < 3) (hk : k < all.length) (T : List Int) (D : Dv) (hD : Worn (dn all kd) (ds kd) (dp all kd) T D) :
    ∃ D' m, arHeal (With all kd D) k = (With all kd D', m, 0) ∧ 0 ≤ m ∧ m ≤ 3 ∧ Worn (dn all kd) (ds kd) (dp all kd) T D' ∧ Fit all kd k D' ∧ (∀ j, j < all.length → Fit all kd j D → Fit all kd j D') ∧ (Fit all kd k D → D' = D ∧ m = 0) := by
  have e : (k : Int).toNat = k := by omega
  have rd : (arRead (With all kd D) k).2.2 = 0 := by
    rcases worn_read h kd hkd T D hD k hk with x | ⟨_, x⟩ <;> rw [x]
  by_cases hf : Fit all kd k D
  · obtain ⟨n1, n2, _⟩ := heal_none h kd k hkd hk T D hD hf
    exact ⟨D, 0, by rw [arHeal, if_pos rd, e, n1, n2], by omega, by omega, hD, hf, fun _ _ x => x, fun _ => ⟨rfl, rfl⟩⟩
  · obtain ⟨D', e1, e2, e3, e4⟩ := heal_worn h kd k hkd hk T D hD
    refine ⟨D', healN (With all kd D) k, by rw [arHeal, if_pos rd, e, e1], healN_ge _ _, ?_, e2, e3, e4, fun x => absurd x hf⟩
    unfold healN
    split <;> split <;> split <;> omega
/-- So many sectors looked at: all that were looked at are whole. -/
theorem scrub_worn (h : Alls all) (kd : Nat) (hkd : kd < 3) (T : List Int) (D : Dv) (hD : Worn (dn all kd) (ds kd) (dp all kd) T D) (nx : Nat) (rd : Int) (hn : nx < all.length) : ∀ k, k ≤ all.length →
    ∃ D', (scN all.length (scBegin (With all kd D) nx rd) k).A = With all kd D' ∧ Worn (dn all kd) (ds kd) (dp all kd) T D' ∧ (scN all.length (scBegin (With all kd D) nx rd) k).lo = (fun _ => false) ∧ 0 ≤ (scN all.length (scBegin (With all kd D) nx rd) k).ct ∧ (scN all.length (scBegin (With all kd D) nx rd) k).ct ≤ 3 * k ∧
      (∀ j, j < k → Fit all kd (nxAt all.length nx j) D') ∧ ((∀ j, j < all.length → Fit all kd j D) → D' = D ∧ (scN all.length (scBegin (With all kd D) nx rd) k).ct = 0)
  | 0, _ => ⟨D, rfl, hD, rfl, Int.le_refl _, Int.le_refl _, fun j hj => absurd hj (Nat.not_lt_zero j), fun _ => ⟨rfl, rfl⟩⟩
  | k + 1, hk => by
    obtain ⟨D1, a1, a2, a3, a4, a4', a5, a6⟩ := scrub_worn h kd hkd T D hD nx rd hn k (by omega)
    have hx := scN_nx all.length (With all kd D) nx rd hn k
    have hl : nxAt all.length nx k < all.length := Nat.mod_lt _ (by omega)
    obtain ⟨D', m, b1, b2, b2', b3, b4, b5, b6⟩ := worn_heal h kd _ hkd hl T D1 a2
    have hr : arHeal (scN all.length (scBegin (With all kd D) nx rd) k).A (scN all.length (scBegin (With all kd D) nx rd) k).nx = (With all kd D', m, 0) := by rw [a1, hx]; exact b1
    refine ⟨D', ?_, b3, ?_, ?_, ?_, fun j hj => ?_, fun hf => ?_⟩
    · show (if _ then _ else _) = _
      rw [hr, if_pos rfl]
    · show (if _ then _ else _) = _
      rw [hr, if_pos rfl]; exact a3
    · show 0 ≤ (if _ then _ else _ : Int)
      rw [hr, if_pos rfl]
      show 0 ≤ _ + m
      omega
    · show (if _ then _ else _ : Int) ≤ _
      rw [hr, if_pos rfl]
      show _ + m ≤ _
      omega
    · by_cases e : j = k
      · subst e; exact b4
      · exact b5 _ (Nat.mod_lt _ (by omega)) (a5 j (by omega))
    · obtain ⟨c1, c2⟩ := a6 hf
      obtain ⟨c3, c4⟩ := b6 (by rw [c1]; exact hf _ hl)
      refine ⟨c3.trans c1, ?_⟩
      show (if _ then _ else _ : Int) = _
      rw [hr, if_pos rfl]
      show _ + m = 0
      omega
/-- Round: every sector was looked at. -/
theorem nxAt_all (n nx : Nat) (hn : nx < n) (i : Nat) (hi : i < n) : ∃ j, j < n ∧ nxAt n nx j = i := by
  by_cases h : nx ≤ i
  · exact ⟨i - nx, by omega, by unfold nxAt; rw [show nx + (i - nx) = i by omega, Nat.mod_eq_of_lt hi]⟩
  · refine ⟨i + n - nx, by omega, ?_⟩
    unfold nxAt
    rw [show nx + (i + n - nx) = i + n by omega, Nat.add_mod_right, Nat.mod_eq_of_lt hi]
theorem bad_none (h : Alls all) (kd : Nat) (hkd : kd < 3) (T : List Int) (D : Dv) (hD : Worn (dn all kd) (ds kd) (dp all kd) T D) (hf : ∀ j, j < all.length → Fit all kd j D) : ∀ k, k ≤ all.length → badN (With all kd D) k = 0
  | 0, _ => rfl
  | k + 1, hk => by
    unfold badN
    rw [bad_none h kd hkd T D hD hf k (by omega), (heal_none h kd k hkd (by omega) T D hD (hf k (by omega))).2.2]
    rfl
/-- All of it together: a round, the health, and a round more. -/
theorem scrubs (h : Alls all) (kd : Nat) (hkd : kd < 3) (T : List Int) (D : Dv) (hD : Worn (dn all kd) (ds kd) (dp all kd) T D) (nx : Nat) (hn : nx < all.length) :
    ∃ D' m, arStep (With all kd D) nx 0 all.length = ⟨With all kd D', nx, 1, m, [], 0⟩ ∧ Worn (dn all kd) (ds kd) (dp all kd) T D' ∧ arHealth (With all kd D') = (0, [], 0) ∧ (arStep (With all kd D') nx 1 all.length).ct = 0 ∧ (arStep (With all kd D') nx 1 all.length).e = 0 := by
  have h64 := h.hi
  have may := fun E (hE : Worn (dn all kd) (ds kd) (dp all kd) T E) => with_may h kd hkd E hE.may hE.len
  have mn := fun E (hE : Worn (dn all kd) (ds kd) (dp all kd) T E) => with_many kd hkd E hE.len
  have e1 : ((nx : Int)).toNat = nx := by omega
  have e2 : ((all.length : Int)).toNat = all.length := by omega
  have st : ∀ E, Worn (dn all kd) (ds kd) (dp all kd) T E → ∀ r : Int, 0 ≤ r → r ≤ 1 → arStep (With all kd E) nx r all.length = stepYes all.length (scN all.length (scBegin (With all kd E) nx r) all.length) := fun E hE r h0 h1 => by
    unfold arStep
    rw [if_pos (may E hE), mn E hE, if_pos (by omega), if_pos (by omega), e1, e2]
  obtain ⟨D', a1, a2, a3, a4, a4', a5, _⟩ := scrub_worn h kd hkd T D hD nx 0 hn all.length (Nat.le_refl _)
  have ff : ∀ i, i < all.length → Fit all kd i D' := fun i hi => by
    obtain ⟨j, hj, rfl⟩ := nxAt_all all.length nx hn i hi
    exact a5 j hj
  have x1 := scN_nx all.length (With all kd D) nx 0 hn all.length
  have x2 := scN_rd all.length (With all kd D) nx 0 hn all.length
  have x3 : nxAt all.length nx all.length = nx := by unfold nxAt; rw [Nat.add_mod_right, Nat.mod_eq_of_lt hn]
  have x4 : (nx + all.length) / all.length = 1 := by rw [Nat.add_div_right _ (by omega), Nat.div_eq_of_lt hn]
  refine ⟨D', (scN all.length (scBegin (With all kd D) nx 0) all.length).ct, ?_, a2, ?_, ?_, ?_⟩
  · rw [st D hD 0 (by omega) (by omega)]
    unfold stepYes
    rw [a1, x1, x2, a3, x3, x4, goneOf_none _ _ (fun _ _ => rfl)]
    rfl
  · unfold arHealth
    rw [if_pos (may D' a2), mn D' a2, bad_none h kd hkd T D' a2 ff _ (Nat.le_refl _), goneOf_none]
    intro i hi
    unfold lostAt
    rcases worn_read h kd hkd T D' a2 i hi with e | ⟨_, e⟩ <;> rw [e] <;> rfl
  · rw [st D' a2 1 (by omega) (by omega)]
    obtain ⟨D2, _, _, _, _, _, _, b6⟩ := scrub_worn h kd hkd T D' a2 nx 1 hn all.length (Nat.le_refl _)
    exact (b6 ff).2
  · rw [st D' a2 1 (by omega) (by omega)]
    rfl
end
end Go.Proofs.Ytpnmidkocmokeaa
