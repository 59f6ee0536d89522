/- Sectors that could not be read, purely: as they came up, sorted, each once. -/
import Derived.Test.YtpnmidkocmokeaaScrubMath
import Derived.Test.YtpnmidkocmokeaaHealStep
import Derived.Lib.SlicesCompact
namespace Go.Proofs.Ytpnmidkocmokeaa
open Go.RowKit Go.Lib

/-- Two strictly rising lists of the same numbers are one. -/
theorem rising_same : ∀ (l m : List Int), l.Pairwise (· < ·) → m.Pairwise (· < ·) → (∀ x, x ∈ l ↔ x ∈ m) → l = m
  | [], [], _, _, _ => rfl
  | [], b :: m, _, _, h => absurd ((h b).2 List.mem_cons_self) List.not_mem_nil
  | a :: l, [], _, _, h => absurd ((h a).1 List.mem_cons_self) List.not_mem_nil
  | a :: l, b :: m, hl, hm, h => by
    rw [List.pairwise_cons] at hl hm
    have e : a = b := by
      rcases List.mem_cons.1 ((h a).1 List.mem_cons_self) with e | e
      · exact e
      · rcases List.mem_cons.1 ((h b).2 List.mem_cons_self) with f | f
        · exact f.symm
        · have := hm.1 a e
          have := hl.1 b f
          omega
    subst e
    rw [rising_same l m hl.2 hm.2 fun x => ⟨fun hx => ?_, fun hx => ?_⟩]
    · rcases List.mem_cons.1 ((h x).1 (List.mem_cons_of_mem _ hx)) with e | e
      · have := hl.1 x hx; omega
      · exact e
    · rcases List.mem_cons.1 ((h x).2 (List.mem_cons_of_mem _ hx)) with e | e
      · have := hm.1 x hx; omega
      · exact e
/-- Of a row that rises, what is kept rises strictly, and has all of it. -/
theorem compact_up (d : Array Int) (hd : ∀ i j, i ≤ j → j < d.size → d[i]! ≤ d[j]!) : ∀ m, m ≤ d.size → (compactUpTo d m).Pairwise (· < ·) ∧ ∀ x, x ∈ compactUpTo d m ↔ ∃ j, j < m ∧ d[j]! = x
  | 0, _ => ⟨by simp [compactUpTo], fun x => by simp [compactUpTo]⟩
  | m + 1, hm => by
    obtain ⟨h1, h2⟩ := compact_up d hd m (by omega)
    rw [compactUpTo_succ]
    by_cases k : Go.Lib.keeps d m = true
    · rw [if_pos k]
      refine ⟨?_, fun x => ?_⟩
      · rw [List.pairwise_append]
        refine ⟨h1, List.pairwise_singleton _ _, fun x hx y hy => ?_⟩
        obtain ⟨j, hj, rfl⟩ := (h2 x).1 hx
        rw [List.mem_singleton.1 hy]
        have ne : d[m]! ≠ d[m - 1]! := by
          have := of_decide_eq_true k
          rcases this with e | e
          · omega
          · exact e
        have a1 := hd j (m - 1) (by omega) (by omega)
        have a2 := hd (m - 1) m (by omega) (by omega)
        omega
      · rw [List.mem_append, List.mem_singleton, h2]
        constructor
        · rintro (⟨j, hj, e⟩ | e)
          · exact ⟨j, by omega, e⟩
          · exact ⟨m, by omega, e.symm⟩
        · rintro ⟨j, hj, e⟩
          by_cases c : j = m
          · subst c; exact .inr e.symm
          · exact .inl ⟨j, by omega, e⟩
    · rw [if_neg k, List.append_nil]
      refine ⟨h1, fun x => ?_⟩
      rw [h2]
      constructor
      · rintro ⟨j, hj, e⟩; exact ⟨j, by omega, e⟩
      · rintro ⟨j, hj, e⟩
        by_cases c : j = m
        · subst c
          have hk : ¬ (j = 0 ∨ d[j]! ≠ d[j - 1]!) := fun h => k (decide_eq_true h)
          refine ⟨j - 1, ?_, ?_⟩
          · rcases Nat.eq_zero_or_pos j with z | z
            · exact absurd (.inl z) hk
            · omega
          · rw [← e]
            exact (Classical.byContradiction fun h => hk (.inr fun h' => h h'.symm))
        · exact ⟨j, by omega, e⟩
/-- Sorted, each once: the numbers that are in a list. -/
theorem sorted_once (n : Nat) (L : List Nat) (hL : ∀ x ∈ L, x < n) (f : Nat → Bool) (hf : ∀ i, f i = decide (i ∈ L)) :
    compact ((L.map Int.ofNat).mergeSort fun x y => decide (x ≤ y)) = (goneOf n f).map Int.ofNat := by
  obtain ⟨S, hS⟩ : ∃ S, S = (L.map Int.ofNat).mergeSort fun x y => decide (x ≤ y) := ⟨_, rfl⟩
  have hp : S.Pairwise (fun x y => decide (x ≤ y) = true) := by
    rw [hS]
    exact List.pairwise_mergeSort (fun a b c h1 h2 => by simp at *; omega) (fun a b => by simp; omega) _
  have hm : ∀ x, x ∈ S ↔ x ∈ L.map Int.ofNat := fun x => by rw [hS]; exact List.mem_mergeSort
  rw [← hS]
  have hd : ∀ i j, i ≤ j → j < S.toArray.size → S.toArray[i]! ≤ S.toArray[j]! := fun i j h1 h2 => by
    have h2' : j < S.length := by simpa using h2
    have h3 : i < S.length := by omega
    have e1 : S.toArray[i]! = S[i] := by rw [getElem!_pos S.toArray i (by simpa using h3)]; simp
    have e2 : S.toArray[j]! = S[j] := by rw [getElem!_pos S.toArray j (by simpa using h2')]; simp
    rw [e1, e2]
    by_cases e : i = j
    · subst e; exact Int.le_refl _
    · exact of_decide_eq_true (List.pairwise_iff_getElem.1 hp i j h3 h2' (by omega))
  obtain ⟨c1, c2⟩ := compact_up S.toArray hd S.length (by simp)
  refine rising_same _ _ c1 ?_ fun x => ?_
  · unfold goneOf
    rw [List.pairwise_map]
    refine List.Pairwise.imp ?_ (List.Pairwise.filter _ List.pairwise_lt_range)
    intro a b h
    exact Int.ofNat_lt.2 h
  · rw [show compact S = compactUpTo S.toArray S.length from rfl, c2]
    have : (∃ j, j < S.length ∧ S.toArray[j]! = x) ↔ x ∈ S := by
      rw [List.mem_iff_getElem]
      constructor
      · rintro ⟨j, hj, e⟩
        refine ⟨j, hj, ?_⟩
        rw [getElem!_pos S.toArray j (by simpa using hj)] at e
        simpa using e
      · rintro ⟨j, hj, e⟩
        refine ⟨j, hj, ?_⟩
        rw [getElem!_pos S.toArray j (by simpa using hj)]
        simpa using e
    rw [this, hm]
    unfold goneOf
    simp only [List.mem_map, List.mem_filter, List.mem_range, hf, decide_eq_true_eq]
    constructor
    · rintro ⟨a, ha, e⟩; exact ⟨a, ⟨hL a ha, ha⟩, e⟩
    · rintro ⟨a, ⟨_, ha⟩, e⟩; exact ⟨a, ha, e⟩

/-- Numbers that are not below 0, as whole ones. -/
def ups (L : List Nat) : List Int := L.map Int.ofNat
theorem ups_snoc (L : List Nat) (n : Nat) : ups (L ++ [n]) = ups L ++ [(n : Int)] := by unfold ups; rw [List.map_append]; rfl
theorem ups_length (L : List Nat) : (ups L).length = L.length := by simp [ups]
/-- The sectors that could not be read, as they came up. -/
def scG (n : Nat) (s : Sc) : Nat → List Nat
  | 0 => []
  | k + 1 => if (arHeal (scN n s k).A (scN n s k).nx).2.2 = 0 then scG n s k else scG n s k ++ [(scN n s k).nx]
theorem scG_len (n : Nat) (s : Sc) : ∀ k, (scG n s k).length ≤ k
  | 0 => Nat.le_refl _
  | k + 1 => by
    have := scG_len n s k
    unfold scG
    split
    · omega
    · rw [List.length_append]; simp; omega
theorem scG_lo (n : Nat) (A : Ar) (nx : Nat) (rd : Int) : ∀ k i, (scN n (scBegin A nx rd) k).lo i = decide (i ∈ scG n (scBegin A nx rd) k)
  | 0, i => by simp [scN, scBegin, scG]
  | k + 1, i => by
    have h := scG_lo n A nx rd k i
    show (if _ then _ else upd _ _ true) i = _
    unfold scG
    split
    · exact h
    · show (if i = _ then true else _) = _
      split
      · rename_i e
        rw [decide_eq_true]
        rw [e]; simp
      · rename_i e
        rw [h]
        congr 1
        simp [e]
theorem scG_lt (n : Nat) (A : Ar) (nx : Nat) (rd : Int) (hn : nx < n) : ∀ k, ∀ x ∈ scG n (scBegin A nx rd) k, x < n
  | 0, x, hx => by cases hx
  | k + 1, x, hx => by
    unfold scG at hx
    split at hx
    · exact scG_lt n A nx rd hn k x hx
    · rcases List.mem_append.1 hx with h | h
      · exact scG_lt n A nx rd hn k x h
      · rw [List.mem_singleton.1 h, scN_nx n A nx rd hn k]
        exact Nat.mod_lt _ (by omega)
/-- Told rising, each once. -/
theorem scG_gone (n : Nat) (A : Ar) (nx : Nat) (rd : Int) (hn : nx < n) (k : Nat) :
    compact ((ups (scG n (scBegin A nx rd) k)).mergeSort fun x y => decide (x ≤ y)) = ups (goneOf n (scN n (scBegin A nx rd) k).lo) :=
  sorted_once n _ (scG_lt n A nx rd hn k) _ (scG_lo n A nx rd k)

/-- An array stays one that may be, and has as many sectors. -/
theorem heal_may (A : Ar) (hm : arMay A = true) (n : Nat) (hn : n < many A) (h : (arHeal A n).2.2 = 0) : arMay (arHeal A n).1 = true ∧ many (arHeal A n).1 = many A := by
  have hr : (arRead A n).2.2 = 0 := by
    unfold arHeal at h
    split at h
    · assumption
    · exact h
  have ht : (tell A n).2.2 = 0 := by rw [arRead_tell A n hm hn] at hr; exact hr
  rw [arHeal, if_pos hr, show (n : Int).toNat = n by omega]
  obtain ⟨_, h1, h2, _⟩ := heal1_may A hm n hn ht
  show arMay (heal2 A n) = true ∧ many (heal2 A n) = many A
  rw [heal2_eq A hm n hn ht]
  split
  · rename_i hk
    have hk2 : (tell (heal1 A n) n).2.2 = 0 ∧ (tell (heal1 A n) (part n)).2.2 = 0 := of_decide_eq_true hk
    have hb := ((arMay_iff A).1 hm).2.2.2.1
    obtain ⟨r1, r2, _⟩ := ren_may (heal1 A n) h1 2 (by decide) (n / 2) ((512 + n / 2 : Nat) : Int) (xors (tell (heal1 A n) n).1 (tell (heal1 A n) (part n)).1) (may_touch _ h1 n (by rw [h2]; exact hn)).2.2 (by omega) (by omega) (by rw [xors_len, tell_len _ _ hk2.1, tell_len _ _ hk2.2]; rfl)
    exact ⟨r1, r2.trans h2⟩
  · exact ⟨h1, h2⟩
theorem scN_may (n : Nat) (A : Ar) (nx : Nat) (rd : Int) (hm : arMay A = true) (hn : many A = n) (hx : nx < n) : ∀ k, arMay (scN n (scBegin A nx rd) k).A = true ∧ many (scN n (scBegin A nx rd) k).A = n
  | 0 => ⟨hm, hn⟩
  | k + 1 => by
    obtain ⟨h1, h2⟩ := scN_may n A nx rd hm hn hx k
    have hlt : (scN n (scBegin A nx rd) k).nx < n := by rw [scN_nx n A nx rd hx k]; exact Nat.mod_lt _ (by omega)
    show arMay (if _ then _ else _) = true ∧ many (if _ then _ else _) = n
    split
    · rename_i h
      have := heal_may _ h1 _ (by rw [h2]; exact hlt) h
      rw [h2] at this
      exact this
    · exact ⟨h1, h2⟩
/-- How many copies were written: at most three a sector. -/
theorem scN_ct (n : Nat) (A : Ar) (nx : Nat) (rd : Int) : ∀ k : Nat, 0 ≤ (scN n (scBegin A nx rd) k).ct ∧ (scN n (scBegin A nx rd) k).ct ≤ 3 * k
  | 0 => ⟨Int.le_refl _, Int.le_refl _⟩
  | k + 1 => by
    obtain ⟨h1, h2⟩ := scN_ct n A nx rd k
    have e : (scN n (scBegin A nx rd) (k + 1)).ct = if (arHeal (scN n (scBegin A nx rd) k).A (scN n (scBegin A nx rd) k).nx).2.2 = 0 then (scN n (scBegin A nx rd) k).ct + (arHeal (scN n (scBegin A nx rd) k).A (scN n (scBegin A nx rd) k).nx).2.1 else (scN n (scBegin A nx rd) k).ct := rfl
    rw [e]
    have hb : 0 ≤ (arHeal (scN n (scBegin A nx rd) k).A (scN n (scBegin A nx rd) k).nx).2.1 ∧ (arHeal (scN n (scBegin A nx rd) k).A (scN n (scBegin A nx rd) k).nx).2.1 ≤ 3 := by
      unfold arHeal
      split
      · show 0 ≤ healN _ _ ∧ healN _ _ ≤ 3
        unfold healN
        split <;> split <;> split <;> omega
      · exact ⟨Int.le_refl _, show (0 : Int) ≤ 3 by decide⟩
    constructor <;> split <;> omega
theorem badN_bd (A : Ar) : ∀ k : Nat, 0 ≤ badN A k ∧ badN A k ≤ 3 * k
  | 0 => ⟨Int.le_refl _, Int.le_refl _⟩
  | k + 1 => by
    have := badN_bd A k
    have : 0 ≤ bad1 A k ∧ bad1 A k ≤ 3 := by unfold bad1; split <;> split <;> split <;> omega
    unfold badN
    omega
end Go.Proofs.Ytpnmidkocmokeaa
