/- What comes again takes few bytes: bytes with so many of their first ones again behind them are at most six longer when they are packed. -/
import Derived.Test.YtlndioefemdpjaaPressMath
namespace Go.Proofs.Ytlndioefemdpjaa

section
variable (a t : List UInt8)

theorem alike_app (k i : Nat) (hk : k < i) (hi : i < a.length) (h5 : a.length ≤ 100) :
    (i + alike a k i < a.length → alike (a ++ t) k i = alike a k i) ∧ (i + alike a k i = a.length → a.length ≤ i + alike (a ++ t) k i) := by
  obtain ⟨r1, r2, r3, r4⟩ := alike_spec a k i (by omega)
  have ha : ∀ j, j < alike a k i → bat (a ++ t) (k + j) = bat (a ++ t) (i + j) := fun j hj => by
    rw [bat_app _ _ _ (by omega), bat_app _ _ _ (by omega)]; exact r3 j hj
  constructor
  · intro h
    refine alike_eq _ _ _ _ r1 (by simp; omega) ha (.inr (.inr ?_))
    rw [bat_app _ _ _ (by omega), bat_app _ _ _ (by omega)]
    rcases r4 with r4 | r4 | r4
    · omega
    · omega
    · exact r4
  · intro h
    obtain ⟨s1, s2, s3, s4⟩ := alike_spec (a ++ t) k i (by simp; omega)
    rcases Nat.lt_or_ge (alike (a ++ t) k i) (alike a k i) with h' | h'
    · rcases s4 with s4 | s4 | s4
      · omega
      · simp at s4; omega
      · exact absurd (ha _ h') s4
    · omega
theorem bestGo_app (i : Nat) (hi : i < a.length) (h5 : a.length ≤ 100) : ∀ m, m ≤ i → (bestGo (a ++ t) i m = bestGo a i m ∧ i + (bestGo a i m).1 < a.length) ∨ (i + (bestGo a i m).1 = a.length ∧ a.length ≤ i + (bestGo (a ++ t) i m).1)
  | 0, _ => .inl ⟨rfl, by simpa [bestGo] using hi⟩
  | m + 1, hm => by
    obtain ⟨g1, g2⟩ := alike_app a t (i - (m + 1)) i (by omega) hi h5
    have b1 := alike_spec a (i - (m + 1)) i (by omega)
    have e1 := bestGo_max a i m
    have e2 := bestGo_max (a ++ t) i m
    rcases bestGo_app i hi h5 m (by omega) with ⟨h1, h2⟩ | ⟨h1, h2⟩
    · rcases Nat.lt_or_ge (i + alike a (i - (m + 1)) i) a.length with h | h
      · refine .inl ⟨?_, by omega⟩
        rw [bestGo, bestGo, h1, g1 h]
      · have := g2 (by omega)
        exact .inr ⟨by omega, by omega⟩
    · exact .inr ⟨by omega, by omega⟩
theorem best_app (i : Nat) (hi : i < a.length) (h5 : a.length ≤ 100) : (best (a ++ t) i = best a i ∧ i + (best a i).1 < a.length) ∨ (i + (best a i).1 = a.length ∧ a.length ≤ i + (best (a ++ t) i).1) :=
  bestGo_app a t i hi h5 (min i 255) (by omega)
theorem bestGo_ge (l : List UInt8) (i d : Nat) (hd : 1 ≤ d) : ∀ m, d ≤ m → alike l (i - d) i ≤ (bestGo l i m).1
  | 0, h => by omega
  | m + 1, h => by
    have e := bestGo_max l i m
    by_cases c : d = m + 1
    · subst c; omega
    · have := bestGo_ge l i d hd m (by omega); omega
variable {a t}
/-- In the bytes that come again the longest piece goes to the end. -/
theorem best_again (h1 : 1 ≤ a.length) (h5 : a.length ≤ 100) (m : Nat) (hm : m ≤ a.length) (ht : t = a.take m) (j : Nat) (hj : a.length ≤ j) (hj2 : j ≤ (a ++ t).length) : j + (best (a ++ t) j).1 = (a ++ t).length := by
  have hl : (a ++ t).length = a.length + m := by subst ht; simp; omega
  have hb := best_bd (a ++ t) j hj2
  have he : alike (a ++ t) (j - a.length) j = (a ++ t).length - j := by
    refine alike_eq _ _ _ _ (by omega) (by omega) (fun x hx => ?_) (.inr (.inl (by omega)))
    rw [bat_app _ _ _ (by omega), bat_app_r _ _ _ (by omega), ht, bat_take _ _ _ (by omega)]
    congr 1; omega
  have hg := bestGo_ge (a ++ t) j a.length h1 (min j 255) (by omega)
  rw [he] at hg
  have : (best (a ++ t) j).1 = (bestGo (a ++ t) j (min j 255)).1 := rfl
  omega
theorem rest_plain (l : List UInt8) (f : Nat) : ∀ i, (∀ j, i ≤ j → j < l.length → (best l j).1 < 4) → rest l f i = plainly (cut l f l.length) := by
  intro i
  induction hn : l.length - i generalizing i with
  | zero => intro _; exact rest_end l f i (by omega)
  | succ n ih =>
    intro h
    rw [rest_skip l f i (by omega) (h i (Nat.le_refl _) (by omega))]
    exact ih (i + 1) (by omega) fun j hj hj2 => h j (by omega) hj2
theorem rest_tail (h1 : 1 ≤ a.length) (h5 : a.length ≤ 100) (m : Nat) (hm : m ≤ a.length) (ht : t = a.take m) (j : Nat) (hj : a.length ≤ j) (hj2 : j ≤ (a ++ t).length) : (rest (a ++ t) j j).length ≤ 4 := by
  have hb := best_again h1 h5 m hm ht j hj hj2
  by_cases e : j = (a ++ t).length
  · rw [rest_end _ _ _ (by omega), plainly_length, cut_length _ _ _ (Nat.le_refl _)]; omega
  · by_cases h4 : (best (a ++ t) j).1 < 4
    · rw [rest_plain (a ++ t) j j (fun x hx hx2 => by have := best_again h1 h5 m hm ht x (by omega) (by omega); omega), plainly_length, cut_length _ _ _ (Nat.le_refl _)]; omega
    · rw [rest_take _ _ _ (by omega) (by omega), hb, rest_end _ _ _ (Nat.le_refl _), cut_self, cut_self, plainly_nil]; simp
theorem plain_le (l l' : List UInt8) (h : l.length ≤ l'.length) : (plainly l).length ≤ (plainly l').length := by rw [plainly_length, plainly_length]; omega
theorem rest_again (h1 : 1 ≤ a.length) (h5 : a.length ≤ 100) (m : Nat) (hm : m ≤ a.length) (h4m : 4 ≤ m) (ht : t = a.take m) : ∀ f i, f ≤ i → i ≤ a.length → (rest (a ++ t) f i).length ≤ (rest a f i).length + 6 := by
  have hl : (a ++ t).length = a.length + m := by subst ht; simp; omega
  intro f i
  induction hn : a.length - i using Nat.strongRecOn generalizing f i with
  | _ n ih =>
    intro hf hi
    by_cases e : i = a.length
    · subst e
      have hb := best_again h1 h5 m hm ht a.length (Nat.le_refl _) (by omega)
      rw [rest_end a f _ (Nat.le_refl _), rest_take _ _ _ (by omega) (by omega), hb, rest_end _ _ _ (Nat.le_refl _), cut_self, plainly_nil, cut_app _ _ _ _ (Nat.le_refl _)]
      simp
    · rcases best_app a t i (by omega) h5 with ⟨hbe, hlt⟩ | ⟨hbe, hge⟩
      · by_cases h4 : (best a i).1 < 4
        · rw [rest_skip a f i (by omega) h4, rest_skip (a ++ t) f i (by omega) (by rw [hbe]; exact h4)]
          exact ih _ (by omega) f (i + 1) rfl (by omega) (by omega)
        · rw [rest_take a f i (by omega) (by omega), rest_take (a ++ t) f i (by omega) (by rw [hbe]; omega), hbe, cut_app _ _ _ _ hi]
          have := ih _ (by omega) (i + (best a i).1) (i + (best a i).1) rfl (Nat.le_refl _) (by omega)
          simp only [List.length_append, List.length_cons]
          omega
      · have hb2 := best_bd (a ++ t) i (by omega)
        by_cases h4 : (best a i).1 < 4
        · by_cases h4' : (best (a ++ t) i).1 < 4
          · rw [rest_skip a f i (by omega) h4, rest_skip (a ++ t) f i (by omega) h4']
            exact ih _ (by omega) f (i + 1) rfl (by omega) (by omega)
          · rw [rest_plain a f i (fun j hj hj2 => by have := best_bd a j (by omega); omega), rest_take (a ++ t) f i (by omega) (by omega), cut_app _ _ _ _ hi]
            have h2 := rest_tail h1 h5 m hm ht (i + (best (a ++ t) i).1) (by omega) (by omega)
            have h3 := plain_le (cut a f i) (cut a f a.length) (by rw [cut_length _ _ _ hi, cut_length _ _ _ (Nat.le_refl _)]; omega)
            simp only [List.length_append, List.length_cons]
            omega
        · rw [rest_take a f i (by omega) (by omega), rest_take (a ++ t) f i (by omega) (by omega), cut_app _ _ _ _ hi, hbe, rest_end a _ _ (Nat.le_refl _), cut_self, plainly_nil]
          have h2 := rest_tail h1 h5 m hm ht (i + (best (a ++ t) i).1) (by omega) (by omega)
          simp only [List.length_append, List.length_cons, List.length_nil]
          omega
end
theorem packed_again (a : List UInt8) (m : Nat) (h5 : a.length ≤ 100) (hm : m ≤ a.length) (h4 : 4 ≤ m) : (packed (a ++ a.take m)).length ≤ (packed a).length + 6 :=
  rest_again (by omega) h5 m hm h4 rfl 0 0 (Nat.le_refl _) (Nat.zero_le _)
/-- Bytes that are packed are some. -/
theorem packed_pos (a : List UInt8) (h : 1 ≤ a.length) (h6 : a.length ≤ 600) : 1 ≤ (packed a).length := by
  rcases Nat.eq_zero_or_pos (packed a).length with h0 | h0
  · have := unp_packed a h6
    rw [List.eq_nil_of_length_eq_zero h0, unp_nil] at this
    have e := congrArg Prod.fst this
    simp at e; subst e; simp at h
  · exact h0
end Go.Proofs.Ytlndioefemdpjaa
