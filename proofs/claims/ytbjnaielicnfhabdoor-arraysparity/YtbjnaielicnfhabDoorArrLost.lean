/- Arrays of which sectors are lost, purely: what is told, what a write makes of one. -/
import Derived.Test.YtbjnaielicnfhabDoorArrHurt
namespace Go.Proofs.YtbjnaielicnfhabDoor
open Go.RowKit

/-- One place is another one. -/
def upd {α : Type} (f : Nat → α) (k : Nat) (v : α) : Nat → α := fun i => if i = k then v else f i
theorem upd_same {α : Type} (f : Nat → α) (k : Nat) (v : α) : upd f k v k = v := by simp [upd]
theorem upd_other {α : Type} (f : Nat → α) (k i : Nat) (v : α) (h : i ≠ k) : upd f k v i = f i := by simp [upd, h]
/-- A whole device of which these sectors are lost. -/
def wl (n start : Nat) (pay : Nat → List UInt8) (f : Nat → Bool) : Dv := ((whole n start pay).1, (List.range n).map f)
section
variable {n start k : Nat} {pay : Nat → List UInt8} {f : Nat → Bool}
theorem wl_len : (wl n start pay f).1.length = n ∧ (wl n start pay f).2.length = n := by simp [wl, whole]
theorem wl_none : wl n start pay (fun _ => false) = whole n start pay := by
  unfold wl whole
  congr 1
  apply List.ext_getElem
  · simp
  · intro i h1 h2; simp
theorem wl_congr {g : Nat → Bool} (h : ∀ i, i < n → f i = g i) : wl n start pay f = wl n start pay g := by
  unfold wl
  congr 1
  apply List.map_congr_left
  intro i hi
  exact h i (List.mem_range.1 hi)
theorem wl_sec : sec (wl n start pay f) k = sec (whole n start pay) k := rfl
theorem wl_los (h : k < n) : los (wl n start pay f) k = f k := by
  rw [los_lt _ _ (by rw [wl_len.2]; exact h)]
  simp [wl]
theorem wl_may (h1 : 1 ≤ n) (h2 : n ≤ 64) (hp : ∀ i, i < n → (pay i).length ≤ 24) : dvMay (wl n start pay f) = true := by
  have hm := (dvMay_iff _).1 (mk_may (start := start) h1 h2 hp)
  rw [dvMay_iff, wl_len.1, wl_len.2]
  exact ⟨⟨h1, h2, rfl⟩, hm.2⟩
theorem wl_touch (h1 : 1 ≤ n) (h2 : n ≤ 64) (hp : ∀ i, i < n → (pay i).length ≤ 24) (hk : k < n) : dvTouch (wl n start pay f) k = 0 := (touch_iff _ _).2 ⟨wl_may h1 h2 hp, by rw [wl_len.1]; exact hk⟩
theorem los_set (v : Bool) : ((List.range n).map f).set k v = (List.range n).map (upd f k v) := by
  apply List.ext_getElem
  · simp
  · intro i a b
    simp only [List.getElem_set, List.getElem_map, List.getElem_range, upd]
    by_cases e : k = i
    · rw [if_pos e, if_pos e.symm]
    · rw [if_neg e, if_neg (fun h => e h.symm)]
theorem wl_lose (h1 : 1 ≤ n) (h2 : n ≤ 64) (hp : ∀ i, i < n → (pay i).length ≤ 24) (hk : k < n) : dvLose (wl n start pay f) k = (wl n start pay (upd f k true), 0) := by
  rw [lose_ok (wl_touch h1 h2 hp hk), dvPut_self _ _ _ (by rw [wl_len.1]; exact hk)]
  unfold wl
  rw [los_set]
theorem wl_read (h1 : 1 ≤ n) (h2 : n ≤ 64) (hs : start ≤ 1000) (hp : ∀ i, i < n → (pay i).length ≤ 24) (hk : k < n) (hf : f k = false) : dvRead (wl n start pay f) k ((start + k : Nat) : Int) = (pad (pay k), 0) := by
  rw [read_ok (wl_touch h1 h2 hp hk) _ (by rw [wl_los hk]; exact hf), wl_sec]
  have := mk_read (k := k) h1 h2 hs hp hk
  rwa [read_ok (mk_touch h1 h2 hp hk) _ (mk_los hk)] at this
theorem wl_gone (h1 : 1 ≤ n) (h2 : n ≤ 64) (hp : ∀ i, i < n → (pay i).length ≤ 24) (hk : k < n) (hf : f k = true) (no : Int) : dvRead (wl n start pay f) k no = ([], 11) :=
  read_lost (wl_touch h1 h2 hp hk) no (by rw [wl_los hk]; exact hf)
theorem wl_write (h1 : 1 ≤ n) (h2 : n ≤ 64) (hs : start ≤ 1000) (hp : ∀ i, i < n → (pay i).length ≤ 24) (hk : k < n) (s : List UInt8) (h24 : s.length ≤ 24) : dvWrite (wl n start pay f) k ((start + k : Nat) : Int) s = (wl n start (upd pay k s) (upd f k false), 0) := by
  rw [write_ok (wl_touch h1 h2 hp hk) _ s (by omega) (by omega) h24]
  have hm := congrArg Prod.fst (mk_put (n := n) (start := start) (pay := pay) hk s)
  unfold wl
  congr 1
  unfold dvPut at hm ⊢
  simp only at hm ⊢
  rw [los_set]
  congr 1
end

/-- The parities of payloads. -/
def par (all : List (List UInt8)) (j : Nat) : List UInt8 := xors (pay all (2 * j)) (pay all (2 * j + 1))
/-- The array of which these sectors are lost. -/
def ar3 (all : List (List UInt8)) (f0 f1 f2 : Nat → Bool) : Ar := [wl all.length 0 (pay all) f0, wl all.length 0 (pay all) f1, wl (all.length / 2) 512 (par all) f2]
section
variable {all : List (List UInt8)} {f0 f1 f2 : Nat → Bool}
theorem ar3_good : ar3 all (fun _ => false) (fun _ => false) (fun _ => false) = goodA all := by
  unfold ar3 goodA
  rw [wl_none, wl_none]
  rfl
theorem ar3_congr {g0 g1 g2 : Nat → Bool} (h0 : ∀ i, i < all.length → f0 i = g0 i) (h1 : ∀ i, i < all.length → f1 i = g1 i) (h2 : ∀ i, i < all.length / 2 → f2 i = g2 i) : ar3 all f0 f1 f2 = ar3 all g0 g1 g2 := by
  unfold ar3
  rw [wl_congr h0, wl_congr h1, wl_congr h2]
theorem par_le (h : Alls all) : ∀ j, j < all.length / 2 → (par all j).length ≤ 24 := fun j hj => by have := h.xle j hj; unfold par; omega
theorem Alls.one (h : Alls all) : 1 ≤ all.length := by have := h.lo; omega
theorem Alls.half (h : Alls all) : 1 ≤ all.length / 2 ∧ all.length / 2 ≤ 64 := by have := h.lo; have := h.hi; omega
theorem ar3_may (h : Alls all) : arMay (ar3 all f0 f1 f2) = true := by
  rw [arMay_iff]
  have hm : many (ar3 all f0 f1 f2) = all.length := wl_len.1
  refine ⟨rfl, ?_, by rw [hm]; exact h.lo, by rw [hm]; exact h.hi, by rw [hm]; exact h.even, by rw [hm]; exact wl_len.1, by rw [hm]; exact wl_len.1⟩
  intro D hD
  simp only [ar3, List.mem_cons, List.not_mem_nil, or_false] at hD
  rcases hD with rfl | rfl | rfl
  · exact wl_may h.one h.hi h.le
  · exact wl_may h.one h.hi h.le
  · exact wl_may h.half.1 h.half.2 (par_le h)
theorem ar3_many : many (ar3 all f0 f1 f2) = all.length := wl_len.1
theorem ar3_0 : dev (ar3 all f0 f1 f2) 0 = wl all.length 0 (pay all) f0 := rfl
theorem ar3_1 : dev (ar3 all f0 f1 f2) 1 = wl all.length 0 (pay all) f1 := rfl
theorem ar3_2 : dev (ar3 all f0 f1 f2) 2 = wl (all.length / 2) 512 (par all) f2 := rfl
theorem rd_ok (h : Alls all) {f : Nat → Bool} (i : Nat) (hi : i < all.length) (hf : f i = false) : dvRead (wl all.length 0 (pay all) f) i i = (pay all i, 0) := by
  have := wl_read (start := 0) h.one h.hi (by omega) h.le hi hf
  rw [Nat.zero_add, pad_full _ (h.full i hi)] at this
  exact this
theorem rd_no (h : Alls all) {f : Nat → Bool} (i : Nat) (hi : i < all.length) (hf : f i = true) : dvRead (wl all.length 0 (pay all) f) i i = ([], 11) := wl_gone h.one h.hi h.le hi hf _
theorem mirr_a (h : Alls all) (i : Nat) (hi : i < all.length) (hf : f0 i = false) : mirr (ar3 all f0 f1 f2) i = (pay all i, 1) := by
  rw [mirr, ar3_0, rd_ok h i hi hf]; rfl
theorem mirr_b (h : Alls all) (i : Nat) (hi : i < all.length) (hf : f0 i = true) (hg : f1 i = false) : mirr (ar3 all f0 f1 f2) i = (pay all i, 2) := by
  rw [mirr, ar3_0, ar3_1, rd_no h i hi hf, rd_ok h i hi hg]; rfl
theorem mirr_no (h : Alls all) (i : Nat) (hi : i < all.length) (hf : f0 i = true) (hg : f1 i = true) : mirr (ar3 all f0 f1 f2) i = ([], 0) := by
  rw [mirr, ar3_0, ar3_1, rd_no h i hi hf, rd_no h i hi hg]; rfl
theorem pari_ok (h : Alls all) (i : Nat) (hi : i < all.length) (hf : f2 (i / 2) = false) : pari (ar3 all f0 f1 f2) i = (xors (pay all i) (pay all (part i)), 0) := by
  have he := h.even
  have hj : i / 2 < all.length / 2 := by omega
  have := wl_read (n := all.length / 2) (start := 512) (k := i / 2) (pay := par all) (f := f2) h.half.1 h.half.2 (by omega) (par_le h) hj hf
  rw [show pad (par all (i / 2)) = par all (i / 2) from pad_full _ (h.xle _ hj), par, two_xors] at this
  exact this
theorem pari_no (h : Alls all) (i : Nat) (hi : i < all.length) (hf : f2 (i / 2) = true) : pari (ar3 all f0 f1 f2) i = ([], 11) := by
  have he := h.even
  exact wl_gone (n := all.length / 2) (start := 512) (k := i / 2) h.half.1 h.half.2 (par_le h) (by omega) hf _
theorem tell_a (h : Alls all) (i : Nat) (hi : i < all.length) (hf : f0 i = false) : tell (ar3 all f0 f1 f2) i = (pay all i, 1, 0) := by
  rw [tell, mirr_a h i hi hf]; rfl
theorem tell_b (h : Alls all) (i : Nat) (hi : i < all.length) (hf : f0 i = true) (hg : f1 i = false) : tell (ar3 all f0 f1 f2) i = (pay all i, 2, 0) := by
  rw [tell, mirr_b h i hi hf hg]; rfl
theorem tell_p (h : Alls all) (i : Nat) (hi : i < all.length) (hf : f0 i = true) (hg : f1 i = true) (hq : f2 (i / 2) = false) (hp : f0 (part i) = false ∨ f1 (part i) = false) : tell (ar3 all f0 f1 f2) i = (pay all i, 3, 0) := by
  have hj := part_lt i _ hi h.even
  have hm : (mirr (ar3 all f0 f1 f2) (part i)).1 = pay all (part i) ∧ (mirr (ar3 all f0 f1 f2) (part i)).2 ≠ 0 := by
    by_cases e : f0 (part i) = false
    · rw [mirr_a h _ hj e]; exact ⟨rfl, by show (1 : Int) ≠ 0; decide⟩
    · rcases hp with e' | e'
      · exact absurd e' e
      · rw [mirr_b h _ hj (by simpa using e) e']; exact ⟨rfl, by show (2 : Int) ≠ 0; decide⟩
  rw [tell, mirr_no h i hi hf hg, pari_ok h i hi hq, if_neg (by show ¬ (0 : Int) < 0; decide), if_neg (by rintro (x | x); exact hm.2 x; exact x rfl), hm.1, xors_back _ _ (by rw [h.full i hi, h.full _ hj])]
theorem tell_q (h : Alls all) (i : Nat) (hi : i < all.length) (hf : f0 i = true) (hg : f1 i = true) (hq : f2 (i / 2) = true) : tell (ar3 all f0 f1 f2) i = ([], 0, 11) := by
  rw [tell, mirr_no h i hi hf hg, pari_no h i hi hq, if_neg (by show ¬ (0 : Int) < 0; decide), if_pos (.inr (by show (11 : Int) ≠ 0; decide))]
theorem ar3_read (h : Alls all) (i : Nat) (hi : i < all.length) : arRead (ar3 all f0 f1 f2) i = tell (ar3 all f0 f1 f2) i := by
  have : arTouch (ar3 all f0 f1 f2) i = 0 := by rw [arTouch, if_pos (ar3_may h), ar3_many, if_pos (by omega)]
  rw [arRead, if_pos this]; simp
theorem lose_0 (h : Alls all) (k : Nat) (hk : k < all.length) : hurt1 (ar3 all f0 f1 f2) ⟨4, 0, k, 0, 0⟩ = ar3 all (upd f0 k true) f1 f2 :=
  hurt1_lose _ 0 k (by show ¬ (3 : Int) ≤ 0; decide) _ (wl_lose h.one h.hi h.le hk)
theorem lose_1 (h : Alls all) (k : Nat) (hk : k < all.length) : hurt1 (ar3 all f0 f1 f2) ⟨4, 1, k, 0, 0⟩ = ar3 all f0 (upd f1 k true) f2 :=
  hurt1_lose _ 1 k (by show ¬ (3 : Int) ≤ 1; decide) _ (wl_lose h.one h.hi h.le hk)
theorem lose_2 (h : Alls all) (k : Nat) (hk : k < all.length / 2) : hurt1 (ar3 all f0 f1 f2) ⟨4, 2, k, 0, 0⟩ = ar3 all f0 f1 (upd f2 k true) :=
  hurt1_lose _ 2 k (by show ¬ (3 : Int) ≤ 2; decide) _ (wl_lose h.half.1 h.half.2 (par_le h) hk)

/-- A sector is written whose partner both mirrors lost. -/
theorem write_lost (h : Alls all) (k : Nat) (hk : k < all.length) (s : List UInt8) (hs : s.length ≤ 24) :
    arWrite (ar3 all (upd (fun _ => false) (part k) true) (upd (fun _ => false) (part k) true) (fun _ => false)) k s = (goodA (all.set k (pad s)), 0) := by
  have hj := part_lt k _ hk h.even
  have ht : arTouch (ar3 all (upd (fun _ => false) (part k) true) (upd (fun _ => false) (part k) true) (fun _ => false)) k = 0 := by rw [arTouch, if_pos (ar3_may h), ar3_many, if_pos (by omega)]
  rw [arWrite, if_pos ht, if_neg (by omega), show (k : Int).toNat = k by omega]
  have tl := tell_p (f0 := upd (fun _ => false) (part k) true) (f1 := upd (fun _ => false) (part k) true) (f2 := fun _ => false) h (part k) hj (upd_same _ _ _) (upd_same _ _ _) rfl (.inl (by rw [part_part]; exact upd_other _ _ _ _ (fun e => part_ne k e.symm)))
  have w0 := wl_write (n := all.length) (start := 0) (k := part k) (pay := pay all) (f := upd (fun _ => false) (part k) true) h.one h.hi (by omega) h.le hj (pay all (part k)) (h.le _ hj)
  rw [Nat.zero_add] at w0
  have e1 : wl all.length 0 (upd (pay all) (part k) (pay all (part k))) (upd (upd (fun _ => false) (part k) true) (part k) false) = whole all.length 0 (pay all) := by
    rw [← wl_none (n := all.length) (start := 0) (pay := pay all), wl_congr (g := fun _ => false)]
    · congr 1
      funext i
      unfold upd
      split
      · rename_i e; rw [e]
      · rfl
    · intro i _
      unfold upd
      split
      · rfl
      · rfl
  have hb : both (ar3 all (upd (fun _ => false) (part k) true) (upd (fun _ => false) (part k) true) (fun _ => false)) (part k) (pay all (part k)) = goodA all := by
    rw [both, ar3_0, ar3_1, w0, e1]
    unfold ar3 goodA
    rw [wl_none]
    rfl
  rw [← good_put h k hk s hs]
  unfold put
  rw [tl, good_tell h _ hj]
  simp only [hb]
  rfl
end
end Go.Proofs.YtbjnaielicnfhabDoor
