/- Catalogs, purely: names, what is refused, the next sector, what is found, a catalog as bytes. -/
import Derived.Test.YtkhjmfngeidlcaaSecs
namespace Go.Proofs.Ytkhjmfngeidlcaa
open Go.RowKit

/-- A block: its first sector, its bytes. -/
structure Bk where
  f : Int
  n : Int
/-- An entry: its name, its block, its place in it, its bytes. -/
structure En where
  s : ByteArray
  b : Int
  a : Int
  n : Int
def nilB : Bk := ⟨0, 0⟩
def nilE : En := ⟨⟨#[]⟩, 0, 0, 0⟩
def bk (L : List Bk) (i : Nat) : Bk := L[i]?.getD nilB
def en (E : List En) (i : Nat) : En := E[i]?.getD nilE
abbrev Ct := List Bk × List En
def nilC : Ct := ([], [])

/-- May a name have this byte? -/
def okB (c : UInt8) : Bool := decide (97 ≤ (c.toNat : Int) ∧ (c.toNat : Int) ≤ 122) || decide (48 ≤ (c.toNat : Int) ∧ (c.toNat : Int) ≤ 57)
def nameMay (s : ByteArray) : Bool := decide (1 ≤ s.size ∧ s.size ≤ 8) && s.data.toList.all okB
/-- Is the one name not above the other? -/
def notAbove (s t : ByteArray) : Bool := Op.bytesLess s.toList t.toList || s.toList == t.toList
/-- The sector behind the first k blocks. -/
def atB (L : List Bk) : Nat → Nat
  | 0 => 8
  | k + 1 => atB L k + secs (bk L k).n.toNat
def bkOk (L : List Bk) (k : Nat) : Bool := decide ((bk L k).f = atB L k ∧ (0 ≤ (bk L k).n ∧ (bk L k).n ≤ 1200) ∧ atB L (k + 1) ≤ 64)
def blkN (L : List Bk) : Nat → Int
  | 0 => 0
  | k + 1 => if blkN L k = 0 then (if bkOk L k = true then 0 else 4) else blkN L k
def enOk (x : En) (m : Nat) : Bool := nameMay x.s && decide ((0 ≤ x.b ∧ x.b < m) ∧ (0 ≤ x.a ∧ x.a ≤ 600) ∧ 0 ≤ x.n ∧ x.n ≤ 200)
def enBad (E : List En) (k : Nat) : Bool := decide (0 < k) && notAbove (en E k).s (en E (k - 1)).s
def entN (E : List En) (m : Nat) : Nat → Int
  | 0 => 0
  | k + 1 => if entN E m k = 0 then (if enOk (en E k) m = true then (if enBad E k = true then 12 else 0) else 4) else entN E m k
/-- What is wrong with a catalog. -/
def catChk (C : Ct) : Int := if 10 < C.1.length ∨ 10 < C.2.length then 1 else if blkN C.1 C.1.length = 0 then entN C.2 C.1.length C.2.length else blkN C.1 C.1.length
def catNext (C : Ct) : Int × Int := if catChk C = 0 then ((atB C.1 C.1.length : Int), 0) else (0, catChk C)
/-- The first k entries: is one of this name? -/
def findN (E : List En) (s : ByteArray) : Nat → Option Nat
  | 0 => none
  | k + 1 => match findN E s k with
    | some i => some i
    | none => if ((en E k).s.toList == s.toList) = true then some k else none
def fndO (E : List En) : Option Nat → En × Int
  | some i => (en E i, 0)
  | none => (nilE, 6)
def catFind (C : Ct) (s : ByteArray) : En × Int := if catChk C = 0 then fndO C.2 (findN C.2 s C.2.length) else (nilE, catChk C)
/-- An entry as bytes. -/
def encE (x : En) : List UInt8 := byt x.s.size :: (x.s.data.toList ++ (byt x.b :: (be2 x.a ++ [byt x.n])))
def encBs (L : List Bk) : List UInt8 := L.flatMap fun b => be2 b.n
def encEs (E : List En) : List UInt8 := E.flatMap encE
def encB (C : Ct) : List UInt8 := [byt C.1.length] ++ encBs C.1 ++ [byt C.2.length] ++ encEs C.2
def catEnc (C : Ct) : List UInt8 × Int := if catChk C = 0 then (encB C, 0) else ([], catChk C)

theorem bk_lt (L : List Bk) (i : Nat) (h : i < L.length) : bk L i = L[i] := by simp [bk, h]
theorem en_lt (E : List En) (i : Nat) (h : i < E.length) : en E i = E[i] := by simp [en, h]
theorem bk_take (L : List Bk) (i : Nat) (h : i < L.length) : L.take (i + 1) = L.take i ++ [bk L i] := by rw [bk_lt L i h, List.take_succ_eq_append_getElem h]
theorem en_take (E : List En) (i : Nat) (h : i < E.length) : E.take (i + 1) = E.take i ++ [en E i] := by rw [en_lt E i h, List.take_succ_eq_append_getElem h]

theorem blk_succ (L : List Bk) (k : Nat) (h : blkN L k = 0) : blkN L (k + 1) = if bkOk L k = true then 0 else 4 := by rw [blkN, if_pos h]
theorem blk_stop (L : List Bk) (k : Nat) (h : blkN L k ≠ 0) (m : Nat) (hm : k ≤ m) : blkN L m = blkN L k := by
  induction m with
  | zero => obtain rfl : k = 0 := by omega
            rfl
  | succ m ih =>
    by_cases e : k = m + 1
    · rw [e]
    · have := ih (by omega)
      rw [blkN, this, if_neg h]
theorem blk_fail (L : List Bk) (k : Nat) (h : blkN L k = 0) (hb : bkOk L k = false) (m : Nat) (hm : k < m) : blkN L m = 4 := by
  have e : blkN L (k + 1) = 4 := by rw [blk_succ L k h, hb]; rfl
  rw [blk_stop L (k + 1) (by rw [e]; decide) m hm, e]
theorem blk_ok (L : List Bk) (k : Nat) (h : blkN L k = 0) : ∀ j, j < k → bkOk L j = true := by
  induction k with
  | zero => intro j hj; omega
  | succ k ih =>
    intro j hj
    by_cases h0 : blkN L k = 0
    · rw [blk_succ L k h0] at h
      have hk : bkOk L k = true := by
        cases hb : bkOk L k with
        | true => rfl
        | false => rw [hb] at h; simp at h
      by_cases e : j = k
      · rw [e]; exact hk
      · exact ih h0 j (by omega)
    · rw [blkN, if_neg h0] at h
      exact absurd h h0
theorem bkOk_iff (L : List Bk) (k : Nat) : bkOk L k = true ↔ ((bk L k).f = atB L k ∧ (0 ≤ (bk L k).n ∧ (bk L k).n ≤ 1200) ∧ atB L (k + 1) ≤ 64) := by simp [bkOk]
theorem atB_succ (L : List Bk) (k : Nat) : atB L (k + 1) = atB L k + secs (bk L k).n.toNat := rfl
theorem blk_at (L : List Bk) (k : Nat) (h : blkN L k = 0) : 8 ≤ atB L k ∧ atB L k ≤ 64 := by
  induction k with
  | zero => simp [atB]
  | succ k ih =>
    have h1 := blk_ok L (k + 1) h k (by omega)
    have h2 := ((bkOk_iff L k).1 h1).2.2
    have h0 : blkN L k = 0 := by
      by_cases h0 : blkN L k = 0
      · exact h0
      · rw [blkN, if_neg h0] at h; exact absurd h h0
    have := ih h0
    rw [atB_succ] at h2 ⊢
    omega
/-- The sector behind the last block. -/
theorem blk_last (L : List Bk) (k : Nat) (h : blkN L (k + 1) = 0) : (bk L k).f = atB L k ∧ (0 ≤ (bk L k).n ∧ (bk L k).n ≤ 1200) ∧ atB L (k + 1) ≤ 64 := (bkOk_iff L k).1 (blk_ok L (k + 1) h k (by omega))

theorem ent_succ (E : List En) (m k : Nat) (h : entN E m k = 0) : entN E m (k + 1) = if enOk (en E k) m = true then (if enBad E k = true then 12 else 0) else 4 := by rw [entN, if_pos h]
theorem ent_stop (E : List En) (m k : Nat) (h : entN E m k ≠ 0) (l : Nat) (hl : k ≤ l) : entN E m l = entN E m k := by
  induction l with
  | zero => obtain rfl : k = 0 := by omega
            rfl
  | succ l ih =>
    by_cases e : k = l + 1
    · rw [e]
    · have := ih (by omega)
      rw [entN, this, if_neg h]
theorem ent_form (E : List En) (m k : Nat) (h : entN E m k = 0) (hb : enOk (en E k) m = false) (l : Nat) (hl : k < l) : entN E m l = 4 := by
  have e : entN E m (k + 1) = 4 := by rw [ent_succ E m k h, hb]; rfl
  rw [ent_stop E m (k + 1) (by rw [e]; decide) l hl, e]
theorem ent_order (E : List En) (m k : Nat) (h : entN E m k = 0) (ho : enOk (en E k) m = true) (hb : enBad E k = true) (l : Nat) (hl : k < l) : entN E m l = 12 := by
  have e : entN E m (k + 1) = 12 := by rw [ent_succ E m k h, ho, hb]; rfl
  rw [ent_stop E m (k + 1) (by rw [e]; decide) l hl, e]
theorem ent_next (E : List En) (m k : Nat) (h : entN E m k = 0) (ho : enOk (en E k) m = true) (hb : enBad E k = false) : entN E m (k + 1) = 0 := by rw [ent_succ E m k h, ho, hb]; rfl
theorem ent_ok (E : List En) (m k : Nat) (h : entN E m k = 0) : ∀ j, j < k → enOk (en E j) m = true := by
  induction k with
  | zero => intro j hj; omega
  | succ k ih =>
    intro j hj
    by_cases h0 : entN E m k = 0
    · rw [ent_succ E m k h0] at h
      have hk : enOk (en E k) m = true := by
        cases hb : enOk (en E k) m with
        | true => rfl
        | false => rw [hb] at h; simp at h
      by_cases e : j = k
      · rw [e]; exact hk
      · exact ih h0 j (by omega)
    · rw [entN, if_neg h0] at h
      exact absurd h h0
theorem enOk_iff (x : En) (m : Nat) : enOk x m = true ↔ (nameMay x.s = true ∧ (0 ≤ x.b ∧ x.b < m) ∧ (0 ≤ x.a ∧ x.a ≤ 600) ∧ 0 ≤ x.n ∧ x.n ≤ 200) := by simp [enOk]
theorem nameMay_size (s : ByteArray) (h : nameMay s = true) : 1 ≤ s.size ∧ s.size ≤ 8 := by
  simp only [nameMay, Bool.and_eq_true, decide_eq_true_eq] at h
  exact h.1

/-- A catalog that may be. -/
theorem chk_ok (C : Ct) (h : catChk C = 0) : C.1.length ≤ 10 ∧ C.2.length ≤ 10 ∧ blkN C.1 C.1.length = 0 ∧ entN C.2 C.1.length C.2.length = 0 := by
  unfold catChk at h
  split at h
  · cases h
  · split at h
    · rename_i h1 h2
      exact ⟨by omega, by omega, h2, h⟩
    · rename_i h1 h2
      exact absurd h h2

theorem findN_some (E : List En) (s : ByteArray) (k i : Nat) (h : findN E s k = some i) : i < k := by
  induction k with
  | zero => simp [findN] at h
  | succ k ih =>
    rw [findN] at h
    cases hf : findN E s k with
    | some j => rw [hf] at h; simp at h; have := ih (by rw [hf, h]); omega
    | none =>
      rw [hf] at h
      simp only at h
      split at h
      · cases h; omega
      · cases h
theorem findN_hit (E : List En) (s : ByteArray) (k : Nat) (h : findN E s k = none) (he : ((en E k).s.toList == s.toList) = true) (m : Nat) (hm : k < m) : findN E s m = some k := by
  induction m with
  | zero => omega
  | succ m ih =>
    rw [findN]
    by_cases e : k = m
    · subst e
      rw [h, he]; rfl
    · rw [ih (by omega)]
theorem findN_miss (E : List En) (s : ByteArray) (k : Nat) (h : findN E s k = none) (he : ((en E k).s.toList == s.toList) = false) : findN E s (k + 1) = none := by
  rw [findN, h, he]; rfl
end Go.Proofs.Ytkhjmfngeidlcaa
