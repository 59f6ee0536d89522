/- Joined texts: Secs, CatMath, CatRead, PressMath, PressUnMath. -/
import Derived.Test.YtahoagbaadnihabGreatDoorLow
/- How many sectors so many bytes need, purely. -/
namespace Go.Proofs.YtahoagbaadnihabGreatDoor

/-- Sectors that so many bytes need. -/
def secs (n : Nat) : Nat := (n + 23) / 24
theorem secs_le (n : Nat) : n ≤ 24 * secs n := by unfold secs; omega
theorem secs_lt (n i : Nat) (h : i < secs n) : 24 * i < n := by unfold secs at h; omega
theorem secs_ge (n i : Nat) (h : n ≤ 24 * i) : secs n ≤ i := by unfold secs; omega
theorem secs_64 (n : Nat) (h : n ≤ 1536) : secs n ≤ 64 := by unfold secs; omega
end Go.Proofs.YtahoagbaadnihabGreatDoor

/- Catalogs, purely: names, what is refused, the next sector, what is found, a catalog as bytes. -/
namespace Go.Proofs.YtahoagbaadnihabGreatDoor
open Go.RowKit

/-- A block: its first sector, its bytes. -/
structure Bk where
  f : Int
  n : Int
/-- An entry: its name, its block, its place in it, its bytes. -/
structure En where
  s : ByteArray
  b : Int
  a : Int
  n : Int
def nilB : Bk := ⟨0, 0⟩
def nilE : En := ⟨⟨#[]⟩, 0, 0, 0⟩
def bk (L : List Bk) (i : Nat) : Bk := L[i]?.getD nilB
def en (E : List En) (i : Nat) : En := E[i]?.getD nilE
abbrev Ct := List Bk × List En
def nilC : Ct := ([], [])

/-- May a name have this byte? -/
def okB (c : UInt8) : Bool := decide (97 ≤ (c.toNat : Int) ∧ (c.toNat : Int) ≤ 122) || decide (48 ≤ (c.toNat : Int) ∧ (c.toNat : Int) ≤ 57)
def nameMay (s : ByteArray) : Bool := decide (1 ≤ s.size ∧ s.size ≤ 8) && s.data.toList.all okB
/-- Is the one name not above the other? -/
def notAbove (s t : ByteArray) : Bool := Op.bytesLess s.toList t.toList || s.toList == t.toList
/-- The sector behind the first k blocks. -/
def atB (L : List Bk) : Nat → Nat
  | 0 => 8
  | k + 1 => atB L k + secs (bk L k).n.toNat
def bkOk (L : List Bk) (k : Nat) : Bool := decide ((bk L k).f = atB L k ∧ (0 ≤ (bk L k).n ∧ (bk L k).n ≤ 1200) ∧ atB L (k + 1) ≤ 64)
def blkN (L : List Bk) : Nat → Int
  | 0 => 0
  | k + 1 => if blkN L k = 0 then (if bkOk L k = true then 0 else 4) else blkN L k
def enOk (x : En) (m : Nat) : Bool := nameMay x.s && decide ((0 ≤ x.b ∧ x.b < m) ∧ (0 ≤ x.a ∧ x.a ≤ 600) ∧ 0 ≤ x.n ∧ x.n ≤ 200)
def enBad (E : List En) (k : Nat) : Bool := decide (0 < k) && notAbove (en E k).s (en E (k - 1)).s
def entN (E : List En) (m : Nat) : Nat → Int
  | 0 => 0
  | k + 1 => if entN E m k = 0 then (if enOk (en E k) m = true then (if enBad E k = true then 12 else 0) else 4) else entN E m k
/-- What is wrong with a catalog. -/
def catChk (C : Ct) : Int := if 10 < C.1.length ∨ 10 < C.2.length then 1 else if blkN C.1 C.1.length = 0 then entN C.2 C.1.length C.2.length else blkN C.1 C.1.length
def catNext (C : Ct) : Int × Int := if catChk C = 0 then ((atB C.1 C.1.length : Int), 0) else (0, catChk C)
/-- The first k entries: is one of this name? -/
def findN (E : List En) (s : ByteArray) : Nat → Option Nat
  | 0 => none
  | k + 1 => match findN E s k with
    | some i => some i
    | none => if ((en E k).s.toList == s.toList) = true then some k else none
def fndO (E : List En) : Option Nat → En × Int
  | some i => (en E i, 0)
  | none => (nilE, 6)
def catFind (C : Ct) (s : ByteArray) : En × Int := if catChk C = 0 then fndO C.2 (findN C.2 s C.2.length) else (nilE, catChk C)
/-- An entry as bytes. -/
def encE (x : En) : List UInt8 := byt x.s.size :: (x.s.data.toList ++ (byt x.b :: (be2 x.a ++ [byt x.n])))
def encBs (L : List Bk) : List UInt8 := L.flatMap fun b => be2 b.n
def encEs (E : List En) : List UInt8 := E.flatMap encE
def encB (C : Ct) : List UInt8 := [byt C.1.length] ++ encBs C.1 ++ [byt C.2.length] ++ encEs C.2
def catEnc (C : Ct) : List UInt8 × Int := if catChk C = 0 then (encB C, 0) else ([], catChk C)

theorem bk_lt (L : List Bk) (i : Nat) (h : i < L.length) : bk L i = L[i] := by simp [bk, h]
theorem en_lt (E : List En) (i : Nat) (h : i < E.length) : en E i = E[i] := by simp [en, h]
theorem bk_take (L : List Bk) (i : Nat) (h : i < L.length) : L.take (i + 1) = L.take i ++ [bk L i] := by rw [bk_lt L i h, List.take_succ_eq_append_getElem h]
theorem en_take (E : List En) (i : Nat) (h : i < E.length) : E.take (i + 1) = E.take i ++ [en E i] := by rw [en_lt E i h, List.take_succ_eq_append_getElem h]

theorem blk_succ (L : List Bk) (k : Nat) (h : blkN L k = 0) : blkN L (k + 1) = if bkOk L k = true then 0 else 4 := by rw [blkN, if_pos h]
theorem blk_stop (L : List Bk) (k : Nat) (h : blkN L k ≠ 0) (m : Nat) (hm : k ≤ m) : blkN L m = blkN L k := by
  induction m with
  | zero => obtain rfl : k = 0 := by omega
            rfl
  | succ m ih =>
    by_cases e : k = m + 1
    · rw [e]
    · have := ih (by omega)
      rw [blkN, this, if_neg h]
theorem blk_fail (L : List Bk) (k : Nat) (h : blkN L k = 0) (hb : bkOk L k = false) (m : Nat) (hm : k < m) : blkN L m = 4 := by
  have e : blkN L (k + 1) = 4 := by rw [blk_succ L k h, hb]; rfl
  rw [blk_stop L (k + 1) (by rw [e]; decide) m hm, e]
theorem blk_ok (L : List Bk) (k : Nat) (h : blkN L k = 0) : ∀ j, j < k → bkOk L j = true := by
  induction k with
  | zero => intro j hj; omega
  | succ k ih =>
    intro j hj
    by_cases h0 : blkN L k = 0
    · rw [blk_succ L k h0] at h
      have hk : bkOk L k = true := by
        cases hb : bkOk L k with
        | true => rfl
        | false => rw [hb] at h; simp at h
      by_cases e : j = k
      · rw [e]; exact hk
      · exact ih h0 j (by omega)
    · rw [blkN, if_neg h0] at h
      exact absurd h h0
theorem bkOk_iff (L : List Bk) (k : Nat) : bkOk L k = true ↔ ((bk L k).f = atB L k ∧ (0 ≤ (bk L k).n ∧ (bk L k).n ≤ 1200) ∧ atB L (k + 1) ≤ 64) := by simp [bkOk]
theorem atB_succ (L : List Bk) (k : Nat) : atB L (k + 1) = atB L k + secs (bk L k).n.toNat := rfl
theorem blk_at (L : List Bk) (k : Nat) (h : blkN L k = 0) : 8 ≤ atB L k ∧ atB L k ≤ 64 := by
  induction k with
  | zero => simp [atB]
  | succ k ih =>
    have h1 := blk_ok L (k + 1) h k (by omega)
    have h2 := ((bkOk_iff L k).1 h1).2.2
    have h0 : blkN L k = 0 := by
      by_cases h0 : blkN L k = 0
      · exact h0
      · rw [blkN, if_neg h0] at h; exact absurd h h0
    have := ih h0
    rw [atB_succ] at h2 ⊢
    omega
/-- The sector behind the last block. -/
theorem blk_last (L : List Bk) (k : Nat) (h : blkN L (k + 1) = 0) : (bk L k).f = atB L k ∧ (0 ≤ (bk L k).n ∧ (bk L k).n ≤ 1200) ∧ atB L (k + 1) ≤ 64 := (bkOk_iff L k).1 (blk_ok L (k + 1) h k (by omega))

theorem ent_succ (E : List En) (m k : Nat) (h : entN E m k = 0) : entN E m (k + 1) = if enOk (en E k) m = true then (if enBad E k = true then 12 else 0) else 4 := by rw [entN, if_pos h]
theorem ent_stop (E : List En) (m k : Nat) (h : entN E m k ≠ 0) (l : Nat) (hl : k ≤ l) : entN E m l = entN E m k := by
  induction l with
  | zero => obtain rfl : k = 0 := by omega
            rfl
  | succ l ih =>
    by_cases e : k = l + 1
    · rw [e]
    · have := ih (by omega)
      rw [entN, this, if_neg h]
theorem ent_form (E : List En) (m k : Nat) (h : entN E m k = 0) (hb : enOk (en E k) m = false) (l : Nat) (hl : k < l) : entN E m l = 4 := by
  have e : entN E m (k + 1) = 4 := by rw [ent_succ E m k h, hb]; rfl
  rw [ent_stop E m (k + 1) (by rw [e]; decide) l hl, e]
theorem ent_order (E : List En) (m k : Nat) (h : entN E m k = 0) (ho : enOk (en E k) m = true) (hb : enBad E k = true) (l : Nat) (hl : k < l) : entN E m l = 12 := by
  have e : entN E m (k + 1) = 12 := by rw [ent_succ E m k h, ho, hb]; rfl
  rw [ent_stop E m (k + 1) (by rw [e]; decide) l hl, e]
theorem ent_next (E : List En) (m k : Nat) (h : entN E m k = 0) (ho : enOk (en E k) m = true) (hb : enBad E k = false) : entN E m (k + 1) = 0 := by rw [ent_succ E m k h, ho, hb]; rfl
theorem ent_ok (E : List En) (m k : Nat) (h : entN E m k = 0) : ∀ j, j < k → enOk (en E j) m = true := by
  induction k with
  | zero => intro j hj; omega
  | succ k ih =>
    intro j hj
    by_cases h0 : entN E m k = 0
    · rw [ent_succ E m k h0] at h
      have hk : enOk (en E k) m = true := by
        cases hb : enOk (en E k) m with
        | true => rfl
        | false => rw [hb] at h; simp at h
      by_cases e : j = k
      · rw [e]; exact hk
      · exact ih h0 j (by omega)
    · rw [entN, if_neg h0] at h
      exact absurd h h0
theorem enOk_iff (x : En) (m : Nat) : enOk x m = true ↔ (nameMay x.s = true ∧ (0 ≤ x.b ∧ x.b < m) ∧ (0 ≤ x.a ∧ x.a ≤ 600) ∧ 0 ≤ x.n ∧ x.n ≤ 200) := by simp [enOk]
theorem nameMay_size (s : ByteArray) (h : nameMay s = true) : 1 ≤ s.size ∧ s.size ≤ 8 := by
  simp only [nameMay, Bool.and_eq_true, decide_eq_true_eq] at h
  exact h.1

/-- A catalog that may be. -/
theorem chk_ok (C : Ct) (h : catChk C = 0) : C.1.length ≤ 10 ∧ C.2.length ≤ 10 ∧ blkN C.1 C.1.length = 0 ∧ entN C.2 C.1.length C.2.length = 0 := by
  unfold catChk at h
  split at h
  · cases h
  · split at h
    · rename_i h1 h2
      exact ⟨by omega, by omega, h2, h⟩
    · rename_i h1 h2
      exact absurd h h2

theorem findN_some (E : List En) (s : ByteArray) (k i : Nat) (h : findN E s k = some i) : i < k := by
  induction k with
  | zero => simp [findN] at h
  | succ k ih =>
    rw [findN] at h
    cases hf : findN E s k with
    | some j => rw [hf] at h; simp at h; have := ih (by rw [hf, h]); omega
    | none =>
      rw [hf] at h
      simp only at h
      split at h
      · cases h; omega
      · cases h
theorem findN_hit (E : List En) (s : ByteArray) (k : Nat) (h : findN E s k = none) (he : ((en E k).s.toList == s.toList) = true) (m : Nat) (hm : k < m) : findN E s m = some k := by
  induction m with
  | zero => omega
  | succ m ih =>
    rw [findN]
    by_cases e : k = m
    · subst e
      rw [h, he]; rfl
    · rw [ih (by omega)]
theorem findN_miss (E : List En) (s : ByteArray) (k : Nat) (h : findN E s k = none) (he : ((en E k).s.toList == s.toList) = false) : findN E s (k + 1) = none := by
  rw [findN, h, he]; rfl
end Go.Proofs.YtahoagbaadnihabGreatDoor

/- Bytes read as a catalog, purely; a catalog is read as it was written, with 0s behind it alone; cut short it is not. -/
namespace Go.Proofs.YtahoagbaadnihabGreatDoor
open Go.RowKit

/-- What is left to be read, and whether the bytes ended too early. -/
abbrev Rd := List UInt8 × Bool
def tk (n : Nat) (r : Rd) : List UInt8 × Rd := if n ≤ r.1.length then (r.1.take n, (r.1.drop n, r.2)) else ([], ([], true))
def numOf (l : List UInt8) : Int := l.foldl (fun n c => n * 256 + c.toNat) 0
def rnum (n : Nat) (r : Rd) : Int × Rd := (numOf (tk n r).1, (tk n r).2)
def behB (L : List Bk) : Int := match L.getLast? with
  | none => 8
  | some b => b.f + secs b.n.toNat
def stB (L : List Bk) (r : Rd) : List Bk × Rd := (L ++ [⟨behB L, (rnum 2 r).1⟩], (rnum 2 r).2)
def rblk : Nat → Rd → List Bk × Rd
  | 0, r => ([], r)
  | k + 1, r => stB (rblk k r).1 (rblk k r).2
/-- One entry. -/
def e1 (r : Rd) : List UInt8 × Rd := tk (rnum 1 r).1.toNat (rnum 1 r).2
def e2 (r : Rd) : Int × Rd := rnum 1 (e1 r).2
def e3 (r : Rd) : Int × Rd := rnum 2 (e2 r).2
def e4 (r : Rd) : Int × Rd := rnum 1 (e3 r).2
def rent1 (r : Rd) : En × Rd := (⟨str (e1 r).1, (e2 r).1, (e3 r).1, (e4 r).1⟩, (e4 r).2)
def rent : Nat → Rd → List En × Rd
  | 0, r => ([], r)
  | k + 1, r => ((rent k r).1 ++ [(rent1 (rent k r).2).1], (rent1 (rent k r).2).2)
/-- All of it. -/
def c1 (r : Rd) : List Bk × Rd := rblk (rnum 1 r).1.toNat (rnum 1 r).2
def c2 (r : Rd) : Int × Rd := rnum 1 (c1 r).2
def c3 (r : Rd) : List En × Rd := rent (c2 r).1.toNat (c2 r).2
def rcat (s : List UInt8) : Ct × Rd := (((c1 (s, false)).1, (c3 (s, false)).1), (c3 (s, false)).2)
def zeros (l : List UInt8) : Bool := l.all (· == 0)
def decC (s : List UInt8) : Ct × Int := if (rcat s).2.2 = true then (nilC, 5) else if zeros (rcat s).2.1 = false then (nilC, 4) else if catChk (rcat s).1 = 0 then ((rcat s).1, 0) else (nilC, catChk (rcat s).1)

theorem rent_succ (k : Nat) (r : Rd) : rent (k + 1) r = ((rent k r).1 ++ [(rent1 (rent k r).2).1], (rent1 (rent k r).2).2) := rfl
theorem rblk_succ (k : Nat) (r : Rd) : rblk (k + 1) r = stB (rblk k r).1 (rblk k r).2 := rfl
theorem num_snoc (l : List UInt8) (c : UInt8) : numOf (l ++ [c]) = numOf l * 256 + c.toNat := by simp [numOf]
theorem num_one (c : UInt8) : numOf [c] = c.toNat := by simp [numOf]
theorem num_two (c d : UInt8) : numOf [c, d] = c.toNat * 256 + d.toNat := by simp [numOf]
theorem tk_len (n : Nat) (r : Rd) : (tk n r).1.length ≤ n := by unfold tk; split <;> simp; omega
theorem tk_yes (n : Nat) (r : Rd) (h : n ≤ r.1.length) : tk n r = (r.1.take n, (r.1.drop n, r.2)) := by rw [tk, if_pos h]
theorem tk_no (n : Nat) (r : Rd) (h : r.1.length < n) : tk n r = ([], ([], true)) := by rw [tk, if_neg (by omega)]
theorem num_bd1 (l : List UInt8) (h : l.length ≤ 1) : 0 ≤ numOf l ∧ numOf l < 256 := by
  match l, h with
  | [], _ => simp [numOf]
  | [c], _ => rw [num_one]; have := c.toNat_lt; omega
theorem num_bd2 (l : List UInt8) (h : l.length ≤ 2) : 0 ≤ numOf l ∧ numOf l < 65536 := by
  match l, h with
  | [], _ => simp [numOf]
  | [c], _ => rw [num_one]; have := c.toNat_lt; omega
  | [c, d], _ => rw [num_two]; have := c.toNat_lt; have := d.toNat_lt; omega
theorem rnum_bd1 (r : Rd) : 0 ≤ (rnum 1 r).1 ∧ (rnum 1 r).1 < 256 := num_bd1 _ (tk_len 1 r)
theorem rnum_bd2 (r : Rd) : 0 ≤ (rnum 2 r).1 ∧ (rnum 2 r).1 < 65536 := num_bd2 _ (tk_len 2 r)

/-- What ended too early stays so. -/
theorem tk_short (n : Nat) (r : Rd) (h : r.2 = true) : (tk n r).2.2 = true := by unfold tk; split <;> simp [h]
theorem rnum_short (n : Nat) (r : Rd) (h : r.2 = true) : (rnum n r).2.2 = true := tk_short n r h
theorem e1_short (r : Rd) (h : r.2 = true) : (e1 r).2.2 = true := tk_short _ _ (rnum_short 1 r h)
theorem e2_short (r : Rd) (h : (e1 r).2.2 = true) : (e2 r).2.2 = true := rnum_short _ _ h
theorem e3_short (r : Rd) (h : (e2 r).2.2 = true) : (e3 r).2.2 = true := rnum_short _ _ h
theorem e4_short (r : Rd) (h : (e3 r).2.2 = true) : (e4 r).2.2 = true := rnum_short _ _ h
theorem rent1_short (r : Rd) (h : r.2 = true) : (rent1 r).2.2 = true := by
  have g := e4_short r (e3_short r (e2_short r (e1_short r h)))
  unfold rent1
  exact g
theorem rblk_short (k j : Nat) (r : Rd) (h : (rblk k r).2.2 = true) (hj : k ≤ j) : (rblk j r).2.2 = true := by
  induction j with
  | zero => obtain rfl : k = 0 := by omega
            exact h
  | succ j ih =>
    by_cases e : k = j + 1
    · rw [← e]; exact h
    · exact rnum_short 2 _ (ih (by omega))
theorem rent_short (k j : Nat) (r : Rd) (h : (rent k r).2.2 = true) (hj : k ≤ j) : (rent j r).2.2 = true := by
  induction j with
  | zero => obtain rfl : k = 0 := by omega
            exact h
  | succ j ih =>
    by_cases e : k = j + 1
    · rw [← e]; exact h
    · have q := ih (by omega)
      rw [rent_succ]
      dsimp only
      generalize (rent j r).2 = x at q ⊢
      exact rent1_short x q
theorem dec_short (s : List UInt8) (h : (rcat s).2.2 = true) : decC s = (nilC, 5) := by rw [decC, if_pos h]
theorem dec_rest (s : List UInt8) (h : (rcat s).2.2 = false) (h2 : zeros (rcat s).2.1 = false) : decC s = (nilC, 4) := by rw [decC, if_neg (by simp [h]), if_pos h2]
theorem dec_chk (s : List UInt8) (h : (rcat s).2.2 = false) (h2 : zeros (rcat s).2.1 = true) (h3 : catChk (rcat s).1 ≠ 0) : decC s = (nilC, catChk (rcat s).1) := by rw [decC, if_neg (by simp [h]), if_neg (by simp [h2]), if_neg h3]
theorem dec_ok (s : List UInt8) (h : (rcat s).2.2 = false) (h2 : zeros (rcat s).2.1 = true) (h3 : catChk (rcat s).1 = 0) : decC s = ((rcat s).1, 0) := by rw [decC, if_neg (by simp [h]), if_neg (by simp [h2]), if_pos h3]

/-- The sector behind the blocks that were read. -/
theorem beh_bd (r : Rd) (k : Nat) : 8 ≤ behB (rblk k r).1 ∧ behB (rblk k r).1 ≤ 8 + 2731 * k := by
  induction k with
  | zero => simp [rblk, behB]
  | succ k ih =>
    have h := rnum_bd2 (rblk k r).2
    have e : behB (rblk (k + 1) r).1 = behB (rblk k r).1 + secs (rnum 2 (rblk k r).2).1.toNat := by
      show behB ((rblk k r).1 ++ [_]) = _
      simp [behB]
    rw [e]
    unfold secs
    omega
theorem rblk_len (r : Rd) (k : Nat) : (rblk k r).1.length = k := by
  induction k with
  | zero => rfl
  | succ k ih => show ((rblk k r).1 ++ [_]).length = _; rw [List.length_append, ih]; rfl
theorem rent_len (r : Rd) (k : Nat) : (rent k r).1.length = k := by
  induction k with
  | zero => rfl
  | succ k ih => show ((rent k r).1 ++ [_]).length = _; rw [List.length_append, ih]; rfl

/-- P takes these bytes and answers a; if they are cut short it tells. -/
def Eats {α : Type} (P : Rd → α × Rd) (x : List UInt8) (a : α) : Prop := (∀ y, P (x ++ y, false) = (a, (y, false))) ∧ ∀ k, k < x.length → (P (x.take k, false)).2.2 = true
theorem eats_bind {α β : Type} {P : Rd → α × Rd} {x : List UInt8} {a : α} (Q : α → Rd → β × Rd) {y : List UInt8} {b : β} (hP : Eats P x a) (hQ : Eats (Q a) y b) (hs : ∀ c r, r.2 = true → (Q c r).2.2 = true) : Eats (fun r => Q (P r).1 (P r).2) (x ++ y) b := by
  refine ⟨fun z => ?_, fun k hk => ?_⟩
  · show Q (P (x ++ y ++ z, false)).1 (P (x ++ y ++ z, false)).2 = _
    rw [List.append_assoc, hP.1, hQ.1]
  · show (Q (P ((x ++ y).take k, false)).1 (P ((x ++ y).take k, false)).2).2.2 = true
    by_cases h : k < x.length
    · rw [List.take_append_of_le_length (by omega)]
      exact hs _ _ (hP.2 k h)
    · obtain ⟨j, rfl⟩ : ∃ j, k = x.length + j := ⟨k - x.length, by omega⟩
      rw [List.take_length_add_append, hP.1]
      exact hQ.2 j (by simp at hk; omega)
theorem eats_map {α β : Type} {P : Rd → α × Rd} {x : List UInt8} {a : α} (f : α → β) (h : Eats P x a) : Eats (fun r => (f (P r).1, (P r).2)) x (f a) :=
  ⟨fun y => by show (f (P (x ++ y, false)).1, (P (x ++ y, false)).2) = _; rw [h.1], fun k hk => h.2 k hk⟩
theorem eats_tk (x : List UInt8) : Eats (tk x.length) x x := by
  refine ⟨fun y => ?_, fun k hk => ?_⟩
  · rw [tk_yes _ _ (by simp)]; simp
  · rw [tk_no _ _ (by simp; omega)]
theorem eats_num (x : List UInt8) : Eats (rnum x.length) x (numOf x) := by
  refine ⟨fun y => ?_, fun k hk => ?_⟩
  · rw [rnum, (eats_tk x).1 y]
  · exact (eats_tk x).2 k hk
theorem eats_one (n : Int) (h0 : 0 ≤ n) (h1 : n < 256) : Eats (rnum 1) [byt n] n := by
  have := eats_num [byt n]
  rw [num_one, byt_nat n h0 h1] at this
  exact this
theorem eats_two (n : Int) (h0 : 0 ≤ n) (h1 : n < 65536) : Eats (rnum 2) (be2 n) n := by
  have := eats_num (be2 n)
  rw [be2, num_two, byt_nat _ (by omega) (by omega), byt_nat _ (by omega) (by omega)] at this
  rw [show n / 256 * 256 + n % 256 = n by omega] at this
  exact this
theorem eats_entry (x : En) (m : Nat) (hm : m ≤ 10) (h : enOk x m = true) : Eats rent1 (encE x) x := by
  obtain ⟨h1, h2, h3, h4⟩ := (enOk_iff x m).1 h
  have h5 := nameMay_size _ h1
  have q1 : Eats e1 ([byt x.s.size] ++ x.s.data.toList) x.s.data.toList := eats_bind (fun (n : Int) r => tk n.toNat r) (eats_one x.s.size (by omega) (by omega)) (by rw [Int.toNat_natCast, ← ba_len]; exact eats_tk _) (fun c r h => tk_short _ r h)
  have q2 : Eats (fun r => (((e1 r).1, (e2 r).1), (e2 r).2)) ([byt x.s.size] ++ x.s.data.toList ++ [byt x.b]) (x.s.data.toList, x.b) := eats_bind (fun a r => ((a, (rnum 1 r).1), (rnum 1 r).2)) q1 (eats_map (fun v => (x.s.data.toList, v)) (eats_one x.b (by omega) (by omega))) (fun c r h => rnum_short 1 r h)
  have q3 : Eats (fun r => (((e1 r).1, (e2 r).1, (e3 r).1), (e3 r).2)) ([byt x.s.size] ++ x.s.data.toList ++ [byt x.b] ++ be2 x.a) (x.s.data.toList, x.b, x.a) := eats_bind (fun (a : List UInt8 × Int) r => ((a.1, a.2, (rnum 2 r).1), (rnum 2 r).2)) q2 (eats_map (fun v => (x.s.data.toList, x.b, v)) (eats_two x.a (by omega) (by omega))) (fun c r h => rnum_short 2 r h)
  have q4 : Eats rent1 ([byt x.s.size] ++ x.s.data.toList ++ [byt x.b] ++ be2 x.a ++ [byt x.n]) ⟨str x.s.data.toList, x.b, x.a, x.n⟩ := eats_bind (fun (a : List UInt8 × Int × Int) r => ((⟨str a.1, a.2.1, a.2.2, (rnum 1 r).1⟩ : En), (rnum 1 r).2)) q3 (eats_map (fun v => (⟨str x.s.data.toList, x.b, x.a, v⟩ : En)) (eats_one x.n (by omega) (by omega))) (fun c r h => rnum_short 1 r h)
  rw [str_of] at q4
  have e : encE x = [byt x.s.size] ++ x.s.data.toList ++ [byt x.b] ++ be2 x.a ++ [byt x.n] := by simp [encE]
  rw [e]
  exact q4
theorem eats_entries (E : List En) (m : Nat) (hm : m ≤ 10) (k : Nat) (hk : k ≤ E.length) (h : ∀ j, j < k → enOk (en E j) m = true) : Eats (rent k) (encEs (E.take k)) (E.take k) := by
  induction k with
  | zero =>
    rw [List.take_zero]
    exact ⟨fun y => rfl, fun j hj => by simp [encEs] at hj⟩
  | succ k ih =>
    have e : encEs (E.take (k + 1)) = encEs (E.take k) ++ encE (en E k) := by rw [en_take E k (by omega)]; simp [encEs]
    rw [e, en_take E k (by omega)]
    exact eats_bind (fun (a : List En) r => (a ++ [(rent1 r).1], (rent1 r).2)) (ih (by omega) (fun j hj => h j (by omega))) (eats_map (fun v => E.take k ++ [v]) (eats_entry (en E k) m hm (h k (by omega)))) (fun c r h => by show (rent1 r).2.2 = true; exact rent1_short r h)
theorem beh_take (L : List Bk) (k : Nat) (hk : k ≤ L.length) (h : ∀ j, j < k → bkOk L j = true) : behB (L.take k) = atB L k := by
  cases k with
  | zero => rfl
  | succ k =>
    rw [bk_take L k (by omega)]
    obtain ⟨h1, _, _⟩ := (bkOk_iff L k).1 (h k (by omega))
    rw [atB_succ]
    simp only [behB, List.getLast?_append, List.getLast?_singleton, Option.some_or]
    omega
theorem eats_blocks (L : List Bk) (k : Nat) (hk : k ≤ L.length) (h : ∀ j, j < L.length → bkOk L j = true) : Eats (rblk k) (encBs (L.take k)) (L.take k) := by
  induction k with
  | zero =>
    rw [List.take_zero]
    exact ⟨fun y => rfl, fun j hj => by simp [encBs] at hj⟩
  | succ k ih =>
    have e : encBs (L.take (k + 1)) = encBs (L.take k) ++ be2 (bk L k).n := by rw [bk_take L k (by omega)]; simp [encBs]
    obtain ⟨h1, h2, _⟩ := (bkOk_iff L k).1 (h k (by omega))
    have hb : (⟨behB (L.take k), (bk L k).n⟩ : Bk) = bk L k := by
      rw [beh_take L k (by omega) (fun j hj => h j (by omega)), ← h1]
    rw [e, bk_take L k (by omega), ← hb]
    exact eats_bind stB (ih (by omega)) (eats_map (fun v => L.take k ++ [(⟨behB (L.take k), v⟩ : Bk)]) (eats_two (bk L k).n (by omega) (by omega))) (fun c r h => rnum_short 2 r h)
/-- A catalog that may be is read as it was written. -/
theorem eats_cat (C : Ct) (h : catChk C = 0) : Eats (fun r => (((c1 r).1, (c3 r).1), (c3 r).2)) (encB C) C := by
  obtain ⟨h1, h2, h3, h4⟩ := chk_ok C h
  have g1 := eats_blocks C.1 C.1.length (Nat.le_refl _) (blk_ok C.1 _ h3)
  have g2 := eats_entries C.2 C.1.length h1 C.2.length (Nat.le_refl _) (ent_ok C.2 _ _ h4)
  rw [List.take_length] at g1 g2
  have q1 : Eats c1 ([byt C.1.length] ++ encBs C.1) C.1 := eats_bind (fun (n : Int) r => rblk n.toNat r) (eats_one (C.1.length : Int) (by omega) (by omega)) (by rw [Int.toNat_natCast]; exact g1) (fun c r h => rblk_short 0 _ r h (Nat.zero_le _))
  have q2 : Eats (fun r => (((c1 r).1, (c2 r).1), (c2 r).2)) ([byt C.1.length] ++ encBs C.1 ++ [byt C.2.length]) (C.1, (C.2.length : Int)) := eats_bind (fun a r => ((a, (rnum 1 r).1), (rnum 1 r).2)) q1 (eats_map (fun v => (C.1, v)) (eats_one (C.2.length : Int) (by omega) (by omega))) (fun c r h => rnum_short 1 r h)
  exact eats_bind (fun (a : List Bk × Int) r => ((a.1, (rent a.2.toNat r).1), (rent a.2.toNat r).2)) q2 (eats_map (fun v => (C.1, v)) (by rw [Int.toNat_natCast]; exact g2)) (fun c r h => rent_short 0 _ r h (Nat.zero_le _))
theorem cat_back (C : Ct) (h : catChk C = 0) (n : Nat) : decC (encB C ++ List.replicate n 0) = (C, 0) := by
  have e : rcat (encB C ++ List.replicate n 0) = (C, (List.replicate n 0, false)) := (eats_cat C h).1 _
  rw [dec_ok _ (by rw [e]) (by rw [e]; simp [zeros]) (by rw [e]; exact h), e]
end Go.Proofs.YtahoagbaadnihabGreatDoor

/- Packing as plain mathematics: the longest piece that stands further back, packed bytes, unpacked bytes. -/
namespace Go.Proofs.YtahoagbaadnihabGreatDoor

/-- How many bytes from place k on are those from place i on, up to so many more. -/
def alikeGo (l : List UInt8) (k i : Nat) : Nat → Nat → Nat
  | 0, n => n
  | f + 1, n => if i + n < l.length ∧ bat l (k + n) = bat l (i + n) then alikeGo l k i f (n + 1) else n
def alike (l : List UInt8) (k i : Nat) : Nat := alikeGo l k i 131 0
theorem alikeGo_spec (l : List UInt8) (k i : Nat) : ∀ f n, i + n ≤ l.length → (∀ j, j < n → bat l (k + j) = bat l (i + j)) →
    alikeGo l k i f n ≤ n + f ∧ i + alikeGo l k i f n ≤ l.length ∧ (∀ j, j < alikeGo l k i f n → bat l (k + j) = bat l (i + j)) ∧
      (alikeGo l k i f n = n + f ∨ i + alikeGo l k i f n = l.length ∨ bat l (k + alikeGo l k i f n) ≠ bat l (i + alikeGo l k i f n))
  | 0, n, h, ha => ⟨Nat.le_refl _, h, ha, .inl rfl⟩
  | f + 1, n, h, ha => by
    rw [alikeGo]
    by_cases c : i + n < l.length ∧ bat l (k + n) = bat l (i + n)
    · rw [if_pos c]
      obtain ⟨r1, r2, r3, r4⟩ := alikeGo_spec l k i f (n + 1) (by omega) (fun j hj => by
        rcases Nat.lt_succ_iff_lt_or_eq.1 hj with h' | rfl
        · exact ha j h'
        · exact c.2)
      exact ⟨by omega, r2, r3, r4.imp (fun h => by omega) id⟩
    · rw [if_neg c]
      refine ⟨by omega, h, ha, ?_⟩
      by_cases e : i + n = l.length
      · exact .inr (.inl e)
      · exact .inr (.inr fun x => c ⟨by omega, x⟩)
theorem alike_spec (l : List UInt8) (k i : Nat) (h : i ≤ l.length) : alike l k i ≤ 131 ∧ i + alike l k i ≤ l.length ∧ (∀ j, j < alike l k i → bat l (k + j) = bat l (i + j)) ∧
      (alike l k i = 131 ∨ i + alike l k i = l.length ∨ bat l (k + alike l k i) ≠ bat l (i + alike l k i)) := by
  have := alikeGo_spec l k i 131 0 (by omega) (fun j hj => by omega)
  simpa [alike] using this
/-- So many and no more: that is the number. -/
theorem alike_eq (l : List UInt8) (k i n : Nat) (hn : n ≤ 131) (hi : i + n ≤ l.length) (ha : ∀ j, j < n → bat l (k + j) = bat l (i + j))
    (hs : n = 131 ∨ i + n = l.length ∨ bat l (k + n) ≠ bat l (i + n)) : alike l k i = n := by
  obtain ⟨r1, r2, r3, r4⟩ := alike_spec l k i (by omega)
  rcases Nat.lt_trichotomy (alike l k i) n with h | h | h
  · rcases r4 with r4 | r4 | r4
    · omega
    · omega
    · exact absurd (ha _ h) r4
  · exact h
  · rcases hs with hs | hs | hs
    · omega
    · omega
    · exact absurd (r3 _ h) hs

/-- The longest piece of those that begin up to m further back, and how far back it begins; of several the nearest one. -/
def bestGo (l : List UInt8) (i : Nat) : Nat → Nat × Nat
  | 0 => (0, 0)
  | m + 1 => if (bestGo l i m).1 < alike l (i - (m + 1)) i then (alike l (i - (m + 1)) i, m + 1) else bestGo l i m
def best (l : List UInt8) (i : Nat) : Nat × Nat := bestGo l i (min i 255)
theorem bestGo_bd (l : List UInt8) (i : Nat) (h : i ≤ l.length) : ∀ m, (bestGo l i m).1 ≤ 131 ∧ i + (bestGo l i m).1 ≤ l.length ∧ (bestGo l i m).2 ≤ m ∧
    (0 < (bestGo l i m).1 → 1 ≤ (bestGo l i m).2 ∧ ∀ j, j < (bestGo l i m).1 → bat l (i - (bestGo l i m).2 + j) = bat l (i + j))
  | 0 => ⟨by simp [bestGo], by simpa [bestGo] using h, by simp [bestGo], fun h => by simp [bestGo] at h⟩
  | m + 1 => by
    obtain ⟨r1, r2, r3, r4⟩ := bestGo_bd l i h m
    obtain ⟨s1, s2, s3, s4⟩ := alike_spec l (i - (m + 1)) i h
    rw [bestGo]
    split
    · exact ⟨s1, s2, Nat.le_refl _, fun _ => ⟨by simp, s3⟩⟩
    · exact ⟨r1, r2, by omega, r4⟩
theorem best_bd (l : List UInt8) (i : Nat) (h : i ≤ l.length) : (best l i).1 ≤ 131 ∧ i + (best l i).1 ≤ l.length ∧ (best l i).2 ≤ i ∧ (best l i).2 ≤ 255 ∧
    (0 < (best l i).1 → 1 ≤ (best l i).2 ∧ ∀ j, j < (best l i).1 → bat l (i - (best l i).2 + j) = bat l (i + j)) := by
  obtain ⟨r1, r2, r3, r4⟩ := bestGo_bd l i h (min i 255)
  exact ⟨r1, r2, by unfold best; omega, by unfold best; omega, r4⟩

theorem app_len {o r p : List UInt8} (h : o ++ r = p) : o.length ≤ p.length := by rw [← h]; simp

/-- Bytes as they are, up to 128 at a time. -/
def plainGo : Nat → List UInt8 → List UInt8
  | 0, _ => []
  | f + 1, l => if l.length = 0 then [] else byt ((min l.length 128 : Nat) - 1) :: (l.take 128 ++ plainGo f (l.drop 128))
def plainly (l : List UInt8) : List UInt8 := plainGo l.length l
theorem plainGo_fuel : ∀ (f g : Nat) (l : List UInt8), l.length ≤ f → l.length ≤ g → plainGo f l = plainGo g l
  | 0, 0, _, _, _ => rfl
  | 0, g + 1, l, h, _ => by rw [plainGo, plainGo, if_pos (by omega)]
  | f + 1, 0, l, _, h => by rw [plainGo, plainGo, if_pos (by omega)]
  | f + 1, g + 1, l, h, h' => by
    rw [plainGo, plainGo]
    by_cases h0 : l.length = 0
    · rw [if_pos h0, if_pos h0]
    · rw [if_neg h0, if_neg h0, plainGo_fuel f g (l.drop 128) (by simp; omega) (by simp; omega)]
theorem plainly_eq (l : List UInt8) : plainly l = if l.length = 0 then [] else byt ((min l.length 128 : Nat) - 1) :: (l.take 128 ++ plainly (l.drop 128)) := by
  rw [plainly, plainGo_fuel l.length (l.length + 1) l (Nat.le_refl _) (by omega), plainGo, plainly, plainGo_fuel l.length (l.drop 128).length (l.drop 128) (by simp) (Nat.le_refl _)]
theorem plainly_nil : plainly [] = [] := rfl
theorem plainly_length (l : List UInt8) : (plainly l).length = l.length + (l.length + 127) / 128 := by
  induction hn : l.length using Nat.strongRecOn generalizing l with
  | _ n ih =>
    rw [plainly_eq]
    split
    · rename_i h; simp; omega
    · rename_i h
      have k := ih (l.drop 128).length (by simp; omega) (l.drop 128) rfl
      simp only [List.length_cons, List.length_append, k, List.length_take, List.length_drop]
      omega

/-- What is packed from place i on, the bytes from place f on being still to be written. -/
def restGo (l : List UInt8) : Nat → Nat → Nat → List UInt8
  | 0, f, _ => plainly (cut l f l.length)
  | n + 1, f, i =>
    if l.length ≤ i then plainly (cut l f l.length)
    else if (best l i).1 < 4 then restGo l n f (i + 1)
    else plainly (cut l f i) ++ byt (124 + (best l i).1) :: byt (best l i).2 :: restGo l n (i + (best l i).1) (i + (best l i).1)
def rest (l : List UInt8) (f i : Nat) : List UInt8 := restGo l (l.length - i) f i
theorem restGo_fuel (l : List UInt8) : ∀ (n m f i : Nat), l.length - i ≤ n → l.length - i ≤ m → restGo l n f i = restGo l m f i
  | 0, 0, _, _, _, _ => rfl
  | 0, m + 1, f, i, h, _ => by rw [restGo, restGo, if_pos (by omega)]
  | n + 1, 0, f, i, _, h => by rw [restGo, restGo, if_pos (by omega)]
  | n + 1, m + 1, f, i, h, h' => by
    rw [restGo, restGo]
    by_cases h0 : l.length ≤ i
    · rw [if_pos h0, if_pos h0]
    · rw [if_neg h0, if_neg h0]
      by_cases h4 : (best l i).1 < 4
      · rw [if_pos h4, if_pos h4, restGo_fuel l n m f (i + 1) (by omega) (by omega)]
      · rw [if_neg h4, if_neg h4, restGo_fuel l n m (i + (best l i).1) (i + (best l i).1) (by omega) (by omega)]
theorem rest_eq (l : List UInt8) (f i : Nat) : rest l f i = if l.length ≤ i then plainly (cut l f l.length)
    else if (best l i).1 < 4 then rest l f (i + 1)
    else plainly (cut l f i) ++ byt (124 + (best l i).1) :: byt (best l i).2 :: rest l (i + (best l i).1) (i + (best l i).1) := by
  rw [rest, restGo_fuel l (l.length - i) (l.length - i + 1) f i (Nat.le_refl _) (by omega), restGo, rest, rest, restGo_fuel l (l.length - i) (l.length - (i + 1)) f (i + 1) (by omega) (Nat.le_refl _), restGo_fuel l (l.length - i) (l.length - (i + (best l i).1)) (i + (best l i).1) (i + (best l i).1) (by omega) (Nat.le_refl _)]
/-- The packed bytes. -/
def packed (l : List UInt8) : List UInt8 := rest l 0 0
theorem rest_end (l : List UInt8) (f i : Nat) (h : l.length ≤ i) : rest l f i = plainly (cut l f l.length) := by rw [rest_eq, if_pos h]
theorem rest_skip (l : List UInt8) (f i : Nat) (h : i < l.length) (h' : (best l i).1 < 4) : rest l f i = rest l f (i + 1) := by rw [rest_eq, if_neg (by omega), if_pos h']
theorem rest_take (l : List UInt8) (f i : Nat) (h : i < l.length) (h' : 4 ≤ (best l i).1) :
    rest l f i = plainly (cut l f i) ++ byt (124 + (best l i).1) :: byt (best l i).2 :: rest l (i + (best l i).1) (i + (best l i).1) := by rw [rest_eq, if_neg (by omega), if_neg (by omega)]

/-- One way of the round: a piece is taken. -/
theorem rel_take {l o : List UInt8} {f i : Nat} (h : o ++ rest l f i = packed l) (hi : i < l.length) (h4 : 4 ≤ (best l i).1) :
    (o ++ plainly (cut l f i) ++ [byt (124 + (best l i).1), byt (best l i).2]) ++ rest l (i + (best l i).1) (i + (best l i).1) = packed l := by
  rw [← h, rest_take l f i hi h4]; simp
theorem rel_skip {l o : List UInt8} {f i : Nat} (h : o ++ rest l f i = packed l) (hi : i < l.length) (h4 : (best l i).1 < 4) : o ++ rest l f (i + 1) = packed l := by
  rw [← h, rest_skip l f i hi h4]
theorem rel_end {l o : List UInt8} {f i : Nat} (h : o ++ rest l f i = packed l) (hi : l.length ≤ i) : o ++ plainly (cut l f l.length) = packed l := by
  rw [← h, rest_end l f i hi]

/-- A packed text is never much longer. -/
theorem rest_length (l : List UInt8) (f i : Nat) (hi : i ≤ l.length) (hf : f ≤ i) : (rest l f i).length + f + f / 128 ≤ l.length + (l.length + 127) / 128 := by
  induction hn : l.length - i using Nat.strongRecOn generalizing f i with
  | _ n ih =>
    by_cases h : l.length ≤ i
    · rw [rest_end l f i h, plainly_length, cut_length l f _ (Nat.le_refl _)]; omega
    · by_cases h' : (best l i).1 < 4
      · rw [rest_skip l f i (by omega) h']; exact ih _ (by omega) f (i + 1) (by omega) (by omega) rfl
      · have hb := best_bd l i hi
        have k := ih _ (by omega) (i + (best l i).1) (i + (best l i).1) (by omega) (Nat.le_refl _) rfl
        rw [rest_take l f i (by omega) (by omega)]
        simp only [List.length_append, List.length_cons, plainly_length, cut_length l f i hi]
        omega
theorem packed_length (l : List UInt8) : (packed l).length ≤ l.length + (l.length + 127) / 128 := by
  have := rest_length l 0 0 (Nat.zero_le _) (Nat.le_refl _)
  unfold packed; omega

/-- A piece laid behind the bytes that are there, byte by byte. -/
def piece (out : List UInt8) (d : Nat) : Nat → List UInt8
  | 0 => out
  | n + 1 => piece out d n ++ [bat (piece out d n) ((piece out d n).length - d)]
theorem piece_length (out : List UInt8) (d : Nat) : ∀ n, (piece out d n).length = out.length + n
  | 0 => rfl
  | n + 1 => by simp [piece, piece_length out d n]; omega

/-- What is unpacked, these bytes being there already; and the error's number. -/
def unpGo : Nat → List UInt8 → List UInt8 → List UInt8 × Int
  | 0, out, _ => (out, 0)
  | n + 1, out, l =>
    if l.length = 0 then (out, 0)
    else if (bat l 0).toNat < 128 then
      if l.length < (bat l 0).toNat + 2 then ([], 5)
      else if 600 < out.length + ((bat l 0).toNat + 1) then ([], 1)
      else unpGo n (out ++ (l.drop 1).take ((bat l 0).toNat + 1)) (l.drop ((bat l 0).toNat + 2))
    else if l.length < 2 then ([], 5)
    else if (bat l 1).toNat = 0 ∨ out.length < (bat l 1).toNat then ([], 4)
    else if 600 < out.length + ((bat l 0).toNat - 124) then ([], 1)
    else unpGo n (piece out (bat l 1).toNat ((bat l 0).toNat - 124)) (l.drop 2)
def unp (out l : List UInt8) : List UInt8 × Int := unpGo l.length out l
theorem unpGo_fuel : ∀ (n m : Nat) (out l : List UInt8), l.length ≤ n → l.length ≤ m → unpGo n out l = unpGo m out l
  | 0, 0, _, _, _, _ => rfl
  | 0, m + 1, out, l, h, _ => by rw [unpGo, unpGo, if_pos (by omega)]
  | n + 1, 0, out, l, _, h => by rw [unpGo, unpGo, if_pos (by omega)]
  | n + 1, m + 1, out, l, h, h' => by
    rw [unpGo, unpGo]
    by_cases h0 : l.length = 0
    · rw [if_pos h0, if_pos h0]
    · rw [if_neg h0, if_neg h0, unpGo_fuel n m _ (l.drop ((bat l 0).toNat + 2)) (by simp; omega) (by simp; omega), unpGo_fuel n m _ (l.drop 2) (by simp; omega) (by simp; omega)]
theorem unp_nil (out : List UInt8) : unp out [] = (out, 0) := rfl
theorem unp_eq (out l : List UInt8) (h0 : 0 < l.length) : unp out l =
    if (bat l 0).toNat < 128 then
      if l.length < (bat l 0).toNat + 2 then ([], 5)
      else if 600 < out.length + ((bat l 0).toNat + 1) then ([], 1)
      else unp (out ++ (l.drop 1).take ((bat l 0).toNat + 1)) (l.drop ((bat l 0).toNat + 2))
    else if l.length < 2 then ([], 5)
    else if (bat l 1).toNat = 0 ∨ out.length < (bat l 1).toNat then ([], 4)
    else if 600 < out.length + ((bat l 0).toNat - 124) then ([], 1)
    else unp (piece out (bat l 1).toNat ((bat l 0).toNat - 124)) (l.drop 2) := by
  rw [unp, unpGo_fuel l.length (l.length + 1) out l (Nat.le_refl _) (by omega), unpGo, if_neg (by omega), unp, unp, unpGo_fuel l.length (l.drop ((bat l 0).toNat + 2)).length _ (l.drop ((bat l 0).toNat + 2)) (by simp) (Nat.le_refl _), unpGo_fuel l.length (l.drop 2).length _ (l.drop 2) (by simp) (Nat.le_refl _)]
theorem unp_plain (out t : List UInt8) (c : UInt8) (h : c.toNat < 128) (h1 : c.toNat + 1 ≤ t.length) (h2 : out.length + (c.toNat + 1) ≤ 600) :
    unp out (c :: t) = unp (out ++ t.take (c.toNat + 1)) (t.drop (c.toNat + 1)) := by
  have e : bat (c :: t) 0 = c := rfl
  rw [unp_eq _ _ (by simp), e, if_pos h, if_neg (by simp; omega), if_neg (by omega), List.drop_one, List.tail_cons, show c.toNat + 2 = c.toNat + 1 + 1 from rfl, List.drop_succ_cons]
theorem unp_piece (out t : List UInt8) (c d : UInt8) (h : 128 ≤ c.toNat) (h0 : 0 < d.toNat) (h1 : d.toNat ≤ out.length) (h2 : out.length + (c.toNat - 124) ≤ 600) :
    unp out (c :: d :: t) = unp (piece out d.toNat (c.toNat - 124)) t := by
  have e : bat (c :: d :: t) 0 = c := rfl
  have e' : bat (c :: d :: t) 1 = d := rfl
  rw [unp_eq _ _ (by simp), e, e', if_neg (by omega), if_neg (by simp), if_neg (by omega), if_neg (by omega)]
  rfl

theorem byt_toNat (n : Nat) (h : n < 256) : (byt (n : Int)).toNat = n := by
  have := byt_nat (n : Int) (by omega) (by omega)
  omega
/-- Bytes as they are come back. -/
theorem unp_plainly (out l r : List UInt8) (h : out.length + l.length ≤ 600) : unp out (plainly l ++ r) = unp (out ++ l) r := by
  induction hn : l.length using Nat.strongRecOn generalizing l out with
  | _ n ih =>
    rw [plainly_eq]
    by_cases h0 : l.length = 0
    · rw [if_pos h0]
      obtain rfl : l = [] := List.eq_nil_of_length_eq_zero h0
      simp
    · rw [if_neg h0]
      have e : (byt ((min l.length 128 : Nat) - 1)).toNat = min l.length 128 - 1 := by
        have := byt_toNat (min l.length 128 - 1) (by omega)
        rw [← this]; congr 2; omega
      have ht : (l.take 128).length = min l.length 128 := by simp; omega
      have k2 := ih (l.drop 128).length (by simp; omega) (out ++ l.take 128) (l.drop 128) (by simp; omega) rfl
      rw [List.cons_append, unp_plain _ _ _ (by rw [e]; omega) (by rw [e]; simp; omega) (by rw [e]; omega), e, List.append_assoc (l.take 128)]
      have k : min l.length 128 - 1 + 1 = (l.take 128).length := by omega
      rw [k, List.take_left, List.drop_left, k2]
      simp
theorem piece_take (l : List UInt8) (i d : Nat) (hd : 1 ≤ d) (hdi : d ≤ i) : ∀ n, i + n ≤ l.length → (∀ j, j < n → bat l (i - d + j) = bat l (i + j)) → piece (l.take i) d n = l.take (i + n)
  | 0, _, _ => rfl
  | n + 1, h, ha => by
    have ih := piece_take l i d hd hdi n (by omega) (fun j hj => ha j (by omega))
    rw [piece, ih]
    have hl : (l.take (i + n)).length = i + n := by simp; omega
    rw [hl, bat_take _ _ _ (by omega)]
    have e := ha n (by omega)
    rw [show i - d + n = i + n - d by omega] at e
    rw [e, bat_lt _ _ (by omega), ← Nat.add_assoc, List.take_succ_eq_append_getElem (by omega)]
/-- What is packed comes back. -/
theorem unp_rest (l : List UInt8) (hl : l.length ≤ 600) (f i : Nat) (hi : i ≤ l.length) (hf : f ≤ i) : unp (l.take f) (rest l f i) = (l, 0) := by
  induction hn : l.length - i using Nat.strongRecOn generalizing f i with
  | _ n ih =>
    have hcut : ∀ i, i ≤ l.length → f ≤ i → l.take f ++ cut l f i = l.take i := by
      intro i hi hf
      have : l.take f = (l.take i).take f := by rw [List.take_take, Nat.min_eq_left hf]
      rw [this, cut, List.take_append_drop]
    by_cases h : l.length ≤ i
    · have e := unp_plainly (l.take f) (cut l f l.length) [] (by rw [cut_length _ _ _ (Nat.le_refl _)]; simp; omega)
      rw [List.append_nil] at e
      rw [rest_end l f i h, e, hcut _ (Nat.le_refl _) (by omega), unp_nil, List.take_length]
    · by_cases h' : (best l i).1 < 4
      · rw [rest_skip l f i (by omega) h']; exact ih _ (by omega) f (i + 1) (by omega) (by omega) rfl
      · obtain ⟨b1, b2, b3, b4, b5⟩ := best_bd l i hi
        obtain ⟨b6, b7⟩ := b5 (by omega)
        have k := ih _ (by omega) (i + (best l i).1) (i + (best l i).1) (by omega) (Nat.le_refl _) rfl
        have e1 : (byt (124 + ((best l i).1 : Int))).toNat = 124 + (best l i).1 := byt_toNat (124 + (best l i).1) (by omega)
        have e2 := byt_toNat (best l i).2 (by omega)
        have hli : (l.take i).length = i := by simp; omega
        rw [rest_take l f i (by omega) (by omega), unp_plainly _ _ _ (by rw [cut_length _ _ _ hi]; simp; omega), hcut i hi hf, unp_piece _ _ _ _ (by omega) (by omega) (by omega) (by omega), e1, e2]
        rw [show 124 + (best l i).1 - 124 = (best l i).1 by omega, piece_take l i _ b6 b3 _ b2 b7]
        exact k
theorem unp_packed (l : List UInt8) (hl : l.length ≤ 600) : unp [] (packed l) = (l, 0) := by
  have := unp_rest l hl 0 0 (Nat.zero_le _) (Nat.le_refl _)
  simpa [packed] using this
end Go.Proofs.YtahoagbaadnihabGreatDoor

/- Unpacking from a place on: one step each way. -/
namespace Go.Proofs.YtahoagbaadnihabGreatDoor

/-- What is unpacked from place i on. -/
def unpAt (O l : List UInt8) (i : Nat) : List UInt8 × Int := unp O (l.drop i)
theorem unpAt_end (O l : List UInt8) (i : Nat) (h : l.length ≤ i) : unpAt O l i = (O, 0) := by rw [unpAt, List.drop_eq_nil_of_le h, unp_nil]
theorem bat_drop (l : List UInt8) (i : Nat) : bat (l.drop i) 0 = bat l i := by simp [bat]
theorem bat_drop1 (l : List UInt8) (i : Nat) : bat (l.drop i) 1 = bat l (i + 1) := by simp [bat]
theorem cut_from (l : List UInt8) (i n : Nat) : cut l i (i + n) = (l.drop i).take n := by rw [cut, List.take_drop]
theorem unpAt_short (O l : List UInt8) (i : Nat) (h : i < l.length) (hc : (bat l i).toNat < 128) (hs : l.length < i + 2 + (bat l i).toNat) : unpAt O l i = ([], 5) := by
  rw [unpAt, unp_eq _ _ (by simp; omega), bat_drop, if_pos hc, if_pos (by simp; omega)]
theorem unpAt_size (O l : List UInt8) (i : Nat) (h : i < l.length) (hc : (bat l i).toNat < 128) (hs : i + 2 + (bat l i).toNat ≤ l.length) (h6 : 600 < O.length + ((bat l i).toNat + 1)) : unpAt O l i = ([], 1) := by
  rw [unpAt, unp_eq _ _ (by simp; omega), bat_drop, if_pos hc, if_neg (by simp; omega), if_pos h6]
theorem unpAt_plain (O l : List UInt8) (i : Nat) (h : i < l.length) (hc : (bat l i).toNat < 128) (hs : i + 2 + (bat l i).toNat ≤ l.length) (h6 : O.length + ((bat l i).toNat + 1) ≤ 600) :
    unpAt O l i = unpAt (O ++ cut l (i + 1) (i + 2 + (bat l i).toNat)) l (i + 2 + (bat l i).toNat) := by
  rw [unpAt, unp_eq _ _ (by simp; omega), bat_drop, if_pos hc, if_neg (by simp; omega), if_neg (by omega), unpAt, List.drop_drop, List.drop_drop, ← cut_from]
  rw [show i + 1 + ((bat l i).toNat + 1) = i + 2 + (bat l i).toNat by omega, show i + ((bat l i).toNat + 2) = i + 2 + (bat l i).toNat by omega]
theorem unpAt_short2 (O l : List UInt8) (i : Nat) (h : i < l.length) (hc : 128 ≤ (bat l i).toNat) (hs : l.length < i + 2) : unpAt O l i = ([], 5) := by
  rw [unpAt, unp_eq _ _ (by simp; omega), bat_drop, if_neg (by omega), if_pos (by simp; omega)]
theorem unpAt_form (O l : List UInt8) (i : Nat) (hc : 128 ≤ (bat l i).toNat) (hs : i + 2 ≤ l.length) (hf : (bat l (i + 1)).toNat = 0 ∨ O.length < (bat l (i + 1)).toNat) : unpAt O l i = ([], 4) := by
  rw [unpAt, unp_eq _ _ (by simp; omega), bat_drop, bat_drop1, if_neg (by omega), if_neg (by simp; omega), if_pos hf]
theorem unpAt_size2 (O l : List UInt8) (i : Nat) (hc : 128 ≤ (bat l i).toNat) (hs : i + 2 ≤ l.length) (hf : ¬ ((bat l (i + 1)).toNat = 0 ∨ O.length < (bat l (i + 1)).toNat)) (h6 : 600 < O.length + ((bat l i).toNat - 124)) : unpAt O l i = ([], 1) := by
  rw [unpAt, unp_eq _ _ (by simp; omega), bat_drop, bat_drop1, if_neg (by omega), if_neg (by simp; omega), if_neg hf, if_pos h6]
theorem unpAt_piece (O l : List UInt8) (i : Nat) (hc : 128 ≤ (bat l i).toNat) (hs : i + 2 ≤ l.length) (hf : ¬ ((bat l (i + 1)).toNat = 0 ∨ O.length < (bat l (i + 1)).toNat)) (h6 : O.length + ((bat l i).toNat - 124) ≤ 600) :
    unpAt O l i = unpAt (piece O (bat l (i + 1)).toNat ((bat l i).toNat - 124)) l (i + 2) := by
  rw [unpAt, unp_eq _ _ (by simp; omega), bat_drop, bat_drop1, if_neg (by omega), if_neg (by simp; omega), if_neg hf, if_neg (by omega), unpAt, List.drop_drop]
end Go.Proofs.YtahoagbaadnihabGreatDoor
