/- Bytes read as a catalog, purely; a catalog is read as it was written, with 0s behind it alone; cut short it is not. -/
import Derived.Test.YtkhjmfngeidlcaaCatMath
namespace Go.Proofs.Ytkhjmfngeidlcaa
open Go.RowKit

/-- What is left to be read, and whether the bytes ended too early. -/
abbrev Rd := List UInt8 × Bool
def tk (n : Nat) (r : Rd) : List UInt8 × Rd := if n ≤ r.1.length then (r.1.take n, (r.1.drop n, r.2)) else ([], ([], true))
def numOf (l : List UInt8) : Int := l.foldl (fun n c => n * 256 + c.toNat) 0
def rnum (n : Nat) (r : Rd) : Int × Rd := (numOf (tk n r).1, (tk n r).2)
def behB (L : List Bk) : Int := match L.getLast? with
  | none => 8
  | some b => b.f + secs b.n.toNat
def stB (L : List Bk) (r : Rd) : List Bk × Rd := (L ++ [⟨behB L, (rnum 2 r).1⟩], (rnum 2 r).2)
def rblk : Nat → Rd → List Bk × Rd
  | 0, r => ([], r)
  | k + 1, r => stB (rblk k r).1 (rblk k r).2
/-- One entry. -/
def e1 (r : Rd) : List UInt8 × Rd := tk (rnum 1 r).1.toNat (rnum 1 r).2
def e2 (r : Rd) : Int × Rd := rnum 1 (e1 r).2
def e3 (r : Rd) : Int × Rd := rnum 2 (e2 r).2
def e4 (r : Rd) : Int × Rd := rnum 1 (e3 r).2
def rent1 (r : Rd) : En × Rd := (⟨str (e1 r).1, (e2 r).1, (e3 r).1, (e4 r).1⟩, (e4 r).2)
def rent : Nat → Rd → List En × Rd
  | 0, r => ([], r)
  | k + 1, r => ((rent k r).1 ++ [(rent1 (rent k r).2).1], (rent1 (rent k r).2).2)
/-- All of it. -/
def c1 (r : Rd) : List Bk × Rd := rblk (rnum 1 r).1.toNat (rnum 1 r).2
def c2 (r : Rd) : Int × Rd := rnum 1 (c1 r).2
def c3 (r : Rd) : List En × Rd := rent (c2 r).1.toNat (c2 r).2
def rcat (s : List UInt8) : Ct × Rd := (((c1 (s, false)).1, (c3 (s, false)).1), (c3 (s, false)).2)
def zeros (l : List UInt8) : Bool := l.all (· == 0)
def decC (s : List UInt8) : Ct × Int := if (rcat s).2.2 = true then (nilC, 5) else if zeros (rcat s).2.1 = false then (nilC, 4) else if catChk (rcat s).1 = 0 then ((rcat s).1, 0) else (nilC, catChk (rcat s).1)

theorem rent_succ (k : Nat) (r : Rd) : rent (k + 1) r = ((rent k r).1 ++ [(rent1 (rent k r).2).1], (rent1 (rent k r).2).2) := rfl
theorem rblk_succ (k : Nat) (r : Rd) : rblk (k + 1) r = stB (rblk k r).1 (rblk k r).2 := rfl
theorem num_snoc (l : List UInt8) (c : UInt8) : numOf (l ++ [c]) = numOf l * 256 + c.toNat := by simp [numOf]
theorem num_nil : numOf [] = 0 := rfl
theorem num_one (c : UInt8) : numOf [c] = c.toNat := by simp [numOf]
theorem num_two (c d : UInt8) : numOf [c, d] = c.toNat * 256 + d.toNat := by simp [numOf]
theorem tk_len (n : Nat) (r : Rd) : (tk n r).1.length ≤ n := by unfold tk; split <;> simp; omega
theorem tk_yes (n : Nat) (r : Rd) (h : n ≤ r.1.length) : tk n r = (r.1.take n, (r.1.drop n, r.2)) := by rw [tk, if_pos h]
theorem tk_no (n : Nat) (r : Rd) (h : r.1.length < n) : tk n r = ([], ([], true)) := by rw [tk, if_neg (by omega)]
theorem num_bd1 (l : List UInt8) (h : l.length ≤ 1) : 0 ≤ numOf l ∧ numOf l < 256 := by
  match l, h with
  | [], _ => simp [numOf]
  | [c], _ => rw [num_one]; have := c.toNat_lt; omega
theorem num_bd2 (l : List UInt8) (h : l.length ≤ 2) : 0 ≤ numOf l ∧ numOf l < 65536 := by
  match l, h with
  | [], _ => simp [numOf]
  | [c], _ => rw [num_one]; have := c.toNat_lt; omega
  | [c, d], _ => rw [num_two]; have := c.toNat_lt; have := d.toNat_lt; omega
theorem rnum_bd1 (r : Rd) : 0 ≤ (rnum 1 r).1 ∧ (rnum 1 r).1 < 256 := num_bd1 _ (tk_len 1 r)
theorem rnum_bd2 (r : Rd) : 0 ≤ (rnum 2 r).1 ∧ (rnum 2 r).1 < 65536 := num_bd2 _ (tk_len 2 r)

/-- What ended too early stays so. -/
theorem tk_short (n : Nat) (r : Rd) (h : r.2 = true) : (tk n r).2.2 = true := by unfold tk; split <;> simp [h]
theorem rnum_short (n : Nat) (r : Rd) (h : r.2 = true) : (rnum n r).2.2 = true := tk_short n r h
theorem e1_short (r : Rd) (h : r.2 = true) : (e1 r).2.2 = true := tk_short _ _ (rnum_short 1 r h)
theorem e2_short (r : Rd) (h : (e1 r).2.2 = true) : (e2 r).2.2 = true := rnum_short _ _ h
theorem e3_short (r : Rd) (h : (e2 r).2.2 = true) : (e3 r).2.2 = true := rnum_short _ _ h
theorem e4_short (r : Rd) (h : (e3 r).2.2 = true) : (e4 r).2.2 = true := rnum_short _ _ h
theorem rent1_short (r : Rd) (h : r.2 = true) : (rent1 r).2.2 = true := by
  have g := e4_short r (e3_short r (e2_short r (e1_short r h)))
  unfold rent1
  exact g
theorem rblk_short (k j : Nat) (r : Rd) (h : (rblk k r).2.2 = true) (hj : k ≤ j) : (rblk j r).2.2 = true := by
  induction j with
  | zero => obtain rfl : k = 0 := by omega
            exact h
  | succ j ih =>
    by_cases e : k = j + 1
    · rw [← e]; exact h
    · exact rnum_short 2 _ (ih (by omega))
theorem rent_short (k j : Nat) (r : Rd) (h : (rent k r).2.2 = true) (hj : k ≤ j) : (rent j r).2.2 = true := by
  induction j with
  | zero => obtain rfl : k = 0 := by omega
            exact h
  | succ j ih =>
    by_cases e : k = j + 1
    · rw [← e]; exact h
    · have q := ih (by omega)
      rw [rent_succ]
      dsimp only
      generalize (rent j r).2 = x at q ⊢
      exact rent1_short x q
theorem c3_short1 (r : Rd) (h : (c1 r).2.2 = true) : (c3 r).2.2 = true := rent_short 0 _ _ (rnum_short 1 _ h) (Nat.zero_le _)
theorem c3_short2 (r : Rd) (h : (c2 r).2.2 = true) : (c3 r).2.2 = true := rent_short 0 _ _ h (Nat.zero_le _)
theorem dec_short (s : List UInt8) (h : (rcat s).2.2 = true) : decC s = (nilC, 5) := by rw [decC, if_pos h]
theorem dec_rest (s : List UInt8) (h : (rcat s).2.2 = false) (h2 : zeros (rcat s).2.1 = false) : decC s = (nilC, 4) := by rw [decC, if_neg (by simp [h]), if_pos h2]
theorem dec_chk (s : List UInt8) (h : (rcat s).2.2 = false) (h2 : zeros (rcat s).2.1 = true) (h3 : catChk (rcat s).1 ≠ 0) : decC s = (nilC, catChk (rcat s).1) := by rw [decC, if_neg (by simp [h]), if_neg (by simp [h2]), if_neg h3]
theorem dec_ok (s : List UInt8) (h : (rcat s).2.2 = false) (h2 : zeros (rcat s).2.1 = true) (h3 : catChk (rcat s).1 = 0) : decC s = ((rcat s).1, 0) := by rw [decC, if_neg (by simp [h]), if_neg (by simp [h2]), if_pos h3]

/-- The sector behind the blocks that were read. -/
theorem beh_bd (r : Rd) (k : Nat) : 8 ≤ behB (rblk k r).1 ∧ behB (rblk k r).1 ≤ 8 + 2731 * k := by
  induction k with
  | zero => simp [rblk, behB]
  | succ k ih =>
    have h := rnum_bd2 (rblk k r).2
    have e : behB (rblk (k + 1) r).1 = behB (rblk k r).1 + secs (rnum 2 (rblk k r).2).1.toNat := by
      show behB ((rblk k r).1 ++ [_]) = _
      simp [behB]
    rw [e]
    unfold secs
    omega
theorem rblk_len (r : Rd) (k : Nat) : (rblk k r).1.length = k := by
  induction k with
  | zero => rfl
  | succ k ih => show ((rblk k r).1 ++ [_]).length = _; rw [List.length_append, ih]; rfl
theorem rent_len (r : Rd) (k : Nat) : (rent k r).1.length = k := by
  induction k with
  | zero => rfl
  | succ k ih => show ((rent k r).1 ++ [_]).length = _; rw [List.length_append, ih]; rfl

/-- P takes these bytes and answers a; if they are cut short it tells. -/
def Eats {α : Type} (P : Rd → α × Rd) (x : List UInt8) (a : α) : Prop := (∀ y, P (x ++ y, false) = (a, (y, false))) ∧ ∀ k, k < x.length → (P (x.take k, false)).2.2 = true
theorem eats_bind {α β : Type} {P : Rd → α × Rd} {x : List UInt8} {a : α} (Q : α → Rd → β × Rd) {y : List UInt8} {b : β} (hP : Eats P x a) (hQ : Eats (Q a) y b) (hs : ∀ c r, r.2 = true → (Q c r).2.2 = true) : Eats (fun r => Q (P r).1 (P r).2) (x ++ y) b := by
  refine ⟨fun z => ?_, fun k hk => ?_⟩
  · show Q (P (x ++ y ++ z, false)).1 (P (x ++ y ++ z, false)).2 = _
    rw [List.append_assoc, hP.1, hQ.1]
  · show (Q (P ((x ++ y).take k, false)).1 (P ((x ++ y).take k, false)).2).2.2 = true
    by_cases h : k < x.length
    · rw [List.take_append_of_le_length (by omega)]
      exact hs _ _ (hP.2 k h)
    · obtain ⟨j, rfl⟩ : ∃ j, k = x.length + j := ⟨k - x.length, by omega⟩
      rw [List.take_length_add_append, hP.1]
      exact hQ.2 j (by simp at hk; omega)
theorem eats_map {α β : Type} {P : Rd → α × Rd} {x : List UInt8} {a : α} (f : α → β) (h : Eats P x a) : Eats (fun r => (f (P r).1, (P r).2)) x (f a) :=
  ⟨fun y => by show (f (P (x ++ y, false)).1, (P (x ++ y, false)).2) = _; rw [h.1], fun k hk => h.2 k hk⟩
theorem eats_tk (x : List UInt8) : Eats (tk x.length) x x := by
  refine ⟨fun y => ?_, fun k hk => ?_⟩
  · rw [tk_yes _ _ (by simp)]; simp
  · rw [tk_no _ _ (by simp; omega)]
theorem eats_num (x : List UInt8) : Eats (rnum x.length) x (numOf x) := by
  refine ⟨fun y => ?_, fun k hk => ?_⟩
  · rw [rnum, (eats_tk x).1 y]
  · exact (eats_tk x).2 k hk
theorem eats_one (n : Int) (h0 : 0 ≤ n) (h1 : n < 256) : Eats (rnum 1) [byt n] n := by
  have := eats_num [byt n]
  rw [num_one, byt_nat n h0 h1] at this
  exact this
theorem eats_two (n : Int) (h0 : 0 ≤ n) (h1 : n < 65536) : Eats (rnum 2) (be2 n) n := by
  have := eats_num (be2 n)
  rw [be2, num_two, byt_nat _ (by omega) (by omega), byt_nat _ (by omega) (by omega)] at this
  rw [show n / 256 * 256 + n % 256 = n by omega] at this
  exact this
theorem eats_entry (x : En) (m : Nat) (hm : m ≤ 10) (h : enOk x m = true) : Eats rent1 (encE x) x := by
  obtain ⟨h1, h2, h3, h4⟩ := (enOk_iff x m).1 h
  have h5 := nameMay_size _ h1
  have q1 : Eats e1 ([byt x.s.size] ++ x.s.data.toList) x.s.data.toList := eats_bind (fun (n : Int) r => tk n.toNat r) (eats_one x.s.size (by omega) (by omega)) (by rw [Int.toNat_natCast, ← ba_len]; exact eats_tk _) (fun c r h => tk_short _ r h)
  have q2 : Eats (fun r => (((e1 r).1, (e2 r).1), (e2 r).2)) ([byt x.s.size] ++ x.s.data.toList ++ [byt x.b]) (x.s.data.toList, x.b) := eats_bind (fun a r => ((a, (rnum 1 r).1), (rnum 1 r).2)) q1 (eats_map (fun v => (x.s.data.toList, v)) (eats_one x.b (by omega) (by omega))) (fun c r h => rnum_short 1 r h)
  have q3 : Eats (fun r => (((e1 r).1, (e2 r).1, (e3 r).1), (e3 r).2)) ([byt x.s.size] ++ x.s.data.toList ++ [byt x.b] ++ be2 x.a) (x.s.data.toList, x.b, x.a) := eats_bind (fun (a : List UInt8 × Int) r => ((a.1, a.2, (rnum 2 r).1), (rnum 2 r).2)) q2 (eats_map (fun v => (x.s.data.toList, x.b, v)) (eats_two x.a (by omega) (by omega))) (fun c r h => rnum_short 2 r h)
  have q4 : Eats rent1 ([byt x.s.size] ++ x.s.data.toList ++ [byt x.b] ++ be2 x.a ++ [byt x.n]) ⟨str x.s.data.toList, x.b, x.a, x.n⟩ := eats_bind (fun (a : List UInt8 × Int × Int) r => ((⟨str a.1, a.2.1, a.2.2, (rnum 1 r).1⟩ : En), (rnum 1 r).2)) q3 (eats_map (fun v => (⟨str x.s.data.toList, x.b, x.a, v⟩ : En)) (eats_one x.n (by omega) (by omega))) (fun c r h => rnum_short 1 r h)
  rw [str_of] at q4
  have e : encE x = [byt x.s.size] ++ x.s.data.toList ++ [byt x.b] ++ be2 x.a ++ [byt x.n] := by simp [encE]
  rw [e]
  exact q4
theorem eats_entries (E : List En) (m : Nat) (hm : m ≤ 10) (k : Nat) (hk : k ≤ E.length) (h : ∀ j, j < k → enOk (en E j) m = true) : Eats (rent k) (encEs (E.take k)) (E.take k) := by
  induction k with
  | zero =>
    rw [List.take_zero]
    exact ⟨fun y => rfl, fun j hj => by simp [encEs] at hj⟩
  | succ k ih =>
    have e : encEs (E.take (k + 1)) = encEs (E.take k) ++ encE (en E k) := by rw [en_take E k (by omega)]; simp [encEs]
    rw [e, en_take E k (by omega)]
    exact eats_bind (fun (a : List En) r => (a ++ [(rent1 r).1], (rent1 r).2)) (ih (by omega) (fun j hj => h j (by omega))) (eats_map (fun v => E.take k ++ [v]) (eats_entry (en E k) m hm (h k (by omega)))) (fun c r h => by show (rent1 r).2.2 = true; exact rent1_short r h)
theorem beh_take (L : List Bk) (k : Nat) (hk : k ≤ L.length) (h : ∀ j, j < k → bkOk L j = true) : behB (L.take k) = atB L k := by
  cases k with
  | zero => rfl
  | succ k =>
    rw [bk_take L k (by omega)]
    obtain ⟨h1, _, _⟩ := (bkOk_iff L k).1 (h k (by omega))
    rw [atB_succ]
    simp only [behB, List.getLast?_append, List.getLast?_singleton, Option.some_or]
    omega
theorem eats_blocks (L : List Bk) (k : Nat) (hk : k ≤ L.length) (h : ∀ j, j < L.length → bkOk L j = true) : Eats (rblk k) (encBs (L.take k)) (L.take k) := by
  induction k with
  | zero =>
    rw [List.take_zero]
    exact ⟨fun y => rfl, fun j hj => by simp [encBs] at hj⟩
  | succ k ih =>
    have e : encBs (L.take (k + 1)) = encBs (L.take k) ++ be2 (bk L k).n := by rw [bk_take L k (by omega)]; simp [encBs]
    obtain ⟨h1, h2, _⟩ := (bkOk_iff L k).1 (h k (by omega))
    have hb : (⟨behB (L.take k), (bk L k).n⟩ : Bk) = bk L k := by
      rw [beh_take L k (by omega) (fun j hj => h j (by omega)), ← h1]
    rw [e, bk_take L k (by omega), ← hb]
    exact eats_bind stB (ih (by omega)) (eats_map (fun v => L.take k ++ [(⟨behB (L.take k), v⟩ : Bk)]) (eats_two (bk L k).n (by omega) (by omega))) (fun c r h => rnum_short 2 r h)
/-- A catalog that may be is read as it was written. -/
theorem eats_cat (C : Ct) (h : catChk C = 0) : Eats (fun r => (((c1 r).1, (c3 r).1), (c3 r).2)) (encB C) C := by
  obtain ⟨h1, h2, h3, h4⟩ := chk_ok C h
  have g1 := eats_blocks C.1 C.1.length (Nat.le_refl _) (blk_ok C.1 _ h3)
  have g2 := eats_entries C.2 C.1.length h1 C.2.length (Nat.le_refl _) (ent_ok C.2 _ _ h4)
  rw [List.take_length] at g1 g2
  have q1 : Eats c1 ([byt C.1.length] ++ encBs C.1) C.1 := eats_bind (fun (n : Int) r => rblk n.toNat r) (eats_one (C.1.length : Int) (by omega) (by omega)) (by rw [Int.toNat_natCast]; exact g1) (fun c r h => rblk_short 0 _ r h (Nat.zero_le _))
  have q2 : Eats (fun r => (((c1 r).1, (c2 r).1), (c2 r).2)) ([byt C.1.length] ++ encBs C.1 ++ [byt C.2.length]) (C.1, (C.2.length : Int)) := eats_bind (fun a r => ((a, (rnum 1 r).1), (rnum 1 r).2)) q1 (eats_map (fun v => (C.1, v)) (eats_one (C.2.length : Int) (by omega) (by omega))) (fun c r h => rnum_short 1 r h)
  exact eats_bind (fun (a : List Bk × Int) r => ((a.1, (rent a.2.toNat r).1), (rent a.2.toNat r).2)) q2 (eats_map (fun v => (C.1, v)) (by rw [Int.toNat_natCast]; exact g2)) (fun c r h => rent_short 0 _ r h (Nat.zero_le _))
theorem cat_back (C : Ct) (h : catChk C = 0) (n : Nat) : decC (encB C ++ List.replicate n 0) = (C, 0) := by
  have e : rcat (encB C ++ List.replicate n 0) = (C, (List.replicate n 0, false)) := (eats_cat C h).1 _
  rw [dec_ok _ (by rw [e]) (by rw [e]; simp [zeros]) (by rw [e]; exact h), e]
theorem cat_more (C : Ct) (h : catChk C = 0) (l : List UInt8) (hl : zeros l = false) : decC (encB C ++ l) = (nilC, 4) := by
  have e : rcat (encB C ++ l) = (C, (l, false)) := (eats_cat C h).1 _
  exact dec_rest _ (by rw [e]) (by rw [e]; exact hl)
theorem cat_cut (C : Ct) (h : catChk C = 0) (k : Nat) (hk : k < (encB C).length) : decC ((encB C).take k) = (nilC, 5) := dec_short _ ((eats_cat C h).2 k hk)
end Go.Proofs.Ytkhjmfngeidlcaa
