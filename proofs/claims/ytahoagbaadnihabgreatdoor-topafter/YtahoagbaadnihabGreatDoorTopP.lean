/- Joined texts: ShlMath, ShlMay, TopTru, TopWorn, TopPut, TopRun, TopActs, TopPure, TopMore. -/
import Derived.Test.YtahoagbaadnihabGreatDoorArcM
import Derived.Test.YtahoagbaadnihabGreatDoorHealPure
import Derived.Test.YtahoagbaadnihabGreatDoorHigh
/- A script over an archive, purely: what each act makes of an array under a scrub, and what is answered. -/
namespace Go.Proofs.YtahoagbaadnihabGreatDoor
open Go.RowKit

/-- An act. -/
structure Ac where
  kind : Int
  files : List Fi
  name : ByteArray
  d : Int
  n : Int
  at_ : Int
  by_ : Int
/-- An answer. -/
structure An where
  code : Int
  data : List UInt8
  names : List ByteArray
  count : Int
  gone : List Nat
/-- An array, and where its scrub is. -/
structure Ha where
  A : Ar
  nx : Int
  rd : Int
def anE (e : Int) : An := ⟨e, [], [], 0, []⟩
def actAdd (h : Ha) (F : List Fi) : Ha × An := if (addA h.A F).2 = 0 then (⟨(addA h.A F).1, h.nx, h.rd⟩, anE 0) else (h, anE (addA h.A F).2)
def actGet (h : Ha) (s : ByteArray) : Ha × An := (h, ⟨(getA h.A s).2, (getA h.A s).1, [], 0, []⟩)
def actList (h : Ha) : Ha × An := (h, ⟨(opn h.A).2, [], namesE (opn h.A).1.2, 0, []⟩)
/-- What is lost, or turned, of a device. -/
def hurtX (A : Ar) (x : Ac) : Dv × Int := if x.kind = 5 then dvTurn (dev A x.d.toNat) x.n x.at_ x.by_ else dvLose (dev A x.d.toNat) x.n
def actHurt (h : Ha) (x : Ac) : Ha × An := if 0 ≤ x.d ∧ x.d ≤ 2 then (if (hurtX h.A x).2 = 0 then (⟨h.A.set x.d.toNat (hurtX h.A x).1, h.nx, h.rd⟩, anE 0) else (h, anE (hurtX h.A x).2)) else (h, anE 2)
def actNew (h : Ha) (d : Int) : Ha × An := if (arReplace h.A d).2 = 0 then (⟨(arReplace h.A d).1, h.nx, h.rd⟩, anE 0) else (h, anE (arReplace h.A d).2)
def actScrub (h : Ha) (n : Int) : Ha × An := if (arStep h.A h.nx h.rd n).e = 0 then (⟨(arStep h.A h.nx h.rd n).A, (arStep h.A h.nx h.rd n).nx, (arStep h.A h.nx h.rd n).rd⟩, ⟨0, [], [], (arStep h.A h.nx h.rd n).ct, (arStep h.A h.nx h.rd n).gone⟩) else (h, anE (arStep h.A h.nx h.rd n).e)
def actHealth (h : Ha) : Ha × An := (h, ⟨(arHealth h.A).2.2, [], [], (arHealth h.A).1, (arHealth h.A).2.1⟩)
def actS (h : Ha) (x : Ac) : Ha × An :=
  if x.kind = 1 then actAdd h x.files else if x.kind = 2 then actGet h x.name else if x.kind = 3 then actList h else if x.kind = 4 ∨ x.kind = 5 then actHurt h x
  else if x.kind = 6 then actNew h x.d else if x.kind = 7 then actScrub h x.n else if x.kind = 8 then actHealth h else (h, anE 3)
/-- A script. -/
def runS (h : Ha) : List Ac → Ha × List An
  | [] => (h, [])
  | x :: l => ((runS (actS h x).1 l).1, (actS h x).2 :: (runS (actS h x).1 l).2)
def scrS (many : Int) (l : List Ac) : List An × Ar × Int := if (arNew many).2 = 0 then (if 200 < l.length then ([], [], 1) else ((runS ⟨(arNew many).1, 0, 0⟩ l).2, (runS ⟨(arNew many).1, 0, 0⟩ l).1.A, 0)) else ([], [], (arNew many).2)

theorem run_app (h : Ha) (l m : List Ac) : runS h (l ++ m) = ((runS (runS h l).1 m).1, (runS h l).2 ++ (runS (runS h l).1 m).2) := by
  induction l generalizing h with
  | nil => rfl
  | cons x l ih => rw [List.cons_append, runS, ih]; rfl
theorem run_snoc (h : Ha) (l : List Ac) (x : Ac) : runS h (l ++ [x]) = ((actS (runS h l).1 x).1, (runS h l).2 ++ [(actS (runS h l).1 x).2]) := by rw [run_app]; rfl
theorem run_len (h : Ha) (l : List Ac) : (runS h l).2.length = l.length := by
  induction l generalizing h with
  | nil => rfl
  | cons x l ih => rw [runS, List.length_cons, ih, List.length_cons]
/-- Acts that change nothing. -/
theorem run_quiet (h : Ha) (l : List Ac) (f : Ac → An) (hq : ∀ x ∈ l, actS h x = (h, f x)) : runS h l = (h, l.map f) := by
  induction l with
  | nil => rfl
  | cons x l ih =>
    rw [runS, hq x List.mem_cons_self]
    dsimp only
    rw [ih (fun y hy => hq y (List.mem_cons_of_mem _ hy))]
    rfl
end Go.Proofs.YtahoagbaadnihabGreatDoor

/- An array under a script stays one that may be, purely. -/
namespace Go.Proofs.YtahoagbaadnihabGreatDoor
open Go.RowKit

theorem change_keeps (D : Dv) (n : Int) (r : ByteArray × Bool × Int) (h : (dvChange D n r).2 = 0) (hr : dvTouch D n = 0 → r.2.2 = 0 → r.1.size = 30) : dvMay (dvChange D n r).1 = true ∧ (dvChange D n r).1.1.length = D.1.length := by
  unfold dvChange at h ⊢
  split at h
  · rename_i ht
    rw [if_pos ht]
    split at h
    · rename_i hz
      rw [if_pos hz]
      obtain ⟨_, h0, _⟩ := touch_ok D n ht
      obtain ⟨k, rfl⟩ : ∃ k : Nat, n = k := ⟨n.toNat, by omega⟩
      have := touch_put (D := D) (k := k) (s := r.1) (l := r.2.1) ht (hr ht hz)
      rw [Int.toNat_natCast]
      exact ⟨((touch_iff _ _).1 this).1, (put_len _ _ _ _).1⟩
    · rename_i hz; exact absurd h hz
  · rename_i ht; exact absurd h ht
theorem hurtx_keeps (A : Ar) (x : Ac) (h : (hurtX A x).2 = 0) : dvMay (hurtX A x).1 = true ∧ (hurtX A x).1.1.length = (dev A x.d.toNat).1.length := by
  unfold hurtX at h ⊢
  split at h
  · rename_i e
    rw [if_pos e]
    refine change_keeps _ _ _ h fun ht hz => ?_
    split at hz
    · rename_i hb
      rw [if_pos hb]
      obtain ⟨hm, h0, h1, _⟩ := touch_ok _ _ ht
      exact upBy_size _ _ _ (sec_size _ _ hm (by omega))
    · cases hz
  · rename_i e
    rw [if_neg e]
    refine change_keeps _ _ _ h fun ht _ => ?_
    obtain ⟨hm, h0, h1, _⟩ := touch_ok _ _ ht
    exact sec_size _ _ hm (by omega)
theorem add_may (A : Ar) (F : List Fi) (h : (addA A F).2 = 0) : arMay (addA A F).1 = true := by
  unfold addA at h ⊢
  split at h
  · rename_i h0
    rw [if_pos h0]
    obtain ⟨hc, hm, h16⟩ := opn_chk A h0
    unfold addC at h ⊢
    split at h
    · rename_i hf
      rw [if_pos hf]
      split at h
      · cases h
      · rename_i ht
        rw [if_neg ht]
        split at h
        · cases h
        · rename_i hu
          rw [if_neg hu]
          have ht' : takN (opn A).1 F F.length = false := by simpa using ht
          have hu' : fullA A (opn A).1 F = false := by simpa using hu
          obtain ⟨_, k1, k2, k3, k4⟩ := outA_ok A (opn A).1 F hm h16 hc hf ht' hu'
          have hl := imgC_len _ k1
          have h64 := ((arMay_iff A).1 hm).2.2.2.1
          have := st_keeps (stWrite A (atC (opn A).1) (pk F)).1 0 (imgC (catA (opn A).1 F)) (chk_st _ k3 0 _ (by omega) (by rw [hl, k4]; unfold secs; omega))
          exact this.2.1
    · rename_i hf; exact absurd h hf
  · rename_i h0; exact absurd h h0
theorem replace_may (A : Ar) (d : Int) (h : (arReplace A d).2 = 0) : arMay (arReplace A d).1 = true := by
  unfold arReplace at h ⊢
  split at h
  · rename_i hm
    rw [if_pos hm]
    split at h
    · rename_i hd
      rw [if_pos hd]
      have hh := (arMay_iff A).1 hm
      have zA := zeros_alls (many A) hh.2.2.1 hh.2.2.2.1 hh.2.2.2.2.1
      have hz : (zeroRows (many A)).length = many A := by simp [zeroRows]
      have hg := (arMay_iff _).1 (good_may zA)
      have hmn : many (goodA (zeroRows (many A))) = many A := by rw [good_many, hz]
      rw [new_good _ hh.2.2.1 hh.2.2.2.1 hh.2.2.2.2.1]
      have hk : d.toNat < 3 := by omega
      have hv := (dvMay_iff _).1 (hg.2.1 _ (dev_mem _ d.toNat (by rw [hg.1]; exact hk)))
      have hl : (dev (goodA (zeroRows (many A))) d.toNat).1.length = (dev A d.toNat).1.length := by
        rcases (show d.toNat = 0 ∨ d.toNat = 1 ∨ d.toNat = 2 by omega) with e | e | e
        · rw [e]; exact hmn
        · rw [e, hg.2.2.2.2.2.1, hh.2.2.2.2.2.1, hmn]
        · rw [e, hg.2.2.2.2.2.2, hh.2.2.2.2.2.2, hmn]
      show arMay (A.set d.toNat (blank (dev (goodA (zeroRows (many A))) d.toNat))) = true
      refine (in_may A hm d.toNat hk (blank (dev (goodA (zeroRows (many A))) d.toNat)) ?_ hl).1
      exact (dvMay_iff _).2 ⟨⟨hv.1.1, hv.1.2.1, by simp only [blank, List.length_replicate]; exact hv.1.2.2⟩, hv.2⟩
    · cases h
  · cases h
theorem step_may (A : Ar) (nx rd m : Int) (h : (arStep A nx rd m).e = 0) : arMay (arStep A nx rd m).A = true := by
  unfold arStep at h ⊢
  split at h
  · rename_i hm
    rw [if_pos hm]
    split at h
    · rename_i hx
      rw [if_pos hx]
      split at h
      · rename_i hN
        rw [if_pos hN]
        exact (scN_may (many A) A nx.toNat rd hm rfl (by omega) m.toNat).1
      · cases h
    · cases h
  · cases h
theorem act_may (h : Ha) (x : Ac) (hm : arMay h.A = true) : arMay (actS h x).1.A = true := by
  unfold actS
  split
  · unfold actAdd
    split
    · rename_i e; exact add_may _ _ e
    · exact hm
  split
  · exact hm
  split
  · exact hm
  split
  · unfold actHurt
    split
    · rename_i hd
      split
      · rename_i e
        obtain ⟨k1, k2⟩ := hurtx_keeps _ _ e
        exact (in_may h.A hm x.d.toNat (by omega) _ k1 k2).1
      · exact hm
    · exact hm
  split
  · unfold actNew
    split
    · rename_i e; exact replace_may _ _ e
    · exact hm
  split
  · unfold actScrub
    split
    · rename_i e; exact step_may _ _ _ _ e
    · exact hm
  split
  · exact hm
  · exact hm
theorem run_may : ∀ (l : List Ac) (h : Ha), arMay h.A = true → arMay (runS h l).1.A = true
  | [], _, hm => hm
  | x :: l, h, hm => run_may l _ (act_may h x hm)
end Go.Proofs.YtahoagbaadnihabGreatDoor

/- Arrays each copy of which tells what is right, or nothing, purely: what is told of them, and that a scrub changes nothing of it. -/
namespace Go.Proofs.YtahoagbaadnihabGreatDoor
open Go.RowKit

section
variable {all : List (List UInt8)} {A B : Ar}
theorem dp_24 (h : Alls all) (k : Nat) (p : Nat) (hp : p < dn all k) : (dp all k p).length = 24 := by
  unfold dn at hp
  unfold dp
  split
  · rename_i e
    rw [if_pos e] at hp
    exact h.xle p hp
  · rename_i e
    rw [if_neg e] at hp
    exact h.full p hp
theorem dn_ds (h : Alls all) (k p : Nat) (hp : p < dn all k) : ds k + p ≤ 65535 := by
  have := dn_bd h k
  unfold ds; split <;> omega
/-- Does a copy tell anything? -/
def okC (A : Ar) (k i : Nat) : Bool := decide ((dvRead (dev A k) i ((ds k + i : Nat) : Int)).2 = 0)
/-- Is a sector told? -/
def okT (A : Ar) (i : Nat) : Bool := okC A 0 i || okC A 1 i || (okC A 2 (i / 2) && (okC A 0 (part i) || okC A 1 (part i)))
/-- Each copy tells what is right, or nothing. -/
structure Tru (all : List (List UInt8)) (A : Ar) : Prop where
  alls : Alls all
  may : arMay A = true
  mny : many A = all.length
  cop : ∀ k, k < 3 → ∀ i, i < dn all k → okC A k i = true → dvRead (dev A k) i ((ds k + i : Nat) : Int) = (dp all k i, 0)

theorem tru_01 (h : Tru all A) (k i : Nat) (hk : k < 2) (hi : i < all.length) : (okC A k i = true → dvRead (dev A k) i i = (pay all i, 0)) ∧ (okC A k i = false → (dvRead (dev A k) i i).2 ≠ 0) := by
  have e2 : k ≠ 2 := by omega
  have ed : ((ds k + i : Nat) : Int) = i := by unfold ds; rw [if_neg e2]; omega
  have en' : dn all k = all.length := by unfold dn; rw [if_neg e2]
  have ep : dp all k i = pay all i := by unfold dp; rw [if_neg e2]
  refine ⟨fun ho => ?_, fun ho => ?_⟩
  · have := h.cop k (by omega) i (by rw [en']; exact hi) ho
    rw [ed, ep] at this; exact this
  · unfold okC at ho
    rw [ed] at ho
    exact of_decide_eq_false ho
theorem tru_2 (h : Tru all A) (i : Nat) (hi : i < all.length) : (okC A 2 (i / 2) = true → pari A i = (xors (pay all i) (pay all (part i)), 0)) ∧ (okC A 2 (i / 2) = false → (pari A i).2 ≠ 0) := by
  have hev := h.alls.even
  have en' : i / 2 < dn all 2 := by unfold dn; rw [if_pos rfl]; omega
  refine ⟨fun ho => ?_, fun ho => ?_⟩
  · have := h.cop 2 (by omega) (i / 2) en' ho
    rw [par_two] at this
    exact this
  · unfold okC at ho
    exact of_decide_eq_false ho
theorem tru_mirr (h : Tru all A) (i : Nat) (hi : i < all.length) : mirr A i = if okC A 0 i = true then (pay all i, 1) else if okC A 1 i = true then (pay all i, 2) else ([], 0) := by
  obtain ⟨a1, a2⟩ := tru_01 h 0 i (by omega) hi
  obtain ⟨b1, b2⟩ := tru_01 h 1 i (by omega) hi
  unfold mirr
  cases e0 : okC A 0 i with
  | true => simp [a1 e0]
  | false =>
    have q := a2 e0
    cases e1 : okC A 1 i with
    | true => simp [q, b1 e1]
    | false => simp [q, b2 e1]
/-- What is told of a sector. -/
theorem tru_tell (h : Tru all A) (i : Nat) (hi : i < all.length) : tell A i = if okC A 0 i = true then (pay all i, 1, 0) else if okC A 1 i = true then (pay all i, 2, 0) else if okC A 2 (i / 2) = true ∧ (okC A 0 (part i) = true ∨ okC A 1 (part i) = true) then (pay all i, 3, 0) else ([], 0, 11) := by
  have hp := part_lt i _ hi h.alls.even
  obtain ⟨q1, q2⟩ := tru_2 h i hi
  have xb : xors (xors (pay all i) (pay all (part i))) (pay all (part i)) = pay all i := xors_back _ _ (by rw [h.alls.full i hi, h.alls.full _ hp])
  unfold tell
  rw [tru_mirr h i hi, tru_mirr h (part i) hp]
  cases e0 : okC A 0 i with
  | true => simp
  | false =>
    cases e1 : okC A 1 i with
    | true => simp
    | false =>
      cases e2 : okC A 2 (i / 2) with
      | false => simp [q2 e2]
      | true =>
        rw [q1 e2]
        cases f0 : okC A 0 (part i) with
        | true => simp [xb]
        | false => cases f1 : okC A 1 (part i) <;> simp [xb]
theorem tru_told (h : Tru all A) (i : Nat) (hi : i < all.length) : (tell A i).1 = (if okT A i = true then pay all i else []) ∧ (tell A i).2.2 = (if okT A i = true then 0 else 11) := by
  rw [tru_tell h i hi]
  unfold okT
  cases okC A 0 i <;> cases okC A 1 i <;> cases okC A 2 (i / 2) <;> cases okC A 0 (part i) <;> cases okC A 1 (part i) <;> exact ⟨rfl, rfl⟩
theorem tru_read (h : Tru all A) (i : Nat) (hi : i < all.length) : (arRead A i).1 = (if okT A i = true then pay all i else []) ∧ (arRead A i).2.2 = (if okT A i = true then 0 else 11) := by
  rw [arRead_tell A i h.may (by rw [h.mny]; exact hi)]
  exact tru_told h i hi
/-- Arrays of which the same is told are read the same. -/
theorem tru_same (h : Tru all A) (g : Tru all B) (ho : ∀ i, i < all.length → okT A i = okT B i) (x n : Int) : stRead A x n = stRead B x n := by
  refine st_same A B (by rw [h.may, g.may]) (by rw [h.mny, g.mny]) x n fun h0 j h1 h2 => ?_
  obtain ⟨_, _, h3, h4⟩ := stChk_ok _ _ _ h0
  rw [h.mny] at h4
  have hj : j < all.length := by omega
  rw [(tru_read h j hj).1, (tru_read h j hj).2, (tru_read g j hj).1, (tru_read g j hj).2, ho j hj]
  exact ⟨rfl, rfl⟩
theorem same_opn (e : ∀ x n, stRead A x n = stRead B x n) : opn A = opn B := by unfold opn; rw [e]
theorem same_get (e : ∀ x n, stRead A x n = stRead B x n) (s : ByteArray) : getA A s = getA B s := by
  unfold getA
  rw [same_opn e]
  unfold getC getU
  simp only [e]

/-- What is right is written on a copy. -/
theorem tru_write (h : Tru all A) (k p : Nat) (hk : k < 3) (hp : p < dn all k) :
    Tru all (A.set k (dvWrite (dev A k) p ((ds k + p : Nat) : Int) (dp all k p)).1) ∧ okC (A.set k (dvWrite (dev A k) p ((ds k + p : Nat) : Int) (dp all k p)).1) k p = true ∧
      ∀ j q, j < 3 → q < dn all j → (j ≠ k ∨ q ≠ p) → okC (A.set k (dvWrite (dev A k) p ((ds k + p : Nat) : Int) (dp all k p)).1) j q = okC A j q := by
  have hh := (arMay_iff A).1 h.may
  have hl : ∀ j, j < 3 → (dev A j).1.length = dn all j := fun j hj => by
    have h0 : (dev A 0).1.length = all.length := h.mny
    have h1 : (dev A 1).1.length = all.length := by rw [hh.2.2.2.2.2.1, h.mny]
    have h2 : (dev A 2).1.length = all.length / 2 := by rw [hh.2.2.2.2.2.2, h.mny]
    match j, hj with
    | 0, _ => exact h0
    | 1, _ => exact h1
    | 2, _ => exact h2
  have hm : ∀ j, j < 3 → dvMay (dev A j) = true := fun j hj => hh.2.1 _ (dev_mem A j (by rw [hh.1]; exact hj))
  have ht : ∀ j q, j < 3 → q < dn all j → dvTouch (dev A j) q = 0 := fun j q hj hq => (touch_iff _ _).2 ⟨hm j hj, by rw [hl j hj]; exact hq⟩
  have h24 := dp_24 h.alls k p hp
  have hb := dn_ds h.alls k p hp
  have hz := sealed_size ((ds k + p : Nat) : Int) (dp all k p) (by omega)
  have tp := ht k p hk hp
  rw [write_ok tp _ _ (by omega) (by omega) (by omega)]
  dsimp only
  have hS := in_may A h.may k hk (dvPut (dev A k) p (str (sealed (body ((ds k + p : Nat) : Int) (dp all k p)))) false) ((touch_iff _ p).1 (touch_put tp hz)).1 (put_len _ _ _ _).1
  have rd : dvRead (dvPut (dev A k) p (str (sealed (body ((ds k + p : Nat) : Int) (dp all k p)))) false) p ((ds k + p : Nat) : Int) = (dp all k p, 0) := by
    rw [read_ok (touch_put tp hz) _ (los_put (len2 tp).2), sec_put (len2 tp).1, str_list]
    have := decd_encd ((ds k + p : Nat) : Int) (dp all k p) (by omega) (by omega) (by omega)
    rw [encd_ok _ _ (by omega) (by omega) (by omega)] at this
    rw [pad_full _ h24] at this
    exact this
  obtain ⟨D, hD⟩ : ∃ D, dvPut (dev A k) p (str (sealed (body ((ds k + p : Nat) : Int) (dp all k p)))) false = D := ⟨_, rfl⟩
  have ro : ∀ q, q < dn all k → q ≠ p → ∀ no, dvRead D q no = dvRead (dev A k) q no := fun q hq hne no => by
    rw [← hD]; exact read_put_other (ht k q hk hq) (fun e => hne e.symm) hz no
  rw [hD] at hS rd ⊢
  have dv : ∀ j, dev (A.set k D) j = if j = k then D else dev A j := fun j => dev_in A k j D (by rw [hh.1]; exact hk)
  have oth : ∀ j q, j < 3 → q < dn all j → (j ≠ k ∨ q ≠ p) → ∀ no, dvRead (dev (A.set k D) j) q no = dvRead (dev A j) q no := fun j q hj hq hne no => by
    rw [dv j]
    by_cases e : j = k
    · subst e
      rw [if_pos rfl]
      exact ro q hq (by rcases hne with h | h; exact absurd rfl h; exact h) no
    · rw [if_neg e]
  have self : dvRead (dev (A.set k D) k) p ((ds k + p : Nat) : Int) = (dp all k p, 0) := by rw [dv k, if_pos rfl]; exact rd
  refine ⟨⟨h.alls, hS.1, hS.2.trans h.mny, fun j hj q hq ho => ?_⟩, ?_, fun j q hj hq hne => ?_⟩
  · by_cases e : j ≠ k ∨ q ≠ p
    · rw [oth j q hj hq e]
      refine h.cop j hj q hq ?_
      unfold okC at ho ⊢
      rw [oth j q hj hq e] at ho
      exact ho
    · have e1 : j = k := Classical.byContradiction fun x => e (.inl x)
      have e2 : q = p := Classical.byContradiction fun x => e (.inr x)
      subst e1 e2
      exact self
  · unfold okC
    rw [self]
    rfl
  · unfold okC
    rw [oth j q hj hq hne]
theorem bool_1 (a0 a1 c x y : Bool) (ho : (x || y || (c && (a0 || a1))) = true) : (a0 || a1 || (c && (true || true))) = (a0 || a1 || (c && (x || y))) := by
  cases a0 <;> cases a1 <;> cases c <;> cases x <;> cases y <;> first | rfl | exact absurd ho (by decide)
theorem bool_2 (a0 a1 c x y u v : Bool) (ho : (x || y || (c && (a0 || a1))) = true) (hq : (a0 || a1 || (c && (u || v))) = true) : (a0 || a1 || (true && (true || true))) = (a0 || a1 || (c && (x || y))) := by
  cases a0 <;> cases a1 <;> cases c <;> cases x <;> cases y <;> cases u <;> cases v <;> first | rfl | exact absurd ho (by decide) | exact absurd hq (by decide)
/-- A sector that is told is made whole: the same is told of all. -/
theorem heal_tru (h : Tru all A) (n : Nat) (hn : n < all.length) (ho : okT A n = true) : Tru all (heal2 A n) ∧ ∀ i, i < all.length → okT (heal2 A n) i = okT A i := by
  have hev := h.alls.even
  have hn2 : n / 2 < all.length / 2 := by omega
  have hpn := part_lt n _ hn hev
  obtain ⟨t1, t2⟩ := tru_told h n hn
  rw [if_pos ho] at t1 t2
  -- the first mirror
  have H0 : Tru all (heal0 A n) ∧ okC (heal0 A n) 0 n = true ∧ dev (heal0 A n) 1 = dev A 1 ∧ ∀ j q, j < 3 → q < dn all j → (j ≠ 0 ∨ q ≠ n) → okC (heal0 A n) j q = okC A j q := by
    unfold heal0
    have s0 : sick0 A n = !okC A 0 n := by
      unfold sick0
      rw [tru_tell h n hn]
      cases okC A 0 n with
      | true => rfl
      | false =>
        rw [if_neg (by decide)]
        cases okC A 1 n <;> simp
        split <;> simp
    rw [s0]
    cases e0 : okC A 0 n with
    | true =>
      rw [if_neg (by decide)]
      exact ⟨h, e0, rfl, fun _ _ _ _ _ => rfl⟩
    | false =>
      rw [if_pos (by decide), t1]
      have w := tru_write h 0 n (by omega) hn
      have ee : ((ds 0 + n : Nat) : Int) = (n : Int) := by show ((0 + n : Nat) : Int) = _; omega
      rw [ee] at w
      exact ⟨w.1, w.2.1, dev_set_far A 0 1 _ (by decide), w.2.2⟩
  obtain ⟨h0, o0, d1, k0⟩ := H0
  have H1 : Tru all (heal1 A n) ∧ okC (heal1 A n) 0 n = true ∧ okC (heal1 A n) 1 n = true ∧ ∀ j q, j < 3 → q < dn all j → (j = 2 ∨ q ≠ n) → okC (heal1 A n) j q = okC A j q := by
    unfold heal1
    have s1 : sick1 A n = !okC A 1 n := by
      obtain ⟨b1, b2⟩ := tru_01 h 1 n (by omega) hn
      unfold sick1
      rw [t1]
      cases e1 : okC A 1 n with
      | true => rw [b1 e1]; simp
      | false =>
        have := b2 e1
        simp [this]
    rw [s1]
    cases e1 : okC A 1 n with
    | true =>
      rw [if_neg (by decide)]
      refine ⟨h0, o0, ?_, fun j q hj hq hne => k0 j q hj hq (by omega)⟩
      rw [k0 1 n (by omega) hn (by omega)]; exact e1
    | false =>
      rw [if_pos (by decide), t1, ← d1]
      have w := tru_write h0 1 n (by omega) hn
      have ee : ((ds 1 + n : Nat) : Int) = (n : Int) := by show ((0 + n : Nat) : Int) = _; omega
      rw [ee] at w
      refine ⟨w.1, ?_, w.2.1, fun j q hj hq hne => ?_⟩
      · exact (w.2.2 0 n (by omega) hn (by omega)).trans o0
      · exact (w.2.2 j q hj hq (by omega)).trans (k0 j q hj hq (by omega))
  obtain ⟨h1, o1, o2, k1⟩ := H1
  -- the parity
  have H2 : Tru all (heal2 A n) ∧ okC (heal2 A n) 0 n = true ∧ okC (heal2 A n) 1 n = true ∧ (∀ j q, j < 2 → q < all.length → q ≠ n → okC (heal2 A n) j q = okC A j q) ∧ (∀ q, q < all.length / 2 → q ≠ n / 2 → okC (heal2 A n) 2 q = okC A 2 q) ∧ (okC (heal2 A n) 2 (n / 2) = okC A 2 (n / 2) ∨ (okC (heal2 A n) 2 (n / 2) = true ∧ okT (heal1 A n) (part n) = true)) := by
    unfold heal2
    have dj : ∀ j q, j < 2 → q < all.length → q < dn all j := fun j q hj hq => by
      unfold dn
      rw [if_neg (by omega)]; exact hq
    cases e2 : sick2 A n with
    | false =>
      rw [if_neg (by decide)]
      exact ⟨h1, o1, o2, fun j q hj hq hne => k1 j q (by omega) (dj j q hj hq) (.inr hne), fun q hq hne => k1 2 q (by omega) hq (.inl rfl), .inl (k1 2 (n / 2) (by omega) hn2 (.inl rfl))⟩
    | true =>
      rw [if_pos rfl]
      have hk : known (heal1 A n) n = true := by
        unfold sick2 at e2
        rw [Bool.and_eq_true] at e2
        exact e2.1
      have hk2 : (tell (heal1 A n) (part n)).2.2 = 0 := (of_decide_eq_true hk).2
      obtain ⟨u1, u2⟩ := tru_told h1 (part n) hpn
      have hp1 : okT (heal1 A n) (part n) = true := by
        cases q : okT (heal1 A n) (part n) with
        | true => rfl
        | false => rw [u2, q] at hk2; cases hk2
      rw [if_pos hp1] at u1
      rw [t1, u1, ← par_two]
      have w := tru_write h1 2 (n / 2) (by omega) hn2
      have ee : ((ds 2 + n / 2 : Nat) : Int) = ((512 + n / 2 : Nat) : Int) := rfl
      rw [ee] at w
      refine ⟨w.1, ?_, ?_, fun j q hj hq hne => ?_, fun q hq hne => ?_, .inr ⟨w.2.1, hp1⟩⟩
      · exact (w.2.2 0 n (by omega) hn (by omega)).trans o1
      · exact (w.2.2 1 n (by omega) hn (by omega)).trans o2
      · exact (w.2.2 j q (by omega) (dj j q hj hq) (by omega)).trans (k1 j q (by omega) (dj j q hj hq) (.inr hne))
      · exact (w.2.2 2 q (by omega) hq (by omega)).trans (k1 2 q (by omega) hq (.inl rfl))
  obtain ⟨h2, p1, p2, k2, k3, k4⟩ := H2
  refine ⟨h2, fun i hi => ?_⟩
  by_cases ei : i = n
  · subst ei
    rw [ho]
    unfold okT
    rw [p1]; rfl
  · by_cases ep : i = part n
    · have e3 : part i = n := by rw [ep, part_part]
      have e4 : i / 2 = n / 2 := by rw [ep, part_half]
      have r0 := k2 0 i (by omega) hi ei
      have r1 := k2 1 i (by omega) hi ei
      unfold okT at ho ⊢
      rw [r0, r1, e3, e4, p1, p2]
      have e5 : part n = i := ep.symm
      rw [e5] at ho
      rcases k4 with q | ⟨q, hq⟩
      · rw [q]
        exact bool_1 _ _ _ _ _ ho
      · rw [q]
        unfold okT at hq
        rw [e5, e3, e4, k1 0 i (by omega) hi (.inr ei), k1 1 i (by omega) hi (.inr ei), k1 2 (n / 2) (by omega) hn2 (.inl rfl)] at hq
        exact bool_2 _ _ _ _ _ _ _ ho hq
    · have hpi := part_lt i _ hi hev
      have n1 : part i ≠ n := fun e => ep (by rw [← e, part_part])
      have n2 : i / 2 ≠ n / 2 := by
        intro e
        unfold part at n1 ep
        split at n1 <;> split at ep <;> omega
      unfold okT
      rw [k2 0 i (by omega) hi ei, k2 1 i (by omega) hi ei, k2 0 (part i) (by omega) hpi n1, k2 1 (part i) (by omega) hpi n1, k3 (i / 2) (by omega) n2]
/-- A scrub changes nothing that is told, however far it goes. -/
theorem scrub_tru (h : Tru all A) (nx : Nat) (rd : Int) (hx : nx < all.length) : ∀ k, Tru all (scN all.length (scBegin A nx rd) k).A ∧ ∀ i, i < all.length → okT (scN all.length (scBegin A nx rd) k).A i = okT A i
  | 0 => ⟨h, fun _ _ => rfl⟩
  | k + 1 => by
    obtain ⟨h1, h2⟩ := scrub_tru h nx rd hx k
    have hlt : (scN all.length (scBegin A nx rd) k).nx < all.length := by rw [scN_nx _ A nx rd hx k]; exact Nat.mod_lt _ (by omega)
    have e : (scN all.length (scBegin A nx rd) (k + 1)).A = if (arHeal (scN all.length (scBegin A nx rd) k).A (scN all.length (scBegin A nx rd) k).nx).2.2 = 0 then (arHeal (scN all.length (scBegin A nx rd) k).A (scN all.length (scBegin A nx rd) k).nx).1 else (scN all.length (scBegin A nx rd) k).A := rfl
    rw [e]
    clear e
    generalize scN all.length (scBegin A nx rd) k = s at h1 h2 hlt
    by_cases e : (arHeal s.A s.nx).2.2 = 0
    · rw [if_pos e]
      have hr : (arRead s.A s.nx).2.2 = 0 := by
        unfold arHeal at e
        split at e
        · assumption
        · exact e
      have ho : okT s.A s.nx = true := by
        have := (tru_read h1 s.nx hlt).2
        rw [hr] at this
        cases q : okT s.A s.nx with
        | true => rfl
        | false => rw [q] at this; cases this
      have := heal_tru h1 s.nx hlt ho
      rw [arHeal, if_pos hr, show (s.nx : Int).toNat = s.nx by omega]
      exact ⟨this.1, fun i hi => (this.2 i hi).trans (h2 i hi)⟩
    · rw [if_neg e]
      exact ⟨h1, h2⟩
end
end Go.Proofs.YtahoagbaadnihabGreatDoor

/- Arrays whose devices are hurt, one or two of them, purely; one that was scrubbed whole; one into which is written while a device is hurt. -/
namespace Go.Proofs.YtahoagbaadnihabGreatDoor
open Go.RowKit

section
variable {all : List (List UInt8)} {A : Ar} {T : Nat → List Int}
/-- Each device is worn. -/
structure WornA (all : List (List UInt8)) (T : Nat → List Int) (A : Ar) : Prop where
  alls : Alls all
  may : arMay A = true
  mny : many A = all.length
  dv : ∀ k, k < 3 → Worn (dn all k) (ds k) (dp all k) (T k) (dev A k)
theorem ds_le (k : Nat) : ds k ≤ 1000 := by unfold ds; split <;> omega
theorem WornA.tru (h : WornA all T A) : Tru all A := by
  refine ⟨h.alls, h.may, h.mny, fun k hk i hi ho => ?_⟩
  have hb := dn_bd h.alls k
  rcases (h.dv k hk).read hb.1 hb.2 (ds_le k) (dp_le h.alls k) i hi with e | e
  · exact absurd (of_decide_eq_true ho) e
  · rw [e, pad_full _ (dp_24 h.alls k i hi)]
theorem worn_good (h : Alls all) : WornA all (fun _ => []) (goodA all) := by
  refine ⟨h, good_may h, good_many, fun k hk => ?_⟩
  rw [good_dev k hk]
  exact worn_mk (dn_bd h k).1 (dn_bd h k).2 (dp_le h k)
theorem worn_with (h : Alls all) (k : Nat) (hk : k < 3) (S : List Int) (D : Dv) (hD : Worn (dn all k) (ds k) (dp all k) S D) : WornA all (fun j => if j = k then S else []) (With all k D) := by
  refine ⟨h, with_may h k hk D hD.may hD.len, with_many k hk D hD.len, fun j hj => ?_⟩
  rw [with_dev k j D hk]
  by_cases e : j = k
  · subst e
    rw [if_pos rfl, if_pos rfl]; exact hD
  · rw [if_neg e, if_neg e]
    exact (worn_good h).dv j hj
/-- All is told of an array of which one device is hurt. -/
theorem with_told (h : Alls all) (k : Nat) (hk : k < 3) (S : List Int) (D : Dv) (hD : Worn (dn all k) (ds k) (dp all k) S D) (i : Nat) (hi : i < all.length) : okT (With all k D) i = true := by
  have ht := (worn_with h k hk S D hD).tru
  have hr := (tru_read ht i hi).2
  have : (arRead (With all k D) i).2.2 = 0 := by rcases worn_read h k hk S D hD i hi with e | ⟨_, e⟩ <;> rw [e]
  rw [this] at hr
  cases q : okT (With all k D) i with
  | true => rfl
  | false => rw [q] at hr; cases hr
theorem good_told (h : Alls all) (i : Nat) (hi : i < all.length) : okT (goodA all) i = true := by
  have ht := (worn_good h).tru
  have hr := (tru_read ht i hi).2
  rw [good_read h i hi] at hr
  cases q : okT (goodA all) i with
  | true => rfl
  | false => rw [q] at hr; cases hr
/-- One device of it is another one. -/
theorem WornA.set (h : WornA all T A) (k : Nat) (hk : k < 3) (S : List Int) (D : Dv) (hD : Worn (dn all k) (ds k) (dp all k) S D) : WornA all (fun j => if j = k then S else T j) (A.set k D) := by
  have hh := (arMay_iff A).1 h.may
  have hm := in_may A h.may k hk D hD.may (hD.len.trans (h.dv k hk).len.symm)
  refine ⟨h.alls, hm.1, hm.2.trans h.mny, fun j hj => ?_⟩
  rw [dev_in A k j D (by rw [hh.1]; exact hk)]
  by_cases e : j = k
  · subst e
    rw [if_pos rfl, if_pos rfl]; exact hD
  · rw [if_neg e, if_neg e]
    exact h.dv j hj
end
end Go.Proofs.YtahoagbaadnihabGreatDoor

/- Writes into an array of which one device is hurt, purely: files that are added to such an archive are held, too. -/
namespace Go.Proofs.YtahoagbaadnihabGreatDoor
open Go.RowKit

/-- A worn device into which is written. -/
theorem Worn.write2 {n start : Nat} {pay pay' : Nat → List UInt8} {T : List Int} {D : Dv} (h : Worn n start pay T D) (h3 : start ≤ 1000) (h2 : n ≤ 64) (k : Nat) (hk : k < n) (s : List UInt8) (hs : s.length ≤ 24) (hk1 : (pay' k).length ≤ 24) (hk2 : pad (pay' k) = pad s) (ho : ∀ i, i < n → i ≠ k → pay' i = pay i) : Worn n start pay' T (dvWrite D k ((start + k : Nat) : Int) s).1 := by
  have ht := h.touch k hk
  have hz := sealed_size ((start + k : Nat) : Int) s hs
  rw [write_ok ht _ s (by omega) (by omega) hs]
  refine ⟨((touch_iff _ k).1 (touch_put ht hz)).1, by simp [dvPut, h.len], fun i hi => ?_⟩
  by_cases e : k = i
  · subst e
    right; left
    show sec (dvPut D k _ false) k = _
    rw [sec_put (len2 ht).1, mk_sec hk, ← body_pad _ s hs, ← hk2, body_pad _ _ hk1]
  · show los (dvPut D k _ false) i = true ∨ sec (dvPut D k _ false) i = _ ∨ _
    rw [los_put_other e, sec_put_other e]
    have q : sec (whole n start pay') i = sec (whole n start pay) i := by rw [mk_sec hi, mk_sec hi, ho i hi (fun x => e x.symm)]
    rw [q]
    exact h.each i hi
section
variable {all : List (List UInt8)}
/-- What a device gets of a sector that is written. -/
def wrD (j n : Nat) (s q : List UInt8) (D : Dv) : Dv := (dvWrite D (pl j n) ((ds j + pl j n : Nat) : Int) (if j = 2 then xors (pad s) q else s)).1
theorem put_three (A : Ar) (n : Nat) (s q : List UInt8) (g : Int) (h3 : A.length = 3) (hp : tell A (part n) = (q, g, 0)) (hg : g ≠ 3) : put A n s = [wrD 0 n s q (dev A 0), wrD 1 n s q (dev A 1), wrD 2 n s q (dev A 2)] := by
  match A, h3 with
  | [d0, d1, d2], _ =>
    unfold put
    rw [hp]
    dsimp only
    rw [if_pos rfl, if_neg (fun x => hg x.2)]
    have e0 : ((ds 0 + pl 0 n : Nat) : Int) = (n : Int) := by show ((0 + n : Nat) : Int) = _; omega
    have e1 : ((ds 1 + pl 1 n : Nat) : Int) = (n : Int) := by show ((0 + n : Nat) : Int) = _; omega
    unfold wrD
    rw [e0, e1]
    rfl
theorem put_get (A : Ar) (n : Nat) (s q : List UInt8) (g : Int) (h3 : A.length = 3) (hp : tell A (part n) = (q, g, 0)) (hg : g ≠ 3) (j : Nat) (hj : j < 3) : dev (put A n s) j = wrD j n s q (dev A j) := by
  rw [put_three A n s q g h3 hp hg]
  match j, hj with
  | 0, _ => rfl
  | 1, _ => rfl
  | 2, _ => rfl
theorem put_3 (A : Ar) (n : Nat) (s q : List UInt8) (g : Int) (h3 : A.length = 3) (hp : tell A (part n) = (q, g, 0)) (hg : g ≠ 3) : (put A n s).length = 3 := by
  rw [put_three A n s q g h3 hp hg]; rfl
theorem ar_ext {A B : Ar} (hA : A.length = 3) (hB : B.length = 3) (h : ∀ j, j < 3 → dev A j = dev B j) : A = B := by
  refine List.ext_getElem (by omega) fun i a b => ?_
  have := h i (by omega)
  rw [dev_lt _ _ a, dev_lt _ _ b] at this
  exact this
/-- A write into an array of which one device is hurt. -/
theorem with_put (h : Alls all) (k : Nat) (hk : k < 3) (S : List Int) (D : Dv) (hD : Worn (dn all k) (ds k) (dp all k) S D) (n : Nat) (hn : n < all.length) (s : List UInt8) (hs : s.length ≤ 24) :
    ∃ D', put (With all k D) n s = With (all.set n (pad s)) k D' ∧ Worn (dn (all.set n (pad s)) k) (ds k) (dp (all.set n (pad s)) k) S D' := by
  have hev := h.even
  have hp := part_lt n _ hn hev
  have hb := dn_bd h k
  have hl : (all.set n (pad s)).length = all.length := List.length_set
  obtain ⟨g, hg, e1⟩ : ∃ g : Int, g ≠ 3 ∧ tell (With all k D) (part n) = (pay all (part n), g, 0) := by
    rcases worn_tell h k hk S D hD (part n) hp with e | ⟨_, e⟩
    · exact ⟨1, by decide, e⟩
    · exact ⟨2, by decide, e⟩
  have e0 := good_tell h (part n) hp
  have g3 : (goodA all).length = 3 := rfl
  have gp := good_put h n hn s hs
  refine ⟨wrD k n s (pay all (part n)) D, ar_ext (put_3 _ n s _ g (with_len k D) e1 hg) (with_len k _) fun j hj => ?_, ?_⟩
  · rw [put_get _ n s _ g (with_len k D) e1 hg j hj, with_dev k j _ hk, with_dev k j _ hk]
    by_cases e : j = k
    · subst e
      rw [if_pos rfl, if_pos rfl]
    · rw [if_neg e, if_neg e, ← gp, put_get _ n s _ 1 g3 e0 (by decide) j hj]
  · unfold wrD
    have hx : (xors (pad s) (pay all (part n))).length = 24 := by rw [xors_length, pad_length s hs, h.full _ hp]; rfl
    have hdn : dn (all.set n (pad s)) k = dn all k := by unfold dn; rw [hl]
    rw [hdn]
    by_cases e : k = 2
    · subst e
      have ep : pl 2 n = n / 2 := rfl
      have dpn : dp (all.set n (pad s)) 2 (n / 2) = xors (pad s) (pay all (part n)) := by
        rw [par_two, pay_set n _ hn, pay_set n _ hn, if_pos rfl, if_neg (part_ne n)]
      rw [if_pos rfl, ep]
      refine Worn.write2 hD (ds_le 2) hb.2 (n / 2) (by show n / 2 < all.length / 2; omega) _ (by omega) ?_ ?_ fun i hi hne => ?_
      · rw [dpn]; omega
      · rw [dpn]
      · unfold dp
        rw [if_pos rfl, if_pos rfl]
        show xors (pay (all.set n (pad s)) (2 * i)) (pay (all.set n (pad s)) (2 * i + 1)) = xors (pay all (2 * i)) (pay all (2 * i + 1))
        rw [pay_set n _ hn, pay_set n _ hn, if_neg (by omega), if_neg (by omega)]
    · have ep : pl k n = n := by unfold pl; rw [if_neg e]
      have ed : ∀ l, dp l k = pay l := fun l => by unfold dp; rw [if_neg e]
      rw [if_neg e, ep]
      rw [ed] at hD ⊢
      refine Worn.write2 hD (ds_le k) hb.2 n (by unfold dn; rw [if_neg e]; exact hn) s hs ?_ ?_ fun i hi hne => ?_
      · rw [pay_set n _ hn, if_pos rfl, pad_length s hs]; exact Nat.le_refl _
      · rw [pay_set n _ hn, if_pos rfl, pad_pad s hs]
      · rw [pay_set n _ hn, if_neg hne]
theorem with_write (h : Alls all) (k : Nat) (hk : k < 3) (S : List Int) (D : Dv) (hD : Worn (dn all k) (ds k) (dp all k) S D) (n : Nat) (hn : n < all.length) (s : List UInt8) (hs : s.length ≤ 24) :
    ∃ D', arWrite (With all k D) n s = (With (all.set n (pad s)) k D', 0) ∧ Worn (dn (all.set n (pad s)) k) (ds k) (dp (all.set n (pad s)) k) S D' := by
  obtain ⟨D', e1, e2⟩ := with_put h k hk S D hD n hn s hs
  refine ⟨D', ?_, e2⟩
  rw [arWrite, if_pos (worn_touch h k n hk hn S D hD), if_neg (by omega), show (n : Int).toNat = n by omega, e1]
theorem with_stN (h : Alls all) (k : Nat) (hk : k < 3) (S : List Int) (D : Dv) (hD : Worn (dn all k) (ds k) (dp all k) S D) (x : Nat) (s : List UInt8) : ∀ i, x + i ≤ all.length →
    ∃ D', stN (With all k D) x s i = With (over all x s i) k D' ∧ Worn (dn (over all x s i) k) (ds k) (dp (over all x s i) k) S D'
  | 0, _ => ⟨D, rfl, hD⟩
  | i + 1, hi => by
    obtain ⟨D1, e1, w1⟩ := with_stN h k hk S D hD x s i (by omega)
    obtain ⟨D', e2, w2⟩ := with_write (over_alls h x s i (by omega)) k hk S D1 w1 (x + i) (by rw [over_len]; omega) (chunk s i) (chunk_len s i)
    exact ⟨D', by rw [stN, e1, e2]; rfl, w2⟩
theorem with_stWrite (h : Alls all) (k : Nat) (hk : k < 3) (S : List Int) (D : Dv) (hD : Worn (dn all k) (ds k) (dp all k) S D) (x : Nat) (s : List UInt8) (hs : s.length ≤ 1536) (hx : x + secs s.length ≤ all.length) :
    ∃ D', stWrite (With all k D) x s = (With (over all x s (secs s.length)) k D', 0) ∧ Worn (dn (over all x s (secs s.length)) k) (ds k) (dp (over all x s (secs s.length)) k) S D' := by
  obtain ⟨D', e1, w1⟩ := with_stN h k hk S D hD x s (secs s.length) hx
  refine ⟨D', ?_, w1⟩
  rw [stWrite, if_pos (chk_st _ (with_may h k hk D hD.may hD.len) x s.length hs (by rw [with_many k hk D hD.len]; exact hx)), Int.toNat_natCast, e1]
/-- Of an array of which one device is hurt all is read as of a whole one. -/
theorem with_same (h : Alls all) (k : Nat) (hk : k < 3) (S : List Int) (D : Dv) (hD : Worn (dn all k) (ds k) (dp all k) S D) (x n : Int) : stRead (With all k D) x n = stRead (goodA all) x n :=
  tru_same (worn_with h k hk S D hD).tru (worn_good h).tru (fun i hi => by rw [with_told h k hk S D hD i hi, good_told h i hi]) x n
theorem with_full (k : Nat) (hk : k < 3) (D : Dv) (hl : D.1.length = dn all k) (C : Ct) (F : List Fi) : fullA (With all k D) C F = fullA (goodA all) C F := by
  unfold fullA
  rw [with_many k hk D hl, good_many]
end
end Go.Proofs.YtahoagbaadnihabGreatDoor

/- Scripts of files that are added, of what happens to devices, of files that are got, purely. -/
namespace Go.Proofs.YtahoagbaadnihabGreatDoor
open Go.RowKit

theorem good_inj {a b : List (List UInt8)} (ha : Alls a) (hb : Alls b) (h : goodA a = goodA b) : a = b := by
  have hl : a.length = b.length := by rw [← good_many (all := a), h, good_many]
  refine List.ext_getElem hl fun i x y => ?_
  have e1 := good_read ha i x
  have e2 := good_read hb i y
  rw [h, e2] at e1
  have := congrArg Prod.fst e1
  rw [pay_lt i x, pay_lt i y] at this
  exact this.symm
section
variable {all : List (List UInt8)} {C : Ct} {D : List (List UInt8)} {G : List Fi}
/-- Files are added to an archive of which one device is hurt. -/
theorem Holds.addW (h : Holds all C D G) (k : Nat) (hk : k < 3) (S : List Int) (E : Dv) (hE : Worn (dn all k) (ds k) (dp all k) S E) (F : List Fi) (hf : filChk F = 0) (ht : takN C F F.length = false) (hu : fullA (goodA all) C F = false) :
    ∃ all' E', addA (With all k E) F = (With all' k E', 0) ∧ all'.length = all.length ∧ Holds all' (catA C F) (D ++ [datN F F.length]) (G ++ F) ∧ Worn (dn all' k) (ds k) (dp all' k) S E' := by
  obtain ⟨all', e, hl, H'⟩ := h.add F hf ht hu
  have hA := h.alls
  have hmn : many (goodA all) = all.length := good_many
  have hkk := catA_chk (goodA all) C F (by rw [hmn]; exact hA.hi) h.chk hf ht hu
  obtain ⟨_, _, f3, _⟩ := chk_files F hf
  have hp := pk_len F f3
  have hil := imgC_len _ hkk
  have hu' := hu
  simp only [fullA, decide_eq_false_iff_not, not_or, Nat.not_lt, Nat.not_le] at hu'
  obtain ⟨_, _, u3⟩ := hu'
  rw [hmn] at u3
  have hA1 := over_alls hA (atC C) (pk F) _ u3
  have l1 := over_len all (atC C) (pk F) (secs (pk F).length)
  have h8 : 0 + secs (imgC (catA C F)).length ≤ all.length := by rw [hil]; have := hA.lo; unfold secs; omega
  obtain ⟨s1, _⟩ := stream_back hA (atC C) (pk F) (by omega) u3
  obtain ⟨E1, w1, q1⟩ := with_stWrite hA k hk S E hE (atC C) (pk F) (by omega) u3
  obtain ⟨s2, _⟩ := stream_back hA1 0 (imgC (catA C F)) (by omega) (by rw [l1]; exact h8)
  obtain ⟨E2, w2, q2⟩ := with_stWrite hA1 k hk S E1 q1 0 (imgC (catA C F)) (by omega) (by rw [l1]; exact h8)
  have hA2 := over_alls hA1 0 (imgC (catA C F)) _ (by rw [l1]; exact h8)
  rw [show ((0 : Nat) : Int) = 0 from rfl] at s2 w2
  have eo : Go.Proofs.YtahoagbaadnihabGreatDoor.opn (With all k E) = (C, 0) := (same_opn fun x n => with_same hA k hk S E hE x n).trans h.opn
  have e' : addA (goodA all) F = (outA (goodA all) C F, 0) := by rw [addA, h.opn, if_pos rfl, addC, if_pos hf, if_neg (by rw [ht]; decide), if_neg (by rw [hu]; decide)]
  have e2 : addA (With all k E) F = (outA (With all k E) C F, 0) := by rw [addA, eo, if_pos rfl, addC, if_pos hf, if_neg (by rw [ht]; decide), if_neg (by rw [with_full k hk E hE.len, hu]; decide)]
  unfold outA at e' e2
  rw [s1] at e'
  rw [w1] at e2
  dsimp only at e' e2
  rw [s2] at e'
  rw [w2] at e2
  have ee : all' = over (over all (atC C) (pk F) (secs (pk F).length)) 0 (imgC (catA C F)) (secs (imgC (catA C F)).length) := good_inj H'.alls hA2 (by rw [e] at e'; exact congrArg Prod.fst e')
  rw [← ee] at e2 q2
  exact ⟨all', E2, e2, hl, H', q2⟩
theorem Holds.fullW (h : Holds all C D G) (k : Nat) (hk : k < 3) (S : List Int) (E : Dv) (hE : Worn (dn all k) (ds k) (dp all k) S E) (F : List Fi) (hf : filChk F = 0) (ht : takN C F F.length = false) (hu : fullA (goodA all) C F = true) : addA (With all k E) F = ([], 8) := by
  have eo : Go.Proofs.YtahoagbaadnihabGreatDoor.opn (With all k E) = (C, 0) := (same_opn fun x n => with_same h.alls k hk S E hE x n).trans h.opn
  rw [addA, eo, if_pos rfl, addC, if_pos hf, if_neg (by rw [ht]; decide), with_full k hk E hE.len, if_pos hu]
end

/-- An archive under a script of which one device is hurt: its payloads, its device, the numbers from which names are free. -/
structure Arc (all : List (List UInt8)) (C : Ct) (D : List (List UInt8)) (G : List Fi) (k : Nat) (S : List Int) (E : Dv) (m : Nat) : Prop where
  holds : Holds all C D G
  worn : Worn (dn all k) (ds k) (dp all k) S E
  free : ∀ f ∈ G, ∃ j, j < m ∧ f.s = fName j
section
variable {all : List (List UInt8)} {C : Ct} {D : List (List UInt8)} {G : List Fi} {k : Nat} {S : List Int} {E : Dv} {m : Nat}
theorem Arc.tak (h : Arc all C D G k S E m) (F : List Fi) (hF : Named F m) (h10 : m + F.length ≤ 10) : ∀ j, j ≤ F.length → takN C F j = false
  | 0, _ => rfl
  | j + 1, hj => by
    rw [takN, h.tak F hF h10 j (by omega), Bool.false_or]
    cases q : hasE C.2 (fi F j).s with
    | false => rfl
    | true =>
      obtain ⟨f, hf, e⟩ := (h.holds.has _).1 q
      obtain ⟨i, hi, e2⟩ := h.free f hf
      rw [e2, (hF j (by omega)).1] at e
      have := fname_inj (by omega) (by omega) e
      omega
/-- One act more that adds files. -/
theorem Arc.add (h : Arc all C D G k S E m) (hk : k < 3) (F : List Fi) (hF : Named F m) (h1 : 1 ≤ F.length) (h3 : F.length ≤ 3) (h10 : m + F.length ≤ 10) :
    (addA (With all k E) F = ([], 8) ∧ Arc all C D G k S E (m + F.length)) ∨ ∃ all' C' D' E', addA (With all k E) F = (With all' k E', 0) ∧ all'.length = all.length ∧ Arc all' C' D' (G ++ F) k S E' (m + F.length) := by
  have hf := named_chk F m hF h1 h3 h10
  have ht := h.tak F hF h10 F.length (Nat.le_refl _)
  have hfree : ∀ f ∈ G, ∃ j, j < m + F.length ∧ f.s = fName j := fun f hf => by obtain ⟨j, hj, e⟩ := h.free f hf; exact ⟨j, by omega, e⟩
  cases hu : fullA (goodA all) C F with
  | true => exact .inl ⟨h.holds.fullW k hk S E h.worn F hf ht hu, h.holds, h.worn, hfree⟩
  | false =>
    obtain ⟨all', E', e, hl, H', w'⟩ := h.holds.addW k hk S E h.worn F hf ht hu
    refine .inr ⟨all', _, _, E', e, hl, H', w', fun f hfm => ?_⟩
    rcases List.mem_append.1 hfm with q | q
    · exact hfree f q
    · obtain ⟨j, hj, rfl⟩ := List.getElem_of_mem q
      rw [← fi_lt F j hj]
      exact ⟨m + j, by omega, (hF j hj).1⟩
/-- What is got. -/
theorem Arc.get (h : Arc all C D G k S E m) (hk : k < 3) (f : Fi) (hf : f ∈ G) : getA (With all k E) f.s = (f.d.data.toList, 0) := (same_get (fun x n => with_same h.holds.alls k hk S E h.worn x n) _).trans (h.holds.get f hf)
theorem Arc.none (h : Arc all C D G k S E m) (hk : k < 3) (s : ByteArray) (hs : ∀ f ∈ G, f.s ≠ s) : getA (With all k E) s = ([], 6) := (same_get (fun x n => with_same h.holds.alls k hk S E h.worn x n) _).trans (h.holds.none s hs)
theorem Arc.list (h : Arc all C D G k S E m) (hk : k < 3) : opn (With all k E) = (C, 0) := (same_opn fun x n => with_same h.holds.alls k hk S E h.worn x n).trans h.holds.opn
end
end Go.Proofs.YtahoagbaadnihabGreatDoor

/- Acts that hurt devices, that add files, that get them, purely: what a script makes of them. -/
namespace Go.Proofs.YtahoagbaadnihabGreatDoor
open Go.RowKit

def addAc (F : List Fi) : Ac := ⟨1, F, ⟨#[]⟩, 0, 0, 0, 0⟩
def getAc (f : Fi) : Ac := ⟨2, [], f.s, 0, 0, 0, 0⟩
def listAc : Ac := ⟨3, [], ⟨#[]⟩, 0, 0, 0, 0⟩
def scrubAc (n : Int) : Ac := ⟨7, [], ⟨#[]⟩, 0, n, 0, 0⟩
def healthAc : Ac := ⟨8, [], ⟨#[]⟩, 0, 0, 0, 0⟩
def hurtAc (x : Hact) : Ac := ⟨x.kind, [], ⟨#[]⟩, x.d, x.n, x.at_, x.by_⟩

theorem act_hurt (A : Ar) (nx rd : Int) (x : Hact) (hk : x.kind = 4 ∨ x.kind = 5) (hd : 0 ≤ x.d ∧ x.d ≤ 2) (D' : Dv) (e : hurtX A (hurtAc x) = (D', 0)) : actS ⟨A, nx, rd⟩ (hurtAc x) = (⟨A.set x.d.toNat D', nx, rd⟩, anE 0) := by
  have q : (hurtAc x).kind = x.kind := rfl
  unfold actS
  rw [q, if_neg (by omega), if_neg (by omega), if_neg (by omega), if_pos hk]
  show (if 0 ≤ x.d ∧ x.d ≤ 2 then (if (hurtX A (hurtAc x)).2 = 0 then ((⟨A.set x.d.toNat (hurtX A (hurtAc x)).1, nx, rd⟩ : Ha), anE 0) else _) else _) = _
  rw [if_pos hd, e, if_pos rfl]
theorem hurtx_4 (A : Ar) (d n a b : Int) : hurtX A (hurtAc ⟨4, d, n, a, b⟩) = dvLose (dev A d.toNat) n := by
  show (if (4 : Int) = 5 then _ else dvLose (dev A d.toNat) n) = _
  rw [if_neg (by decide)]
theorem hurtx_5 (A : Ar) (d n a b : Int) : hurtX A (hurtAc ⟨5, d, n, a, b⟩) = dvTurn (dev A d.toNat) n a b := by
  show (if (5 : Int) = 5 then dvTurn (dev A d.toNat) n a b else _) = _
  rw [if_pos rfl]

/-- An act that hurts a device of so many sectors; those of S were turned already. -/
def hOne (k n : Nat) (S : List Int) (x : Hact) : Prop := x.d = k ∧ ((x.kind = 4 ∧ 0 ≤ x.n ∧ x.n < n) ∨ (x.kind = 5 ∧ (0 ≤ x.n ∧ x.n < n) ∧ x.n ∉ S ∧ (0 ≤ x.at_ ∧ x.at_ < 30) ∧ 0 ≤ x.by_ ∧ x.by_ ≤ 255) ∨ x.kind = 6)
def hNext (S : List Int) (x : Hact) : List Int := if x.kind = 5 then x.n :: S else S
def HOk (k n : Nat) : List Int → List Hact → Prop
  | _, [] => True
  | S, x :: l => hOne k n S x ∧ HOk k n (hNext S x) l
def hAfter : List Int → List Hact → List Int
  | S, [] => S
  | S, x :: l => hAfter (hNext S x) l
theorem hok_app (k n : Nat) : ∀ (S : List Int) (l m : List Hact), HOk k n S (l ++ m) ↔ HOk k n S l ∧ HOk k n (hAfter S l) m
  | S, [], m => by simp [HOk, hAfter]
  | S, x :: l, m => by
    show hOne k n S x ∧ HOk k n (hNext S x) (l ++ m) ↔ (hOne k n S x ∧ HOk k n (hNext S x) l) ∧ HOk k n (hAfter (hNext S x) l) m
    rw [hok_app k n (hNext S x) l m, and_assoc]
theorem hok_hurts (k n : Nat) (hn : 0 < n) : ∀ (l : List Raw4) (S : List Int), HOk k n S (hurtsGo k n l S)
  | [], S => trivial
  | r :: l, S => by
    have hp := pick_bd' r.a (n : Int) (by omega)
    unfold hurtsGo
    split
    · exact ⟨⟨rfl, .inl ⟨rfl, hp.1, hp.2⟩⟩, hok_hurts k n hn l S⟩
    · split
      · rename_i hc
        have hb30 := pick_bd' r.b 30 (by omega)
        have hc256 := pick_bd' r.c 256 (by omega)
        exact ⟨⟨rfl, .inr (.inl ⟨rfl, hp, hc.2, hb30, hc256.1, by show pick r.c 256 ≤ 255; omega⟩)⟩, hok_hurts k n hn l _⟩
      · split
        · exact ⟨⟨rfl, .inr (.inr rfl)⟩, hok_hurts k n hn l S⟩
        · exact hok_hurts k n hn l S
section
variable {all : List (List UInt8)} {A : Ar} {T : Nat → List Int}
theorem hok_of (h : Alls all) (k : Nat) (l : List Raw4) (most : Nat) : HOk k (dn all k) [] (hurtsOf l k all.length most) := by
  have hb := dn_bd h k
  have := hok_hurts k (dn all k) (by omega) (l.take most) []
  unfold hurtsOf
  rw [show (if (k : Int) = 2 then (all.length : Int) / 2 else (all.length : Int)) = (dn all k : Int) by
    unfold dn
    by_cases e : k = 2
    · subst e; simp
    · rw [if_neg e, if_neg (by omega)]]
  exact this
/-- One act that hurts a device. -/
theorem hurt_step (h : WornA all T A) (k : Nat) (hk : k < 3) (x : Hact) (hx : hOne k (dn all k) (T k) x) (nx rd : Int) : ∃ D', actS ⟨A, nx, rd⟩ (hurtAc x) = (⟨A.set k D', nx, rd⟩, anE 0) ∧ Worn (dn all k) (ds k) (dp all k) (hNext (T k) x) D' := by
  obtain ⟨xk, xd, xn, xa, xb⟩ := x
  obtain ⟨hd, hx⟩ := hx
  dsimp only at hd hx
  subst hd
  have hD := h.dv k hk
  have hto : (k : Int).toNat = k := by omega
  have hd2 : (0 : Int) ≤ (k : Int) ∧ (k : Int) ≤ 2 := by omega
  rcases hx with ⟨rfl, n0, n1⟩ | ⟨rfl, ⟨n0, n1⟩, hS, ⟨a0, a1⟩, b0, b1⟩ | rfl
  · obtain ⟨i, rfl⟩ : ∃ i : Nat, xn = i := ⟨xn.toNat, by omega⟩
    obtain ⟨D', e1, w1⟩ := hD.lose i (by omega)
    refine ⟨D', ?_, w1⟩
    have := act_hurt A nx rd ⟨4, k, i, xa, xb⟩ (.inl rfl) hd2 D' (by rw [hurtx_4, hto]; exact e1)
    rw [this]
    show ((⟨A.set (k : Int).toNat D', nx, rd⟩ : Ha), anE 0) = _
    rw [hto]
  · obtain ⟨i, rfl⟩ : ∃ i : Nat, xn = i := ⟨xn.toNat, by omega⟩
    obtain ⟨pl, rfl⟩ : ∃ pl : Nat, xa = pl := ⟨xa.toNat, by omega⟩
    obtain ⟨D', e1, w1⟩ := hD.turn i (by omega) hS pl xb (by omega) b0 b1
    refine ⟨D', ?_, w1⟩
    have := act_hurt A nx rd ⟨5, k, i, pl, xb⟩ (.inr rfl) hd2 D' (by rw [hurtx_5, hto]; exact e1)
    rw [this]
    show ((⟨A.set (k : Int).toNat D', nx, rd⟩ : Ha), anE 0) = _
    rw [hto]
  · have hz : (zeroRows all.length).length = all.length := by simp [zeroRows]
    have zA := zeros_alls all.length h.alls.lo h.alls.hi h.alls.even
    have hg := (arMay_iff _).1 (good_may zA)
    have er : arReplace A k = (A.set k (blank (dev (goodA (zeroRows all.length)) k)), 0) := by
      rw [arReplace, if_pos h.may, if_pos hd2, hto, h.mny, new_good _ h.alls.lo h.alls.hi h.alls.even]
    have hl : (dev (goodA (zeroRows all.length)) k).1.length = dn all k := by
      rw [good_dev k hk, mk_len.1]
      unfold dn
      rw [hz]
    refine ⟨_, ?_, worn_blank _ (hg.2.1 _ (dev_mem _ _ hk)) hl (T k)⟩
    show (if (6 : Int) = 1 then _ else if (6 : Int) = 2 then _ else if (6 : Int) = 3 then _ else if (6 : Int) = 4 ∨ (6 : Int) = 5 then _ else if (6 : Int) = 6 then actNew ⟨A, nx, rd⟩ k else _) = _
    rw [if_neg (by decide), if_neg (by decide), if_neg (by decide), if_neg (by decide), if_pos rfl, actNew, er, if_pos rfl]
theorem set_dev (A : Ar) (h : A.length = 3) (k : Nat) (hk : k < 3) : A.set k (dev A k) = A := by
  rw [dev_lt A k (by omega), List.set_getElem_self]
/-- So many. -/
theorem hurts_run (k : Nat) (hk : k < 3) (nx rd : Int) : ∀ (l : List Hact) (A : Ar) (T : Nat → List Int), WornA all T A → HOk k (dn all k) (T k) l → ∃ D', runS ⟨A, nx, rd⟩ (l.map hurtAc) = (⟨A.set k D', nx, rd⟩, l.map fun _ => anE 0) ∧ Worn (dn all k) (ds k) (dp all k) (hAfter (T k) l) D'
  | [], A, T, h, _ => ⟨dev A k, by rw [set_dev A ((arMay_iff A).1 h.may).1 k hk]; rfl, h.dv k hk⟩
  | x :: l, A, T, h, ho => by
    obtain ⟨D1, e1, w1⟩ := hurt_step h k hk x ho.1 nx rd
    have h1 := h.set k hk _ D1 w1
    obtain ⟨D', e2, w2⟩ := hurts_run k hk nx rd l (A.set k D1) _ h1 (by rw [if_pos rfl]; exact ho.2)
    rw [if_pos rfl] at w2
    refine ⟨D', ?_, w2⟩
    rw [List.map_cons, runS, e1]
    dsimp only
    rw [e2, List.set_set]
    rfl
/-- .. on an array of which no other device is hurt. -/
theorem hurts_with (h : Alls all) (k : Nat) (hk : k < 3) (S : List Int) (D : Dv) (hD : Worn (dn all k) (ds k) (dp all k) S D) (nx rd : Int) (l : List Hact) (hl : HOk k (dn all k) S l) :
    ∃ D', runS ⟨With all k D, nx, rd⟩ (l.map hurtAc) = (⟨With all k D', nx, rd⟩, l.map fun _ => anE 0) ∧ Worn (dn all k) (ds k) (dp all k) (hAfter S l) D' := by
  obtain ⟨D', e, w⟩ := hurts_run k hk nx rd l (With all k D) _ (worn_with h k hk S D hD) (by rw [if_pos rfl]; exact hl)
  rw [if_pos rfl] at w
  exact ⟨D', by rw [e, with_set], w⟩
end

/-- Groups of files, by their numbers. -/
def Chain : Nat → List (List Fi) → Prop
  | _, [] => True
  | m, F :: r => (Named F m ∧ 1 ≤ F.length ∧ F.length ≤ 2) ∧ Chain (m + F.length) r
def tot : List (List Fi) → Nat
  | [] => 0
  | F :: r => F.length + tot r
/-- Groups, and what was answered when they were added: the files that are there. -/
def okG : List (List Fi × Int) → List Fi
  | [] => []
  | p :: r => (if p.2 = 0 then p.1 else []) ++ okG r
section
variable {all : List (List UInt8)} {C : Ct} {D : List (List UInt8)} {G : List Fi} {k : Nat} {S : List Int} {E : Dv} {m : Nat}
theorem act_add (A : Ar) (nx rd : Int) (F : List Fi) (B : Ar) (e : Int) (h : addA A F = (B, e)) : actS ⟨A, nx, rd⟩ (addAc F) = if e = 0 then (⟨B, nx, rd⟩, anE 0) else (⟨A, nx, rd⟩, anE e) := by
  show (if (1 : Int) = 1 then actAdd ⟨A, nx, rd⟩ F else _) = _
  rw [if_pos rfl, actAdd, h]
theorem act_get (h : Ha) (f : Fi) : actS h (getAc f) = (h, ⟨(getA h.A f.s).2, (getA h.A f.s).1, [], 0, []⟩) := by
  show (if (2 : Int) = 1 then _ else if (2 : Int) = 2 then actGet h f.s else _) = _
  rw [if_neg (by decide), if_pos rfl, actGet]
/-- Groups that are added, one behind the other. -/
theorem adds_run (hk : k < 3) (nx rd : Int) : ∀ (Gs : List (List Fi)) (all : List (List UInt8)) (C : Ct) (D : List (List UInt8)) (G : List Fi) (E : Dv) (m : Nat), Arc all C D G k S E m → Chain m Gs → m + tot Gs ≤ 10 →
    ∃ all' C' D' E' cs, runS ⟨With all k E, nx, rd⟩ (Gs.map addAc) = (⟨With all' k E', nx, rd⟩, cs.map anE) ∧ cs.length = Gs.length ∧ all'.length = all.length ∧ Arc all' C' D' (G ++ okG (Gs.zip cs)) k S E' (m + tot Gs) ∧ ∀ c ∈ cs, c = 0 ∨ c = 8
  | [], all, C, D, G, E, m, h, _, _ => ⟨all, C, D, E, [], rfl, rfl, rfl, by simpa [okG, tot] using h, fun c hc => by cases hc⟩
  | F :: r, all, C, D, G, E, m, h, hc, ht => by
    obtain ⟨⟨c1, c2, c3⟩, c4⟩ := hc
    have ht' : m + (F.length + tot r) ≤ 10 := ht
    rcases h.add hk F c1 c2 (by omega) (by omega) with ⟨e, h1⟩ | ⟨all1, C1, D1, E1, e, hl, h1⟩
    · obtain ⟨all', C', D', E', cs, e2, q1, q2, q3, q4⟩ := adds_run hk nx rd r all C D G E (m + F.length) h1 c4 (by omega)
      refine ⟨all', C', D', E', 8 :: cs, ?_, by simp [q1], q2, ?_, fun c hc => ?_⟩
      · rw [List.map_cons, runS, act_add _ _ _ _ _ _ e, if_neg (by decide)]
        dsimp only
        rw [e2]; rfl
      · have : okG ((F :: r).zip (8 :: cs)) = okG (r.zip cs) := by
          show (if (8 : Int) = 0 then F else []) ++ okG (r.zip cs) = _
          rw [if_neg (by decide), List.nil_append]
        rw [this, show m + tot (F :: r) = m + F.length + tot r by show m + (F.length + tot r) = _; omega]
        exact q3
      · rcases List.mem_cons.1 hc with rfl | hc
        · exact .inr rfl
        · exact q4 c hc
    · obtain ⟨all', C', D', E', cs, e2, q1, q2, q3, q4⟩ := adds_run hk nx rd r all1 C1 D1 (G ++ F) E1 (m + F.length) h1 c4 (by omega)
      refine ⟨all', C', D', E', 0 :: cs, ?_, by simp [q1], q2.trans hl, ?_, fun c hc => ?_⟩
      · rw [List.map_cons, runS, act_add _ _ _ _ _ _ e, if_pos rfl]
        dsimp only
        rw [e2]; rfl
      · have : okG ((F :: r).zip (0 :: cs)) = F ++ okG (r.zip cs) := by
          show (if (0 : Int) = 0 then F else []) ++ okG (r.zip cs) = _
          rw [if_pos rfl]
        rw [this, ← List.append_assoc, show m + tot (F :: r) = m + F.length + tot r by show m + (F.length + tot r) = _; omega]
        exact q3
      · rcases List.mem_cons.1 hc with rfl | hc
        · exact .inl rfl
        · exact q4 c hc
/-- Files that are got. -/
theorem gets_run (h : Ha) (L : List Fi) : runS h (L.map getAc) = (h, L.map fun f => ⟨(getA h.A f.s).2, (getA h.A f.s).1, [], 0, []⟩) := by
  have := run_quiet h (L.map getAc) (fun x => ⟨(getA h.A x.name).2, (getA h.A x.name).1, [], 0, []⟩) (fun x hx => by
    obtain ⟨f, _, rfl⟩ := List.mem_map.1 hx
    exact act_get h f)
  rw [this, List.map_map]
  rfl
end
end Go.Proofs.YtahoagbaadnihabGreatDoor

/- The theorems of the whole, purely: what a script over a new archive answers. -/
namespace Go.Proofs.YtahoagbaadnihabGreatDoor
open Go.RowKit

def grp (Gs : List (List Fi)) (i : Nat) : List Fi := Gs[i]?.getD []
def cod (cs : List Int) (i : Nat) : Int := cs[i]?.getD 0
theorem chain_names : ∀ (Gs : List (List Fi)) (m : Nat), Chain m Gs → ∀ i f, f ∈ grp Gs i → ∃ j, m ≤ j ∧ j < m + tot Gs ∧ f.s = fName j ∧ f.d.size ≤ 200
  | [], _, _, i, f, hf => by simp [grp] at hf
  | F :: r, m, h, 0, f, hf => by
    obtain ⟨j, hj, rfl⟩ := List.getElem_of_mem (show f ∈ F from hf)
    obtain ⟨e1, e2⟩ := h.1.1 j hj
    rw [fi_lt F j hj] at e1 e2
    exact ⟨m + j, by omega, by show m + j < m + (F.length + tot r); omega, e1, e2⟩
  | F :: r, m, h, i + 1, f, hf => by
    obtain ⟨j, h1, h2, h3⟩ := chain_names r (m + F.length) h.2 i f (by simpa [grp] using hf)
    exact ⟨j, by omega, by show j < m + (F.length + tot r); omega, h3⟩
theorem okg_names : ∀ (Gs : List (List Fi)) (cs : List Int) (m : Nat), Chain m Gs → ∀ g ∈ okG (Gs.zip cs), ∃ j, m ≤ j ∧ j < m + tot Gs ∧ g.s = fName j
  | [], cs, _, _, g, hg => by simp [okG] at hg
  | F :: r, [], _, _, g, hg => by simp [okG] at hg
  | F :: r, c :: cs, m, h, g, hg => by
    have hg' : g ∈ (if c = 0 then F else []) ++ okG (r.zip cs) := hg
    rcases List.mem_append.1 hg' with q | q
    · have q2 : g ∈ F := by
        split at q
        · exact q
        · cases q
      obtain ⟨j, hj, rfl⟩ := List.getElem_of_mem q2
      have e1 := (h.1.1 j hj).1
      rw [fi_lt F j hj] at e1
      exact ⟨m + j, by omega, by show m + j < m + (F.length + tot r); omega, e1⟩
    · obtain ⟨j, h1, h2, h3⟩ := okg_names r cs (m + F.length) h.2 g q
      exact ⟨j, by omega, by show j < m + (F.length + tot r); omega, h3⟩
theorem chain_in : ∀ (Gs : List (List Fi)) (cs : List Int) (i : Nat) (f : Fi), cs.length = Gs.length → f ∈ grp Gs i → cod cs i = 0 → f ∈ okG (Gs.zip cs)
  | [], _, i, f, _, hf, _ => by simp [grp] at hf
  | F :: r, [], i, f, hl, _, _ => by simp at hl
  | F :: r, c :: cs, 0, f, hl, hf, hc => by
    have hc' : c = 0 := hc
    show f ∈ (if c = 0 then F else []) ++ okG (r.zip cs)
    rw [if_pos hc']
    exact List.mem_append_left _ hf
  | F :: r, c :: cs, i + 1, f, hl, hf, hc => by
    show f ∈ (if c = 0 then F else []) ++ okG (r.zip cs)
    exact List.mem_append_right _ (chain_in r cs i f (by simpa using hl) (by simpa [grp] using hf) (by simpa [cod] using hc))
theorem chain_out : ∀ (Gs : List (List Fi)) (cs : List Int) (m i : Nat) (f : Fi), cs.length = Gs.length → Chain m Gs → m + tot Gs ≤ 10 → f ∈ grp Gs i → cod cs i ≠ 0 → ∀ g ∈ okG (Gs.zip cs), g.s ≠ f.s
  | [], _, _, i, f, _, _, _, hf, _, _, _ => by simp [grp] at hf
  | F :: r, [], _, i, f, hl, _, _, _, _, _, _ => by simp at hl
  | F :: r, c :: cs, m, 0, f, hl, h, ht, hf, hc, g, hg => by
    have ht' : m + (F.length + tot r) ≤ 10 := ht
    have hc' : c ≠ 0 := hc
    have hg' : g ∈ (if c = 0 then F else []) ++ okG (r.zip cs) := hg
    rw [if_neg hc', List.nil_append] at hg'
    obtain ⟨j, h1, h2, h3⟩ := okg_names r cs (m + F.length) h.2 g hg'
    obtain ⟨i, hi, rfl⟩ := List.getElem_of_mem (show f ∈ F from hf)
    have e1 := (h.1.1 i hi).1
    rw [fi_lt F i hi] at e1
    rw [h3, e1]
    intro e
    have := fname_inj (by omega) (by omega) e
    omega
  | F :: r, c :: cs, m, i + 1, f, hl, h, ht, hf, hc, g, hg => by
    have ht' : m + (F.length + tot r) ≤ 10 := ht
    have hg' : g ∈ (if c = 0 then F else []) ++ okG (r.zip cs) := hg
    have hf' : f ∈ grp r i := by simpa [grp] using hf
    rcases List.mem_append.1 hg' with q | q
    · have q2 : g ∈ F := by
        split at q
        · exact q
        · cases q
      obtain ⟨j, hj, rfl⟩ := List.getElem_of_mem q2
      have e1 := (h.1.1 j hj).1
      rw [fi_lt F j hj] at e1
      obtain ⟨j2, g1, g2, g3, _⟩ := chain_names r (m + F.length) h.2 i f hf'
      rw [e1, g3]
      intro e
      have := fname_inj (by omega) (by omega) e
      omega
    · exact chain_out r cs (m + F.length) i f (by simpa using hl) h.2 (by omega) hf' (by simpa [cod] using hc) g q
/-- What a file is answered with: of a group that was added, or not. -/
def gotF (c : Int) (f : Fi) : List UInt8 × Int := if c = 0 then (f.d.data.toList, 0) else ([], 6)
section
variable {all : List (List UInt8)} {C : Ct} {D : List (List UInt8)} {k : Nat} {S : List Int} {E : Dv} {m : Nat} {A : Ar}
/-- Files of groups are told, or not, as they were added. -/
theorem told_any (Gs : List (List Fi)) (cs : List Int) (hl : cs.length = Gs.length) (hc : Chain 0 Gs) (ht : tot Gs ≤ 10) (h : Holds all C D (okG (Gs.zip cs))) (he : ∀ x n, stRead A x n = stRead (goodA all) x n) (i : Nat) (f : Fi) (hf : f ∈ grp Gs i) : getA A f.s = gotF (cod cs i) f := by
  rw [same_get he]
  unfold gotF
  by_cases q : cod cs i = 0
  · rw [if_pos q]
    exact h.get f (chain_in Gs cs i f hl hf q)
  · rw [if_neg q]
    exact h.none f.s (chain_out Gs cs 0 i f hl hc (by omega) hf q)
/-- An archive that is new. -/
theorem arc_new (n : Nat) (h1 : 16 ≤ n) (h2 : n ≤ 64) (h3 : n % 2 = 0) (k : Nat) (hk : k < 3) : arNew n = (With (zeroRows n) k (whole (dn (zeroRows n) k) (ds k) (dp (zeroRows n) k)), 0) ∧ Arc (zeroRows n) nilC [] [] k [] (whole (dn (zeroRows n) k) (ds k) (dp (zeroRows n) k)) 0 := by
  have hA := zeros_alls n h1 h2 h3
  refine ⟨by rw [with_self k hk, new_good n h1 h2 h3], holds_new n h1 h2 h3, worn_mk (dn_bd hA k).1 (dn_bd hA k).2 (dp_le hA k), fun f hf => by cases hf⟩
theorem Arc.turn {G : List Fi} (h : Arc all C D G k S E m) (S' : List Int) (E' : Dv) (w : Worn (dn all k) (ds k) (dp all k) S' E') : Arc all C D G k S' E' m := ⟨h.holds, w, h.free⟩
theorem Arc.same {G : List Fi} (h : Arc all C D G k S E m) (hk : k < 3) (x n : Int) : stRead (With all k E) x n = stRead (goodA all) x n := with_same h.holds.alls k hk S E h.worn x n
/-- .. of which another device may be hurt next, when it is whole. -/
theorem Arc.fresh {G : List Fi} (h : Arc all C D G k S E m) (e : Nat) : Arc all C D G e [] (whole (dn all e) (ds e) (dp all e)) m := ⟨h.holds, worn_mk (dn_bd h.holds.alls e).1 (dn_bd h.holds.alls e).2 (dp_le h.holds.alls e), h.free⟩

theorem act_list (h : Ha) : actS h listAc = (h, ⟨(opn h.A).2, [], namesE (opn h.A).1.2, 0, []⟩) := rfl
theorem act_scrub (h : Ha) (n : Int) : actS h (scrubAc n) = actScrub h n := rfl
theorem step_yes (A : Ar) (nx : Nat) (rd : Int) (N : Nat) (hm : arMay A = true) (hx : nx < many A) (h0 : 0 ≤ rd) (h1 : rd ≤ 1073741824) (hN : N ≤ 64) : arStep A nx rd N = stepYes (many A) (scN (many A) (scBegin A nx rd) N) := by
  unfold arStep
  rw [if_pos hm, if_pos (by omega), if_pos (by omega), Int.toNat_natCast, Int.toNat_natCast]
theorem scrub_act (A : Ar) (nx : Nat) (rd : Int) (N : Nat) (hm : arMay A = true) (hx : nx < many A) (h0 : 0 ≤ rd) (h1 : rd ≤ 1073741824) (hN : N ≤ 64) : actS ⟨A, nx, rd⟩ (scrubAc N) = (⟨(scN (many A) (scBegin A nx rd) N).A, (scN (many A) (scBegin A nx rd) N).nx, (scN (many A) (scBegin A nx rd) N).rd⟩, ⟨0, [], [], (scN (many A) (scBegin A nx rd) N).ct, goneOf (many A) (scN (many A) (scBegin A nx rd) N).lo⟩) := by
  rw [act_scrub, actScrub, step_yes A nx rd N hm hx h0 h1 hN]
  rfl
end
/-- A scrub, and another one behind it: as one. -/
theorem scN_add (n : Nat) (s : Sc) (a b : Nat) : scN n s (a + b) = scN n (scN n s a) b := by
  induction b with
  | zero => rfl
  | succ b ih => show scOne n (scN n s (a + b)) = scOne n (scN n (scN n s a) b); rw [ih]
/-- .. what is counted and what is gone is told apart. -/
theorem scN_from (n : Nat) (A : Ar) (nx : Nat) (rd ct : Int) (lo : Nat → Bool) (b : Nat) : (scN n ⟨A, nx, rd, ct, lo⟩ b).A = (scN n (scBegin A nx rd) b).A ∧ (scN n ⟨A, nx, rd, ct, lo⟩ b).nx = (scN n (scBegin A nx rd) b).nx ∧ (scN n ⟨A, nx, rd, ct, lo⟩ b).rd = (scN n (scBegin A nx rd) b).rd ∧ (scN n ⟨A, nx, rd, ct, lo⟩ b).ct = ct + (scN n (scBegin A nx rd) b).ct ∧ ∀ i, (scN n ⟨A, nx, rd, ct, lo⟩ b).lo i = (lo i || (scN n (scBegin A nx rd) b).lo i) := by
  induction b with
  | zero => exact ⟨rfl, rfl, rfl, by show ct = ct + 0; omega, fun i => by show lo i = (lo i || false); rw [Bool.or_false]⟩
  | succ b ih =>
    obtain ⟨e1, e2, e3, e4, e5⟩ := ih
    show (scOne n (scN n ⟨A, nx, rd, ct, lo⟩ b)).A = (scOne n (scN n (scBegin A nx rd) b)).A ∧ (scOne n (scN n ⟨A, nx, rd, ct, lo⟩ b)).nx = (scOne n (scN n (scBegin A nx rd) b)).nx ∧ (scOne n (scN n ⟨A, nx, rd, ct, lo⟩ b)).rd = (scOne n (scN n (scBegin A nx rd) b)).rd ∧ (scOne n (scN n ⟨A, nx, rd, ct, lo⟩ b)).ct = ct + (scOne n (scN n (scBegin A nx rd) b)).ct ∧ ∀ i, (scOne n (scN n ⟨A, nx, rd, ct, lo⟩ b)).lo i = (lo i || (scOne n (scN n (scBegin A nx rd) b)).lo i)
    generalize scN n ⟨A, nx, rd, ct, lo⟩ b = s at e1 e2 e3 e4 e5 ⊢
    generalize scN n (scBegin A nx rd) b = t at e1 e2 e3 e4 e5 ⊢
    unfold scOne
    rw [e1, e2, e3]
    refine ⟨rfl, rfl, rfl, ?_, fun i => ?_⟩
    · dsimp only
      split
      · rw [e4]; omega
      · exact e4
    · dsimp only
      split
      · exact e5 i
      · unfold upd
        split
        · rw [Bool.or_true]
        · exact e5 i
/-- The sectors of a whole round, in two steps: those of the first, then those of the second. -/
theorem gone_two (n : Nat) (A : Ar) (rd : Int) (hn : 0 < n) (a b : Nat) (hab : a + b = n) :
    goneOf n (scN n (scBegin A 0 rd) n).lo = goneOf n (scN n (scBegin A 0 rd) a).lo ++ goneOf n (scN n (scBegin (scN n (scBegin A 0 rd) a).A (scN n (scBegin A 0 rd) a).nx (scN n (scBegin A 0 rd) a).rd) b).lo ∧
    (scN n (scBegin A 0 rd) n).ct = (scN n (scBegin A 0 rd) a).ct + (scN n (scBegin (scN n (scBegin A 0 rd) a).A (scN n (scBegin A 0 rd) a).nx (scN n (scBegin A 0 rd) a).rd) b).ct ∧
    (scN n (scBegin A 0 rd) n).A = (scN n (scBegin (scN n (scBegin A 0 rd) a).A (scN n (scBegin A 0 rd) a).nx (scN n (scBegin A 0 rd) a).rd) b).A := by
  have hx := scN_nx n A 0 rd hn a
  have l1 : ∀ i, (scN n (scBegin A 0 rd) a).lo i = true → i < a := by
    have : ∀ k, k ≤ n → ∀ i, (scN n (scBegin A 0 rd) k).lo i = true → i < k := by
      intro k
      induction k with
      | zero => intro _ i h; cases h
      | succ k ih =>
        intro hk i h
        have hxk := scN_nx n A 0 rd hn k
        have hnk : nxAt n 0 k = k := by unfold nxAt; rw [Nat.zero_add, Nat.mod_eq_of_lt (by omega)]
        have h' : (if (arHeal (scN n (scBegin A 0 rd) k).A (scN n (scBegin A 0 rd) k).nx).2.2 = 0 then (scN n (scBegin A 0 rd) k).lo else upd (scN n (scBegin A 0 rd) k).lo (scN n (scBegin A 0 rd) k).nx true) i = true := h
        split at h'
        · have := ih (by omega) i h'; omega
        · unfold upd at h'
          split at h'
          · rename_i e; rw [e, hxk, hnk]; omega
          · have := ih (by omega) i h'; omega
    exact this a (by omega)
  obtain ⟨s, hs⟩ : ∃ s, scN n (scBegin A 0 rd) a = s := ⟨_, rfl⟩
  have e0 : scN n (scBegin A 0 rd) n = scN n s b := by
    have := scN_add n (scBegin A 0 rd) a b
    rw [hab, hs] at this
    exact this
  have q := scN_from n s.A s.nx s.rd s.ct s.lo b
  have e1 : (scN n s b).A = (scN n (scBegin s.A s.nx s.rd) b).A := q.1
  have e4 : (scN n s b).ct = s.ct + (scN n (scBegin s.A s.nx s.rd) b).ct := q.2.2.2.1
  have e5 : ∀ i, (scN n s b).lo i = (s.lo i || (scN n (scBegin s.A s.nx s.rd) b).lo i) := q.2.2.2.2
  clear q
  have l2 : ∀ i, (scN n (scBegin s.A s.nx s.rd) b).lo i = true → a ≤ i := by
    by_cases hb : b = 0
    · subst hb
      intro i h; cases h
    · have hsn : s.nx = a := by rw [← hs, hx]; unfold nxAt; rw [Nat.zero_add, Nat.mod_eq_of_lt (by omega)]
      have : ∀ k, k ≤ b → ∀ i, (scN n (scBegin s.A s.nx s.rd) k).lo i = true → a ≤ i := by
        intro k
        induction k with
        | zero => intro _ i h; cases h
        | succ k ih =>
          intro hk i h
          have hxk := scN_nx n s.A s.nx s.rd (by omega) k
          have hnk : nxAt n s.nx k = a + k := by unfold nxAt; rw [hsn, Nat.mod_eq_of_lt (by omega)]
          have h' : (if (arHeal (scN n (scBegin s.A s.nx s.rd) k).A (scN n (scBegin s.A s.nx s.rd) k).nx).2.2 = 0 then (scN n (scBegin s.A s.nx s.rd) k).lo else upd (scN n (scBegin s.A s.nx s.rd) k).lo (scN n (scBegin s.A s.nx s.rd) k).nx true) i = true := h
          split at h'
          · exact ih (by omega) i h'
          · unfold upd at h'
            split at h'
            · rename_i e; rw [e, hxk, hnk]; omega
            · exact ih (by omega) i h'
      exact this b (Nat.le_refl _)
  rw [hs] at l1 ⊢
  rw [e0]
  refine ⟨?_, e4, e1⟩
  generalize (scN n (scBegin s.A s.nx s.rd) b).lo = g at l2 e5
  generalize s.lo = f at l1 e5
  have hn' : List.range n = List.range a ++ (List.range b).map (a + ·) := by rw [← hab, List.range_add]
  have sp : ∀ q : Nat → Bool, goneOf n q = (List.range a).filter q ++ ((List.range b).map (a + ·)).filter q := fun q => by rw [goneOf, hn', List.filter_append]
  have z1 : ((List.range b).map (a + ·)).filter f = [] := by
    rw [List.filter_eq_nil_iff]
    intro x hx q
    obtain ⟨y, _, rfl⟩ := List.mem_map.1 hx
    have := l1 _ q
    omega
  have z2 : (List.range a).filter g = [] := by
    rw [List.filter_eq_nil_iff]
    intro x hx q
    have := l2 _ q
    have := List.mem_range.1 hx
    omega
  have z3 : (List.range a).filter (scN n s b).lo = (List.range a).filter f := by
    refine List.filter_congr fun x hx => ?_
    rw [e5 x]
    have hx' := List.mem_range.1 hx
    cases q : g x with
    | false => rw [Bool.or_false]
    | true => have := l2 x q; omega
  have z4 : ((List.range b).map (a + ·)).filter (scN n s b).lo = ((List.range b).map (a + ·)).filter g := by
    refine List.filter_congr fun x hx => ?_
    obtain ⟨y, _, rfl⟩ := List.mem_map.1 hx
    rw [e5]
    cases q : f (a + y) with
    | false => rw [Bool.false_or]
    | true => have := l1 _ q; omega
  rw [sp (scN n s b).lo, sp f, sp g, z1, z2, z3, z4, List.append_nil, List.nil_append]
end Go.Proofs.YtahoagbaadnihabGreatDoor

/- More of the whole, purely: names in their order; files that are added while a device is hurt; acts that are refused. -/
namespace Go.Proofs.YtahoagbaadnihabGreatDoor
open Go.RowKit

theorem fname_lss {i j : Nat} (h : i < j) (hj : j < 10) : lss (fName i) (fName j) = true := by
  have h1 := byt_nat ((48 + i : Nat) : Int) (by omega) (by omega)
  have h2 := byt_nat ((48 + j : Nat) : Int) (by omega) (by omega)
  unfold lss fName
  rw [ByteArray.toList_eq, ByteArray.toList_eq, str_list, str_list]
  have hl : byt ((48 + i : Nat) : Int) < byt ((48 + j : Nat) : Int) := UInt8.lt_iff_toNat_lt.2 (by omega)
  generalize byt ((48 + i : Nat) : Int) = x at hl
  generalize byt ((48 + j : Nat) : Int) = y at hl
  simp [Op.bytesLess, hl]
theorem okg_srt : ∀ (Gs : List (List Fi)) (cs : List Int) (m : Nat), Chain m Gs → m + tot Gs ≤ 10 → (okG (Gs.zip cs)).Pairwise fun f g => lss f.s g.s = true
  | [], cs, _, _, _ => by simp [okG]
  | F :: r, [], _, _, _ => by simp [okG]
  | F :: r, c :: cs, m, h, ht => by
    have ht' : m + (F.length + tot r) ≤ 10 := ht
    show ((if c = 0 then F else []) ++ okG (r.zip cs)).Pairwise _
    rw [List.pairwise_append]
    refine ⟨?_, okg_srt r cs (m + F.length) h.2 (by omega), fun f hf g hg => ?_⟩
    · split
      · refine List.pairwise_iff_getElem.2 fun i j hi hj hij => ?_
        have e1 := (h.1.1 i hi).1
        have e2 := (h.1.1 j hj).1
        rw [fi_lt F i hi] at e1
        rw [fi_lt F j hj] at e2
        rw [e1, e2]
        exact fname_lss (by omega) (by omega)
      · exact List.Pairwise.nil
    · have hf' : f ∈ F := by
        split at hf
        · exact hf
        · cases hf
      obtain ⟨i, hi, rfl⟩ := List.getElem_of_mem hf'
      have e1 := (h.1.1 i hi).1
      rw [fi_lt F i hi] at e1
      obtain ⟨j, j1, j2, j3⟩ := okg_names r cs (m + F.length) h.2 g hg
      rw [e1, j3]
      exact fname_lss (by omega) (by omega)
/-- Two rising rows of the same texts are one. -/
theorem lss_same : ∀ (l m : List ByteArray), (l.Pairwise fun s t => lss s t = true) → (m.Pairwise fun s t => lss s t = true) → (∀ x, x ∈ l ↔ x ∈ m) → l = m
  | [], [], _, _, _ => rfl
  | [], b :: m, _, _, h => absurd ((h b).2 List.mem_cons_self) List.not_mem_nil
  | a :: l, [], _, _, h => absurd ((h a).1 List.mem_cons_self) List.not_mem_nil
  | a :: l, b :: m, hl, hm, h => by
    rw [List.pairwise_cons] at hl hm
    have no : ∀ s t : ByteArray, lss s t = true → lss t s = true → False := fun s t h1 h2 => by rw [lss_asym h1] at h2; cases h2
    have e : a = b := by
      rcases List.mem_cons.1 ((h a).1 List.mem_cons_self) with e | e
      · exact e
      · rcases List.mem_cons.1 ((h b).2 List.mem_cons_self) with f | f
        · exact f.symm
        · exact absurd (hl.1 b f) (fun q => no _ _ q (hm.1 a e))
    subst e
    rw [lss_same l m hl.2 hm.2 fun x => ⟨fun hx => ?_, fun hx => ?_⟩]
    · rcases List.mem_cons.1 ((h x).1 (List.mem_cons_of_mem _ hx)) with e | e
      · have := hl.1 x hx
        rw [e, lss_irr] at this; cases this
      · exact e
    · rcases List.mem_cons.1 ((h x).2 (List.mem_cons_of_mem _ hx)) with e | e
      · have := hm.1 x hx
        rw [e, lss_irr] at this; cases this
      · exact e
section
variable {all : List (List UInt8)} {C : Ct} {D : List (List UInt8)} {G : List Fi} {k : Nat} {S : List Int} {E : Dv} {m : Nat} {A : Ar} {T : Nat → List Int}
/-- All names are told, in their order. -/
theorem Holds.listed (h : Holds all C D G) (hs : G.Pairwise fun f g => lss f.s g.s = true) : namesE C.2 = G.map fun f => f.s := by
  obtain ⟨_, n2, n3⟩ := h.names
  refine lss_same _ _ n3 (by rw [List.pairwise_map]; exact hs) fun x => ⟨fun hx => ?_, fun hx => ?_⟩
  · obtain ⟨y, hy, rfl⟩ := List.mem_map.1 hx
    obtain ⟨f, hf, e⟩ := h.nms y hy
    exact List.mem_map.2 ⟨f, hf, e⟩
  · obtain ⟨f, hf, rfl⟩ := List.mem_map.1 hx
    exact n2 f hf
theorem dn_same {a b : List (List UInt8)} (h : a.length = b.length) (k : Nat) : dn a k = dn b k := by unfold dn; rw [h]
/-- What happens to a device, and then files are added; again and again. -/
def mixA : List (List Hact × List Fi) → List Ac
  | [] => []
  | p :: r => p.1.map hurtAc ++ addAc p.2 :: mixA r
def mixN : List (List Hact × List Fi) → List Int → List An
  | p :: r, c :: cs => (p.1.map fun _ => anE 0) ++ anE c :: mixN r cs
  | _, _ => []
def mixH : List (List Hact × List Fi) → List Hact
  | [] => []
  | p :: r => p.1 ++ mixH r
theorem mix_run (hk : k < 3) (nx rd : Int) : ∀ (P : List (List Hact × List Fi)) (all : List (List UInt8)) (C : Ct) (D : List (List UInt8)) (G : List Fi) (S : List Int) (E : Dv) (m : Nat), Arc all C D G k S E m → Chain m (P.map fun p => p.2) → m + tot (P.map fun p => p.2) ≤ 10 → HOk k (dn all k) S (mixH P) →
    ∃ all' C' D' S' E' cs, runS ⟨With all k E, nx, rd⟩ (mixA P) = (⟨With all' k E', nx, rd⟩, mixN P cs) ∧ cs.length = P.length ∧ all'.length = all.length ∧ Arc all' C' D' (G ++ okG ((P.map fun p => p.2).zip cs)) k S' E' (m + tot (P.map fun p => p.2)) ∧ ∀ c ∈ cs, c = 0 ∨ c = 8
  | [], all, C, D, G, S, E, m, h, _, _, _ => ⟨all, C, D, S, E, [], rfl, rfl, rfl, by simpa [okG, tot] using h, fun c hc => by cases hc⟩
  | (L, F) :: r, all, C, D, G, S, E, m, h, hc, ht, ho => by
    obtain ⟨⟨c1, c2, c3⟩, c4⟩ := hc
    replace c1 : Named F m := c1
    replace c2 : 1 ≤ F.length := c2
    replace c3 : F.length ≤ 2 := c3
    replace c4 : Chain (m + F.length) (r.map fun p => p.2) := c4
    have ht' : m + (F.length + tot (r.map fun p => p.2)) ≤ 10 := ht
    obtain ⟨o1, o2⟩ := (hok_app k _ S L (mixH r)).1 ho
    obtain ⟨E0, e0, w0⟩ := hurts_with h.holds.alls k hk S E h.worn nx rd L o1
    have h0 := h.turn (hAfter S L) E0 w0
    rcases h0.add hk F c1 c2 (by omega) (by omega) with ⟨e, h1⟩ | ⟨all1, C1, D1, E1, e, hl, h1⟩
    · obtain ⟨all', C', D', S', E', cs, e2, q1, q2, q3, q4⟩ := mix_run hk nx rd r all C D G (hAfter S L) E0 (m + F.length) h1 c4 (by omega) o2
      refine ⟨all', C', D', S', E', 8 :: cs, ?_, by simp [q1], q2, ?_, fun c hc => ?_⟩
      · show runS _ (L.map hurtAc ++ addAc F :: mixA r) = _
        rw [run_app, e0]
        dsimp only
        rw [runS, act_add _ _ _ _ _ _ e, if_neg (by decide)]
        dsimp only
        rw [e2]; rfl
      · have : okG ((F :: r.map fun p => p.2).zip (8 :: cs)) = okG ((r.map fun p => p.2).zip cs) := by
          show (if (8 : Int) = 0 then F else []) ++ okG ((r.map fun p => p.2).zip cs) = _
          rw [if_neg (by decide), List.nil_append]
        show Arc all' C' D' (G ++ okG ((F :: r.map fun p => p.2).zip (8 :: cs))) k S' E' (m + (F.length + tot (r.map fun p => p.2)))
        rw [this, ← Nat.add_assoc]
        exact q3
      · rcases List.mem_cons.1 hc with rfl | hc
        · exact .inr rfl
        · exact q4 c hc
    · rw [← dn_same hl] at o2
      obtain ⟨all', C', D', S', E', cs, e2, q1, q2, q3, q4⟩ := mix_run hk nx rd r all1 C1 D1 (G ++ F) (hAfter S L) E1 (m + F.length) h1 c4 (by omega) o2
      refine ⟨all', C', D', S', E', 0 :: cs, ?_, by simp [q1], q2.trans hl, ?_, fun c hc => ?_⟩
      · show runS _ (L.map hurtAc ++ addAc F :: mixA r) = _
        rw [run_app, e0]
        dsimp only
        rw [runS, act_add _ _ _ _ _ _ e, if_pos rfl]
        dsimp only
        rw [e2]; rfl
      · have : okG ((F :: r.map fun p => p.2).zip (0 :: cs)) = F ++ okG ((r.map fun p => p.2).zip cs) := by
          show (if (0 : Int) = 0 then F else []) ++ okG ((r.map fun p => p.2).zip cs) = _
          rw [if_pos rfl]
        show Arc all' C' D' (G ++ okG ((F :: r.map fun p => p.2).zip (0 :: cs))) k S' E' (m + (F.length + tot (r.map fun p => p.2)))
        rw [this, ← List.append_assoc, ← Nat.add_assoc]
        exact q3
      · rcases List.mem_cons.1 hc with rfl | hc
        · exact .inl rfl
        · exact q4 c hc
end
end Go.Proofs.YtahoagbaadnihabGreatDoor
