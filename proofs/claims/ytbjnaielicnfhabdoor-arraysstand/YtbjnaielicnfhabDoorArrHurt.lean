/- Arrays of which one device is hurt, purely: all sectors are told all the same, and where they come from. -/
import Derived.Test.YtbjnaielicnfhabDoorArrGood
namespace Go.Proofs.YtbjnaielicnfhabDoor
open Go.RowKit

/-- What is done to a device: 4 a sector is lost, 5 a byte of one is turned, 6 it is a new one. -/
structure Hact where
  kind : Int
  d : Int
  n : Int
  at_ : Int
  by_ : Int
def hurt1 (A : Ar) (x : Hact) : Ar :=
  if (A.length : Int) ≤ x.d then A else if x.kind = 6 then (arReplace A x.d).1 else
  if (if x.kind = 5 then dvTurn (dev A x.d.toNat) x.n x.at_ x.by_ else dvLose (dev A x.d.toNat) x.n).2 = 0 then A.set x.d.toNat (if x.kind = 5 then dvTurn (dev A x.d.toNat) x.n x.at_ x.by_ else dvLose (dev A x.d.toNat) x.n).1 else A
theorem hurt1_lose (A : Ar) (k n : Int) (h : ¬ (A.length : Int) ≤ k) (D : Dv) (hd : dvLose (dev A k.toNat) n = (D, 0)) : hurt1 A ⟨4, k, n, 0, 0⟩ = A.set k.toNat D := by simp [hurt1, h, hd]
theorem hurt1_turn (A : Ar) (k n pl c : Int) (h : ¬ (A.length : Int) ≤ k) (D : Dv) (hd : dvTurn (dev A k.toNat) n pl c = (D, 0)) : hurt1 A ⟨5, k, n, pl, c⟩ = A.set k.toNat D := by simp [hurt1, h, hd]
theorem hurt1_new (A : Ar) (k : Int) (h : ¬ (A.length : Int) ≤ k) : hurt1 A ⟨6, k, 0, 0, 0⟩ = (arReplace A k).1 := by simp [hurt1, h]
def hurtAll (A : Ar) (l : List Hact) : Ar := l.foldl hurt1 A

/-- Four raw numbers. -/
structure Raw4 where
  kind : Int
  a : Int
  b : Int
  c : Int
/-- Acts of raw numbers: no sector is turned twice. -/
def hurtsGo (d : Int) (m : Int) : List Raw4 → List Int → List Hact
  | [], _ => []
  | r :: l, T =>
    if pick r.kind 12 < 5 then ⟨4, d, pick r.a m, 0, 0⟩ :: hurtsGo d m l T
    else if pick r.kind 12 < 11 ∧ pick r.a m ∉ T then ⟨5, d, pick r.a m, pick r.b 30, pick r.c 256⟩ :: hurtsGo d m l (pick r.a m :: T)
    else if pick r.kind 12 = 11 then ⟨6, d, 0, 0, 0⟩ :: hurtsGo d m l T
    else hurtsGo d m l T
def hurtsOf (l : List Raw4) (d : Int) (m : Int) (most : Nat) : List Hact := hurtsGo d (if d = 2 then m / 2 else m) (l.take most) []

/-- A device that was hurt: a sector is lost, or as it was, or one byte of it was turned once. -/
structure Worn (n start : Nat) (pay : Nat → List UInt8) (T : List Int) (D : Dv) : Prop where
  may : dvMay D = true
  len : D.1.length = n
  each : ∀ i, i < n → los D i = true ∨ sec D i = sec (whole n start pay) i ∨ ((i : Int) ∈ T ∧ ∃ pl c, pl < 30 ∧ 0 ≤ c ∧ c ≤ 255 ∧ sec D i = str (upBy (sec (whole n start pay) i).data.toList pl c))
section
variable {n start : Nat} {pay : Nat → List UInt8} {T : List Int} {D : Dv}
theorem worn_mk (h1 : 1 ≤ n) (h2 : n ≤ 64) (hp : ∀ i, i < n → (pay i).length ≤ 24) : Worn n start pay [] (whole n start pay) := ⟨mk_may h1 h2 hp, mk_len.1, fun _ _ => .inr (.inl rfl)⟩
theorem Worn.touch (h : Worn n start pay T D) (i : Nat) (hi : i < n) : dvTouch D i = 0 := (touch_iff _ _).2 ⟨h.may, by rw [h.len]; exact hi⟩
theorem Worn.lose (h : Worn n start pay T D) (k : Nat) (hk : k < n) : ∃ D', dvLose D k = (D', 0) ∧ Worn n start pay T D' := by
  have ht := h.touch k hk
  refine ⟨_, lose_ok ht, ?_, by simp [dvPut, h.len], fun i hi => ?_⟩
  · exact ((touch_iff _ k).1 (touch_put ht (sec_size D k h.may (by rw [h.len]; exact hk)))).1
  · by_cases e : k = i
    · subst e
      exact .inl (los_put (len2 ht).2)
    · rw [los_put_other e, sec_put_other e]
      exact h.each i hi
theorem Worn.turn (h : Worn n start pay T D) (k : Nat) (hk : k < n) (hT : (k : Int) ∉ T) (pl : Nat) (c : Int) (hpl : pl < 30) (h0 : 0 ≤ c) (h1 : c ≤ 255) : ∃ D', dvTurn D k pl c = (D', 0) ∧ Worn n start pay ((k : Int) :: T) D' := by
  have ht := h.touch k hk
  have hz := sec_size D k h.may (by rw [h.len]; exact hk)
  refine ⟨_, turn_ok ht pl c hpl h0 h1, ?_, by simp [dvPut, h.len], fun i hi => ?_⟩
  · exact ((touch_iff _ k).1 (touch_put ht (upBy_size _ _ _ hz))).1
  · by_cases e : k = i
    · subst e
      rw [los_put (len2 ht).2, sec_put (len2 ht).1]
      rcases h.each k hi with hl | hs | ⟨hm, _⟩
      · exact .inl hl
      · exact .inr (.inr ⟨List.mem_cons_self, pl, c, hpl, h0, h1, by rw [hs]⟩)
      · exact absurd hm hT
    · rw [los_put_other e, sec_put_other e]
      rcases h.each i hi with hl | hs | ⟨hm, r⟩
      · exact .inl hl
      · exact .inr (.inl hs)
      · exact .inr (.inr ⟨List.mem_cons_of_mem _ hm, r⟩)
theorem worn_blank (D : Dv) (hm : dvMay D = true) (hl : D.1.length = n) (T : List Int) : Worn n start pay T (blank D) := by
  have hm' := (dvMay_iff D).1 hm
  refine ⟨?_, hl, fun i hi => .inl ?_⟩
  · rw [dvMay_iff]
    exact ⟨by simpa [blank] using hm'.1, hm'.2⟩
  · rw [los_lt _ _ (by simp [blank]; omega)]
    simp [blank]
/-- What is read of it: nothing, or what it was. -/
theorem Worn.read (h : Worn n start pay T D) (h1 : 1 ≤ n) (h2 : n ≤ 64) (hs : start ≤ 1000) (hp : ∀ i, i < n → (pay i).length ≤ 24) (i : Nat) (hi : i < n) : (dvRead D i ((start + i : Nat) : Int)).2 ≠ 0 ∨ dvRead D i ((start + i : Nat) : Int) = (pad (pay i), 0) := by
  have ht := h.touch i hi
  have hr := mk_read (k := i) h1 h2 hs hp hi
  rw [read_ok (mk_touch h1 h2 hp hi) _ (mk_los hi)] at hr
  cases hl : los D i with
  | true => rw [read_lost ht _ hl]; exact .inl (by decide)
  | false =>
    rw [read_ok ht _ hl]
    rcases h.each i hi with hl' | hs' | ⟨_, pl, c, hpl, c0, c1, hs'⟩
    · rw [hl] at hl'; cases hl'
    · rw [hs', hr]; exact .inr rfl
    · rw [hs', str_list]
      by_cases hc : c = 0
      · subst hc
        have e : upBy (sec (whole n start pay) i).data.toList pl 0 = (sec (whole n start pay) i).data.toList := by
          have hz := sec_size (whole n start pay) i (mk_may h1 h2 hp) (by rw [mk_len.1]; exact hi)
          have hlt : pl < (sec (whole n start pay) i).data.toList.length := by rw [ba_len, hz]; exact hpl
          rw [upBy, Int.add_zero, bat_lt _ _ hlt]
          have hb := ((sec (whole n start pay) i).data.toList[pl]).toNat_lt
          rw [Int.emod_eq_of_lt (by omega) (by omega), byt_of, List.set_getElem_self]
        rw [e, hr]; exact .inr rfl
      · left
        rw [mk_sec hi, str_list, upBy]
        rw [decd_spoilt _ (body _ (pay i)) (body_length _ _ (hp i hi)) pl hpl _ (byte_up _ c (by omega) (by omega))]
        decide
end

theorem pick_bd' (n : Int) (m : Int) (h : 0 < m) : 0 ≤ pick n m ∧ pick n m < m := pick_bd n m h

section
variable {all : List (List UInt8)}
/-- The sectors and the first number and the payloads of a device. -/
def dn (all : List (List UInt8)) (k : Nat) : Nat := if k = 2 then all.length / 2 else all.length
def ds (k : Nat) : Nat := if k = 2 then 512 else 0
def dp (all : List (List UInt8)) (k : Nat) : Nat → List UInt8 := if k = 2 then fun j => xors (pay all (2 * j)) (pay all (2 * j + 1)) else pay all
theorem good_dev (k : Nat) (hk : k < 3) : dev (goodA all) k = whole (dn all k) (ds k) (dp all k) := by
  match k, hk with
  | 0, _ => rfl
  | 1, _ => rfl
  | 2, _ => rfl
theorem dn_bd (h : Alls all) (k : Nat) : 1 ≤ dn all k ∧ dn all k ≤ 64 := by
  have := h.lo; have := h.hi
  unfold dn; split <;> omega
theorem dp_le (h : Alls all) (k : Nat) : ∀ i, i < dn all k → (dp all k i).length ≤ 24 := by
  intro i hi
  unfold dn at hi
  unfold dp
  split
  · rename_i e
    rw [if_pos e] at hi
    rw [h.xle i hi]; exact Nat.le_refl _
  · rename_i e
    rw [if_neg e] at hi
    exact h.le i hi
/-- The array with one device hurt. -/
def With (all : List (List UInt8)) (k : Nat) (D : Dv) : Ar := (goodA all).set k D
theorem with_self (k : Nat) (hk : k < 3) : With all k (whole (dn all k) (ds k) (dp all k)) = goodA all := by
  rw [With, ← good_dev k hk]
  match k, hk with
  | 0, _ => rfl
  | 1, _ => rfl
  | 2, _ => rfl
theorem with_dev (k j : Nat) (D : Dv) (hk : k < 3) : dev (With all k D) j = if j = k then D else dev (goodA all) j := by
  unfold With dev
  by_cases e : j = k
  · subst e
    rw [if_pos rfl, List.getElem?_set_self (by exact hk)]
    rfl
  · rw [if_neg e, List.getElem?_set_ne (fun h => e h.symm)]
theorem with_set (k : Nat) (D D' : Dv) : (With all k D).set k D' = With all k D' := by rw [With, With, List.set_set]
theorem with_len (k : Nat) (D : Dv) : (With all k D).length = 3 := by rw [With, List.length_set]; rfl
theorem with_many (k : Nat) (hk : k < 3) (D : Dv) (hl : D.1.length = dn all k) : many (With all k D) = all.length := by
  unfold many
  rw [with_dev k 0 D hk]
  by_cases e : 0 = k
  · subst e; rw [if_pos rfl, hl]; rfl
  · rw [if_neg e]; exact good_many
theorem with_may (h : Alls all) (k : Nat) (hk : k < 3) (D : Dv) (hm : dvMay D = true) (hl : D.1.length = dn all k) : arMay (With all k D) = true := by
  have hg := (arMay_iff _).1 (good_may h)
  have hd : ∀ j, j < 3 → dvMay (dev (With all k D) j) = true ∧ (dev (With all k D) j).1.length = dn all j := by
    intro j hj
    rw [with_dev k j D hk]
    by_cases e : j = k
    · subst e; rw [if_pos rfl]; exact ⟨hm, hl⟩
    · rw [if_neg e]
      refine ⟨hg.2.1 _ (dev_mem _ _ hj), ?_⟩
      rw [good_dev j hj]; exact mk_len.1
  rw [arMay_iff, with_many k hk D hl]
  refine ⟨with_len k D, ?_, h.lo, h.hi, h.even, (hd 1 (by omega)).2, (hd 2 (by omega)).2⟩
  intro E hE
  obtain ⟨j, hj, rfl⟩ := List.mem_iff_getElem.1 hE
  rw [with_len] at hj
  have := (hd j hj).1
  rwa [dev_lt _ _ (by rw [with_len]; exact hj)] at this
theorem with_replace (h : Alls all) (k : Nat) (hk : k < 3) (D : Dv) (hm : dvMay D = true) (hl : D.1.length = dn all k) : ∃ E, arReplace (With all k D) k = (With all k (blank E), 0) ∧ dvMay E = true ∧ E.1.length = dn all k := by
  have e : (k : Int).toNat = k := by omega
  rw [arReplace, if_pos (with_may h k hk D hm hl), if_pos (by omega), e, with_many k hk D hl, with_set, new_good _ h.lo h.hi h.even]
  have hz : (zeros all.length).length = all.length := by simp [zeros]
  have hg := (arMay_iff _).1 (good_may (zeros_alls all.length h.lo h.hi h.even))
  refine ⟨_, rfl, hg.2.1 _ (dev_mem _ _ hk), ?_⟩
  rw [good_dev k hk, mk_len.1]
  unfold dn
  rw [hz]

/-- Whatever happens to one device, it is worn. -/
theorem hurt_worn (h : Alls all) (k : Nat) (hk : k < 3) : ∀ (l : List Raw4) (T : List Int) (D : Dv), Worn (dn all k) (ds k) (dp all k) T D → ∃ T' D', hurtAll (With all k D) (hurtsGo k (dn all k) l T) = With all k D' ∧ Worn (dn all k) (ds k) (dp all k) T' D'
  | [], T, D, hD => ⟨T, D, rfl, hD⟩
  | r :: l, T, D, hD => by
    have hb := dn_bd h k
    have hp := pick_bd' r.a (dn all k) (by omega)
    obtain ⟨i, hi⟩ : ∃ i : Nat, pick r.a (dn all k) = i := ⟨(pick r.a (dn all k)).toNat, by omega⟩
    have hik : i < dn all k := by omega
    have hto : (k : Int).toNat = k := by omega
    have hnl : ¬ ((With all k D).length : Int) ≤ (k : Int) := by rw [with_len]; omega
    have hdv : dev (With all k D) k = D := by rw [with_dev k k D hk, if_pos rfl]
    unfold hurtsGo
    rw [hi]
    split
    · obtain ⟨D', e1, w1⟩ := hD.lose i hik
      have e2 : hurt1 (With all k D) ⟨4, k, i, 0, 0⟩ = With all k D' := by
        rw [hurt1_lose _ _ _ hnl D' (by rw [hto, hdv]; exact e1), hto, with_set]
      show ∃ T' D', hurtAll (hurt1 (With all k D) _) _ = _ ∧ _
      rw [e2]
      exact hurt_worn h k hk l T D' w1
    · split
      · rename_i hc
        have hb30 := pick_bd' r.b 30 (by omega)
        have hc256 := pick_bd' r.c 256 (by omega)
        obtain ⟨pl, hpl⟩ : ∃ pl : Nat, pick r.b 30 = pl := ⟨(pick r.b 30).toNat, by omega⟩
        obtain ⟨D', e1, w1⟩ := hD.turn i hik hc.2 pl (pick r.c 256) (by omega) hc256.1 (by omega)
        rw [hpl]
        have e2 : hurt1 (With all k D) ⟨5, k, i, pl, pick r.c 256⟩ = With all k D' := by
          rw [hurt1_turn _ _ _ _ _ hnl D' (by rw [hto, hdv]; exact e1), hto, with_set]
        show ∃ T' D', hurtAll (hurt1 (With all k D) _) _ = _ ∧ _
        rw [e2]
        exact hurt_worn h k hk l _ D' w1
      · split
        · obtain ⟨E, e1, m1, l1⟩ := with_replace h k hk D hD.may hD.len
          have e2 : hurt1 (With all k D) ⟨6, k, 0, 0, 0⟩ = With all k (blank E) := by
            rw [hurt1_new _ _ hnl, e1]
          show ∃ T' D', hurtAll (hurt1 (With all k D) _) _ = _ ∧ _
          rw [e2]
          exact hurt_worn h k hk l T _ (worn_blank E m1 l1 T)
        · exact hurt_worn h k hk l T D hD

/-- Of an array of which one device is worn all sectors are told. -/
theorem worn_tell (h : Alls all) (k : Nat) (hk : k < 3) (T : List Int) (D : Dv) (hD : Worn (dn all k) (ds k) (dp all k) T D) (i : Nat) (hi : i < all.length) : tell (With all k D) i = (pay all i, 1, 0) ∨ (k = 0 ∧ tell (With all k D) i = (pay all i, 2, 0)) := by
  have r0 := read0 h i hi
  have d1 : dev (With all k D) 1 = if 1 = k then D else whole all.length 0 (pay all) := with_dev k 1 D hk
  have d0 : dev (With all k D) 0 = if 0 = k then D else whole all.length 0 (pay all) := with_dev k 0 D hk
  by_cases e : k = 0
  · subst e
    have hr := hD.read (dn_bd h 0).1 (dn_bd h 0).2 (by decide) (dp_le h 0) i (by exact hi)
    rw [show ((ds 0 + i : Nat) : Int) = (i : Int) by simp [ds]] at hr
    rw [if_pos rfl] at d0
    rw [if_neg (by decide)] at d1
    rcases hr with hr | hr
    · right
      refine ⟨rfl, ?_⟩
      unfold tell mirr
      rw [d0, d1, if_neg hr, r0, if_pos rfl, if_pos (show (0 : Int) < 2 by decide)]
    · left
      have hp : pad (dp all 0 i) = pay all i := pad_full _ (h.full i hi)
      rw [hp] at hr
      unfold tell mirr
      rw [d0, hr, if_pos rfl, if_pos (show (0 : Int) < 1 by decide)]
  · left
    rw [if_neg (fun x => e x.symm)] at d0
    unfold tell mirr
    rw [d0, r0, if_pos rfl, if_pos (show (0 : Int) < 1 by decide)]
theorem worn_read (h : Alls all) (k : Nat) (hk : k < 3) (T : List Int) (D : Dv) (hD : Worn (dn all k) (ds k) (dp all k) T D) (i : Nat) (hi : i < all.length) : arRead (With all k D) i = (pay all i, 1, 0) ∨ (k = 0 ∧ arRead (With all k D) i = (pay all i, 2, 0)) := by
  have e : (i : Int).toNat = i := by omega
  have ht : arTouch (With all k D) i = 0 := by rw [arTouch, if_pos (with_may h k hk D hD.may hD.len), with_many k hk D hD.len, if_pos (by omega)]
  rw [arRead, if_pos ht, e]
  exact worn_tell h k hk T D hD i hi
/-- All of it together. -/
theorem stand (h : Alls all) (k : Nat) (hk : k < 3) (l : List Raw4) (most : Nat) : ∃ T D, hurtAll (goodA all) (hurtsOf l k all.length most) = With all k D ∧ Worn (dn all k) (ds k) (dp all k) T D := by
  have hw := worn_mk (start := ds k) (dn_bd h k).1 (dn_bd h k).2 (dp_le h k)
  obtain ⟨T, D, e, w⟩ := hurt_worn h k hk (l.take most) [] _ hw
  refine ⟨T, D, ?_, w⟩
  rw [with_self k hk] at e
  rw [← e, hurtsOf]
  congr 2
  unfold dn
  by_cases e2 : k = 2
  · subst e2; simp
  · rw [if_neg e2, if_neg (by omega)]
end
end Go.Proofs.YtbjnaielicnfhabDoor
