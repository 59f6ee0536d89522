/- Archives, purely: what is opened, which files may be added, what is added, got, named. -/
import Derived.Test.YtkhjmfngeidlcaaDoorArcSort
import Derived.Test.YtkhjmfngeidlcaaDoorArrM
import Derived.Test.YtkhjmfngeidlcaaDoorPureB
namespace Go.Proofs.YtkhjmfngeidlcaaDoor
open Go.RowKit

/-- A file: its name, its bytes. -/
structure Fi where
  s : ByteArray
  d : ByteArray
def nilF : Fi := ⟨⟨#[]⟩, ⟨#[]⟩⟩
def fi (F : List Fi) (i : Nat) : Fi := F[i]?.getD nilF
/-- What stands in the first sectors. -/
def opn (A : Ar) : Ct × Int := if (stRead A 0 192).2 = 0 then decC (stRead A 0 192).1 else (nilC, (stRead A 0 192).2)
/-- Has one of the first k files this name? -/
def hasF (F : List Fi) (s : ByteArray) : Nat → Bool
  | 0 => false
  | k + 1 => hasF F s k || ((fi F k).s.toList == s.toList)
/-- What is wrong with one file. -/
def filOne (F : List Fi) (k : Nat) : Int := if nameMay (fi F k).s = true then (if 200 < (fi F k).d.size then 1 else if hasF F (fi F k).s k = true then 7 else 0) else 4
def filN (F : List Fi) : Nat → Int
  | 0 => 0
  | k + 1 => if filN F k = 0 then filOne F k else filN F k
/-- How many bytes the first k files have. -/
def sumF (F : List Fi) : Nat → Nat
  | 0 => 0
  | k + 1 => sumF F k + (fi F k).d.size
def filChk (F : List Fi) : Int := if 1 ≤ F.length ∧ F.length ≤ 10 then (if filN F F.length = 0 then (if 600 < sumF F F.length then 1 else 0) else filN F F.length) else 1
/-- The bytes of the first k files, their entries. -/
def datN (F : List Fi) : Nat → List UInt8
  | 0 => []
  | k + 1 => datN F k ++ (fi F k).d.data.toList
def entOf (F : List Fi) (b k : Nat) : En := ⟨(fi F k).s, b, sumF F k, (fi F k).d.size⟩
def entsN (F : List Fi) (b : Nat) : Nat → List En
  | 0 => []
  | k + 1 => entsN F b k ++ [entOf F b k]
/-- Has the catalog the name of one of the first k files? -/
def takN (C : Ct) (F : List Fi) : Nat → Bool
  | 0 => false
  | k + 1 => takN C F k || hasE C.2 (fi F k).s
/-- All of it, behind an archive that may be and files that may be added. -/
def pk (F : List Fi) : List UInt8 := packed (datN F F.length)
def atC (C : Ct) : Nat := atB C.1 C.1.length
def catA (C : Ct) (F : List Fi) : Ct := (C.1 ++ [⟨atC C, (pk F).length⟩], insAll C.2 (entsN F C.1.length F.length))
def fullA (A : Ar) (C : Ct) (F : List Fi) : Bool := decide (10 < C.2.length + F.length ∨ 10 ≤ C.1.length ∨ many A < atC C + secs (pk F).length)
def imgC (C : Ct) : List UInt8 := encB C ++ List.replicate (192 - (encB C).length) 0
def outA (A : Ar) (C : Ct) (F : List Fi) : Ar := (stWrite (stWrite A (atC C) (pk F)).1 0 (imgC (catA C F))).1
def addC (A : Ar) (C : Ct) (F : List Fi) : Ar × Int := if filChk F = 0 then (if takN C F F.length = true then ([], 7) else if fullA A C F = true then ([], 8) else (outA A C F, 0)) else ([], filChk F)
def addA (A : Ar) (F : List Fi) : Ar × Int := if (opn A).2 = 0 then addC A (opn A).1 F else ([], (opn A).2)
/-- A file's bytes. -/
def getB (x : En) (r : List UInt8 × Int) : List UInt8 × Int := if r.2 = 0 then (if r.1.length < x.a.toNat + x.n.toNat then ([], 9) else (cut r.1 x.a.toNat (x.a.toNat + x.n.toNat), 0)) else ([], r.2)
def getU (A : Ar) (b : Bk) : List UInt8 × Int := if (stRead A b.f b.n).2 = 0 then unp [] (stRead A b.f b.n).1 else ([], (stRead A b.f b.n).2)
def getC (A : Ar) (C : Ct) (s : ByteArray) : List UInt8 × Int := if (catFind C s).2 = 0 then getB (catFind C s).1 (getU A (bk C.1 (catFind C s).1.b.toNat)) else ([], (catFind C s).2)
def getA (A : Ar) (s : ByteArray) : List UInt8 × Int := if (opn A).2 = 0 then getC A (opn A).1 s else ([], (opn A).2)
def namesE (E : List En) : List ByteArray := E.map fun x => x.s

theorem opn_chk (A : Ar) (h : (opn A).2 = 0) : catChk (opn A).1 = 0 ∧ arMay A = true ∧ 16 ≤ many A := by
  unfold opn at h ⊢
  by_cases h0 : (stRead A 0 192).2 = 0
  · rw [if_pos h0] at h ⊢
    have hc : stChk A 0 192 = 0 := by
      rw [stRead] at h0
      split at h0
      · assumption
      · rename_i q; exact absurd h0 q
    obtain ⟨hm, _⟩ := stChk_ok A 0 192 hc
    refine ⟨?_, hm, ((arMay_iff A).1 hm).2.2.1⟩
    unfold decC at h ⊢
    split at h
    · cases h
    · rename_i q1
      split at h
      · cases h
      · rename_i q2
        rw [if_neg q1, if_neg q2]
        split at h
        · rename_i q3
          rw [if_pos q3]; exact q3
        · rename_i q3
          exact absurd h q3
  · rw [if_neg h0] at h
    exact absurd h h0
theorem fi_lt (F : List Fi) (i : Nat) (h : i < F.length) : fi F i = F[i] := by simp [fi, h]
theorem fil_succ (F : List Fi) (k : Nat) (h : filN F k = 0) : filN F (k + 1) = filOne F k := by rw [filN, if_pos h]
theorem fil_stop (F : List Fi) (k : Nat) (h : filN F k ≠ 0) (m : Nat) (hm : k ≤ m) : filN F m = filN F k := by
  induction m with
  | zero => obtain rfl : k = 0 := by omega
            rfl
  | succ m ih =>
    by_cases e : k = m + 1
    · rw [e]
    · rw [filN, ih (by omega), if_neg h]
theorem fil_fail (F : List Fi) (k : Nat) (h : filN F k = 0) (h1 : filOne F k ≠ 0) (m : Nat) (hm : k < m) : filN F m = filOne F k := by
  have e : filN F (k + 1) = filOne F k := fil_succ F k h
  rw [fil_stop F (k + 1) (by rw [e]; exact h1) m hm, e]
theorem fil_ok (F : List Fi) (k : Nat) (h : filN F k = 0) : ∀ j, j < k → filOne F j = 0 := by
  induction k with
  | zero => intro j hj; omega
  | succ k ih =>
    intro j hj
    by_cases h0 : filN F k = 0
    · rw [fil_succ F k h0] at h
      by_cases e : j = k
      · rw [e]; exact h
      · exact ih h0 j (by omega)
    · rw [filN, if_neg h0] at h
      exact absurd h h0
theorem filOne_ok (F : List Fi) (k : Nat) (h : filOne F k = 0) : nameMay (fi F k).s = true ∧ (fi F k).d.size ≤ 200 ∧ hasF F (fi F k).s k = false := by
  unfold filOne at h
  split at h
  · rename_i h1
    split at h
    · cases h
    · rename_i h2
      split at h
      · cases h
      · rename_i h3
        exact ⟨h1, by omega, by simpa using h3⟩
  · cases h
/-- Files that may be added. -/
theorem chk_files (F : List Fi) (h : filChk F = 0) : (1 ≤ F.length ∧ F.length ≤ 10) ∧ filN F F.length = 0 ∧ sumF F F.length ≤ 600 ∧ ∀ k, k < F.length → nameMay (fi F k).s = true ∧ (fi F k).d.size ≤ 200 ∧ hasF F (fi F k).s k = false := by
  unfold filChk at h
  split at h
  · rename_i h1
    split at h
    · rename_i h2
      split at h
      · cases h
      · rename_i h3
        exact ⟨h1, h2, by omega, fun k hk => filOne_ok F k (fil_ok F _ h2 k hk)⟩
    · rename_i h2
      exact absurd h h2
  · cases h
theorem sumF_le (F : List Fi) (j k : Nat) (h : j ≤ k) : sumF F j ≤ sumF F k := by
  induction k with
  | zero => obtain rfl : j = 0 := by omega
            exact Nat.le_refl _
  | succ k ih =>
    by_cases e : j = k + 1
    · rw [e]; exact Nat.le_refl _
    · have := ih (by omega); rw [sumF]; omega
theorem datN_len (F : List Fi) (k : Nat) : (datN F k).length = sumF F k := by
  induction k with
  | zero => rfl
  | succ k ih => rw [datN, List.length_append, ih, sumF, ba_len]
theorem entsN_len (F : List Fi) (b k : Nat) : (entsN F b k).length = k := by
  induction k with
  | zero => rfl
  | succ k ih => rw [entsN, List.length_append, ih]; rfl
theorem entsN_mem (F : List Fi) (b k : Nat) (x : En) (h : x ∈ entsN F b k) : ∃ j, j < k ∧ x = entOf F b j := by
  induction k with
  | zero => cases h
  | succ k ih =>
    rw [entsN, List.mem_append] at h
    rcases h with h | h
    · obtain ⟨j, hj, e⟩ := ih h; exact ⟨j, by omega, e⟩
    · exact ⟨k, by omega, by simpa using h⟩
theorem entsN_has (F : List Fi) (b k j : Nat) (h : j < k) : entOf F b j ∈ entsN F b k := by
  induction k with
  | zero => omega
  | succ k ih =>
    rw [entsN, List.mem_append]
    by_cases e : j = k
    · right; rw [e]; simp
    · left; exact ih (by omega)
theorem hasF_iff (F : List Fi) (s : ByteArray) (k : Nat) : hasF F s k = true ↔ ∃ j, j < k ∧ (fi F j).s = s := by
  induction k with
  | zero => simp [hasF]
  | succ k ih =>
    rw [hasF, Bool.or_eq_true, ih, beq_iff_eq]
    constructor
    · rintro (⟨j, hj, e⟩ | e)
      · exact ⟨j, by omega, e⟩
      · exact ⟨k, by omega, toL_inj e⟩
    · rintro ⟨j, hj, e⟩
      by_cases q : j = k
      · right; rw [← q, e]
      · left; exact ⟨j, by omega, e⟩
theorem hasF_ents (F : List Fi) (s : ByteArray) (b k : Nat) : hasE (entsN F b k) s = hasF F s k := by
  rw [Bool.eq_iff_iff, hasE_iff, hasF_iff]
  constructor
  · rintro ⟨y, hy, e⟩
    obtain ⟨j, hj, rfl⟩ := entsN_mem F b k y hy
    exact ⟨j, hj, e⟩
  · rintro ⟨j, hj, e⟩
    exact ⟨_, entsN_has F b k j hj, e⟩
theorem hasE_app (E N : List En) (s : ByteArray) : hasE (E ++ N) s = (hasE E s || hasE N s) := by simp [hasE]
/-- Behind k files: the next one's name is among the entries only if the catalog had it. -/
theorem has_next (C : Ct) (F : List Fi) (k : Nat) (h : hasF F (fi F k).s k = false) : hasE (insAll C.2 (entsN F C.1.length k)) (fi F k).s = hasE C.2 (fi F k).s := by
  rw [hasE_perm (insAll_perm _ _), hasE_app, hasF_ents, h, Bool.or_false]
theorem tak_mono (C : Ct) (F : List Fi) (j k : Nat) (h : takN C F j = true) (hk : j ≤ k) : takN C F k = true := by
  induction k with
  | zero => obtain rfl : j = 0 := by omega
            exact h
  | succ k ih =>
    by_cases e : j = k + 1
    · rw [← e]; exact h
    · rw [takN, ih (by omega), Bool.true_or]
theorem tak_at (C : Ct) (F : List Fi) (k j : Nat) (h : takN C F k = false) (hj : j < k) : hasE C.2 (fi F j).s = false := by
  cases hh : hasE C.2 (fi F j).s with
  | false => rfl
  | true =>
    have : takN C F (j + 1) = true := by rw [takN, hh, Bool.or_true]
    rw [tak_mono C F (j + 1) k this hj] at h; cases h

/-- The entries of a catalog that may be are sorted. -/
theorem ent_bad (E : List En) (m k : Nat) (h : entN E m k = 0) : ∀ j, j < k → enBad E j = false := by
  induction k with
  | zero => intro j hj; omega
  | succ k ih =>
    intro j hj
    by_cases h0 : entN E m k = 0
    · by_cases e : j = k
      · rw [e]
        have hk := ent_ok E m (k + 1) h k (by omega)
        rw [ent_succ E m k h0, hk, if_pos rfl] at h
        cases hb : enBad E k with
        | false => rfl
        | true => rw [hb] at h; cases h
      · exact ih h0 j (by omega)
    · rw [entN, if_neg h0] at h
      exact absurd h h0
theorem srt_step (E : List En) (h : ∀ j, j + 1 < E.length → lss (en E j).s (en E (j + 1)).s = true) : Srt E := by
  refine List.pairwise_iff_getElem.2 fun i j hi hj hij => ?_
  have : ∀ d, i + d + 1 < E.length → lss (en E i).s (en E (i + d + 1)).s = true := by
    intro d
    induction d with
    | zero => intro q; exact h i q
    | succ d ih => intro q; exact lss_trans (ih (by omega)) (h (i + d + 1) q)
  obtain ⟨d, rfl⟩ : ∃ d, j = i + d + 1 := ⟨j - i - 1, by omega⟩
  rw [← en_lt E i hi, ← en_lt E _ hj]
  exact this d hj
theorem chk_srt (C : Ct) (h : catChk C = 0) : Srt C.2 := by
  obtain ⟨_, _, _, h4⟩ := chk_ok C h
  refine srt_step C.2 fun j hj => ?_
  have := ent_bad C.2 _ _ h4 (j + 1) hj
  simp only [enBad, Nat.add_sub_cancel] at this
  rw [show decide (0 < j + 1) = true from decide_eq_true (by omega), Bool.true_and] at this
  exact (above_iff _ _).1 this
theorem srt_at (E : List En) (h : Srt E) (k : Nat) (hk : k < E.length) : enBad E k = false := by
  unfold enBad
  cases k with
  | zero => rfl
  | succ k =>
    rw [show decide (0 < k + 1) = true from decide_eq_true (by omega), Bool.true_and, Nat.add_sub_cancel]
    refine (above_iff _ _).2 ?_
    rw [en_lt E k (by omega), en_lt E (k + 1) hk]
    exact List.pairwise_iff_getElem.1 h k (k + 1) (by omega) hk (by omega)
theorem ent_all (E : List En) (m : Nat) (ho : ∀ x ∈ E, enOk x m = true) (hs : Srt E) : ∀ k, k ≤ E.length → entN E m k = 0
  | 0, _ => rfl
  | k + 1, hk => ent_next E m k (ent_all E m ho hs k (by omega)) (ho _ (by rw [en_lt E k (by omega)]; exact List.getElem_mem _)) (srt_at E hs k (by omega))
theorem ins_ents (C : Ct) (F : List Fi) (hs : Srt C.2) (ht : takN C F F.length = false) (hF : ∀ k, k < F.length → hasF F (fi F k).s k = false) : ∀ k, k ≤ F.length → Srt (insAll C.2 (entsN F C.1.length k))
  | 0, _ => hs
  | k + 1, hk => by
    rw [entsN, insAll_snoc]
    refine ins_srt _ _ (ins_ents C F hs ht hF k (by omega)) ?_
    show hasE _ (fi F k).s = false
    rw [has_next C F k (hF k (by omega))]
    exact tak_at C F F.length k ht (by omega)
theorem pk_len (F : List Fi) (h : sumF F F.length ≤ 600) : (pk F).length ≤ 605 := by
  have := packed_length (datN F F.length)
  rw [datN_len] at this
  unfold pk
  omega
theorem bk_app (L : List Bk) (b : Bk) (k : Nat) (h : k < L.length) : bk (L ++ [b]) k = bk L k := by simp [bk, List.getElem?_append_left h]
theorem bk_end (L : List Bk) (b : Bk) : bk (L ++ [b]) L.length = b := by simp [bk]
theorem atB_app (L : List Bk) (b : Bk) (k : Nat) (h : k ≤ L.length) : atB (L ++ [b]) k = atB L k := by
  induction k with
  | zero => rfl
  | succ k ih => rw [atB_succ, atB_succ, ih (by omega), bk_app L b k (by omega)]
theorem blk_app (L : List Bk) (b : Bk) (h : blkN L L.length = 0) (hb : b.f = atB L L.length) (h0 : 0 ≤ b.n) (h1 : b.n ≤ 1200) (h2 : atB L L.length + secs b.n.toNat ≤ 64) : blkN (L ++ [b]) (L ++ [b]).length = 0 := by
  have q : ∀ k, k ≤ L.length → blkN (L ++ [b]) k = 0 := by
    intro k
    induction k with
    | zero => intro _; rfl
    | succ k ih =>
      intro hk
      rw [blk_succ _ _ (ih (by omega)), if_pos]
      have := (bkOk_iff L k).1 (blk_ok L _ h k (by omega))
      rw [bkOk_iff, bk_app L b k (by omega), atB_app L b k (by omega), atB_app L b (k + 1) (by omega)]
      exact this
  rw [List.length_append]
  show blkN (L ++ [b]) (L.length + 1) = 0
  rw [blk_succ _ _ (q L.length (Nat.le_refl _)), if_pos]
  rw [bkOk_iff, atB_succ, bk_end, atB_app L b _ (Nat.le_refl _)]
  exact ⟨hb, ⟨h0, h1⟩, h2⟩
/-- A catalog with a block more, and its entries, may be. -/
theorem catA_chk (A : Ar) (C : Ct) (F : List Fi) (hm : many A ≤ 64) (h : catChk C = 0) (hf : filChk F = 0) (ht : takN C F F.length = false) (hu : fullA A C F = false) : catChk (catA C F) = 0 := by
  obtain ⟨h1, h2, h3, h4⟩ := chk_ok C h
  obtain ⟨f1, f2, f3, f4⟩ := chk_files F hf
  have hp := pk_len F f3
  simp only [fullA, decide_eq_false_iff_not, not_or, Nat.not_lt, Nat.not_le] at hu
  obtain ⟨u1, u2, u3⟩ := hu
  have e1 : (catA C F).1.length = C.1.length + 1 := by simp [catA]
  have e2 : (catA C F).2.length = C.2.length + F.length := by show (insAll _ _).length = _; rw [insAll_len, entsN_len]
  unfold catChk
  rw [if_neg (by omega), if_pos]
  · rw [e2, e1]
    refine ent_all _ _ (fun x hx => ?_) (ins_ents C F (chk_srt C h) ht (fun k hk => (f4 k hk).2.2) F.length (Nat.le_refl _)) _ (by rw [← e2]; exact Nat.le_refl _)
    have hx' := (insAll_perm C.2 (entsN F C.1.length F.length)).mem_iff.1 hx
    rcases List.mem_append.1 hx' with q | q
    · obtain ⟨j, hj, rfl⟩ := List.getElem_of_mem q
      have := ent_ok C.2 _ _ h4 j hj
      rw [en_lt C.2 j hj] at this
      obtain ⟨a1, a2, a3, a4⟩ := (enOk_iff _ _).1 this
      exact (enOk_iff _ _).2 ⟨a1, ⟨a2.1, by omega⟩, a3, a4⟩
    · obtain ⟨j, hj, rfl⟩ := entsN_mem F _ _ x q
      obtain ⟨g1, g2, _⟩ := f4 j hj
      have := sumF_le F j F.length (by omega)
      exact (enOk_iff _ _).2 ⟨g1, ⟨by show (0 : Int) ≤ (C.1.length : Int); omega, by show (C.1.length : Int) < ((C.1.length + 1 : Nat) : Int); omega⟩, ⟨by show (0 : Int) ≤ (sumF F j : Int); omega, by show (sumF F j : Int) ≤ 600; omega⟩, by show (0 : Int) ≤ ((fi F j).d.size : Int); omega, by show ((fi F j).d.size : Int) ≤ 200; omega⟩
  · exact blk_app C.1 _ h3 rfl (by show (0 : Int) ≤ ((pk F).length : Int); omega) (by show ((pk F).length : Int) ≤ 1200; omega) (by show _ + secs ((pk F).length : Int).toNat ≤ 64; rw [Int.toNat_natCast]; show atC C + _ ≤ 64; omega)
/-- A catalog that may be takes no more bytes than there are. -/
theorem encB_len (C : Ct) (h : catChk C = 0) : (encB C).length ≤ 152 := by
  obtain ⟨h1, h2, _, h4⟩ := chk_ok C h
  have a : ∀ L : List Bk, (encBs L).length = 2 * L.length := fun L => by
    induction L with
    | nil => rfl
    | cons b L ih =>
      have e : encBs (b :: L) = be2 b.n ++ encBs L := rfl
      rw [e, List.length_append, ih]; simp [be2]; omega
  have b : ∀ E : List En, (∀ x ∈ E, x.s.size ≤ 8) → (encEs E).length ≤ 13 * E.length := fun E => by
    induction E with
    | nil => intro _; exact Nat.le_refl _
    | cons x E ih =>
      intro hE
      have := ih (fun y hy => hE y (List.mem_cons_of_mem _ hy))
      have h8 := hE x List.mem_cons_self
      have e : encEs (x :: E) = encE x ++ encEs E := rfl
      rw [e, List.length_append]
      have e2 : (encE x).length = x.s.size + 5 := by simp [encE, be2]
      rw [e2, List.length_cons]; omega
  have c := b C.2 (fun x hx => by
    obtain ⟨j, hj, rfl⟩ := List.getElem_of_mem hx
    have := ent_ok C.2 _ _ h4 j hj
    rw [en_lt C.2 j hj] at this
    exact (nameMay_size _ ((enOk_iff _ _).1 this).1).2)
  have e := a C.1
  unfold encB
  simp only [List.length_append, List.length_cons, List.length_nil]
  omega
theorem imgC_len (C : Ct) (h : catChk C = 0) : (imgC C).length = 192 := by
  have := encB_len C h
  rw [imgC, List.length_append, List.length_replicate]; omega
end Go.Proofs.YtkhjmfngeidlcaaDoor
