/- Joined texts: StreamGood, ArcKeepMath, ArcKeepNam. -/
import Derived.Test.YtkhjmfngeidlcabGreatDoorArrM
import Derived.Test.YtkhjmfngeidlcabGreatDoorHigh
import Derived.Test.YtkhjmfngeidlcabGreatDoorArcM
/- Bytes over the sectors of a whole array, purely: they are read as they were written, and what stands around them stays. -/
namespace Go.Proofs.YtkhjmfngeidlcabGreatDoor
open Go.RowKit

/-- The payloads behind so many sectors. -/
def over (all : List (List UInt8)) (x : Nat) (s : List UInt8) : Nat → List (List UInt8)
  | 0 => all
  | i + 1 => (over all x s i).set (x + i) (pad (chunk s i))
theorem over_len (all : List (List UInt8)) (x : Nat) (s : List UInt8) : ∀ i, (over all x s i).length = all.length
  | 0 => rfl
  | i + 1 => by rw [over, List.length_set, over_len all x s i]
theorem over_alls {all : List (List UInt8)} (h : Alls all) (x : Nat) (s : List UInt8) : ∀ i, x + i ≤ all.length → Alls (over all x s i)
  | 0, _ => h
  | i + 1, hi => (over_alls h x s i (by omega)).set (x + i) _ (by rw [over_len]; omega) (pad_length _ (chunk_len s i))
theorem st_good {all : List (List UInt8)} (h : Alls all) (x : Nat) (s : List UInt8) : ∀ i, x + i ≤ all.length → stN (goodA all) x s i = goodA (over all x s i)
  | 0, _ => rfl
  | i + 1, hi => by
    rw [stN, st_good h x s i (by omega), good_write (over_alls h x s i (by omega)) (x + i) (by rw [over_len]; omega) _ (chunk_len s i)]
    rfl
theorem over_pay (all : List (List UInt8)) (x : Nat) (s : List UInt8) : ∀ i, x + i ≤ all.length → ∀ j, pay (over all x s i) j = if x ≤ j ∧ j < x + i then pad (chunk s (j - x)) else pay all j
  | 0, _, j => by rw [if_neg (by omega)]; rfl
  | i + 1, hi, j => by
    rw [over, pay_set (x + i) _ (by rw [over_len]; omega), over_pay all x s i (by omega) j]
    by_cases e : j = x + i
    · rw [if_pos e, if_pos (by omega), e, show x + i - x = i by omega]
    · rw [if_neg e]
      by_cases e2 : x ≤ j ∧ j < x + i
      · rw [if_pos e2, if_pos (by omega)]
      · rw [if_neg e2, if_neg (by omega)]
theorem pad_app (l : List UInt8) : pad l = l ++ List.replicate (24 - l.length) 0 := rfl
theorem take_chunk (s : List UInt8) (i : Nat) : s.take (24 * i) ++ chunk s i = s.take (24 * (i + 1)) := by
  rw [chunk, Nat.mul_add, Nat.mul_one, List.take_add]
theorem rd_good {all : List (List UInt8)} (h : Alls all) (x : Nat) (s : List UInt8) (hx : x + secs s.length ≤ all.length) : ∀ i, i ≤ secs s.length → rdN (goodA (over all x s (secs s.length))) x i = (s.take (24 * i) ++ List.replicate (24 * i - s.length) 0, 0)
  | 0, _ => by simp [rdN]
  | i + 1, hi => by
    have ih := rd_good h x s hx i (by omega)
    have hA := over_alls h x s _ hx
    have hr := good_read hA (x + i) (by rw [over_len]; omega)
    rw [over_pay all x s _ hx, if_pos (by omega), show x + i - x = i by omega] at hr
    have hl := secs_lt s.length i (by omega)
    rw [rd_succ _ _ _ (by rw [ih]) (by rw [hr]), ih, hr]
    have e0 : 24 * i - s.length = 0 := by omega
    have ec : (chunk s i).length = min 24 (s.length - 24 * i) := by simp [chunk]
    rw [e0, List.replicate_zero, List.append_nil, pad_app, ← List.append_assoc, take_chunk, ec, show 24 - min 24 (s.length - 24 * i) = 24 * (i + 1) - s.length by omega]
/-- Bytes are read as they were written. -/
theorem stream_back {all : List (List UInt8)} (h : Alls all) (x : Nat) (s : List UInt8) (hs : s.length ≤ 1536) (hx : x + secs s.length ≤ all.length) :
    stWrite (goodA all) x s = (goodA (over all x s (secs s.length)), 0) ∧ stRead (goodA (over all x s (secs s.length))) x s.length = (s, 0) := by
  have hA := over_alls h x s _ hx
  have hc : ∀ l : List (List UInt8), Alls l → l.length = all.length → stChk (goodA l) x s.length = 0 := fun l hl e => by
    rw [stChk, if_pos (good_may hl), if_pos ⟨by omega, by omega⟩, if_pos ⟨by omega, by rw [good_many, e, show ((s.length : Int)).toNat = s.length by omega]; omega⟩]
  refine ⟨?_, ?_⟩
  · rw [stWrite, if_pos (hc all h rfl), show ((x : Int)).toNat = x by omega, st_good h x s _ hx]
  · rw [stRead, if_pos (hc _ hA (over_len all x s _)), show ((x : Int)).toNat = x by omega, show ((s.length : Int)).toNat = s.length by omega, rd_good h x s hx _ (Nat.le_refl _)]
    have := secs_le s.length
    simp [List.take_of_length_le this]
end Go.Proofs.YtkhjmfngeidlcabGreatDoor

/- What an archive over a whole array holds, purely: files that were added are got as they were, behind whatever was added later. -/
namespace Go.Proofs.YtkhjmfngeidlcabGreatDoor
open Go.RowKit

/-- Arrays that tell the same of some sectors are read alike there. -/
theorem rd_same (A B : Ar) (x : Nat) : ∀ i, (∀ j : Nat, x ≤ j → j < x + i → (arRead A (j : Int)).1 = (arRead B (j : Int)).1 ∧ (arRead A (j : Int)).2.2 = (arRead B (j : Int)).2.2) → rdN A x i = rdN B x i
  | 0, _ => rfl
  | i + 1, h => by
    obtain ⟨h1, h2⟩ := h (x + i) (by omega) (by omega)
    rw [rdN, rdN, rd_same A B x i (fun j h3 h4 => h j h3 (by omega)), h1, h2]
theorem st_same (A B : Ar) (hm : arMay A = arMay B) (hn : many A = many B) (x n : Int) (h : stChk A x n = 0 → ∀ j : Nat, x.toNat ≤ j → j < x.toNat + secs n.toNat → (arRead A (j : Int)).1 = (arRead B (j : Int)).1 ∧ (arRead A (j : Int)).2.2 = (arRead B (j : Int)).2.2) : stRead A x n = stRead B x n := by
  have e : stChk A x n = stChk B x n := by unfold stChk; rw [hm, hn]
  unfold stRead
  rw [← e]
  by_cases h0 : stChk A x n = 0
  · rw [if_pos h0, if_pos h0, rd_same A B _ _ (h h0)]
  · rw [if_neg h0, if_neg h0]
theorem good_same {a b : List (List UInt8)} (ha : Alls a) (hb : Alls b) (he : a.length = b.length) (x n : Int) (h : stChk (goodA a) x n = 0 → ∀ j : Nat, x.toNat ≤ j → j < x.toNat + secs n.toNat → pay a j = pay b j) : stRead (goodA a) x n = stRead (goodA b) x n := by
  refine st_same _ _ (by rw [good_may ha, good_may hb]) (by rw [good_many, good_many, he]) x n fun h0 j h1 h2 => ?_
  obtain ⟨_, _, h3, h4⟩ := stChk_ok _ _ _ h0
  rw [good_many] at h4
  have hj : j < a.length := by omega
  rw [good_read ha j hj, good_read hb j (by omega), h h0 j h1 h2]
  exact ⟨rfl, rfl⟩

/-- The bytes of all files of a block. -/
def dat (D : List (List UInt8)) (i : Nat) : List UInt8 := D[i]?.getD []
theorem dat_app (D : List (List UInt8)) (l : List UInt8) (i : Nat) (h : i < D.length) : dat (D ++ [l]) i = dat D i := by simp [dat, List.getElem?_append_left h]
theorem dat_end (D : List (List UInt8)) (l : List UInt8) : dat (D ++ [l]) D.length = l := by simp [dat]
/-- A file lies in the bytes of its block. -/
def LiesE (D : List (List UInt8)) (f : Fi) (x : En) : Prop := x.s = f.s ∧ ∃ B P N : Nat, x.b = B ∧ x.a = P ∧ x.n = N ∧ B < D.length ∧ P + N ≤ (dat D B).length ∧ cut (dat D B) P (P + N) = f.d.data.toList
/-- The payloads hold an archive: its catalog, its blocks' bytes, its files. -/
structure Holds (all : List (List UInt8)) (C : Ct) (D : List (List UInt8)) (G : List Fi) : Prop where
  alls : Alls all
  op : stRead (goodA all) 0 192 = (imgC C, 0)
  chk : catChk C = 0
  len : D.length = C.1.length
  blk : ∀ i, i < C.1.length → stRead (goodA all) (bk C.1 i).f (bk C.1 i).n = (packed (dat D i), 0) ∧ (dat D i).length ≤ 600
  ent : ∀ f ∈ G, ∃ x ∈ C.2, LiesE D f x
  nms : ∀ x ∈ C.2, ∃ f ∈ G, f.s = x.s
  cnt : C.2.length = G.length
section
variable {all : List (List UInt8)} {C : Ct} {D : List (List UInt8)} {G : List Fi}
theorem dec_img (C : Ct) (h : catChk C = 0) : decC (imgC C) = (C, 0) := cat_back C h _
theorem Holds.opn (h : Holds all C D G) : opn (goodA all) = (C, 0) := by
  rw [Go.Proofs.YtkhjmfngeidlcabGreatDoor.opn, h.op, if_pos rfl]
  exact dec_img C h.chk
theorem Holds.has (h : Holds all C D G) (s : ByteArray) : hasE C.2 s = true ↔ ∃ f ∈ G, f.s = s := by
  rw [hasE_iff]
  constructor
  · rintro ⟨x, hx, e⟩
    obtain ⟨f, hf, e2⟩ := h.nms x hx
    exact ⟨f, hf, e2.trans e⟩
  · rintro ⟨f, hf, e⟩
    obtain ⟨x, hx, q⟩ := h.ent f hf
    exact ⟨x, hx, q.1.trans e⟩

/-- What a name finds. -/
theorem find_none (E : List En) (s : ByteArray) (h : hasE E s = false) : ∀ k, k ≤ E.length → findN E s k = none
  | 0, _ => rfl
  | k + 1, hk => by
    refine findN_miss E s k (find_none E s h k (by omega)) ?_
    cases he : ((en E k).s.toList == s.toList) with
    | false => rfl
    | true =>
      have : hasE E s = true := (hasE_iff _ _).2 ⟨en E k, by rw [en_lt E k (by omega)]; exact List.getElem_mem _, toL_inj (by simpa using he)⟩
      rw [h] at this; cases this
theorem find_at (E : List En) (hs : Srt E) (i : Nat) (hi : i < E.length) : findN E (en E i).s E.length = some i := by
  have h0 : ∀ k, k ≤ i → findN E (en E i).s k = none := by
    intro k
    induction k with
    | zero => intro _; rfl
    | succ k ih =>
      intro hk
      refine findN_miss E _ k (ih (by omega)) ?_
      cases he : ((en E k).s.toList == (en E i).s.toList) with
      | false => rfl
      | true =>
        have e : (en E k).s = (en E i).s := toL_inj (by simpa using he)
        have q := List.pairwise_iff_getElem.1 hs k i (by omega) hi (by omega)
        rw [← en_lt E k (by omega), ← en_lt E i hi, e, lss_irr] at q
        cases q
  exact findN_hit E _ i (h0 i (Nat.le_refl _)) (by simp) _ hi
/-- A file is got as it was. -/
theorem Holds.get (h : Holds all C D G) (f : Fi) (hf : f ∈ G) : getA (goodA all) f.s = (f.d.data.toList, 0) := by
  obtain ⟨x, hx, e, B, P, N, e1, e2, e3, hB, hl, hc⟩ := h.ent f hf
  obtain ⟨i, hi, rfl⟩ := List.getElem_of_mem hx
  rw [← en_lt C.2 i hi] at e e1 e2 e3
  have hfi : catFind C f.s = (en C.2 i, 0) := by
    rw [catFind, if_pos h.chk, ← e, find_at C.2 (chk_srt C h.chk) i hi]; rfl
  obtain ⟨b1, b2⟩ := h.blk B (by rw [← h.len]; exact hB)
  rw [getA, h.opn, if_pos rfl, getC, hfi, if_pos rfl]
  dsimp only
  rw [e1, Int.toNat_natCast, getU, b1, if_pos rfl]
  dsimp only
  rw [unp_packed _ b2, getB, if_pos rfl]
  dsimp only
  rw [e2, e3, Int.toNat_natCast, Int.toNat_natCast, if_neg (by omega), hc]
theorem Holds.none (h : Holds all C D G) (s : ByteArray) (hs : ∀ f ∈ G, f.s ≠ s) : getA (goodA all) s = ([], 6) := by
  have hh : hasE C.2 s = false := by
    cases q : hasE C.2 s with
    | false => rfl
    | true => obtain ⟨f, hf, e⟩ := (h.has s).1 q; exact absurd e (hs f hf)
  have hfi : catFind C s = (nilE, 6) := by rw [catFind, if_pos h.chk, find_none C.2 s hh _ (Nat.le_refl _)]; rfl
  rw [getA, h.opn, if_pos rfl, getC, hfi, if_neg (by decide)]

theorem dat_cut (F : List Fi) (j : Nat) : ∀ k, j < k → cut (datN F k) (sumF F j) (sumF F j + (fi F j).d.size) = (fi F j).d.data.toList
  | 0, h => absurd h (Nat.not_lt_zero _)
  | k + 1, h => by
    rw [datN]
    by_cases e : j = k
    · subst e
      have hl := datN_len F j
      rw [cut, ← hl, List.take_append, List.take_of_length_le (Nat.le_add_right _ _), List.drop_append, List.drop_of_length_le (Nat.le_refl _)]
      simp only [List.nil_append, Nat.sub_self, List.drop_zero, Nat.add_sub_cancel_left]
      exact List.take_of_length_le (by rw [ba_len]; exact Nat.le_refl _)
    · rw [cut_app _ _ _ _ (by rw [datN_len]; have : sumF F (j + 1) ≤ sumF F k := sumF_le F _ _ (by omega); exact this)]
      exact dat_cut F j k (by omega)
theorem atB_mono (L : List Bk) (i j : Nat) (h : i ≤ j) : atB L i ≤ atB L j := by
  induction j with
  | zero => obtain rfl : i = 0 := by omega
            exact Nat.le_refl _
  | succ j ih =>
    by_cases e : i = j + 1
    · rw [e]; exact Nat.le_refl _
    · rw [atB_succ]; have := ih (by omega); omega
/-- Files are added: the archive holds them too. -/
theorem Holds.add (h : Holds all C D G) (F : List Fi) (hf : filChk F = 0) (ht : takN C F F.length = false) (hu : fullA (goodA all) C F = false) :
    ∃ all', addA (goodA all) F = (goodA all', 0) ∧ all'.length = all.length ∧ Holds all' (catA C F) (D ++ [datN F F.length]) (G ++ F) := by
  have hA := h.alls
  have hm := good_may hA
  have hmn : many (goodA all) = all.length := good_many
  have h64 := hA.hi
  have hk := catA_chk (goodA all) C F (by rw [hmn]; exact h64) h.chk hf ht hu
  obtain ⟨_, _, f3, f4⟩ := chk_files F hf
  have hp := pk_len F f3
  have hil := imgC_len _ hk
  have hu' := hu
  simp only [fullA, decide_eq_false_iff_not, not_or, Nat.not_lt, Nat.not_le] at hu'
  obtain ⟨_, u2, u3⟩ := hu'
  rw [hmn] at u3
  obtain ⟨_, _, c3, _⟩ := chk_ok C h.chk
  have hat := blk_at C.1 _ c3
  obtain ⟨s1, r1⟩ := stream_back hA (atC C) (pk F) (by omega) u3
  have hA1 := over_alls hA (atC C) (pk F) _ u3
  have l1 := over_len all (atC C) (pk F) (secs (pk F).length)
  have hp1 := over_pay all (atC C) (pk F) (secs (pk F).length) u3
  generalize over all (atC C) (pk F) (secs (pk F).length) = a1 at s1 r1 hA1 l1 hp1
  have h8 : 0 + secs (imgC (catA C F)).length ≤ a1.length := by rw [hil, l1]; have := hA.lo; unfold secs; omega
  obtain ⟨s2, r2⟩ := stream_back hA1 0 (imgC (catA C F)) (by omega) h8
  have hA2 := over_alls hA1 0 (imgC (catA C F)) _ h8
  have l2 := over_len a1 0 (imgC (catA C F)) (secs (imgC (catA C F)).length)
  have hp2 := over_pay a1 0 (imgC (catA C F)) (secs (imgC (catA C F)).length) h8
  generalize over a1 0 (imgC (catA C F)) (secs (imgC (catA C F)).length) = a2 at s2 r2 hA2 l2 hp2
  have q8 : secs (imgC (catA C F)).length = 8 := by rw [hil]; rfl
  rw [q8] at hp2
  rw [hil] at r2
  have keep : ∀ j, 8 ≤ j → pay a2 j = pay a1 j := fun j hj => by rw [hp2, if_neg (by omega)]
  refine ⟨a2, ?_, by rw [l2, l1], hA2, ?_, hk, by simp [catA, h.len], fun i hi => ?_, fun f hfm => ?_, fun x hx => ?_, ?_⟩
  · rw [addA, h.opn, if_pos rfl, addC, if_pos hf, if_neg (by rw [ht]; decide), if_neg (by rw [hu]; decide), outA, s1]
    dsimp only
    rw [show ((0 : Nat) : Int) = 0 from rfl] at s2
    rw [s2]
  · exact r2
  · have e1 : (catA C F).1.length = C.1.length + 1 := by simp [catA]
    rw [e1] at hi
    by_cases e : i = C.1.length
    · subst e
      have eb : bk (catA C F).1 C.1.length = ⟨atC C, (pk F).length⟩ := bk_end _ _
      rw [eb, ← h.len, dat_end]
      refine ⟨?_, by rw [datN_len]; exact f3⟩
      show stRead (goodA a2) (atC C : Int) ((pk F).length : Int) = _
      rw [good_same hA2 hA1 (by rw [l2]) (atC C : Int) ((pk F).length : Int) (fun _ j h1 _ => keep j (by rw [Int.toNat_natCast] at h1; have : 8 ≤ atC C := hat.1; omega)), r1]
      rfl
    · have hi' : i < C.1.length := by omega
      have eb : bk (catA C F).1 i = bk C.1 i := bk_app _ _ _ hi'
      rw [eb, dat_app D _ i (by rw [h.len]; exact hi')]
      obtain ⟨b1, b2⟩ := h.blk i hi'
      refine ⟨?_, b2⟩
      rw [← b1]
      obtain ⟨z1, ⟨z2, z3⟩, z4⟩ := (bkOk_iff C.1 i).1 (blk_ok C.1 _ c3 i hi')
      have z5 := blk_ok C.1 _ c3
      have z6 : 8 ≤ atB C.1 i := atB_mono C.1 0 i (Nat.zero_le _)
      have z7 : atB C.1 i + secs (bk C.1 i).n.toNat ≤ atC C := by have := atB_mono C.1 (i + 1) C.1.length (by omega); rw [atB_succ] at this; exact this
      refine good_same hA2 hA (by rw [l2, l1]) _ _ (fun _ j h1 h2 => ?_)
      rw [z1, Int.toNat_natCast] at h1 h2
      rw [keep j (by omega), hp1, if_neg (by omega)]
  · rcases List.mem_append.1 hfm with q | q
    · obtain ⟨x, hx, e, B, P, N, e1, e2, e3, hB, hl, hc⟩ := h.ent f q
      refine ⟨x, (insAll_perm _ _).mem_iff.2 (List.mem_append_left _ hx), e, B, P, N, e1, e2, e3, by rw [List.length_append]; omega, ?_, ?_⟩
      · rw [dat_app D _ B hB]; exact hl
      · rw [dat_app D _ B hB]; exact hc
    · obtain ⟨j, hj, rfl⟩ := List.getElem_of_mem q
      rw [← fi_lt F j hj]
      refine ⟨entOf F C.1.length j, (insAll_perm _ _).mem_iff.2 (List.mem_append_right _ (entsN_has F _ _ j hj)), rfl, C.1.length, sumF F j, (fi F j).d.size, rfl, rfl, rfl, by rw [List.length_append, h.len]; simp, ?_, ?_⟩
      · rw [← h.len, dat_end, datN_len]; exact sumF_le F (j + 1) F.length hj
      · rw [← h.len, dat_end]; exact dat_cut F j F.length hj
  · have hx' := (insAll_perm C.2 (entsN F C.1.length F.length)).mem_iff.1 hx
    rcases List.mem_append.1 hx' with q | q
    · obtain ⟨f, hf', e⟩ := h.nms x q
      exact ⟨f, List.mem_append_left _ hf', e⟩
    · obtain ⟨j, hj, rfl⟩ := entsN_mem F _ _ x q
      exact ⟨fi F j, List.mem_append_right _ (by rw [fi_lt F j hj]; exact List.getElem_mem _), rfl⟩
  · show (insAll _ _).length = _
    rw [insAll_len, entsN_len, List.length_append, h.cnt]
end
theorem zero_chunk (n i : Nat) : chunk (List.replicate n (0 : UInt8)) i = List.replicate (min 24 (n - 24 * i)) 0 := by
  simp [chunk]
theorem nilC_chk : catChk nilC = 0 := rfl
theorem nilC_img : imgC nilC = List.replicate 192 0 := by
  rw [imgC, show encB nilC = [0, 0] from rfl]
  rfl
/-- An archive that is new holds nothing. -/
theorem holds_new (n : Nat) (h1 : 16 ≤ n) (h2 : n ≤ 64) (h3 : n % 2 = 0) : Holds (zeroRows n) nilC [] [] := by
  have hA := zeros_alls n h1 h2 h3
  have hl : (zeroRows n).length = n := by simp [zeroRows]
  refine ⟨hA, ?_, nilC_chk, rfl, fun i hi => absurd hi (Nat.not_lt_zero _), fun f hf => (by cases hf), fun x hx => (by cases hx), rfl⟩
  rw [nilC_img]
  have q8 : secs (List.replicate 192 (0 : UInt8)).length = 8 := by rw [List.length_replicate]; rfl
  obtain ⟨_, r⟩ := stream_back hA 0 (List.replicate 192 0) (by rw [List.length_replicate]; omega) (by rw [q8, hl]; omega)
  have hA1 := over_alls hA 0 (List.replicate 192 0) 8 (by rw [hl]; omega)
  have l1 := over_len (zeroRows n) 0 (List.replicate 192 0) 8
  have hp := over_pay (zeroRows n) 0 (List.replicate 192 0) 8 (by rw [hl]; omega)
  rw [q8] at r
  rw [List.length_replicate] at r
  generalize over (zeroRows n) 0 (List.replicate 192 0) 8 = a1 at r hA1 l1 hp
  rw [good_same hA hA1 l1.symm 0 192 (fun _ j _ h2 => ?_)]
  · exact r
  · have hj : j < 8 := by simpa [secs] using h2
    rw [hp, if_pos (by omega), zero_chunk, zeros_pay n j (by omega), show min 24 (192 - 24 * (j - 0)) = 24 by omega, pad_full _ (by simp)]
end Go.Proofs.YtkhjmfngeidlcabGreatDoor

/- Files by the names f0, f1 ..: they may be added; what an archive answers behind that. -/
namespace Go.Proofs.YtkhjmfngeidlcabGreatDoor
open Go.RowKit

def fName (j : Nat) : ByteArray := str [102, byt ((48 + j : Nat) : Int)]
theorem fname_may (j : Nat) (h : j < 10) : nameMay (fName j) = true := by
  have hb := byt_nat ((48 + j : Nat) : Int) (by omega) (by omega)
  unfold nameMay fName
  rw [str_size, str_list, show [102, byt ((48 + j : Nat) : Int)].length = 2 from rfl]
  simp only [List.all_cons, List.all_nil, Bool.and_true, okB, hb]
  have e1 : decide (48 ≤ ((48 + j : Nat) : Int) ∧ ((48 + j : Nat) : Int) ≤ 57) = true := decide_eq_true (by omega)
  rw [e1, Bool.or_true, Bool.and_true]
  decide
theorem fname_inj {i j : Nat} (hi : i < 10) (hj : j < 10) (h : fName i = fName j) : i = j := by
  have q := str_inj h
  simp only [List.cons.injEq, and_true, true_and] at q
  have h1 := byt_nat ((48 + i : Nat) : Int) (by omega) (by omega)
  have h2 := byt_nat ((48 + j : Nat) : Int) (by omega) (by omega)
  rw [q] at h1
  omega
theorem fname_zz (j : Nat) : fName j ≠ ⟨#[122, 122]⟩ := fun h => by
  have q := str_inj (h.trans (show (⟨#[122, 122]⟩ : ByteArray) = str [122, 122] from rfl))
  simp at q
/-- Files that are named by their numbers, from a first one on. -/
def Named (F : List Fi) (first : Nat) : Prop := ∀ i, i < F.length → (fi F i).s = fName (first + i) ∧ (fi F i).d.size ≤ 200
theorem named_sum (F : List Fi) (first : Nat) (h : Named F first) : ∀ k, k ≤ F.length → sumF F k ≤ 200 * k
  | 0, _ => Nat.le_refl _
  | k + 1, hk => by
    have := named_sum F first h k (by omega)
    have := (h k (by omega)).2
    rw [sumF]; omega
theorem named_chk (F : List Fi) (first : Nat) (h : Named F first) (h1 : 1 ≤ F.length) (h3 : F.length ≤ 3) (h10 : first + F.length ≤ 10) : filChk F = 0 := by
  have hn : ∀ k, k ≤ F.length → filN F k = 0 := by
    intro k
    induction k with
    | zero => intro _; rfl
    | succ k ih =>
      intro hk
      obtain ⟨e, hd⟩ := h k (by omega)
      have hh : hasF F (fi F k).s k = false := by
        cases q : hasF F (fi F k).s k with
        | false => rfl
        | true =>
          obtain ⟨j, hj, e2⟩ := (hasF_iff F _ k).1 q
          rw [e, (h j (by omega)).1] at e2
          have := fname_inj (by omega) (by omega) e2
          omega
      rw [fil_succ F k (ih (by omega)), filOne, if_pos (by rw [e]; exact fname_may _ (by omega)), if_neg (by omega), if_neg (by rw [hh]; decide)]
  have hs := named_sum F first h F.length (Nat.le_refl _)
  rw [filChk, if_pos ⟨h1, by omega⟩, if_pos (hn _ (Nat.le_refl _)), if_neg (by omega)]
theorem Named.take {F : List Fi} {first : Nat} (h : Named F first) (k : Nat) : Named (F.take k) first := by
  intro i hi
  rw [List.length_take] at hi
  have e : fi (F.take k) i = fi F i := by simp [fi, show i < k by omega]
  rw [e]
  exact h i (by omega)
theorem tak_none (F : List Fi) : ∀ k, takN nilC F k = false
  | 0 => rfl
  | k + 1 => by rw [takN, tak_none F k]; rfl
theorem tak_some (C : Ct) (F : List Fi) (k j : Nat) (hj : j < k) (h : hasE C.2 (fi F j).s = true) : takN C F k = true := tak_mono C F (j + 1) k (by rw [takN, h, Bool.or_true]) hj
section
variable {all : List (List UInt8)} {C : Ct} {D : List (List UInt8)} {G : List Fi}
/-- A file of a name that there is already is refused. -/
theorem Holds.twice (h : Holds all C D G) (F : List Fi) (hf : filChk F = 0) (ht : takN C F F.length = true) : addA (goodA all) F = ([], 7) := by
  rw [addA, h.opn, if_pos rfl, addC, if_pos hf, if_pos ht]
theorem Holds.full (h : Holds all C D G) (F : List Fi) (hf : filChk F = 0) (ht : takN C F F.length = false) (hu : fullA (goodA all) C F = true) : addA (goodA all) F = ([], 8) := by
  rw [addA, h.opn, if_pos rfl, addC, if_pos hf, if_neg (by rw [ht]; decide), if_pos hu]
/-- The names, in their order. -/
theorem Holds.names (h : Holds all C D G) : (namesE C.2).length = G.length ∧ (∀ f ∈ G, f.s ∈ namesE C.2) ∧ (namesE C.2).Pairwise fun s t => lss s t = true := by
  refine ⟨by rw [namesE, List.length_map, h.cnt], fun f hf => ?_, ?_⟩
  · obtain ⟨x, hx, e⟩ := h.ent f hf
    exact List.mem_map.2 ⟨x, hx, e.1⟩
  · rw [namesE, List.pairwise_map]
    exact chk_srt C h.chk
end
/-- All that ArchivesBack asks, of files that are put into an archive that is new. -/
theorem arc_back (M : Nat) (h1 : 16 ≤ M) (h2 : M ≤ 64) (h3 : M % 2 = 0) (F : List Fi) (h : Named F 0) (hn : 1 ≤ F.length) (hn3 : F.length ≤ 3) :
    addA (goodA (zeroRows M)) F = ([], 8) ∨ ∃ all', addA (goodA (zeroRows M)) F = (goodA all', 0) ∧ addA (goodA all') (F.take 1) = ([], 7) ∧ getA (goodA all') ⟨#[122, 122]⟩ = ([], 6) ∧ (opn (goodA all')).2 = 0 ∧ Alls all' ∧
      (∀ i, i < F.length → getA (goodA all') (fi F i).s = ((fi F i).d.data.toList, 0)) ∧ (namesE (opn (goodA all')).1.2).length = F.length ∧ (∀ i, i < F.length → (fi F i).s ∈ namesE (opn (goodA all')).1.2) ∧ (namesE (opn (goodA all')).1.2).Pairwise fun s t => lss s t = true := by
  have H := holds_new M h1 h2 h3
  have hf := named_chk F 0 h hn hn3 (by omega)
  have ht := tak_none F F.length
  cases hu : fullA (goodA (zeroRows M)) nilC F with
  | true => exact .inl (H.full F hf ht hu)
  | false =>
    obtain ⟨all', e, _, H'⟩ := H.add F hf ht hu
    have mem : ∀ i, i < F.length → fi F i ∈ ([] : List Fi) ++ F := fun i hi => by rw [List.nil_append, fi_lt F i hi]; exact List.getElem_mem _
    have hl1 : (F.take 1).length = 1 := by rw [List.length_take]; omega
    obtain ⟨n1, n2, n3⟩ := H'.names
    refine .inr ⟨all', e, H'.twice _ (named_chk _ 0 (h.take 1) (by omega) (by omega) (by omega)) (tak_some _ _ _ 0 (by omega) ?_), H'.none _ fun f hfm => ?_, by rw [H'.opn], H'.alls, fun i hi => H'.get _ (mem i hi), ?_, fun i hi => ?_, ?_⟩
    · refine (H'.has _).2 ⟨fi F 0, mem 0 (by omega), ?_⟩
      rw [((h.take 1) 0 (by omega)).1, (h 0 (by omega)).1]
    · rw [List.nil_append] at hfm
      obtain ⟨j, hj, rfl⟩ := List.getElem_of_mem hfm
      rw [← fi_lt F j hj, (h j hj).1]
      exact fname_zz _
    · rw [H'.opn]; exact n1
    · rw [H'.opn]; exact n2 _ (mem i hi)
    · rw [H'.opn]; exact n3
end Go.Proofs.YtkhjmfngeidlcabGreatDoor
