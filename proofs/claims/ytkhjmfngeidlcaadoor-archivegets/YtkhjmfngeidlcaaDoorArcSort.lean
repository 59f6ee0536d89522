/- Entries in the order of their names, purely: one is put at its place; what is sorted is one list. -/
import Derived.Test.YtkhjmfngeidlcaaDoorPureB
import Derived.Lib.Bytealg
namespace Go.Proofs.YtkhjmfngeidlcaaDoor
open Go.RowKit

/-- Is the one text below the other? -/
def lss (s t : ByteArray) : Bool := Op.bytesLess s.toList t.toList
theorem bl_irr : ∀ l : List UInt8, Op.bytesLess l l = false
  | [] => rfl
  | a :: x => by simp [Op.bytesLess, bl_irr x]
theorem bl_trans : ∀ a b c : List UInt8, Op.bytesLess a b = true → Op.bytesLess b c = true → Op.bytesLess a c = true
  | _, [], _, h, _ => by simp [Op.bytesLess] at h
  | _, _ :: _, [], _, h => by simp [Op.bytesLess] at h
  | [], _ :: _, _ :: _, _, _ => by simp [Op.bytesLess]
  | a :: x, b :: y, c :: z, h, h' => by
    simp only [Op.bytesLess, Bool.or_eq_true, decide_eq_true_eq, Bool.and_eq_true, beq_iff_eq] at h h' ⊢
    rcases h with h | ⟨rfl, h⟩
    · rcases h' with h' | ⟨rfl, h'⟩
      · left; exact UInt8.lt_trans h h'
      · left; exact h
    · rcases h' with h' | ⟨rfl, h'⟩
      · left; exact h'
      · right; exact ⟨rfl, bl_trans x y z h h'⟩
theorem bl_tri : ∀ a b : List UInt8, Op.bytesLess a b = false → Op.bytesLess b a = false → a = b
  | [], [], _, _ => rfl
  | [], _ :: _, h, _ => by simp [Op.bytesLess] at h
  | _ :: _, [], _, h => by simp [Op.bytesLess] at h
  | a :: x, b :: y, h, h' => by
    simp only [Op.bytesLess, Bool.or_eq_false_iff, decide_eq_false_iff_not, Bool.and_eq_false_iff, beq_eq_false_iff_ne] at h h'
    have e : a = b := UInt8.le_antisymm (UInt8.not_lt.1 h'.1) (UInt8.not_lt.1 h.1)
    subst e
    have h1 : Op.bytesLess x y = false := by rcases h.2 with q | q; exact absurd rfl q; exact q
    have h2 : Op.bytesLess y x = false := by rcases h'.2 with q | q; exact absurd rfl q; exact q
    rw [bl_tri x y h1 h2]
theorem cmp_less : ∀ a b : List UInt8, decide (Lib.compareBytes a b < 0) = Op.bytesLess a b
  | [], [] => by simp [Lib.compareBytes, Op.bytesLess]
  | [], _ :: _ => by simp [Lib.compareBytes, Op.bytesLess]
  | _ :: _, [] => by simp [Lib.compareBytes, Op.bytesLess]
  | a :: x, b :: y => by
    have ih := cmp_less x y
    simp only [Op.bytesLess]
    by_cases h : a < b
    · simp [Lib.compareBytes, h]
    · by_cases h2 : b < a
      · have h3 : a ≠ b := fun e => by subst e; exact h h2
        simp [Lib.compareBytes, h, h2, h3]
      · have e : a = b := UInt8.le_antisymm (UInt8.not_lt.1 h2) (UInt8.not_lt.1 h)
        subst e
        have e2 : Lib.compareBytes (a :: x) (a :: y) = Lib.compareBytes x y := by simp [Lib.compareBytes, h]
        rw [e2, ih]
        simp
theorem toL_inj {s t : ByteArray} (h : s.toList = t.toList) : s = t := by
  rw [ByteArray.toList_eq, ByteArray.toList_eq] at h
  rw [← str_of s, ← str_of t, h]
theorem lss_irr (s : ByteArray) : lss s s = false := bl_irr _
theorem lss_trans {a b c : ByteArray} (h : lss a b = true) (h' : lss b c = true) : lss a c = true := bl_trans _ _ _ h h'
theorem lss_tri {a b : ByteArray} (h : lss a b = false) (h' : lss b a = false) : a = b := toL_inj (bl_tri _ _ h h')
theorem lss_asym {a b : ByteArray} (h : lss a b = true) : lss b a = false := by
  cases h' : lss b a with
  | false => rfl
  | true => have := lss_trans h h'; rw [lss_irr] at this; cases this
theorem above_iff (s t : ByteArray) : notAbove s t = false ↔ lss t s = true := by
  unfold notAbove
  constructor
  · intro h
    rw [Bool.or_eq_false_iff] at h
    cases h' : lss t s with
    | true => rfl
    | false =>
      have e := lss_tri h' h.1
      subst e
      have := h.2
      simp at this
  · intro h
    rw [Bool.or_eq_false_iff]
    refine ⟨lss_asym h, ?_⟩
    rw [beq_eq_false_iff_ne]
    intro e
    have := toL_inj e
    subst this
    rw [lss_irr] at h; cases h
theorem above_true (s t : ByteArray) (h : notAbove s t = true) (hne : s ≠ t) : lss s t = true := by
  cases h' : lss s t with
  | true => rfl
  | false =>
    cases h2 : lss t s with
    | true => rw [(above_iff s t).2 h2] at h; cases h
    | false => exact absurd (lss_tri h' h2) hne

/-- An entry put ahead of the first one that is above it. -/
def insE : List En → En → List En
  | [], x => [x]
  | y :: r, x => if notAbove y.s x.s = true then y :: insE r x else x :: y :: r
def insAll (E N : List En) : List En := N.foldl insE E
/-- Is one of these above it? -/
def grt (E : List En) (x : En) : Bool := E.any fun y => !notAbove y.s x.s
theorem ins_none (E : List En) (x : En) (h : grt E x = false) : insE E x = E ++ [x] := by
  induction E with
  | nil => rfl
  | cons y r ih =>
    simp only [grt, List.any_cons, Bool.or_eq_false_iff, Bool.not_eq_false'] at h
    rw [insE, if_pos h.1, ih h.2]; rfl
theorem ins_app (E R : List En) (x : En) (h : grt E x = true) : insE (E ++ R) x = insE E x ++ R := by
  induction E with
  | nil => simp [grt] at h
  | cons y r ih =>
    rw [List.cons_append, insE, insE]
    by_cases hy : notAbove y.s x.s = true
    · rw [if_pos hy, if_pos hy, List.cons_append, ih]
      simpa [grt, hy] using h
    · rw [if_neg hy, if_neg hy]; rfl
theorem grt_snoc (E : List En) (y x : En) : grt (E ++ [y]) x = (grt E x || !notAbove y.s x.s) := by simp [grt]
/-- One step of it: at an entry that is the first above. -/
theorem ins_here (E : List En) (y x : En) (h : grt E x = false) (hy : notAbove y.s x.s = false) : insE (E ++ [y]) x = E ++ [x] ++ [y] := by
  induction E with
  | nil => simp [insE, hy]
  | cons z r ih =>
    simp only [grt, List.any_cons, Bool.or_eq_false_iff, Bool.not_eq_false'] at h
    rw [List.cons_append, insE, if_pos h.1, ih h.2]; rfl
theorem ins_perm (E : List En) (x : En) : (insE E x).Perm (x :: E) := by
  induction E with
  | nil => exact List.Perm.refl _
  | cons y r ih =>
    rw [insE]
    split
    · exact (List.Perm.cons y ih).trans (List.Perm.swap x y r)
    · exact List.Perm.refl _
theorem insAll_snoc (E N : List En) (x : En) : insAll E (N ++ [x]) = insE (insAll E N) x := by simp [insAll]
theorem insAll_perm (E N : List En) : (insAll E N).Perm (E ++ N) := by
  induction N generalizing E with
  | nil => simp [insAll]
  | cons x N ih =>
    show (insAll (insE E x) N).Perm _
    refine (ih _).trans ?_
    refine ((ins_perm E x).append_right N).trans ?_
    exact List.perm_middle.symm
theorem ins_len (E : List En) (x : En) : (insE E x).length = E.length + 1 := by rw [(ins_perm E x).length_eq]; rfl
theorem insAll_len (E N : List En) : (insAll E N).length = E.length + N.length := by rw [(insAll_perm E N).length_eq, List.length_append]

/-- Each below those behind it. -/
def Srt (E : List En) : Prop := E.Pairwise fun x y => lss x.s y.s = true
/-- Is there one of this name? -/
def hasE (E : List En) (s : ByteArray) : Bool := E.any fun y => y.s.toList == s.toList
theorem hasE_iff (E : List En) (s : ByteArray) : hasE E s = true ↔ ∃ y ∈ E, y.s = s := by
  simp only [hasE, List.any_eq_true, beq_iff_eq]
  constructor
  · rintro ⟨y, hy, h⟩; exact ⟨y, hy, toL_inj h⟩
  · rintro ⟨y, hy, h⟩; exact ⟨y, hy, by rw [h]⟩
theorem hasE_perm {E E' : List En} (h : E.Perm E') (s : ByteArray) : hasE E s = hasE E' s := by
  rw [Bool.eq_iff_iff, hasE_iff, hasE_iff]
  constructor
  · rintro ⟨y, hy, e⟩; exact ⟨y, h.mem_iff.1 hy, e⟩
  · rintro ⟨y, hy, e⟩; exact ⟨y, h.mem_iff.2 hy, e⟩
theorem ins_srt (E : List En) (x : En) (h : Srt E) (hx : hasE E x.s = false) : Srt (insE E x) := by
  induction E with
  | nil => exact List.pairwise_singleton _ _
  | cons y r ih =>
    obtain ⟨h1, h2⟩ := List.pairwise_cons.1 h
    have hne : y.s ≠ x.s := fun e => by
      have : hasE (y :: r) x.s = true := (hasE_iff _ _).2 ⟨y, List.mem_cons_self, e⟩
      rw [this] at hx; cases hx
    have hr : hasE r x.s = false := by
      cases hh : hasE r x.s with
      | false => rfl
      | true =>
        obtain ⟨z, hz, e⟩ := (hasE_iff _ _).1 hh
        have : hasE (y :: r) x.s = true := (hasE_iff _ _).2 ⟨z, List.mem_cons_of_mem _ hz, e⟩
        rw [this] at hx; cases hx
    rw [insE]
    split
    · rename_i hy
      refine List.pairwise_cons.2 ⟨fun z hz => ?_, ih h2 hr⟩
      rcases List.mem_cons.1 ((ins_perm r x).mem_iff.1 hz) with rfl | hz
      · exact above_true _ _ hy hne
      · exact h1 z hz
    · rename_i hy
      have hyx : lss x.s y.s = true := (above_iff _ _).1 (by simpa using hy)
      refine List.pairwise_cons.2 ⟨fun z hz => ?_, h⟩
      rcases List.mem_cons.1 hz with rfl | hz
      · exact hyx
      · exact lss_trans hyx (h1 z hz)
/-- What is sorted, and a permutation of entries with names of their own, is one list. -/
theorem srt_one (E X : List En) (hp : E.Perm X) (hX : Srt X) (hE : E.Pairwise fun x y => lss y.s x.s = false) : E = X := by
  refine List.Perm.eq_of_pairwise (le := fun x y : En => lss y.s x.s = false) (fun a b ha hb h1 h2 => ?_) hE (hX.imp fun h => lss_asym h) hp
  have e := lss_tri h2 h1
  have ha' : a ∈ X := hp.mem_iff.1 ha
  clear h1 h2 ha hp hE
  induction X with
  | nil => cases hb
  | cons y r ih =>
    obtain ⟨q1, q2⟩ := List.pairwise_cons.1 hX
    rcases List.mem_cons.1 ha' with e1 | ha2
    · rcases List.mem_cons.1 hb with e2 | hb2
      · rw [e1, e2]
      · have := q1 b hb2; rw [← e1, e, lss_irr] at this; cases this
    · rcases List.mem_cons.1 hb with e2 | hb2
      · have := q1 a ha2; rw [← e2, e, lss_irr] at this; cases this
      · exact ih q2 hb2 ha2
end Go.Proofs.YtkhjmfngeidlcaaDoor
