/- While the document reads bytes as a catalog: its memory, and what is read so far. -/
import Derived.Test.YtelgpiedchnncabDoorCatRefRd
import Derived.Deep.RegionWith
import Derived.Deep.DeepCutAuto
namespace Go.Proofs.YtelgpiedchnncabDoor
open Go.RowKit Go.Lib

theorem NX.mono {S : ByteArray} {I I' : Nat} {b b' : Bool} {x : Int} (h : NX S I b x I' b') (hb : b' = false) : b = false := by
  rcases h with ⟨_, _, _, rfl⟩ | ⟨_, _, _, rfl⟩
  · exact hb
  · cases hb
theorem rent1_st (r : Rd) : (rent1 r).2 = (e4 r).2 := by simp only [rent1]
/-- One entry. -/
theorem ent_short (S : ByteArray) (I I0 x0 : Nat) (b0 : Bool) (h : NX S I false x0 I0 b0) (hI : I ≤ S.size) (hs : S.size < I0 + x0) : (rent1 (rst S I false)).2.2 = true := by
  have hl := h.le hI
  have q : (e1 (rst S I false)).2.2 = true := by
    rw [e1, h.num hI, Int.toNat_natCast, tk_no _ _ (by rw [rst_len]; omega)]
  have g := e4_short _ (e3_short _ (e2_short _ q))
  rw [rent1_st]
  exact g
theorem ent_chain (S : ByteArray) (I I0 x0 I1 I2 I3 I4 : Nat) (b0 b1 b2 b3 b4 : Bool) (y1 y2 y3 y4 : Int) (h : NX S I false x0 I0 b0) (hI : I ≤ S.size) (hs : I0 + x0 ≤ S.size) (h1 : NX S (I0 + x0) b0 y1 I1 b1) (h2 : NX S I1 b1 y2 I2 b2) (h3 : NX S I2 b2 y3 I3 b3) (h4 : NX S I3 b3 y4 I4 b4) :
    (b4 = false → rent1 (rst S I false) = (⟨S.extract I0 (I0 + x0), y1, 256 * y2 + y3, y4⟩, rst S I4 false)) ∧ (b4 = true → (rent1 (rst S I false)).2.2 = true) := by
  have q1 : e1 (rst S I false) = ((S.data.toList.drop I0).take x0, rst S (I0 + x0) b0) := by
    rw [e1, h.num hI, Int.toNat_natCast, tk_yes _ _ (by rw [rst_len]; omega)]
    simp [rst, List.drop_drop]
  have l1 := h1.le hs
  have l2 := h2.le l1
  have l3 := h3.le l2
  have q2 : e2 (rst S I false) = (y1, rst S I1 b1) := by
    have g := h1.num hs
    unfold e2
    rw [q1]
    exact g
  rw [rent1_st]
  have R : rent1 (rst S I false) = (⟨str (e1 (rst S I false)).1, (e2 (rst S I false)).1, (e3 (rst S I false)).1, (e4 (rst S I false)).1⟩, (e4 (rst S I false)).2) := rfl
  cases hb1 : b1 with
  | true =>
    have s3 : (e3 (rst S I false)).2.2 = true := e3_short _ (by rw [q2, hb1]; rfl)
    have s4 := e4_short _ s3
    refine ⟨fun hb => ?_, fun _ => s4⟩
    have := h2.mono (h3.mono (h4.mono hb))
    rw [hb1] at this
    cases this
  | false =>
    rw [hb1] at h2
    have q3 := h2.two h3 l1
    cases hb3 : b3 with
    | true =>
      have s3 : (e3 (rst S I false)).2.2 = true := by
        have g := q3.2 hb3
        unfold e3
        rw [q2, hb1]
        exact g
      have s4 := e4_short _ s3
      refine ⟨fun hb => ?_, fun _ => s4⟩
      have := h4.mono hb
      rw [hb3] at this
      cases this
    | false =>
      have e3' : e3 (rst S I false) = (256 * y2 + y3, rst S I3 false) := by
        have g := q3.1 hb3
        unfold e3
        rw [q2, hb1]
        exact g
      rw [hb3] at h4
      have q4 : e4 (rst S I false) = (y4, rst S I4 b4) := by
        have g := h4.num l3
        unfold e4
        rw [e3']
        exact g
      refine ⟨fun hb => ?_, fun hb => ?_⟩
      · rw [R, q1, q2, e3', q4, hb, ext_str]
        have g : cut S.data.toList I0 (I0 + x0) = (S.data.toList.drop I0).take x0 := by rw [cut, List.drop_take, Nat.add_sub_cancel_left]
        rw [g]
      · rw [q4, hb]; rfl

/-- While the document reads a catalog: its five boxes and two rows. -/
structure RfI (w0 : World) (S : ByteArray) (I : Nat) (b : Bool) (v1 v2 : Value) (L : List Bk) (E : List En) (w : World) : Prop where
  ps : Own w w0.heap.size 9 [.string S]
  res : Own w (w0.heap.size + 1) 25 [.slice none 0 0, .slice none 0 0]
  i : Own w (w0.heap.size + 1 + 1) 3 [.int .i64 I]
  sh : Own w (w0.heap.size + 1 + 1 + 1) 4 [.bool b]
  box : Own w (w0.heap.size + 1 + 1 + 1 + 1) 25 [v1, v2]
  K : ownsK w (w0.heap.size + 5) v1 L
  N : ownsE w (w0.heap.size + 5) v2 E
  below : Below w0.heap.size w0 w
  size : w0.heap.size + 5 ≤ w.heap.size
section
variable {w0 w w' : World} {S : ByteArray} {I I' : Nat} {b b' : Bool} {v1 v2 v' : Value} {L L' : List Bk} {E E' : List En}
theorem RfI.next (h : RfI w0 S I b v1 v2 L E w) (hi : Own w' (w0.heap.size + 1 + 1) 3 [.int .i64 (I' : Nat)]) (hb : Own w' (w0.heap.size + 1 + 1 + 1) 4 [.bool b']) (hc : Chg (fun k => k = w0.heap.size + 1 + 1 ∨ k = w0.heap.size + 1 + 1 + 1) w w') : RfI w0 S I' b' v1 v2 L E w' :=
  ⟨hc.own h.ps (by omega), hc.own h.res (by omega), hi, hb, hc.own h.box (by omega), hc.row h.K (fun g hg => by omega), hc.row h.N (fun g hg => by omega), h.below.trans (hc.below (by have := h.size; omega) (fun k hk => by omega)), Nat.le_trans h.size hc.size⟩
theorem RfI.to (h : RfI w0 S I b v1 v2 L E w) (g : Below w.heap.size w w') : RfI w0 S I b v1 v2 L E w' := h.next (h.i.below' g) (h.sh.below' g) (chg_below _ g)
theorem RfI.drew (h : RfI w0 S I b v1 v2 L E w) : RfI w0 S I b v1 v2 L E w.drew := ⟨h.ps, h.res, h.i, h.sh, h.box, h.K, h.N, h.below.drew, h.size⟩
theorem RfI.setI (h : RfI w0 S I b v1 v2 L E w) (x : Int) (hx : x = (I' : Nat)) : RfI w0 S I' b v1 v2 L E (w.setCell ⟨w0.heap.size + 1 + 1, 0, none⟩ (.int .i64 x)) := by
  subst hx
  have hc := chg_set w (w0.heap.size + 1 + 1) 0 (.int .i64 (I' : Nat))
  exact h.next (h.i.set (i := 0) (by simp) _) (hc.own h.sh (by omega)) ⟨hc.os, hc.tape, hc.output, hc.size, fun k hk hp => hc.block k hk (fun e => hp (.inl e))⟩
theorem RfI.setB (h : RfI w0 S I b v1 v2 L E w) : RfI w0 S I true v1 v2 L E (w.setCell ⟨w0.heap.size + 1 + 1 + 1, 0, none⟩ (.bool true)) := by
  have hc := chg_set w (w0.heap.size + 1 + 1 + 1) 0 (.bool true)
  exact h.next (hc.own h.i (by omega)) (h.sh.set (i := 0) (by simp) _) ⟨hc.os, hc.tape, hc.output, hc.size, fun k hk hp => hc.block k hk (fun e => hp (.inr e))⟩
/-- A store into other memory, from the sixth block on, that holds no row. -/
theorem RfI.far (h : RfI w0 S I b v1 v2 L E w) {p o : Nat} (hp : w0.heap.size + 5 ≤ p) (v : Value) (hk : ∀ g, v1.ownBlock = some g → g ≠ p) (he : ∀ g, v2.ownBlock = some g → g ≠ p) : RfI w0 S I b v1 v2 L E (w.setCell ⟨p, o, none⟩ v) := by
  have hc := chg_set w p o v
  refine ⟨hc.own h.ps (by omega), hc.own h.res (by omega), hc.own h.i (by omega), hc.own h.sh (by omega), hc.own h.box (by omega), ?_, ?_, h.below.setCell (by show w0.heap.size ≤ p; omega) v, Nat.le_trans h.size hc.size⟩
  · refine ⟨h.K.1, ?_⟩
    rcases h.K.2 with h0 | ⟨g, cap, cur, hv, hg, hh, h1, h2, h3, h4⟩
    · exact .inl h0
    · exact .inr ⟨g, cap, cur, hv, hg, (hc.block g (lt_of_block hh) (hk g (by rw [hv]; rfl))).trans hh, h1, h2, h3, h4⟩
  · refine ⟨h.N.1, ?_⟩
    rcases h.N.2 with h0 | ⟨g, cap, cur, hv, hg, hh, h1, h2, h3, h4⟩
    · exact .inl h0
    · exact .inr ⟨g, cap, cur, hv, hg, (hc.block g (lt_of_block hh) (he g (by rw [hv]; rfl))).trans hh, h1, h2, h3, h4⟩
theorem rows_apart2 (h : RfI w0 S I b v1 v2 L E w) : ∀ g, v1.ownBlock = some g → v2.ownBlock ≠ some g := by
  intro g e1 e2
  rcases h.K.2 with ⟨rfl, _⟩ | ⟨g1, _, _, rfl, _, hh, _⟩
  · cases e1
  · rcases h.N.2 with ⟨rfl, _⟩ | ⟨g2, _, _, rfl, _, hh2, _⟩
    · cases e2
    · cases e1
      cases e2
      rw [hh] at hh2
      simp at hh2
/-- A row grew by an append, and was stored into the catalog's box. -/
theorem RfI.app0 (h : RfI w0 S I b v1 v2 L E w) (hg : w.grownBy w' v1.ownBlock) (ho : ownsK w' (w0.heap.size + 5) v' L') : Own w' (w0.heap.size + 1 + 1 + 1 + 1) 25 [v1, v2] ∧ RfI w0 S I b v' v2 L' E (w'.setCell ⟨w0.heap.size + 1 + 1 + 1 + 1, 0, none⟩ v') := by
  have hc := chg_grown hg
  have hne : ∀ k, some k = v1.ownBlock → w0.heap.size + 5 ≤ k := fun k hk => (World.ownsRow.lt h.K k hk.symm).1
  have hs := chg_set w' (w0.heap.size + 1 + 1 + 1 + 1) 0 v'
  have hN : ownsE w' (w0.heap.size + 5) v2 E := by
    refine ⟨h.N.1, ?_⟩
    rcases h.N.2 with h0 | ⟨g, cap, cur, hv, hgg, hh, h1, h2, h3, h4⟩
    · exact .inl h0
    · exact .inr ⟨g, cap, cur, hv, hgg, (hc.block g (lt_of_block hh) (fun e => rows_apart2 h g e.symm (by rw [hv]; rfl))).trans hh, h1, h2, h3, h4⟩
  have hb := hc.own h.box (fun e => by have := hne _ e; omega)
  refine ⟨hb, hs.own (hc.own h.ps (fun e => by have := hne _ e; omega)) (by omega), hs.own (hc.own h.res (fun e => by have := hne _ e; omega)) (by omega), hs.own (hc.own h.i (fun e => by have := hne _ e; omega)) (by omega), hs.own (hc.own h.sh (fun e => by have := hne _ e; omega)) (by omega), hb.set (i := 0) (by simp) v', hs.row ho (fun g hg => by omega), hs.row hN (fun g hg => by omega), ?_, Nat.le_trans h.size (Nat.le_trans hc.size hs.size)⟩
  exact (h.below.trans (hc.below (by have := h.size; omega) (fun k hk e => by have := hne _ e; omega))).setCell (by show w0.heap.size ≤ w0.heap.size + 1 + 1 + 1 + 1; omega) v'
theorem RfI.app1 (h : RfI w0 S I b v1 v2 L E w) (hg : w.grownBy w' v2.ownBlock) (ho : ownsE w' (w0.heap.size + 5) v' E') : Own w' (w0.heap.size + 1 + 1 + 1 + 1) 25 [v1, v2] ∧ RfI w0 S I b v1 v' L E' (w'.setCell ⟨w0.heap.size + 1 + 1 + 1 + 1, 1, none⟩ v') := by
  have hc := chg_grown hg
  have hne : ∀ k, some k = v2.ownBlock → w0.heap.size + 5 ≤ k := fun k hk => (World.ownsRow.lt h.N k hk.symm).1
  have hs := chg_set w' (w0.heap.size + 1 + 1 + 1 + 1) 1 v'
  have hK : ownsK w' (w0.heap.size + 5) v1 L := by
    refine ⟨h.K.1, ?_⟩
    rcases h.K.2 with h0 | ⟨g, cap, cur, hv, hgg, hh, h1, h2, h3, h4⟩
    · exact .inl h0
    · exact .inr ⟨g, cap, cur, hv, hgg, (hc.block g (lt_of_block hh) (fun e => rows_apart2 h g (by rw [hv]; rfl) e.symm)).trans hh, h1, h2, h3, h4⟩
  have hb := hc.own h.box (fun e => by have := hne _ e; omega)
  refine ⟨hb, hs.own (hc.own h.ps (fun e => by have := hne _ e; omega)) (by omega), hs.own (hc.own h.res (fun e => by have := hne _ e; omega)) (by omega), hs.own (hc.own h.i (fun e => by have := hne _ e; omega)) (by omega), hs.own (hc.own h.sh (fun e => by have := hne _ e; omega)) (by omega), hb.set (i := 1) (by simp) v', hs.row hK (fun g hg => by omega), hs.row ho (fun g hg => by omega), ?_, Nat.le_trans h.size (Nat.le_trans hc.size hs.size)⟩
  exact (h.below.trans (hc.below (by have := h.size; omega) (fun k hk e => by have := hne _ e; omega))).setCell (by show w0.heap.size ≤ w0.heap.size + 1 + 1 + 1 + 1; omega) v'
end


/-- How far the blocks are read. -/
structure RB (S : ByteArray) (q : Rd) (N k I A : Nat) (b : Bool) (L : List Bk) : Prop where
  len : L.length = k
  le : I ≤ S.size
  yes : b = false → rblk k q = (L, rst S I false) ∧ (A : Int) = behB L
  no : b = true → (rblk N q).2.2 = true
theorem RB.step {S : ByteArray} {q : Rd} {N k I A I1 I2 M : Nat} {b1 b2 : Bool} {L : List Bk} {x y : Int} (h : RB S q N k I A false L) (hk : k < N) (h1 : NX S I false x I1 b1) (h2 : NX S I1 b1 y I2 b2) (hM : 256 * x + y = (M : Int)) : RB S q N (k + 1) I2 (A + secs M) b2 (L ++ [⟨A, M⟩]) := by
  obtain ⟨y1, y2⟩ := h.yes rfl
  have t := h1.two h2 h.le
  have e : rblk (k + 1) q = stB L (rst S I false) := by rw [rblk_succ, y1]
  refine ⟨by rw [List.length_append, h.len]; rfl, h2.le (h1.le h.le), fun hb => ?_, fun hb => ?_⟩
  · have t1 := t.1 hb
    rw [e, stB, t1, hM, ← y2]
    refine ⟨rfl, ?_⟩
    simp [behB]
  · have t1 := t.2 hb
    refine rblk_short (k + 1) N q ?_ hk
    rw [e]
    exact t1
/-- How far the entries are read. -/
structure RE (S : ByteArray) (q : Rd) (N j I : Nat) (b0 b : Bool) (F : Prop) (E : List En) : Prop where
  len : E.length = j
  le : I ≤ S.size
  st : b0 = true → b = true
  yes : b = false → rent j q = (E, rst S I false)
  no : b = true → F
theorem RE.short {S : ByteArray} {q : Rd} {N j I I0 x0 : Nat} {b0 b1 : Bool} {F : Prop} {E : List En} (h : RE S q N j I b0 false F E) (hj : j < N) (hF : (rent N q).2.2 = true → F) (h1 : NX S I false x0 I0 b1) (hs : S.size < I0 + x0) : F := by
  refine hF (rent_short (j + 1) N q ?_ hj)
  have g := ent_short S I I0 x0 b1 h1 h.le hs
  rw [rent_succ, h.yes rfl]
  dsimp only
  generalize rent1 (rst S I false) = X at g ⊢
  exact g
theorem RE.step {S : ByteArray} {q : Rd} {N j I I0 x0 I1 I2 I3 I4 : Nat} {b0 b1 b2 b3 b4 b5 : Bool} {F : Prop} {E : List En} {y1 y2 y3 y4 A : Int} (h : RE S q N j I b0 false F E) (hj : j < N) (hF : (rent N q).2.2 = true → F) (h0 : NX S I false x0 I0 b1) (hs : I0 + x0 ≤ S.size) (h1 : NX S (I0 + x0) b1 y1 I1 b2) (h2 : NX S I1 b2 y2 I2 b3) (h3 : NX S I2 b3 y3 I3 b4) (h4 : NX S I3 b4 y4 I4 b5) (hA : 256 * y2 + y3 = A) : RE S q N (j + 1) I4 b0 b5 F (E ++ [⟨S.extract I0 (I0 + x0), y1, A, y4⟩]) := by
  have t := ent_chain S I I0 x0 I1 I2 I3 I4 b1 b2 b3 b4 b5 y1 y2 y3 y4 h0 h.le hs h1 h2 h3 h4
  rw [hA] at t
  refine ⟨by rw [List.length_append, h.len]; rfl, h4.le (h3.le (h2.le (h1.le hs))), fun e => ?_, fun hb => ?_, fun hb => hF (rent_short (j + 1) N q ?_ hj)⟩
  · have := h.st e
    cases this
  · have t1 := t.1 hb
    rw [rent_succ, h.yes rfl]
    dsimp only
    generalize rent1 (rst S I false) = X at t1 ⊢
    rw [t1]
  · have t1 := t.2 hb
    rw [rent_succ, h.yes rfl]
    dsimp only
    generalize rent1 (rst S I false) = X at t1 ⊢
    exact t1
theorem zeros_snoc (S : ByteArray) (I J : Nat) (hIJ : I ≤ J) (h : J < S.size) (hz : zeros ((S.data.toList.drop I).take (J - I)) = true) (h0 : S[J] = 0) : zeros ((S.data.toList.drop I).take (J + 1 - I)) = true := by
  rw [show J + 1 - I = (J - I) + 1 by omega, List.take_succ_eq_append_getElem (by simp; omega)]
  unfold zeros at hz ⊢
  rw [List.all_append, hz]
  have e : (S.data.toList.drop I)[J - I]'(by simp; omega) = S[J] := by
    rw [List.getElem_drop]
    have : I + (J - I) = J := by omega
    simp only [this]
    rfl
  simp [e, h0]
theorem zeros_bad (S : ByteArray) (I J : Nat) (hIJ : I ≤ J) (h : J < S.size) (h0 : S[J] ≠ 0) : zeros (S.data.toList.drop I) = false := by
  unfold zeros
  rw [Bool.eq_false_iff]
  intro hall
  rw [List.all_eq_true] at hall
  have hm : S[J] ∈ S.data.toList.drop I := by
    rw [List.mem_iff_getElem]
    refine ⟨J - I, by simp; omega, ?_⟩
    rw [List.getElem_drop]
    have : I + (J - I) = J := by omega
    simp only [this]
    rfl
  have := hall _ hm
  exact h0 (by simpa using this)
end Go.Proofs.YtelgpiedchnncabDoor
