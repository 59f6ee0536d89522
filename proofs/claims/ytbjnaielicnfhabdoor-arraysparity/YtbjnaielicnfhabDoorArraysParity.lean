/- For every list of raw things and every two numbers: a sector of a filled array that both mirrors lost is told by the parity, as long as its partner is there; without the parity it is lost; what was handed in is left as it was; the table of powers of ten is listed and tied (Itoa looks into it), the two tables of math/bits are listed, and no step looks into them. -/
import Derived.Test.YtbjnaielicnfhabDoorRows
import Derived.Test.YtbjnaielicnfhabDoorTie
import Derived.Test.YtbjnaielicnfhabDoorCards
import Derived.Test.YtbjnaielicnfhabDoorKeepPow
import Derived.Test.YtbjnaielicnfhabDoorKeepReads
import Derived.Test.YtbjnaielicnfhabDoorArrLost
import Derived.WalkKit
import Derived.ProofKit
import Derived.OpenShut
import Derived.ShutString
import Derived.LaidOnce
import Derived.SevenTiedAt
import Derived.Lay
namespace Go.Proofs.YtbjnaielicnfhabDoor.arraysParity
open Go.ChangeShapes Go.WideShapes Go.ChangeAt Go.RowKit Go.Lib
open Go.ChangeMaps (open_string shut_string)

theorem own : ownKnob Tryd.prog.godebug = none := by kernel_rfl
theorem laidOut : laidOutB Tryd.prog = true := by kernel_rfl
theorem pow_of {W : World} (h : laidMetH Tryd.prog Rows.arraysParityRow.laid W) : Pow W := by
  rw [MakeChecks.laidMetH_plain _ _ _ (by kernel_rfl)] at h
  exact pow_laid h

/-- Both mirrors lose a sector. -/
def two (k : Nat) : List Hact := [⟨4, 0, k, 0, 0⟩, ⟨4, 1, k, 0, 0⟩]
theorem two_hurt {all : List (List UInt8)} (h : Alls all) (k : Nat) (hk : k < all.length) : hurtAll (goodA all) (two k) = ar3 all (upd (fun _ => false) k true) (upd (fun _ => false) k true) (fun _ => false) := by
  show hurt1 (hurt1 (goodA all) _) _ = _
  rw [← ar3_good, lose_0 h k hk, lose_1 h k hk]
theorem two_may {all : List (List UInt8)} (h : Alls all) (k : Nat) (hk : k < all.length) : ∀ j, j ≤ (two k).length → arMay (hurtAll (goodA all) ((two k).take j)) = true := by
  intro j hj
  match j, hj with
  | 0, _ => show arMay (goodA all) = true; rw [← ar3_good]; exact ar3_may h
  | 1, _ => show arMay (hurt1 (goodA all) ⟨4, 0, k, 0, 0⟩) = true; rw [← ar3_good, lose_0 h k hk]; exact ar3_may h
  | 2, _ => show arMay (hurtAll (goodA all) (two k)) = true; rw [two_hurt h k hk]; exact ar3_may h

/-- Of an array of which both mirrors lost a sector one mirror loses its partner, or the parity is lost. -/
theorem more_read {all : List (List UInt8)} (h : Alls all) (k e : Nat) (hk : k < all.length) (he : e < 2) (i : Nat) (hi : i < all.length) :
    (arRead (hurtAll (ar3 all (upd (fun _ => false) k true) (upd (fun _ => false) k true) (fun _ => false)) [⟨4, e, part k, 0, 0⟩]) i).1 = pay all i ∧ (arRead (hurtAll (ar3 all (upd (fun _ => false) k true) (upd (fun _ => false) k true) (fun _ => false)) [⟨4, e, part k, 0, 0⟩]) i).2.2 = 0 := by
  have hp := part_lt k _ hk h.even
  have hne := part_ne k
  have key : ∀ f0 f1 : Nat → Bool, (f0 k = true ∧ f1 k = true ∧ (f0 (part k) = false ∨ f1 (part k) = false) ∧ ∀ j, j ≠ k → j ≠ part k → f0 j = false) → (arRead (ar3 all f0 f1 (fun _ => false)) i).1 = pay all i ∧ (arRead (ar3 all f0 f1 (fun _ => false)) i).2.2 = 0 := by
    rintro f0 f1 ⟨h1, h2, h3, h4⟩
    rw [ar3_read h i hi]
    by_cases e1 : i = k
    · subst e1
      rw [tell_p h i hi h1 h2 rfl h3]; exact ⟨rfl, rfl⟩
    · by_cases e2 : i = part k
      · subst e2
        by_cases e3 : f0 (part k) = false
        · rw [tell_a h _ hi e3]; exact ⟨rfl, rfl⟩
        · rcases h3 with x | x
          · exact absurd x e3
          · rw [tell_b h _ hi (by simpa using e3) x]; exact ⟨rfl, rfl⟩
      · rw [tell_a h _ hi (h4 i e1 e2)]; exact ⟨rfl, rfl⟩
  match e, he with
  | 0, _ =>
    have e0 : hurtAll (ar3 all (upd (fun _ => false) k true) (upd (fun _ => false) k true) (fun _ => false)) [⟨4, ((0 : Nat) : Int), part k, 0, 0⟩] = ar3 all (upd (upd (fun _ => false) k true) (part k) true) (upd (fun _ => false) k true) (fun _ => false) := lose_0 h (part k) hp
    rw [e0]
    exact key _ _ ⟨by rw [upd_other _ _ _ _ (fun e => hne e.symm)]; exact upd_same _ _ _, upd_same _ _ _, .inr (upd_other _ _ _ _ hne), fun j h1 h2 => by rw [upd_other _ _ _ _ h2, upd_other _ _ _ _ h1]⟩
  | 1, _ =>
    have e0 : hurtAll (ar3 all (upd (fun _ => false) k true) (upd (fun _ => false) k true) (fun _ => false)) [⟨4, ((1 : Nat) : Int), part k, 0, 0⟩] = ar3 all (upd (fun _ => false) k true) (upd (upd (fun _ => false) k true) (part k) true) (fun _ => false) := lose_1 h (part k) hp
    rw [e0]
    exact key _ _ ⟨upd_same _ _ _, by rw [upd_other _ _ _ _ (fun e => hne e.symm)]; exact upd_same _ _ _, .inl (upd_other _ _ _ _ hne), fun j h1 h2 => by rw [upd_other _ _ _ _ h1]⟩
theorem more_may {all : List (List UInt8)} (h : Alls all) (k e : Nat) (hk : k < all.length) (he : e < 2) : ∀ j, j ≤ 1 → arMay (hurtAll (ar3 all (upd (fun _ => false) k true) (upd (fun _ => false) k true) (fun _ => false)) ([(⟨4, e, part k, 0, 0⟩ : Hact)].take j)) = true := by
  have hp := part_lt k _ hk h.even
  intro j hj
  match j, hj with
  | 0, _ => exact ar3_may h
  | 1, _ =>
    match e, he with
    | 0, _ =>
      show arMay (hurt1 (ar3 all _ _ _) ⟨4, ((0 : Nat) : Int), part k, 0, 0⟩) = true
      rw [show hurt1 (ar3 all (upd (fun _ => false) k true) (upd (fun _ => false) k true) (fun _ => false)) ⟨4, ((0 : Nat) : Int), part k, 0, 0⟩ = _ from lose_0 h (part k) hp]
      exact ar3_may h
    | 1, _ =>
      show arMay (hurt1 (ar3 all _ _ _) ⟨4, ((1 : Nat) : Int), part k, 0, 0⟩) = true
      rw [show hurt1 (ar3 all (upd (fun _ => false) k true) (upd (fun _ => false) k true) (fun _ => false)) ⟨4, ((1 : Nat) : Int), part k, 0, 0⟩ = _ from lose_1 h (part k) hp]
      exact ar3_may h
theorem less_hurt {all : List (List UInt8)} (h : Alls all) (k : Nat) (hk : k < all.length) : hurtAll (ar3 all (upd (fun _ => false) k true) (upd (fun _ => false) k true) (fun _ => false)) [⟨4, 2, ((k / 2 : Nat) : Int), 0, 0⟩] = ar3 all (upd (fun _ => false) k true) (upd (fun _ => false) k true) (upd (fun _ => false) (k / 2) true) := by
  have he := h.even
  exact lose_2 h (k / 2) (by omega)
theorem less_may {all : List (List UInt8)} (h : Alls all) (k : Nat) (hk : k < all.length) : ∀ j, j ≤ 1 → arMay (hurtAll (ar3 all (upd (fun _ => false) k true) (upd (fun _ => false) k true) (fun _ => false)) ([(⟨4, 2, ((k / 2 : Nat) : Int), 0, 0⟩ : Hact)].take j)) = true := by
  intro j hj
  match j, hj with
  | 0, _ => exact ar3_may h
  | 1, _ => show arMay (hurtAll _ [⟨4, 2, ((k / 2 : Nat) : Int), 0, 0⟩]) = true; rw [less_hurt h k hk]; exact ar3_may h

/-- An array whose devices have sectors stays where a nil slice is stored over. -/
theorem arr_nils {w : World} {b o n : Nat} {h : Nat → Hd} {A : Ar} (H : Arr w b o n h A) (h1 : ∀ i, i < n → (dev A i).1.length ≠ 0 ∧ (dev A i).2.length ≠ 0) {p : Addr} {x : Option Addr} {c : Nat} (hc : w.cell? p = some (.slice x 0 c)) (v : Value) : Arr (w.setCell p v) b o n h A := by
  refine ⟨H.sn, H.nb, by have := H.lt; simpa [World.setCell] using this, fun i hi => ?_, fun i hi => ?_, fun i hi => (H.dv i hi).slices hc v⟩
  · rw [World.cell?_setCell_other _ _ _ _ (fun e => by
      have h0 := H.c0 i hi
      rw [← e, hc] at h0
      simp only [Option.some.injEq, Value.slice.injEq] at h0
      have := (H.dv i hi).sn
      exact (h1 i hi).1 (by omega))]
    exact H.c0 i hi
  · rw [World.cell?_setCell_other _ _ _ _ (fun e => by
      have h0 := H.c1 i hi
      rw [← e, hc] at h0
      simp only [Option.some.injEq, Value.slice.injEq] at h0
      have := (H.dv i hi).sm
      exact (h1 i hi).2 (by omega))]
    exact H.c1 i hi
theorem arrAt_nils {w : World} {a : Option Addr} {A : Ar} (H : ArrAt w a 3 A) (hm : arMay A = true) {p : Addr} {x : Option Addr} {c : Nat} (hc : w.cell? p = some (.slice x 0 c)) (v : Value) : ArrAt (w.setCell p v) a 3 A := by
  obtain ⟨_, b, o, h, rfl, HA⟩ := may_three H hm
  refine .inr ⟨b, o, h, rfl, arr_nils HA (fun i hi => ?_) hc v⟩
  have hh := (arMay_iff A).1 hm
  have := ((dvMay_iff _).1 (hh.2.1 _ (dev_mem A i (by rw [hh.1]; exact hi)))).1
  omega

/-- The box was laid ahead of the call whose array it gets. -/
def Late (v3 : World) (p : Nat) (Y : Ar) (a5 : Option Addr) (c5 : Nat) (v5 : World) : Prop :=
    (v5.cell? ⟨p, 0, none⟩ = some (.slice none 0 0) ∧ v5.frozen? ⟨p, 0, none⟩ = false ∧ Below v3.heap.size v3 v5) ∧ (v5.setCell ⟨p, 0, none⟩ (.slice a5 3 c5)).cell? ⟨p, 0, none⟩ = some (.slice a5 3 c5) ∧ ArrAt (v5.setCell ⟨p, 0, none⟩ (.slice a5 3 c5)) a5 3 Y ∧ p < (v5.setCell ⟨p, 0, none⟩ (.slice a5 3 c5)).heap.size ∧ Below v3.heap.size v3 (v5.setCell ⟨p, 0, none⟩ (.slice a5 3 c5))
theorem hu_late {v3 U v5 : World} {p c5 : Nat} {a5 : Option Addr} {Y : Ar} (hU : Below v3.heap.size v3 U) (hc : U.cell? ⟨p, 0, none⟩ = some (.slice none 0 0)) (hf : U.frozen? ⟨p, 0, none⟩ = false) (hp : v3.heap.size ≤ p ∧ p < U.heap.size) (h5 : ArrAt v5 a5 3 Y) (hm : arMay Y = true) (g5 : Below U.heap.size U v5) :
    Late v3 p Y a5 c5 v5 := by
  have k1 := (g5.cell (p := ⟨p, 0, none⟩) hp.2).trans hc
  have k2 := (g5.frozen (p := ⟨p, 0, none⟩) hp.2).trans hf
  have gg := bel3 hU g5
  have l := g5.size
  refine ⟨⟨k1, k2, gg⟩, World.cell?_setCell_same _ _ _ k1, arrAt_nils h5 hm k1 _, ?_, gg.setCell (p := ⟨p, 0, none⟩) hp.1 _⟩
  have : p < v5.heap.size := by omega
  simpa [World.setCell] using this

set_option maxHeartbeats 3200000 in
set_option maxRecDepth 8000 in
theorem walk (w : World) (hp : Pow w) (a : Option Addr) (n c : Nat) (R : List Raw4) (at_ more : Int) (h : RawsAt w a n R) (w1 : (Lit.int .i64 at_).wf = true) (w2 : (Lit.int .i64 more).wf = true) :
    Calls Tryd.prog 4 #[.slice a n c, .int .i64 at_, .int .i64 more] w fun e w' => e = .returned (.bool true) ∧ Below w.heap.size w w' := by
  have ha := wf_i64 w1
  have hmo := wf_i64 w2
  have pb := pick_bd at_ 16 (by omega)
  have pe := pick_bd more 2 (by omega)
  obtain ⟨K, hK⟩ : ∃ K : Nat, pick at_ 16 = K := ⟨(pick at_ 16).toNat, by omega⟩
  obtain ⟨E, hE, hE2⟩ : ∃ E : Nat, pick more 2 = E ∧ E < 2 := ⟨(pick more 2).toNat, by omega, by omega⟩
  have HE := hid (And.intro hE hE2)
  clear hE hE2
  have hK16 : K < 16 := by omega
  have hx := xor_one K (by omega)
  have CF := hid (filled_any a n c R 16 w h hp (by omega) (by omega) (by omega))
  clear h hp pb pe w1 w2
  go_enter Tryd.func4, Tryd.ntmps4
  go_wp2_with fail
  refine CF.out.mono ?_
  rintro _ v1 ⟨all, b, c1, hh, g, rfl, hal, hf, ho, hb, hg, g1⟩
  go_upto_region 3 with fail
  obtain ⟨W1, hW1⟩ : ∃ W1, W1 = v1.alloc (.cells #[.slice (some ⟨b, 0, none⟩) 3 c1] 26) := ⟨_, rfl⟩
  have b1 : Below v1.heap.size v1 W1 := by rw [hW1]; exact (Below.refl _ v1).alloc (Nat.le_refl _) _
  have p1 : W1.cell? ⟨v1.heap.size, 0, none⟩ = some (.slice (some ⟨b, 0, none⟩) 3 c1) := by rw [hW1]; simp
  rw [← hW1]
  have S1 := hid (And.intro (bel3 g1 b1) (And.intro (hf.below b1) (ho.below' b1)))
  have HA := hid hal
  clear hW1 b1 hf ho hb hg g1 hal CF
  generalize v1.heap.size = pa at p1 ⊢
  go_wp2_with (go_at_call 8; refine (picked_gen _ _ _ (by assumption) (by decide)).mono ?_; rintro _ w9 ⟨rfl, h9⟩; (have h8 := h9.symm); subst h8)
  obtain ⟨W2, hW2⟩ : ∃ W2, W2 = W1.alloc (.cells #[.int .i64 4, .slice none 0 0, .string ⟨#[]⟩, .int .i64 0, .int .i64 (K : Int), .int .i64 0, .int .i64 0, .int .i64 4, .slice none 0 0, .string ⟨#[]⟩, .int .i64 1, .int .i64 (K : Int), .int .i64 0, .int .i64 0] 42) := ⟨_, rfl⟩
  have b2 : Below W1.heap.size W1 W2 := by rw [hW2]; exact (Below.refl _ W1).alloc (Nat.le_refl _) _
  have X2 : ActsAt W2 (some ⟨W1.heap.size, 0, none⟩) 2 (two K) := by rw [hW2]; exact acts_made W1 (two K) (by show 2 ≤ maxLen; unfold maxLen; omega)
  rw [← hW2]
  have hKl : K < all.length := by rw [HA.out.2]; exact hK16
  have HKl := hid hKl
  refine (hurt_any (some ⟨b, 0, none⟩) 3 c1 (goodA all) (some ⟨W1.heap.size, 0, none⟩) 2 2 (two K) W2 (.inr ⟨b, 0, hh, rfl, (S1.out.2.1.below b2).arr⟩) X2 (fun i hi => by
    match i, hi with
    | 0, _ => exact ⟨by show (0 : Int) ≤ 0; decide, by show (0 : Int) < 3; decide⟩
    | 1, _ => exact ⟨by show (0 : Int) ≤ 1; decide, by show (1 : Int) < 3; decide⟩) (two_may HA.out.1 K hKl)).mono ?_
  rintro _ v2 ⟨a2, c2, rfl, h2, g2⟩
  rw [two_hurt HA.out.1 K hKl] at h2
  have g12 := bel3 b2 g2
  clear p1 X2 hW2
  go_upto_region 5 with fail
  obtain ⟨W, hW3⟩ : ∃ W3, W3 = v2.alloc (.cells #[.slice a2 3 c2] 26) := ⟨_, rfl⟩
  have b3 : Below v2.heap.size v2 W := by rw [hW3]; exact (Below.refl _ v2).alloc (Nat.le_refl _) _
  have p3 : W.cell? ⟨v2.heap.size, 0, none⟩ = some (.slice a2 3 c2) := by rw [hW3]; simp
  have z3 : v2.heap.size < W.heap.size := by rw [hW3]; simp
  rw [← hW3]
  have g13 := bel3 g12 b3
  have CR := hid (fun wx (g : Below W.heap.size W wx) => aread_any a2 3 c2 K _ wx ((h2.below b3).below g))
  rw [ar3_read HA.out.1 K hKl, tell_p HA.out.1 K hKl (upd_same _ _ _) (upd_same _ _ _) rfl (.inl (upd_other _ _ _ _ (part_ne K)))] at CR
  have S3 := hid (And.intro (bel3 S1.out.1 g13) (And.intro (h2.below b3) (And.intro (S1.out.2.2.below' g13) (And.intro p3 z3))))
  clear hW3 b3 h2 g2 g12 g13 b2 S1 hKl z3
  generalize v2.heap.size = px at p3 S3 ⊢
  go_wp2_with fail
  refine (CR.out _ (Below.refl _ W)).mono ?_
  rintro _ v3 ⟨rfl, g3⟩
  have G3 := hid g3
  clear g3 CR p3
  go_upto_region 6 with fail
  have hA3 : ∀ wx, Below W.heap.size W wx → ArrAt wx a2 3 (ar3 all (upd (fun _ => false) K true) (upd (fun _ => false) K true) (fun _ => false)) := fun wx g => S3.out.2.1.below g
  obtain ⟨Y, hY⟩ : ∃ Y, Y = hurtAll (ar3 all (upd (fun _ => false) K true) (upd (fun _ => false) K true) (fun _ => false)) [⟨4, pick more 2, (part K : Int), 0, 0⟩] := ⟨_, rfl⟩
  have hYm : arMay Y = true := by rw [hY, HE.out.1]; exact more_may HA.out.1 K E HKl.out HE.out.2 1 (Nat.le_refl _)
  have hYr : ∀ i : Nat, i < 16 → (arRead Y i).1 = pay all i ∧ (arRead Y i).2.2 = 0 := fun i hi => by rw [hY, HE.out.1]; exact more_read HA.out.1 K E HKl.out HE.out.2 i (by rw [HA.out.2]; exact hi)
  have CH := hid (fun wx x (HX : ActsAt wx x 1 [⟨4, pick more 2, (part K : Int), 0, 0⟩]) (g : Below W.heap.size W wx) => hurt_any a2 3 c2 _ x 1 1 [⟨4, pick more 2, (part K : Int), 0, 0⟩] wx (hA3 wx g) HX (fun i hi => by
    match i, hi with
    | 0, _ => exact ⟨by show (0 : Int) ≤ pick more 2; have := HE.out; omega, by show pick more 2 < (3 : Int); have := HE.out; omega⟩) (fun j hj => by rw [HE.out.1]; exact more_may HA.out.1 K E HKl.out HE.out.2 j hj))
  rw [← hY] at CH
  have l1 : ([⟨4, pick more 2, (part K : Int), 0, 0⟩] : List Hact).length ≤ maxLen := by show 1 ≤ maxLen; unfold maxLen; omega
  have M1 : ActsAt (v3.alloc (.cells #[.int .i64 4, .slice none 0 0, .string ⟨#[]⟩, .int .i64 (pick more 2), .int .i64 (part K : Int), .int .i64 0, .int .i64 0] 42)).drew (some ⟨v3.heap.size, 0, none⟩) 1 [⟨4, pick more 2, (part K : Int), 0, 0⟩] := (acts_made v3 [⟨4, pick more 2, (part K : Int), 0, 0⟩] l1).below ((Below.refl _ _).drew)
  have M3 : ActsAt ((v3.alloc (.cells #[.int .i64 4, .slice none 0 0, .string ⟨#[]⟩, .int .i64 (pick more 2), .int .i64 (part K : Int), .int .i64 0, .int .i64 0] 42)).alloc (.cells #[.slice none 0 0] 26)).drew (some ⟨v3.heap.size, 0, none⟩) 1 [⟨4, pick more 2, (part K : Int), 0, 0⟩] := (acts_made v3 [⟨4, pick more 2, (part K : Int), 0, 0⟩] l1).below (((Below.refl _ _).alloc (Nat.le_refl _) _).drew)
  have M2 : ActsAt ((v3.alloc (.cells #[.slice none 0 0] 26)).alloc (.cells #[.int .i64 4, .slice none 0 0, .string ⟨#[]⟩, .int .i64 (pick more 2), .int .i64 (part K : Int), .int .i64 0, .int .i64 0] 42)).drew (some ⟨v3.heap.size + 1, 0, none⟩) 1 [⟨4, pick more 2, (part K : Int), 0, 0⟩] := by
    have := (acts_made (v3.alloc (.cells #[.slice none 0 0] 26)) [⟨4, pick more 2, (part K : Int), 0, 0⟩] l1).below ((Below.refl _ _).drew)
    rw [show (v3.alloc (.cells #[.slice none 0 0] 26)).heap.size = v3.heap.size + 1 by simp] at this
    exact this
  have B1 : Below v3.heap.size v3 (v3.alloc (.cells #[.int .i64 4, .slice none 0 0, .string ⟨#[]⟩, .int .i64 (pick more 2), .int .i64 (part K : Int), .int .i64 0, .int .i64 0] 42)).drew := ((Below.refl _ v3).alloc (Nat.le_refl _) _).drew
  have B2 : Below v3.heap.size v3 ((v3.alloc (.cells #[.slice none 0 0] 26)).alloc (.cells #[.int .i64 4, .slice none 0 0, .string ⟨#[]⟩, .int .i64 (pick more 2), .int .i64 (part K : Int), .int .i64 0, .int .i64 0] 42)).drew := (((Below.refl _ v3).alloc (Nat.le_refl _) _).alloc (by simp) _).drew
  have B3 : Below v3.heap.size v3 ((v3.alloc (.cells #[.int .i64 4, .slice none 0 0, .string ⟨#[]⟩, .int .i64 (pick more 2), .int .i64 (part K : Int), .int .i64 0, .int .i64 0] 42)).alloc (.cells #[.slice none 0 0] 26)).drew := (((Below.refl _ v3).alloc (Nat.le_refl _) _).alloc (by simp) _).drew
  have D1 := hid (show Calls Tryd.prog 9 #[.agg #[.slice a2 3 c2], .slice (some ⟨v3.heap.size, 0, none⟩) 1 1] (v3.alloc (.cells #[.int .i64 4, .slice none 0 0, .string ⟨#[]⟩, .int .i64 (pick more 2), .int .i64 (part K : Int), .int .i64 0, .int .i64 0] 42)).drew (fun e w' => ∃ a5 c5, e = .returned (.agg #[.slice a5 3 c5]) ∧ ArrAt w' a5 3 Y ∧ Below v3.heap.size v3 w') from (CH.out _ _ M1 (bel3 G3.out B1)).mono (fun e w' ⟨a5, c5, he, h5, g5⟩ => ⟨a5, c5, he, h5, bel3 B1 g5⟩))
  have D2 := hid (show Calls Tryd.prog 9 #[.agg #[.slice a2 3 c2], .slice (some ⟨v3.heap.size + 1, 0, none⟩) 1 1] ((v3.alloc (.cells #[.slice none 0 0] 26)).alloc (.cells #[.int .i64 4, .slice none 0 0, .string ⟨#[]⟩, .int .i64 (pick more 2), .int .i64 (part K : Int), .int .i64 0, .int .i64 0] 42)).drew (fun e w' => ∃ a5 c5, e = .returned (.agg #[.slice a5 3 c5]) ∧ Late v3 v3.heap.size Y a5 c5 w') from (CH.out _ _ M2 (bel3 G3.out B2)).mono (fun e w' ⟨a5, c5, he, h5, g5⟩ => ⟨a5, c5, he, hu_late B2 (by simp [go_sem]) (by simp [go_sem]) ⟨Nat.le_refl _, by show v3.heap.size < ((v3.alloc (.cells #[.slice none 0 0] 26)).alloc (.cells #[.int .i64 4, .slice none 0 0, .string ⟨#[]⟩, .int .i64 (pick more 2), .int .i64 (part K : Int), .int .i64 0, .int .i64 0] 42)).heap.size; simp; omega⟩ h5 hYm g5⟩))
  have D3 := hid (show Calls Tryd.prog 9 #[.agg #[.slice a2 3 c2], .slice (some ⟨v3.heap.size, 0, none⟩) 1 1] ((v3.alloc (.cells #[.int .i64 4, .slice none 0 0, .string ⟨#[]⟩, .int .i64 (pick more 2), .int .i64 (part K : Int), .int .i64 0, .int .i64 0] 42)).alloc (.cells #[.slice none 0 0] 26)).drew (fun e w' => ∃ a5 c5, e = .returned (.agg #[.slice a5 3 c5]) ∧ Late v3 (v3.heap.size + 1) Y a5 c5 w') from (CH.out _ _ M3 (bel3 G3.out B3)).mono (fun e w' ⟨a5, c5, he, h5, g5⟩ => ⟨a5, c5, he, hu_late B3 (by simp [go_sem]) (by simp [go_sem]) ⟨by omega, by show v3.heap.size + 1 < ((v3.alloc (.cells #[.int .i64 4, .slice none 0 0, .string ⟨#[]⟩, .int .i64 (pick more 2), .int .i64 (part K : Int), .int .i64 0, .int .i64 0] 42)).alloc (.cells #[.slice none 0 0] 26)).heap.size; simp⟩ h5 hYm g5⟩))
  have HYY := hid (And.intro hYm hYr)
  have d3 := (G3.out.cell (p := ⟨px, 0, none⟩) S3.out.2.2.2.2).trans S3.out.2.2.2.1
  have HG := hid (fun wx (g : Below v3.heap.size v3 wx) => (bel3 G3.out g : Below W.heap.size W wx))
  have ne3 : v3.heap.size ≠ px := by have := S3.out.2.2.2.2; have := G3.out.size; omega
  clear M1 M2 M3 l1 hA3 hYm hYr hY B1 B2 B3 CH
  go_cut [16] (fun s16 wx => ∃ py a5 c5, s16 = .pointer (some ⟨py, 0, none⟩) ∧ wx.cell? ⟨py, 0, none⟩ = some (.slice a5 3 c5) ∧ ArrAt wx a5 3 Y ∧ py < wx.heap.size ∧ Below W.heap.size W wx)
  case first =>
    go_region_held3 (fun w' => w'.cell? ⟨px, 0, none⟩ = some (.slice a2 3 c2)) (go_keep)
      (first | (go_at_call 8; refine (picked_gen _ _ _ (by assumption) (by decide)).mono ?_; rintro _ w9 ⟨rfl, h9⟩; (have h8 := h9.symm); subst h8) | (go_at_call 9; (with_reducible show Calls _ _ _ (World.drew (World.alloc v3 (Obj.cells #[.int .i64 4, .slice none 0 0, .string ⟨#[]⟩, .int .i64 (pick more 2), .int .i64 (part K : Int), .int .i64 0, .int .i64 0] _))) _); refine D1.out.mono ?_; rintro _ v5 ⟨a5, c5, rfl, h5, g5⟩; (have GA := hid (And.intro h5 g5)); (have j5 := (GA.out.2.cell (p := ⟨px, 0, none⟩) (Nat.lt_of_lt_of_le S3.out.2.2.2.2 G3.out.size)).trans d3); clear h5 g5) | (go_at_call 9; (with_reducible show Calls _ _ _ (World.drew (World.alloc (World.alloc v3 (Obj.cells #[.slice none 0 0] _)) _)) _); refine D2.out.mono ?_; rintro _ v5 ⟨a5, c5, rfl, h5⟩; (have GB := hid h5); (have b0 := GB.out.1.1); (have b1 := GB.out.1.2.1); (have j5 := (GB.out.1.2.2.cell (p := ⟨px, 0, none⟩) (Nat.lt_of_lt_of_le S3.out.2.2.2.2 G3.out.size)).trans d3); (have j6 := (GB.out.2.2.2.2.cell (p := ⟨px, 0, none⟩) (Nat.lt_of_lt_of_le S3.out.2.2.2.2 G3.out.size)).trans d3); clear h5) | (go_at_call 9; (with_reducible show Calls _ _ _ (World.drew (World.alloc (World.alloc v3 (Obj.cells #[.int .i64 4, .slice none 0 0, .string ⟨#[]⟩, .int .i64 (pick more 2), .int .i64 (part K : Int), .int .i64 0, .int .i64 0] _)) _)) _); refine D3.out.mono ?_; rintro _ v5 ⟨a5, c5, rfl, h5⟩; (have GC := hid h5); (have b0 := GC.out.1.1); (have b1 := GC.out.1.2.1); (have j5 := (GC.out.1.2.2.cell (p := ⟨px, 0, none⟩) (Nat.lt_of_lt_of_le S3.out.2.2.2.2 G3.out.size)).trans d3); (have j6 := (GC.out.2.2.2.2.cell (p := ⟨px, 0, none⟩) (Nat.lt_of_lt_of_le S3.out.2.2.2.2 G3.out.size)).trans d3); clear h5))
    all_goals (go_wp2_with fail; go_meet)
    all_goals (first | (obtain ⟨W6, hW6⟩ : ∃ W6, W6 = v5.alloc (.cells #[.slice a5 3 c5] 26) := ⟨_, rfl⟩; rw [← hW6]; exact ⟨v5.heap.size, a5, c5, rfl, by rw [hW6]; simp, GA.out.1.below (by rw [hW6]; exact (Below.refl _ v5).alloc (Nat.le_refl _) _), by rw [hW6]; simp, HG.out _ (bel3 GA.out.2 (by rw [hW6]; exact (Below.refl _ v5).alloc (Nat.le_refl _) _))⟩) | exact ⟨v3.heap.size, a5, c5, rfl, GB.out.2.1, GB.out.2.2.1, GB.out.2.2.2.1, HG.out _ GB.out.2.2.2.2⟩ | exact ⟨v3.heap.size + 1, a5, c5, rfl, GC.out.2.1, GC.out.2.2.1, GC.out.2.2.2.1, HG.out _ GC.out.2.2.2.2⟩)
  case rest =>
    obtain ⟨py, a5, c5, rfl, p5, h5, l5, hB5⟩ := hcut
    have S5 := hid (And.intro hB5 (And.intro p5 (And.intro h5 l5)))
    clear p5 h5 l5 hB5 D1 D2 D3 HG G3 d3 ne3
    have d3 := (S5.out.1.cell (p := ⟨px, 0, none⟩) S3.out.2.2.2.2).trans S3.out.2.2.2.1
    go_wp2_with fail
    obtain ⟨W7, hW7⟩ : ∃ W7, W7 = wc.alloc (.cells #[.int .i64 4, .slice none 0 0, .string ⟨#[]⟩, .int .i64 2, .int .i64 ((K : Int) / 2), .int .i64 0, .int .i64 0] 42) := ⟨_, rfl⟩
    have b7 : Below wc.heap.size wc W7 := by rw [hW7]; exact (Below.refl _ wc).alloc (Nat.le_refl _) _
    have q2 : ((K / 2 : Nat) : Int) = (K : Int) / 2 := by omega
    have X7 : ActsAt W7 (some ⟨wc.heap.size, 0, none⟩) 1 [⟨4, 2, ((K / 2 : Nat) : Int), 0, 0⟩] := by rw [hW7, ← q2]; exact acts_made wc [⟨4, 2, ((K / 2 : Nat) : Int), 0, 0⟩] (by show 1 ≤ maxLen; unfold maxLen; omega)
    rw [← hW7]
    refine (hurt_any a2 3 c2 _ (some ⟨wc.heap.size, 0, none⟩) 1 1 [⟨4, 2, ((K / 2 : Nat) : Int), 0, 0⟩] W7 ((S3.out.2.1.below S5.out.1).below b7) X7 (fun i hi => by
      match i, hi with
      | 0, _ => exact ⟨by show (0 : Int) ≤ 2; decide, by show (2 : Int) < 3; decide⟩) (less_may HA.out.1 K HKl.out)).mono ?_
    rintro _ v6 ⟨a6, c6, rfl, h6, g6⟩
    rw [less_hurt HA.out.1 K HKl.out] at h6
    have g56 := bel3 b7 g6
    clear X7 hW7 d3 q2
    go_upto_region 8 with fail
    obtain ⟨W8, hW8⟩ : ∃ W8, W8 = v6.alloc (.cells #[.slice a6 3 c6] 26) := ⟨_, rfl⟩
    have b8 : Below v6.heap.size v6 W8 := by rw [hW8]; exact (Below.refl _ v6).alloc (Nat.le_refl _) _
    have p8 : W8.cell? ⟨v6.heap.size, 0, none⟩ = some (.slice a6 3 c6) := by rw [hW8]; simp
    have z8 : v6.heap.size < W8.heap.size := by rw [hW8]; simp
    rw [← hW8]
    have gg := bel3 g56 b8
    have hPl := part_lt K _ HKl.out HA.out.1.even
    have CR := hid (fun wx (g : Below W8.heap.size W8 wx) => aread_any a6 3 c6 K _ wx ((h6.below b8).below g))
    rw [ar3_read HA.out.1 K HKl.out, tell_q HA.out.1 K HKl.out (upd_same _ _ _) (upd_same _ _ _) (upd_same _ _ _)] at CR
    have CQ := hid (fun wx (g : Below W8.heap.size W8 wx) => aread_any a6 3 c6 (part K : Nat) _ wx ((h6.below b8).below g))
    rw [ar3_read HA.out.1 (part K) hPl, tell_a HA.out.1 (part K) hPl (upd_other _ _ _ _ (part_ne K))] at CQ
    have S8 := hid (And.intro (bel3 S5.out.1 gg) (And.intro p8 (And.intro z8 (And.intro ((gg.cell (p := ⟨py, 0, none⟩) S5.out.2.2.2).trans S5.out.2.1) (And.intro (S5.out.2.2.1.below gg) (And.intro gg (Nat.lt_of_lt_of_le S5.out.2.2.2 gg.size)))))))
    clear hW8 b8 gg h6 g6 g56 b7 z8 hPl
    generalize v6.heap.size = pz at p8 S8 ⊢
    go_wp2_with fail
    refine (CR.out _ (Below.refl _ W8)).mono ?_
    rintro _ v7 ⟨rfl, g7⟩
    have p9 := (g7.cell (p := ⟨pz, 0, none⟩) S8.out.2.2.1).trans p8
    have G7 := hid g7
    clear g7 p8 CR
    go_wp2_with fail
    refine (CQ.out _ G7.out).mono ?_
    rintro _ v8 ⟨rfl, g8⟩
    have G8 := hid (bel3 G7.out g8)
    clear g8 p9 CQ G7
    have o8 := S3.out.2.2.1.below' (bel3 S8.out.1 G8.out)
    have k1 := o8.cell (textsV_at all K HKl.out)
    have k2 := (G8.out.cell (p := ⟨py, 0, none⟩) S8.out.2.2.2.2.2.2).trans S8.out.2.2.2.1
    have K16 : (K : Int) < 16 := by omega
    have HO := hid o8.row
    clear o8
    generalize str (pay all K) = SK at k1 ⊢
    go_wp2_with fail
    refine (reads_any a5 3 c5 Y g 16 16 all _ (S8.out.2.2.2.2.1.below G8.out) HO.out HA.out.2.symm (by omega) HYY.out.2).mono ?_
    rintro _ v9 ⟨rfl, g9⟩
    go_wp2
    go_ret
    exact ⟨rfl, bel3 S3.out.1 (bel3 (bel3 S8.out.1 G8.out) g9)⟩

set_option maxRecDepth 100000 in
theorem lifted (os : Os) (started : os.Started) (H : Type) (enc : TypeId × Value → H) :
    ReturnsInHanded {} Tryd.checked os 4 .any (fun w args => (Rows.arraysParitySpec.pre enc Tryd.prog Tryd.f4 Rows.arraysParityRow.domain false w args ∧ laidMetH Tryd.prog Rows.arraysParityRow.laid w) ∧ sizedMet enc Tryd.prog Tryd.f4 (OpenSpec.ofChange Rows.arraysParitySpec) false w args)
      (Rows.arraysParitySpec.post enc Tryd.prog Tryd.f4 false true false false) := by
  refine returnsInHanded_of_change_and (C := Tryd.checked) (X := fun w _ => laidMetH Tryd.prog Rows.arraysParityRow.laid w) (fun _ _ _ hh h => h.of_heap hh) own started (by kernel_rfl) Tryd.func4
    (ChangeSpec.witness_shaped (enc := enc) (C := Tryd.checked) (os := os) (X := fun w _ => laidMetH Tryd.prog Rows.arraysParityRow.laid w) false (World.laidAll Tryd.prog os Rows.arraysParityRow.laid) #[.slice none 0 0, .int .i64 0, .int .i64 0] 8 (World.laidAll_os _ _ _)
      (World.shaped_of_ZipB (by kernel_rfl) (by kernel_rfl)) (by kernel_rfl) (by kernel_rfl) (by kernel_rfl)
      (by rw [MakeChecks.laidMetH_plain _ _ _ (by kernel_rfl)]; exact laidMet_laidAll _ (by kernel_rfl) (by kernel_rfl))) ?_
  intro W base args ds gs before hval0 hW hcnd _ _hL _
  have hval : ∀ (j : Nat) t v, Tryd.f4.params[j]? = some t → args[j]? = some v → Value.okWide Tryd.prog W .any base t v := hval0
  have hW' := hW
  obtain ⟨p, q, hA0, hV, rfl, hfz, hnd⟩ := hW
  have hA : DataW.TrodAll enc Tryd.prog W 0 (fun _ => true) true Tryd.f4.params.toList args.toList ds p := hA0
  rw [Tryd.params4] at hA hval
  obtain ⟨v0, vs0, d0, ds0, p0, q0, hargs, rfl, rfl, h0, r0⟩ := trodAll_cons hA
  obtain ⟨v1, vs1, d1, ds1, p1, q1, rfl, rfl, rfl, h1, r1⟩ := trodAll_cons r0
  obtain ⟨v2, vs2, d2, ds2, p2, q2, rfl, rfl, rfl, h2, r2⟩ := trodAll_cons r1
  obtain ⟨rfl, rfl, rfl⟩ := trodAll_nil r2
  obtain rfl : args = #[v0, v1, v2] := by cases args; simp_all
  obtain ⟨rfl, rfl⟩ := trodVars_none hV
  have h0k := h0
  obtain ⟨a0, n0, c0, R0, rfl, w0, f0⟩ := open_raws (hval 0 22 v0 rfl rfl) h0
  have l0 : ∀ x ∈ p0, x.block < W.heap.size := fun x hx => hW'.lt x (by simp [hx])
  obtain ⟨a1, rfl, rfl, rfl, w1⟩ := open_int Tryd.underlying3 (hval 1 3 v1 rfl rfl) h1
  obtain ⟨a2, rfl, rfl, rfl, w2⟩ := open_int Tryd.underlying3 (hval 2 3 v2 rfl rfl) h2
  clear hA0 hval0
  refine (walk W (pow_of _hL) a0 n0 c0 R0 a1 a2 w0 w1 w2).mono fun e W' ⟨he, bel⟩ => ?_
  subst he
  exact ⟨_, rfl, _, _, _, [], _, [], hW', trodAll_mk1 (shut_bool Tryd.underlying4 _), (trodAll_cons_mk (Below.trod laidOut (by kernel_rfl) (of_decide_eq_true (by kernel_rfl)) h0k bel l0) (trodAll_cons_mk (shut_int Tryd.underlying3 w1) (trodAll_cons_mk (shut_int Tryd.underlying3 w2) trodAll_mk0))), rfl, bel.frame _, fun h => by cases h⟩

theorem over : Rows.arraysParityRow.holds Tryd.pinned (OpenSpec.ofChange Rows.arraysParitySpec) :=
  OpenClaim.holds_of_wide 4 Tryd.f4 rfl rfl rfl rfl rfl rfl rfl ⟨rfl, rfl, rfl, rfl, rfl⟩ rfl rfl rfl rfl rfl (by kernel_rfl) Tryd.func4 (by kernel_rfl)
    (of_decide_eq_true (by kernel_rfl)) (by unfold Func.isWrapper; first | (rw [if_pos (by decide +kernel)]; kernel_rfl) | (rw [if_neg (by decide +kernel)]; exact ⟨rfl, rfl⟩))
    (fun os started H enc _ => lifted os started H enc)
end Go.Proofs.YtbjnaielicnfhabDoor.arraysParity

namespace Go.Proofs.YtbjnaielicnfhabDoor
theorem arraysParity_holds : Rows.ArraysParityCardSaid :=
  Claim7.holds_tied_plain_at .later [] [.data, .data, .data] true (true, "6af98e124636e9addf48f55dcfcc2a840b779c1f904a22cf6fffbd9ba7135ca3") false
    arraysParity.over (fun _ h => by cases h) (by kernel_rfl) (fun _ h => by cases h) arraysParity_row_tie rfl ⟨rfl, rfl⟩ (by kernel_rfl) rfl
    (fun f fn hf hfn => by
      obtain rfl : f = 4 := Option.some.inj ((show Tryd.prog.funcNamed "arras/arraskeep.ArraysParity" = some 4 by kernel_rfl).symm.trans hf) |>.symm
      obtain rfl : fn = Tryd.f4 := (Option.some.inj (Tryd.func4.symm.trans hfn)).symm
      exact ⟨by kernel_rfl, fun j t ht => by
        rw [Tryd.params4] at ht
        have hm : t ∈ [22, 3, 3] := by simpa using Array.mem_of_getElem? ht
        have hall : ([22, 3, 3].all fun u => !Tryd.prog.wantsStandIn u) = true := by kernel_rfl
        exact (show Tryd.prog.wantsStandIn t = false by simpa using List.all_eq_true.1 hall t hm)⟩)
    (by kernel_rfl)
#print axioms arraysParity_holds
end Go.Proofs.YtbjnaielicnfhabDoor
