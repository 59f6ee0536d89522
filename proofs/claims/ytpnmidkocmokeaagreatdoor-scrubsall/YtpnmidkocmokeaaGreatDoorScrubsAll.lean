/- For every two lists of raw things and every three numbers: of a filled array of which one device was hurt, however, all sectors are looked at, from whichever on: then nothing is bad, no sector is gone, the cursor is where it was, one round further, all sectors are told as they were, and again there is nothing to do; what was handed in is left as it was; the table of powers of ten is listed and tied (Itoa looks into it), the two tables of math/bits are listed, and no step looks into them. -/
import Derived.Test.YtpnmidkocmokeaaGreatDoorRows
import Derived.Test.YtpnmidkocmokeaaGreatDoorTie
import Derived.Test.YtpnmidkocmokeaaGreatDoorCards
import Derived.Test.YtpnmidkocmokeaaGreatDoorKeepLate
import Derived.Test.YtpnmidkocmokeaaGreatDoorKeepReads
import Derived.Test.YtpnmidkocmokeaaGreatDoorScrubStep
import Derived.Test.YtpnmidkocmokeaaGreatDoorScrubHl
import Derived.WalkKit
import Derived.ProofKit
import Derived.OpenShut
import Derived.ShutString
import Derived.LaidOnce
import Derived.SevenTiedAt
import Derived.Lay
namespace Go.Proofs.YtpnmidkocmokeaaGreatDoor.scrubsAll
open Go.ChangeShapes Go.WideShapes Go.ChangeAt Go.RowKit Go.Lib
open Go.ChangeMaps (open_string shut_string)

theorem own : ownKnob Tryz.prog.godebug = none := by kernel_rfl
theorem laidOut : laidOutB Tryz.prog = true := by kernel_rfl
theorem pow_of {W : World} (h : laidMetH Tryz.prog Rows.scrubsAllRow.laid W) : Pow W := by
  rw [MakeChecks.laidMetH_plain _ _ _ (by kernel_rfl)] at h
  exact pow_laid h

/-- An array of three devices in a box. -/
structure ABy (W : World) (p : Nat) (a : Option Addr) (c : Nat) (A : Ar) : Prop where
  b : W.cell? ⟨p, 0, none⟩ = some (.slice a 3 c)
  d : ArrAt W a 3 A
  l : p < W.heap.size
theorem ABy.below {W W' : World} {p : Nat} {a : Option Addr} {c : Nat} {A : Ar} (h : ABy W p a c A) (g : Below W.heap.size W W') : ABy W' p a c A :=
  ⟨(g.cell (p := ⟨p, 0, none⟩) h.l).trans h.b, h.d.below g, Nat.lt_of_lt_of_le h.l g.size⟩
theorem abyed {w : World} {a : Option Addr} (c : Nat) {A : Ar} (h : ArrAt w a 3 A) : ∃ W, W = w.alloc (.cells #[.slice a 3 c] 26) ∧ Below w.heap.size w W ∧ ABy W w.heap.size a c A := by
  have hb : Below w.heap.size w (w.alloc (.cells #[.slice a 3 c] 26)) := (Below.refl _ w).alloc (Nat.le_refl _) _
  exact ⟨_, rfl, hb, by simp, h.below hb, by simp⟩
/-- A cursor in a box. -/
theorem boxcur (w : World) (x r : Int) : ∃ W, W = w.alloc (.cells #[.int .i64 x, .int .i64 r] 35) ∧ Below w.heap.size w W ∧ Box2 W w.heap.size (.int .i64 x) (.int .i64 r) :=
  ⟨_, rfl, (Below.refl _ w).alloc (Nat.le_refl _) _, box2_of (Own.made w 35 [.int .i64 x, .int .i64 r])⟩

set_option maxHeartbeats 3200000 in
set_option maxRecDepth 8000 in
theorem walk (w : World) (hp : Pow w) (a : Option Addr) (n c : Nat) (R : List Raw4) (a' : Option Addr) (n' c' : Nat) (R' : List Raw4) (dd many_ from_ : Int) (h : RawsAt w a n R) (h' : RawsAt w a' n' R') (w2 : (Lit.int .i64 dd).wf = true) (w3 : (Lit.int .i64 many_).wf = true) (w4 : (Lit.int .i64 from_).wf = true) :
    Calls Tryz.prog 3 #[.slice a n c, .slice a' n' c', .int .i64 dd, .int .i64 many_, .int .i64 from_] w fun e w' => e = .returned (.bool true) ∧ Below w.heap.size w w' := by
  have ha := wf_i64 w2
  have hmo := wf_i64 w3
  have hat := wf_i64 w4
  have pb := pick_bd dd 3 (by omega)
  have pe := pick_bd many_ 20 (by omega)
  obtain ⟨K, hK⟩ : ∃ K : Nat, pick dd 3 = K := ⟨(pick dd 3).toNat, by omega⟩
  obtain ⟨N, hN, hN1, hN2, hN3⟩ : ∃ N : Nat, 24 + 2 * pick many_ 20 = (N : Int) ∧ 16 ≤ N ∧ N ≤ 64 ∧ N % 2 = 0 := ⟨(24 + 2 * pick many_ 20).toNat, by omega, by omega, by omega, by omega⟩
  have pf := pick_bd from_ N (by omega)
  obtain ⟨k, hk⟩ : ∃ k : Nat, pick from_ N = k := ⟨(pick from_ N).toNat, by omega⟩
  have hK3 : K < 3 := by omega
  have hkN : k < N := by omega
  have CK1 := hid (fun wx => picked_gen dd 3 wx ha (by decide))
  rw [hK] at CK1
  have CK2 := hid (fun wx => picked_gen from_ N wx hat (by omega))
  rw [hk] at CK2
  have CS := hid (fun wx => sectors_any many_ wx hmo)
  rw [hN] at CS
  have CF := hid (filled_any a n c R N w h hp hN1 hN2 hN3)
  have HH := hid h'
  clear h h' hp pb pe pf w2 w3 w4 hK hk hN ha hat hmo
  go_enter Tryz.func3, Tryz.ntmps3
  go_wp2_with (go_at_call 4; refine (CS.out _).mono ?_; rintro _ w9 ⟨rfl, h9⟩; (have h8 := h9.symm); subst h8)
  refine CF.out.mono ?_
  rintro _ v1 ⟨all, b, c1, hh, g, rfl, hal, hf, ho, hb, hg, g1⟩
  go_upto_region 3 with fail
  obtain ⟨W, hW1⟩ : ∃ W1, W1 = v1.alloc (.cells #[.slice (some ⟨b, 0, none⟩) 3 c1] 26) := ⟨_, rfl⟩
  have b1 : Below v1.heap.size v1 W := by rw [hW1]; exact (Below.refl _ v1).alloc (Nat.le_refl _) _
  have p1 : W.cell? ⟨v1.heap.size, 0, none⟩ = some (.slice (some ⟨b, 0, none⟩) 3 c1) := by rw [hW1]; simp
  have z1 : v1.heap.size < W.heap.size := by rw [hW1]; simp
  rw [← hW1]
  have S1 := hid (And.intro (bel3 g1 b1) (And.intro (hf.below b1) (And.intro (ho.below' b1) (And.intro p1 (And.intro z1 (HH.out.below (bel3 g1 b1)))))))
  have HA := hid hal
  clear hW1 b1 hf ho hb hg g1 hal CF CS z1
  generalize v1.heap.size = pa at p1 S1 ⊢
  have HL : Hid (all.length = N) := HA.out.2
  obtain ⟨T, D, hX, hWn⟩ := stand HA.out.1 K hK3 R' 60
  have hXm : arMay (With all K D) = true := with_may HA.out.1 K hK3 D hWn.may hWn.len
  obtain ⟨D', m, x1, hWn', x2, x3, x4⟩ := scrubs HA.out.1 K hK3 T D hWn k (by rw [HL.out]; exact hkN)
  have hYm : arMay (With all K D') = true := with_may HA.out.1 K hK3 D' hWn'.may hWn'.len
  have hYr : ∀ i : Nat, i < N → (arRead (With all K D') i).1 = pay all i ∧ (arRead (With all K D') i).2.2 = 0 := fun i hi => by
    rcases worn_read HA.out.1 K hK3 T D' hWn' i (by rw [HL.out]; exact hi) with e | ⟨_, e⟩ <;> rw [e] <;> exact ⟨rfl, rfl⟩
  have hmays := stand_may HA.out.1 K hK3 R' 60
  rw [HL.out] at hX hmays x1 x3 x4
  have HY3 := hid ((arMay_iff _).1 hYm).1
  generalize With all K D' = Y at x1 x2 x3 x4 hYr HY3
  generalize With all K D = X at hX hXm x1
  have hdev := hurts_dev R' K hK3 N 60
  obtain ⟨A, hA⟩ : ∃ A, A = hurtsOf R' K N 60 := ⟨_, rfl⟩
  rw [← hA] at hX hmays hdev
  have CU := hid (fun wx (g : Below W.heap.size W wx) => hurts_any a' n' c' R' K N 60 wx (S1.out.2.2.2.2.2.below g) hK3 hN1 hN2 (by omega))
  rw [← hA] at CU
  have CH := hid (fun wx x m e (HX : ActsAt wx x m A) (g : Below W.heap.size W wx) => hurt_any (some ⟨b, 0, none⟩) 3 c1 (goodA all) x m e A wx (.inr ⟨b, 0, hh, rfl, (S1.out.2.1.below g).arr⟩) HX hdev hmays)
  rw [hX] at CH
  have HX := hid (And.intro hXm trivial)
  have HQ := hid (And.intro x1 (And.intro x2 (And.intro x3 (And.intro x4 hYr))))
  clear hX hXm hmays hdev hA hWn hWn' hYm hYr x1 x2 x3 x4
  have B0 : Below W.heap.size W W.drew := (Below.refl _ W).drew
  have B2 : Below W.heap.size W (W.alloc (.cells #[.slice none 0 0] 26)).drew := ((Below.refl _ W).alloc (Nat.le_refl _) _).drew
  have D1 := hid (show Calls Tryz.prog 7 #[.slice a' n' c', .int .i64 (K : Int), .int .i64 (N : Int), .int .i64 60] W.drew (fun e w' => ∃ x m cap, e = .returned (.slice x m cap) ∧ ActsAt w' x m A ∧ Below W.heap.size W w') from (CU.out _ B0).mono (fun e w' ⟨x, m, cap, he, hx, gx⟩ => ⟨x, m, cap, he, hx, bel3 B0 gx⟩))
  have D2 := hid (show Calls Tryz.prog 7 #[.slice a' n' c', .int .i64 (K : Int), .int .i64 (N : Int), .int .i64 60] (W.alloc (.cells #[.slice none 0 0] 26)).drew (fun e w' => ∃ x m cap, e = .returned (.slice x m cap) ∧ ActsAt w' x m A ∧ Below W.heap.size W w' ∧ w'.cell? ⟨W.heap.size, 0, none⟩ = some (.slice none 0 0) ∧ w'.frozen? ⟨W.heap.size, 0, none⟩ = false ∧ W.heap.size < w'.heap.size) from (CU.out _ B2).mono (fun e w' ⟨x, m, cap, he, hx, gx⟩ => ⟨x, m, cap, he, hx, bel3 B2 gx, (gx.cell (p := ⟨W.heap.size, 0, none⟩) (by show W.heap.size < (W.alloc (.cells #[.slice none 0 0] 26)).heap.size; simp)).trans (by simp [go_sem]), (gx.frozen (p := ⟨W.heap.size, 0, none⟩) (by show W.heap.size < (W.alloc (.cells #[.slice none 0 0] 26)).heap.size; simp)).trans (by simp [go_sem]), Nat.lt_of_lt_of_le (by show W.heap.size < (W.alloc (.cells #[.slice none 0 0] 26)).heap.size; simp) gx.size⟩))
  clear B0 B2 CU
  go_cut [15] (fun s15 wx => ∃ py a5 c5, s15 = .pointer (some ⟨py, 0, none⟩) ∧ ABy wx py a5 c5 X ∧ Below W.heap.size W wx)
  case first =>
    go_region_held3 (fun w' => w'.cell? ⟨pa, 0, none⟩ = some (.slice (some ⟨b, 0, none⟩) 3 c1)) (go_keep)
      (first | (go_at_call 8; refine (CK1.out _).mono ?_; rintro _ w9 ⟨rfl, h9⟩; (have h8 := h9.symm); subst h8) | (go_at_call 7; (with_reducible show Calls _ _ _ (World.drew W) _); refine D1.out.mono ?_; rintro _ v4 ⟨x4, m4, e4, rfl, hx4, g4⟩; (have GA := hid (And.intro hx4 g4)); (have j4 := (g4.cell (p := ⟨pa, 0, none⟩) S1.out.2.2.2.2.1).trans p1); (have n4 := World.new_ne v4 ⟨pa, 0, none⟩ j4); clear hx4 g4) | (go_at_call 7; (with_reducible show Calls _ _ _ (World.drew (World.alloc W _)) _); refine D2.out.mono ?_; rintro _ v4 ⟨x4, m4, e4, rfl, hx4, g4, k4⟩; (have GB := hid (And.intro hx4 (And.intro g4 k4))); (have j4 := (g4.cell (p := ⟨pa, 0, none⟩) S1.out.2.2.2.2.1).trans p1); clear hx4 g4 k4) | (go_at_call 6; (with_reducible show Calls _ _ _ v4 _); (have GB2 := GB); refine (CH.out v4 _ _ _ GB.out.1 GB.out.2.1).mono ?_; rintro _ v5 ⟨a5, c5, rfl, h5, g5⟩; (have LB := hid (hu_late (c5 := c5) GB.out.2.1 GB.out.2.2.1 GB.out.2.2.2.1 ⟨Nat.le_refl _, GB.out.2.2.2.2⟩ h5 HX.out.1 g5)); (have b0 := LB.out.1.1); (have b1 := LB.out.1.2.1); (have j5 := (LB.out.1.2.2.cell (p := ⟨pa, 0, none⟩) S1.out.2.2.2.2.1).trans p1); (have j6 := (LB.out.2.2.2.2.cell (p := ⟨pa, 0, none⟩) S1.out.2.2.2.2.1).trans p1); clear h5 g5) | (go_at_call 6; (with_reducible show Calls _ _ _ v4 _); refine (CH.out v4 _ _ _ GA.out.1 GA.out.2).mono ?_; rintro _ v5 ⟨a5, c5, rfl, h5, g5⟩; (have LA := hid (And.intro h5 (bel3 GA.out.2 g5))); (have j5 := (LA.out.2.cell (p := ⟨pa, 0, none⟩) S1.out.2.2.2.2.1).trans p1); clear h5 g5) | (go_at_call 6; (with_reducible show Calls _ _ _ (World.alloc v4 _) _); refine (CH.out (v4.alloc (.cells #[.slice none 0 0] 26)) _ _ _ (GA.out.1.below ((Below.refl _ v4).alloc (Nat.le_refl _) _)) (bel3 GA.out.2 ((Below.refl _ v4).alloc (Nat.le_refl _) _))).mono ?_; rintro _ v5 ⟨a5, c5, rfl, h5, g5⟩; (have LC := hid (hu_late (p := v4.heap.size) (c5 := c5) (bel3 GA.out.2 ((Below.refl _ v4).alloc (Nat.le_refl _) (.cells #[.slice none 0 0] 26))) (by simp [go_sem]) (by simp [go_sem]) ⟨GA.out.2.size, by simp⟩ h5 HX.out.1 g5)); (have b0 := LC.out.1.1); (have b1 := LC.out.1.2.1); (have j5 := (LC.out.1.2.2.cell (p := ⟨pa, 0, none⟩) S1.out.2.2.2.2.1).trans p1); (have j6 := (LC.out.2.2.2.2.cell (p := ⟨pa, 0, none⟩) S1.out.2.2.2.2.1).trans p1); clear h5 g5))
    all_goals (go_wp2_with fail; go_meet)
    all_goals (first | (obtain ⟨W6, hW6⟩ : ∃ W6, W6 = v5.alloc (.cells #[.slice a5 3 c5] 26) := ⟨_, rfl⟩; rw [← hW6]; exact ⟨v5.heap.size, a5, c5, rfl, ⟨by rw [hW6]; simp, LA.out.1.below (by rw [hW6]; exact (Below.refl _ v5).alloc (Nat.le_refl _) _), by rw [hW6]; simp⟩, bel3 LA.out.2 (by rw [hW6]; exact (Below.refl _ v5).alloc (Nat.le_refl _) _)⟩) | exact ⟨W.heap.size, a5, c5, rfl, ⟨LB.out.2.1, LB.out.2.2.1, LB.out.2.2.2.1⟩, LB.out.2.2.2.2⟩ | exact ⟨v4.heap.size, a5, c5, rfl, ⟨LC.out.2.1, LC.out.2.2.1, LC.out.2.2.2.1⟩, LC.out.2.2.2.2⟩)
  case rest =>
    obtain ⟨py, a5, c5, rfl, h5, hB5⟩ := hcut
    have S5 := hid (And.intro hB5 h5)
    clear h5 hB5 CH D1 D2 p1 CK1
    have d5 := S5.out.2.b
    go_upto_region 5 with (go_at_call 8; refine (CK2.out _).mono ?_; rintro _ w9 ⟨rfl, h9⟩; (have h8 := h9.symm); subst h8)
    obtain ⟨W6, hW6, b6, q6⟩ := boxcur wc k 0
    rw [← hW6]
    have S6 := hid (And.intro (bel3 S5.out.1 b6) (And.intro (S5.out.2.below b6) q6))
    clear hW6 b6 q6 S5 d5
    generalize wc.heap.size = p6 at S6 ⊢
    have C1 := hid (step_any a5 3 c5 X k 0 N W6 S6.out.2.1.d)
    rw [HQ.out.1] at C1
    have d0 := S6.out.2.1.b
    have d1 := S6.out.2.2.c0
    have d2 := S6.out.2.2.c1
    go_wp2_with fail
    refine C1.out.mono ?_
    rintro _ v7 ⟨⟨a7, n7, c7, e7, m7, f7, rfl, hY7, hI7⟩, g7⟩
    obtain rfl : n7 = 3 := by rw [hY7.len]; exact HY3.out
    obtain rfl : m7 = 0 := hI7.sn
    clear d0 d1 d2 C1 hI7
    go_upto_region 6 with fail
    obtain ⟨V7, hV7, b7, y7⟩ := abyed c7 hY7
    obtain ⟨W7, hW7, b8, q7⟩ := boxcur V7 k 1
    have hz7 : V7.heap.size = v7.heap.size + 1 := by rw [hV7]; simp
    rw [hz7] at q7
    rw [← hV7, ← hW7]
    have g8 := bel3 g7 (bel3 b7 b8)
    have S7 := hid (And.intro (bel3 S6.out.1 g8) (And.intro (S6.out.2.2.below g8) (And.intro (y7.below b8) q7)))
    clear hV7 hW7 b7 b8 y7 q7 g7 g8 hY7 S6 hz7
    generalize v7.heap.size = p7 at S7 ⊢
    generalize p7 + 1 = p8 at S7 ⊢
    have C1 := hid (health_any a7 3 c7 Y W7 S7.out.2.2.1.d)
    rw [HQ.out.2.1] at C1
    have d0 := S7.out.2.2.1.b
    go_wp2_with fail
    refine C1.out.mono ?_
    rintro _ v8 ⟨⟨a8, n8, c8, rfl, hI8⟩, g8⟩
    obtain rfl : n8 = 0 := hI8.sn
    have S8 := hid (And.intro (bel3 S7.out.1 g8) (And.intro (S7.out.2.1.below g8) (And.intro (S7.out.2.2.1.below g8) (S7.out.2.2.2.below g8))))
    clear d0 C1 hI8 g8 S7
    have C1 := hid (step_any a7 3 c7 Y k 1 N v8 S8.out.2.2.1.d)
    have q1 := HQ.out.2.2.1
    have q2 := HQ.out.2.2.2.1
    generalize arStep Y k 1 N = R2 at C1 q1 q2
    have d0 := S8.out.2.2.1.b
    have d1 := S8.out.2.2.2.c0
    have d2 := S8.out.2.2.2.c1
    have QQ := hid (And.intro q1 q2)
    clear q1 q2
    go_wp2_with fail
    refine C1.out.mono ?_
    rintro _ v9 ⟨⟨a9, n9, c9, e9, m9, f9, rfl, hY9, hI9⟩, g9⟩
    clear d0 d1 d2 C1
    go_upto_region 8 with fail
    obtain ⟨W9, hW9⟩ : ∃ W9, W9 = (v9.alloc (.cells #[.slice a9 n9 c9] 26)).alloc (.cells #[.int .i64 R2.nx, .int .i64 R2.rd] 35) := ⟨_, rfl⟩
    have b9 : Below v9.heap.size v9 W9 := by rw [hW9]; go_grown
    rw [← hW9]
    have g10 := bel3 g9 b9
    have S9 := hid (And.intro (bel3 S8.out.1 g10) (And.intro (S8.out.2.1.below g10) (And.intro (S8.out.2.2.1.below g10) (S8.out.2.2.2.below g10))))
    clear hW9 b9 g9 g10 hY9 hI9 S8
    have CRd := hid (reads_any a7 3 c7 Y g N N all W9 S9.out.2.2.1.d (S1.out.2.2.1.below' S9.out.1).row HL.out.symm hN2 HQ.out.2.2.2.2)
    have d0 := S9.out.2.2.1.b
    have d1 := S9.out.2.2.2.c0
    have d2 := S9.out.2.2.2.c1
    have d3 := S9.out.2.1.c0
    have r1 : (R2.ct == 0) = true := beq_iff_eq.2 QQ.out.1
    have r2 : (R2.e == 0) = true := beq_iff_eq.2 QQ.out.2
    go_wp2_with fail
    refine CRd.out.mono ?_
    rintro _ v10 ⟨rfl, g10⟩
    go_wp2
    go_ret
    exact ⟨rfl, bel3 S1.out.1 (bel3 S9.out.1 g10)⟩

set_option maxRecDepth 100000 in
theorem lifted (os : Os) (started : os.Started) (H : Type) (enc : TypeId × Value → H) :
    ReturnsInHanded {} Tryz.checked os 3 .any (fun w args => (Rows.scrubsAllSpec.pre enc Tryz.prog Tryz.f3 Rows.scrubsAllRow.domain false w args ∧ laidMetH Tryz.prog Rows.scrubsAllRow.laid w) ∧ sizedMet enc Tryz.prog Tryz.f3 (OpenSpec.ofChange Rows.scrubsAllSpec) false w args)
      (Rows.scrubsAllSpec.post enc Tryz.prog Tryz.f3 false true false false) := by
  refine returnsInHanded_of_change_and (C := Tryz.checked) (X := fun w _ => laidMetH Tryz.prog Rows.scrubsAllRow.laid w) (fun _ _ _ hh h => h.of_heap hh) own started (by kernel_rfl) Tryz.func3
    (ChangeSpec.witness_shaped (enc := enc) (C := Tryz.checked) (os := os) (X := fun w _ => laidMetH Tryz.prog Rows.scrubsAllRow.laid w) false (World.laidAll Tryz.prog os Rows.scrubsAllRow.laid) #[.slice none 0 0, .slice none 0 0, .int .i64 0, .int .i64 0, .int .i64 0] 8 (World.laidAll_os _ _ _)
      (World.shaped_of_ZipB (by kernel_rfl) (by kernel_rfl)) (by kernel_rfl) (by kernel_rfl) (by kernel_rfl)
      (by rw [MakeChecks.laidMetH_plain _ _ _ (by kernel_rfl)]; exact laidMet_laidAll _ (by kernel_rfl) (by kernel_rfl))) ?_
  intro W base args ds gs before hval0 hW hcnd _ _hL _
  have hval : ∀ (j : Nat) t v, Tryz.f3.params[j]? = some t → args[j]? = some v → Value.okWide Tryz.prog W .any base t v := hval0
  have hW' := hW
  obtain ⟨p, q, hA0, hV, rfl, hfz, hnd⟩ := hW
  have hA : DataW.TrodAll enc Tryz.prog W 0 (fun _ => true) true Tryz.f3.params.toList args.toList ds p := hA0
  rw [Tryz.params3] at hA hval
  obtain ⟨v0, vs0, d0, ds0, p0, q0, hargs, rfl, rfl, h0, r0⟩ := trodAll_cons hA
  obtain ⟨v1, vs1, d1, ds1, p1, q1, rfl, rfl, rfl, h1, r1⟩ := trodAll_cons r0
  obtain ⟨v2, vs2, d2, ds2, p2, q2, rfl, rfl, rfl, h2, r2⟩ := trodAll_cons r1
  obtain ⟨v3, vs3, d3, ds3, p3, q3, rfl, rfl, rfl, h3, r3⟩ := trodAll_cons r2
  obtain ⟨v4, vs4, d4, ds4, p4, q4, rfl, rfl, rfl, h4, r4⟩ := trodAll_cons r3
  obtain ⟨rfl, rfl, rfl⟩ := trodAll_nil r4
  obtain rfl : args = #[v0, v1, v2, v3, v4] := by cases args; simp_all
  obtain ⟨rfl, rfl⟩ := trodVars_none hV
  have h0k := h0
  obtain ⟨a0, n0, c0, R0, rfl, w0, f0⟩ := open_raws (hval 0 22 v0 rfl rfl) h0
  have l0 : ∀ x ∈ p0, x.block < W.heap.size := fun x hx => hW'.lt x (by simp [hx])
  have h1k := h1
  obtain ⟨a1, n1, c1, R1, rfl, w1, f1⟩ := open_raws (hval 1 22 v1 rfl rfl) h1
  have l1 : ∀ x ∈ p1, x.block < W.heap.size := fun x hx => hW'.lt x (by simp [hx])
  obtain ⟨a2, rfl, rfl, rfl, w2⟩ := open_int Tryz.underlying3 (hval 2 3 v2 rfl rfl) h2
  obtain ⟨a3, rfl, rfl, rfl, w3⟩ := open_int Tryz.underlying3 (hval 3 3 v3 rfl rfl) h3
  obtain ⟨a4, rfl, rfl, rfl, w4⟩ := open_int Tryz.underlying3 (hval 4 3 v4 rfl rfl) h4
  clear hA0 hval0
  refine (walk W (pow_of _hL) a0 n0 c0 R0 a1 n1 c1 R1 a2 a3 a4 w0 w1 w2 w3 w4).mono fun e W' ⟨he, bel⟩ => ?_
  subst he
  exact ⟨_, rfl, _, _, _, [], _, [], hW', trodAll_mk1 (shut_bool Tryz.underlying4 _), (trodAll_cons_mk (Below.trod laidOut (by kernel_rfl) (of_decide_eq_true (by kernel_rfl)) h0k bel l0) (trodAll_cons_mk (Below.trod laidOut (by kernel_rfl) (of_decide_eq_true (by kernel_rfl)) h1k bel l1) (trodAll_cons_mk (shut_int Tryz.underlying3 w2) (trodAll_cons_mk (shut_int Tryz.underlying3 w3) (trodAll_cons_mk (shut_int Tryz.underlying3 w4) trodAll_mk0))))), rfl, bel.frame _, fun h => by cases h⟩

theorem over : Rows.scrubsAllRow.holds Tryz.pinned (OpenSpec.ofChange Rows.scrubsAllSpec) :=
  OpenClaim.holds_of_wide 3 Tryz.f3 rfl rfl rfl rfl rfl rfl rfl ⟨rfl, rfl, rfl, rfl, rfl⟩ rfl rfl rfl rfl rfl (by kernel_rfl) Tryz.func3 (by kernel_rfl)
    (of_decide_eq_true (by kernel_rfl)) (by unfold Func.isWrapper; first | (rw [if_pos (by decide +kernel)]; kernel_rfl) | (rw [if_neg (by decide +kernel)]; exact ⟨rfl, rfl⟩))
    (fun os started H enc _ => lifted os started H enc)
end Go.Proofs.YtpnmidkocmokeaaGreatDoor.scrubsAll

namespace Go.Proofs.YtpnmidkocmokeaaGreatDoor
theorem scrubsAll_holds : Rows.ScrubsAllCardSaid :=
  Claim7.holds_tied_plain_at .later [] [.data, .data, .data] true (true, "8ca0160fa7c1494e1036caab8bc5c856dbbbbf04e5dad789253475ee54b367d8") false
    scrubsAll.over (fun _ h => by cases h) (by kernel_rfl) (fun _ h => by cases h) scrubsAll_row_tie rfl ⟨rfl, rfl⟩ (by kernel_rfl) rfl
    (fun f fn hf hfn => by
      obtain rfl : f = 3 := Option.some.inj ((show Tryz.prog.funcNamed "arras/arraskeep.ScrubsAll" = some 3 by kernel_rfl).symm.trans hf) |>.symm
      obtain rfl : fn = Tryz.f3 := (Option.some.inj (Tryz.func3.symm.trans hfn)).symm
      exact ⟨by kernel_rfl, fun j t ht => by
        rw [Tryz.params3] at ht
        have hm : t ∈ [22, 22, 3, 3, 3] := by simpa using Array.mem_of_getElem? ht
        have hall : ([22, 22, 3, 3, 3].all fun u => !Tryz.prog.wantsStandIn u) = true := by kernel_rfl
        exact (show Tryz.prog.wantsStandIn t = false by simpa using List.all_eq_true.1 hall t hm)⟩)
    (by kernel_rfl)
#print axioms scrubsAll_holds
end Go.Proofs.YtpnmidkocmokeaaGreatDoor
