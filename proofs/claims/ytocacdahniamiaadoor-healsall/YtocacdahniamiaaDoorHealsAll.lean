/- For every two lists of raw things and every two numbers: of a filled array of which one device was hurt, however, a sector is made whole: it has no bad copy then, all sectors are told as they were, and again there is nothing to do; what was handed in is left as it was; the table of powers of ten is listed and tied (Itoa looks into it), the two tables of math/bits are listed, and no step looks into them. -/
import Derived.Test.YtocacdahniamiaaDoorRows
import Derived.Test.YtocacdahniamiaaDoorTie
import Derived.Test.YtocacdahniamiaaDoorCards
import Derived.Test.YtocacdahniamiaaDoorKeepLate
import Derived.Test.YtocacdahniamiaaDoorKeepReads
import Derived.Test.YtocacdahniamiaaDoorHealSector
import Derived.Test.YtocacdahniamiaaDoorHealBad
import Derived.WalkKit
import Derived.ProofKit
import Derived.OpenShut
import Derived.ShutString
import Derived.LaidOnce
import Derived.SevenTiedAt
import Derived.Lay
namespace Go.Proofs.YtocacdahniamiaaDoor.healsAll
open Go.ChangeShapes Go.WideShapes Go.ChangeAt Go.RowKit Go.Lib
open Go.ChangeMaps (open_string shut_string)

theorem own : ownKnob Tryd.prog.godebug = none := by kernel_rfl
theorem laidOut : laidOutB Tryd.prog = true := by kernel_rfl
theorem pow_of {W : World} (h : laidMetH Tryd.prog Rows.healsAllRow.laid W) : Pow W := by
  rw [MakeChecks.laidMetH_plain _ _ _ (by kernel_rfl)] at h
  exact pow_laid h

/-- An array of three devices in a box. -/
structure ABy (W : World) (p : Nat) (a : Option Addr) (c : Nat) (A : Ar) : Prop where
  b : W.cell? ⟨p, 0, none⟩ = some (.slice a 3 c)
  d : ArrAt W a 3 A
  l : p < W.heap.size
theorem ABy.below {W W' : World} {p : Nat} {a : Option Addr} {c : Nat} {A : Ar} (h : ABy W p a c A) (g : Below W.heap.size W W') : ABy W' p a c A :=
  ⟨(g.cell (p := ⟨p, 0, none⟩) h.l).trans h.b, h.d.below g, Nat.lt_of_lt_of_le h.l g.size⟩
theorem abyed {w : World} {a : Option Addr} (c : Nat) {A : Ar} (h : ArrAt w a 3 A) : ∃ W, W = w.alloc (.cells #[.slice a 3 c] 25) ∧ Below w.heap.size w W ∧ ABy W w.heap.size a c A := by
  have hb : Below w.heap.size w (w.alloc (.cells #[.slice a 3 c] 25)) := (Below.refl _ w).alloc (Nat.le_refl _) _
  exact ⟨_, rfl, hb, by simp, h.below hb, by simp⟩
theorem outHe_at {w w' : World} {A : Ar} {a : Option Addr} {n : Nat} (h : (n = 0 ∧ A = [] ∧ a = none) ∨ ∃ b hd, a = some ⟨b, 0, none⟩ ∧ w.heap.size ≤ b ∧ ArrFree w' b 0 n hd A) (h3 : A.length = 3) : n = 3 ∧ ArrAt w' a n A := by
  rcases h with ⟨_, h2, _⟩ | ⟨b, hd, h1, _, h2⟩
  · rw [h2] at h3; cases h3
  · exact ⟨h2.arr.sn.trans h3, .inr ⟨b, 0, hd, h1, h2.arr⟩⟩

set_option maxHeartbeats 3200000 in
set_option maxRecDepth 8000 in
theorem walk (w : World) (hp : Pow w) (a : Option Addr) (n c : Nat) (R : List Raw4) (a' : Option Addr) (n' c' : Nat) (R' : List Raw4) (dd at_ : Int) (h : RawsAt w a n R) (h' : RawsAt w a' n' R') (w2 : (Lit.int .i64 dd).wf = true) (w3 : (Lit.int .i64 at_).wf = true) :
    Calls Tryd.prog 3 #[.slice a n c, .slice a' n' c', .int .i64 dd, .int .i64 at_] w fun e w' => e = .returned (.bool true) ∧ Below w.heap.size w w' := by
  have ha := wf_i64 w2
  have hat := wf_i64 w3
  have pb := pick_bd dd 3 (by omega)
  have pe := pick_bd at_ 24 (by omega)
  obtain ⟨K, hK⟩ : ∃ K : Nat, pick dd 3 = K := ⟨(pick dd 3).toNat, by omega⟩
  obtain ⟨k, hk⟩ : ∃ k : Nat, pick at_ 24 = k := ⟨(pick at_ 24).toNat, by omega⟩
  have hK3 : K < 3 := by omega
  have hk24 : k < 24 := by omega
  have CK1 := hid (fun wx => picked_gen dd 3 wx ha (by decide))
  rw [hK] at CK1
  have CK2 := hid (fun wx => picked_gen at_ 24 wx hat (by decide))
  rw [hk] at CK2
  have CF := hid (filled_any a n c R 24 w h hp (by omega) (by omega) (by omega))
  have HH := hid h'
  clear h h' hp pb pe w2 w3 hK hk ha hat
  go_enter Tryd.func3, Tryd.ntmps3
  go_wp2_with fail
  refine CF.out.mono ?_
  rintro _ v1 ⟨all, b, c1, hh, g, rfl, hal, hf, ho, hb, hg, g1⟩
  go_upto_region 3 with fail
  obtain ⟨W, hW1⟩ : ∃ W1, W1 = v1.alloc (.cells #[.slice (some ⟨b, 0, none⟩) 3 c1] 25) := ⟨_, rfl⟩
  have b1 : Below v1.heap.size v1 W := by rw [hW1]; exact (Below.refl _ v1).alloc (Nat.le_refl _) _
  have p1 : W.cell? ⟨v1.heap.size, 0, none⟩ = some (.slice (some ⟨b, 0, none⟩) 3 c1) := by rw [hW1]; simp
  have z1 : v1.heap.size < W.heap.size := by rw [hW1]; simp
  rw [← hW1]
  have S1 := hid (And.intro (bel3 g1 b1) (And.intro (hf.below b1) (And.intro (ho.below' b1) (And.intro p1 (And.intro z1 (HH.out.below (bel3 g1 b1)))))))
  have HA := hid hal
  clear hW1 b1 hf ho hb hg g1 hal CF z1
  generalize v1.heap.size = pa at p1 S1 ⊢
  have HL : Hid (all.length = 24) := HA.out.2
  obtain ⟨T, D, hX, hWn⟩ := stand HA.out.1 K hK3 R' 40
  have hXm : arMay (With all K D) = true := with_may HA.out.1 K hK3 D hWn.may hWn.len
  obtain ⟨D', m, x1, x2, hWn', x3, x4⟩ := heals HA.out.1 K k hK3 (by rw [HL.out]; exact hk24) T D hWn
  have hYm : arMay (With all K D') = true := with_may HA.out.1 K hK3 D' hWn'.may hWn'.len
  have hYr : ∀ i : Nat, i < 24 → (arRead (With all K D') i).1 = pay all i ∧ (arRead (With all K D') i).2.2 = 0 := fun i hi => by
    rcases worn_read HA.out.1 K hK3 T D' hWn' i (by rw [HL.out]; exact hi) with e | ⟨_, e⟩ <;> rw [e] <;> exact ⟨rfl, rfl⟩
  have hmays := stand_may HA.out.1 K hK3 R' 40
  rw [HL.out] at hX hmays
  have HY3 := hid ((arMay_iff _).1 hYm).1
  generalize With all K D' = Y at x1 x3 x4 hYr HY3
  generalize With all K D = X at hX hXm x1
  have hdev := hurts_dev R' K hK3 24 40
  obtain ⟨A, hA⟩ : ∃ A, A = hurtsOf R' K ((24 : Nat) : Int) 40 := ⟨_, rfl⟩
  change ∀ i, i < (hurtsOf R' K ((24 : Nat) : Int) 40).length → 0 ≤ (act (hurtsOf R' K ((24 : Nat) : Int) 40) i).d ∧ (act (hurtsOf R' K ((24 : Nat) : Int) 40) i).d < 3 at hdev
  rw [← hA] at hX hmays hdev
  have CU := hid (fun wx (g : Below W.heap.size W wx) => hurts_any a' n' c' R' K 24 40 wx (S1.out.2.2.2.2.2.below g) hK3 (by omega) (by omega) (by omega))
  change Hid (∀ wx, Below W.heap.size W wx → Calls Tryd.prog _ _ wx (OutActs wx (hurtsOf R' K ((24 : Nat) : Int) 40))) at CU
  rw [← hA] at CU
  have CH := hid (fun wx x m e (HX : ActsAt wx x m A) (g : Below W.heap.size W wx) => hurt_any (some ⟨b, 0, none⟩) 3 c1 (goodA all) x m e A wx (.inr ⟨b, 0, hh, rfl, (S1.out.2.1.below g).arr⟩) HX hdev hmays)
  rw [hX] at CH
  have HX := hid (And.intro hXm trivial)
  have HQ := hid (And.intro x1 (And.intro x2 (And.intro x3 (And.intro x4 hYr))))
  clear hX hXm hmays hdev hA hWn hWn' hYm hYr x1 x2 x3 x4
  have B0 : Below W.heap.size W W.drew := (Below.refl _ W).drew
  have B2 : Below W.heap.size W (W.alloc (.cells #[.slice none 0 0] 25)).drew := ((Below.refl _ W).alloc (Nat.le_refl _) _).drew
  have D1 := hid (show Calls Tryd.prog 6 #[.slice a' n' c', .int .i64 (K : Int), .int .i64 24, .int .i64 40] W.drew (fun e w' => ∃ x m cap, e = .returned (.slice x m cap) ∧ ActsAt w' x m A ∧ Below W.heap.size W w') from (CU.out _ B0).mono (fun e w' ⟨x, m, cap, he, hx, gx⟩ => ⟨x, m, cap, he, hx, bel3 B0 gx⟩))
  have D2 := hid (show Calls Tryd.prog 6 #[.slice a' n' c', .int .i64 (K : Int), .int .i64 24, .int .i64 40] (W.alloc (.cells #[.slice none 0 0] 25)).drew (fun e w' => ∃ x m cap, e = .returned (.slice x m cap) ∧ ActsAt w' x m A ∧ Below W.heap.size W w' ∧ w'.cell? ⟨W.heap.size, 0, none⟩ = some (.slice none 0 0) ∧ w'.frozen? ⟨W.heap.size, 0, none⟩ = false ∧ W.heap.size < w'.heap.size) from (CU.out _ B2).mono (fun e w' ⟨x, m, cap, he, hx, gx⟩ => ⟨x, m, cap, he, hx, bel3 B2 gx, (gx.cell (p := ⟨W.heap.size, 0, none⟩) (by show W.heap.size < (W.alloc (.cells #[.slice none 0 0] 25)).heap.size; simp)).trans (by simp [go_sem]), (gx.frozen (p := ⟨W.heap.size, 0, none⟩) (by show W.heap.size < (W.alloc (.cells #[.slice none 0 0] 25)).heap.size; simp)).trans (by simp [go_sem]), Nat.lt_of_lt_of_le (by show W.heap.size < (W.alloc (.cells #[.slice none 0 0] 25)).heap.size; simp) gx.size⟩))
  clear B0 B2 CU
  go_cut [13] (fun s13 wx => ∃ py a5 c5, s13 = .pointer (some ⟨py, 0, none⟩) ∧ ABy wx py a5 c5 X ∧ Below W.heap.size W wx)
  case first =>
    go_region_held3 (fun w' => w'.cell? ⟨pa, 0, none⟩ = some (.slice (some ⟨b, 0, none⟩) 3 c1)) (go_keep)
      (first | (go_at_call 7; refine (CK1.out _).mono ?_; rintro _ w9 ⟨rfl, h9⟩; (have h8 := h9.symm); subst h8) | (go_at_call 6; (with_reducible show Calls _ _ _ (World.drew W) _); refine D1.out.mono ?_; rintro _ v4 ⟨x4, m4, e4, rfl, hx4, g4⟩; (have GA := hid (And.intro hx4 g4)); (have j4 := (g4.cell (p := ⟨pa, 0, none⟩) S1.out.2.2.2.2.1).trans p1); (have n4 := World.new_ne v4 ⟨pa, 0, none⟩ j4); clear hx4 g4) | (go_at_call 6; (with_reducible show Calls _ _ _ (World.drew (World.alloc W _)) _); refine D2.out.mono ?_; rintro _ v4 ⟨x4, m4, e4, rfl, hx4, g4, k4⟩; (have GB := hid (And.intro hx4 (And.intro g4 k4))); (have j4 := (g4.cell (p := ⟨pa, 0, none⟩) S1.out.2.2.2.2.1).trans p1); clear hx4 g4 k4) | (go_at_call 5; (with_reducible show Calls _ _ _ v4 _); (have GB2 := GB); refine (CH.out v4 _ _ _ GB.out.1 GB.out.2.1).mono ?_; rintro _ v5 ⟨a5, c5, rfl, h5, g5⟩; (have LB := hid (hu_late (c5 := c5) GB.out.2.1 GB.out.2.2.1 GB.out.2.2.2.1 ⟨Nat.le_refl _, GB.out.2.2.2.2⟩ h5 HX.out.1 g5)); (have b0 := LB.out.1.1); (have b1 := LB.out.1.2.1); (have j5 := (LB.out.1.2.2.cell (p := ⟨pa, 0, none⟩) S1.out.2.2.2.2.1).trans p1); (have j6 := (LB.out.2.2.2.2.cell (p := ⟨pa, 0, none⟩) S1.out.2.2.2.2.1).trans p1); clear h5 g5) | (go_at_call 5; (with_reducible show Calls _ _ _ v4 _); refine (CH.out v4 _ _ _ GA.out.1 GA.out.2).mono ?_; rintro _ v5 ⟨a5, c5, rfl, h5, g5⟩; (have LA := hid (And.intro h5 (bel3 GA.out.2 g5))); (have j5 := (LA.out.2.cell (p := ⟨pa, 0, none⟩) S1.out.2.2.2.2.1).trans p1); clear h5 g5) | (go_at_call 5; (with_reducible show Calls _ _ _ (World.alloc v4 _) _); refine (CH.out (v4.alloc (.cells #[.slice none 0 0] 25)) _ _ _ (GA.out.1.below ((Below.refl _ v4).alloc (Nat.le_refl _) _)) (bel3 GA.out.2 ((Below.refl _ v4).alloc (Nat.le_refl _) _))).mono ?_; rintro _ v5 ⟨a5, c5, rfl, h5, g5⟩; (have LC := hid (hu_late (p := v4.heap.size) (c5 := c5) (bel3 GA.out.2 ((Below.refl _ v4).alloc (Nat.le_refl _) (.cells #[.slice none 0 0] 25))) (by simp [go_sem]) (by simp [go_sem]) ⟨GA.out.2.size, by simp⟩ h5 HX.out.1 g5)); (have b0 := LC.out.1.1); (have b1 := LC.out.1.2.1); (have j5 := (LC.out.1.2.2.cell (p := ⟨pa, 0, none⟩) S1.out.2.2.2.2.1).trans p1); (have j6 := (LC.out.2.2.2.2.cell (p := ⟨pa, 0, none⟩) S1.out.2.2.2.2.1).trans p1); clear h5 g5))
    all_goals (go_wp2_with fail; go_meet)
    all_goals (first | (obtain ⟨W6, hW6⟩ : ∃ W6, W6 = v5.alloc (.cells #[.slice a5 3 c5] 25) := ⟨_, rfl⟩; rw [← hW6]; exact ⟨v5.heap.size, a5, c5, rfl, ⟨by rw [hW6]; simp, LA.out.1.below (by rw [hW6]; exact (Below.refl _ v5).alloc (Nat.le_refl _) _), by rw [hW6]; simp⟩, bel3 LA.out.2 (by rw [hW6]; exact (Below.refl _ v5).alloc (Nat.le_refl _) _)⟩) | exact ⟨W.heap.size, a5, c5, rfl, ⟨LB.out.2.1, LB.out.2.2.1, LB.out.2.2.2.1⟩, LB.out.2.2.2.2⟩ | exact ⟨v4.heap.size, a5, c5, rfl, ⟨LC.out.2.1, LC.out.2.2.1, LC.out.2.2.2.1⟩, LC.out.2.2.2.2⟩)
  case rest =>
    obtain ⟨py, a5, c5, rfl, h5, hB5⟩ := hcut
    have S5 := hid (And.intro hB5 h5)
    clear h5 hB5 CH D1 D2 p1 CK1
    have C1 := hid (hsector_any a5 3 c5 k X _ S5.out.2.d)
    rw [HQ.out.1] at C1
    have d5 := S5.out.2.b
    go_wp2_with (go_at_call 7; refine (CK2.out _).mono ?_; rintro _ w9 ⟨rfl, h9⟩; (have h8 := h9.symm); subst h8)
    refine C1.out.mono ?_
    rintro _ v6 ⟨⟨a6, n6, c6, rfl, h6⟩, g6⟩
    obtain ⟨rfl, h6⟩ := outHe_at h6 HY3.out
    clear d5 C1
    go_upto_region 6 with fail
    obtain ⟨W6, hW6, b6, y6⟩ := abyed c6 h6
    rw [← hW6]
    have S6 := hid (And.intro (bel3 S5.out.1 (bel3 g6 b6)) y6)
    clear hW6 b6 y6 g6 h6 S5
    generalize v6.heap.size = p6 at S6 ⊢
    have C1 := hid (hsector_any a6 3 c6 k Y _ S6.out.2.d)
    rw [HQ.out.2.2.1] at C1
    have d6 := S6.out.2.b
    go_wp2_with fail
    refine C1.out.mono ?_
    rintro _ v7 ⟨⟨a7, n7, c7, rfl, h7⟩, g7⟩
    obtain ⟨rfl, h7⟩ := outHe_at h7 HY3.out
    clear d6 C1
    go_upto_region 7 with fail
    obtain ⟨W7, hW7, b7, y7⟩ := abyed c7 h7
    rw [← hW7]
    have S7 := hid (And.intro (bel3 S6.out.1 (bel3 g7 b7)) (And.intro (S6.out.2.below (bel3 g7 b7)) y7))
    clear hW7 b7 y7 g7 h7 S6
    generalize v7.heap.size = p7 at S7 ⊢
    have C1 := hid (hbad_any a6 3 c6 k Y _ S7.out.2.1.d)
    rw [HQ.out.2.2.2.1] at C1
    have d7 := S7.out.2.1.b
    go_wp2_with fail
    refine C1.out.mono ?_
    rintro _ v8 ⟨rfl, g8⟩
    have S8 := hid (And.intro (bel3 S7.out.1 g8) (And.intro (S7.out.2.1.below g8) (S7.out.2.2.below g8)))
    clear g8 S7 C1 d7
    have hm0 := HQ.out.2.1
    have CRd := hid (fun wx (gx : Below v8.heap.size v8 wx) => reads_any a6 3 c6 Y g 24 24 all wx (S8.out.2.1.d.below gx) ((S1.out.2.2.1.below' S8.out.1).below' gx).row HL.out.symm (by omega) HQ.out.2.2.2.2)
    have hm1 : decide (0 ≤ m) = true := decide_eq_true hm0
    by_cases h2 : k % 2 = 0
    · have e : ((k : Int).tmod 2 == 0) = true := by rw [beq_iff_eq, Int.tmod_eq_emod_of_nonneg (by omega)]; omega
      have C1 := hid (hbad_any a7 3 c7 k Y _ S8.out.2.2.d)
      rw [HQ.out.2.2.2.1] at C1
      have d8 := S8.out.2.2.b
      go_wp2_with fail
      refine C1.out.mono ?_
      rintro _ v9 ⟨rfl, g9⟩
      have d9 := (S8.out.2.1.below g9).b
      have G9 := hid g9
      clear g9 C1 d8
      go_wp2_with fail
      refine (CRd.out _ G9.out).mono ?_
      rintro _ v10 ⟨rfl, g10⟩
      go_wp2
      go_ret
      exact ⟨rfl, bel3 S1.out.1 (bel3 S8.out.1 (bel3 G9.out g10))⟩
    · have e : ((k : Int).tmod 2 == 0) = false := by rw [beq_eq_false_iff_ne, Int.tmod_eq_emod_of_nonneg (by omega)]; omega
      have d8 := S8.out.2.1.b
      go_wp2_with fail
      refine (CRd.out _ (Below.refl _ _)).mono ?_
      rintro _ v10 ⟨rfl, g10⟩
      go_wp2
      go_ret
      exact ⟨rfl, bel3 S1.out.1 (bel3 S8.out.1 g10)⟩

set_option maxRecDepth 100000 in
theorem lifted (os : Os) (started : os.Started) (H : Type) (enc : TypeId × Value → H) :
    ReturnsInHanded {} Tryd.checked os 3 .any (fun w args => (Rows.healsAllSpec.pre enc Tryd.prog Tryd.f3 Rows.healsAllRow.domain false w args ∧ laidMetH Tryd.prog Rows.healsAllRow.laid w) ∧ sizedMet enc Tryd.prog Tryd.f3 (OpenSpec.ofChange Rows.healsAllSpec) false w args)
      (Rows.healsAllSpec.post enc Tryd.prog Tryd.f3 false true false false) := by
  refine returnsInHanded_of_change_and (C := Tryd.checked) (X := fun w _ => laidMetH Tryd.prog Rows.healsAllRow.laid w) (fun _ _ _ hh h => h.of_heap hh) own started (by kernel_rfl) Tryd.func3
    (ChangeSpec.witness_shaped (enc := enc) (C := Tryd.checked) (os := os) (X := fun w _ => laidMetH Tryd.prog Rows.healsAllRow.laid w) false (World.laidAll Tryd.prog os Rows.healsAllRow.laid) #[.slice none 0 0, .slice none 0 0, .int .i64 0, .int .i64 0] 8 (World.laidAll_os _ _ _)
      (World.shaped_of_ZipB (by kernel_rfl) (by kernel_rfl)) (by kernel_rfl) (by kernel_rfl) (by kernel_rfl)
      (by rw [MakeChecks.laidMetH_plain _ _ _ (by kernel_rfl)]; exact laidMet_laidAll _ (by kernel_rfl) (by kernel_rfl))) ?_
  intro W base args ds gs before hval0 hW hcnd _ _hL _
  have hval : ∀ (j : Nat) t v, Tryd.f3.params[j]? = some t → args[j]? = some v → Value.okWide Tryd.prog W .any base t v := hval0
  have hW' := hW
  obtain ⟨p, q, hA0, hV, rfl, hfz, hnd⟩ := hW
  have hA : DataW.TrodAll enc Tryd.prog W 0 (fun _ => true) true Tryd.f3.params.toList args.toList ds p := hA0
  rw [Tryd.params3] at hA hval
  obtain ⟨v0, vs0, d0, ds0, p0, q0, hargs, rfl, rfl, h0, r0⟩ := trodAll_cons hA
  obtain ⟨v1, vs1, d1, ds1, p1, q1, rfl, rfl, rfl, h1, r1⟩ := trodAll_cons r0
  obtain ⟨v2, vs2, d2, ds2, p2, q2, rfl, rfl, rfl, h2, r2⟩ := trodAll_cons r1
  obtain ⟨v3, vs3, d3, ds3, p3, q3, rfl, rfl, rfl, h3, r3⟩ := trodAll_cons r2
  obtain ⟨rfl, rfl, rfl⟩ := trodAll_nil r3
  obtain rfl : args = #[v0, v1, v2, v3] := by cases args; simp_all
  obtain ⟨rfl, rfl⟩ := trodVars_none hV
  have h0k := h0
  obtain ⟨a0, n0, c0, R0, rfl, w0, f0⟩ := open_raws (hval 0 22 v0 rfl rfl) h0
  have l0 : ∀ x ∈ p0, x.block < W.heap.size := fun x hx => hW'.lt x (by simp [hx])
  have h1k := h1
  obtain ⟨a1, n1, c1, R1, rfl, w1, f1⟩ := open_raws (hval 1 22 v1 rfl rfl) h1
  have l1 : ∀ x ∈ p1, x.block < W.heap.size := fun x hx => hW'.lt x (by simp [hx])
  obtain ⟨a2, rfl, rfl, rfl, w2⟩ := open_int Tryd.underlying3 (hval 2 3 v2 rfl rfl) h2
  obtain ⟨a3, rfl, rfl, rfl, w3⟩ := open_int Tryd.underlying3 (hval 3 3 v3 rfl rfl) h3
  clear hA0 hval0
  refine (walk W (pow_of _hL) a0 n0 c0 R0 a1 n1 c1 R1 a2 a3 w0 w1 w2 w3).mono fun e W' ⟨he, bel⟩ => ?_
  subst he
  exact ⟨_, rfl, _, _, _, [], _, [], hW', trodAll_mk1 (shut_bool Tryd.underlying4 _), (trodAll_cons_mk (Below.trod laidOut (by kernel_rfl) (of_decide_eq_true (by kernel_rfl)) h0k bel l0) (trodAll_cons_mk (Below.trod laidOut (by kernel_rfl) (of_decide_eq_true (by kernel_rfl)) h1k bel l1) (trodAll_cons_mk (shut_int Tryd.underlying3 w2) (trodAll_cons_mk (shut_int Tryd.underlying3 w3) trodAll_mk0)))), rfl, bel.frame _, fun h => by cases h⟩

theorem over : Rows.healsAllRow.holds Tryd.pinned (OpenSpec.ofChange Rows.healsAllSpec) :=
  OpenClaim.holds_of_wide 3 Tryd.f3 rfl rfl rfl rfl rfl rfl rfl ⟨rfl, rfl, rfl, rfl, rfl⟩ rfl rfl rfl rfl rfl (by kernel_rfl) Tryd.func3 (by kernel_rfl)
    (of_decide_eq_true (by kernel_rfl)) (by unfold Func.isWrapper; first | (rw [if_pos (by decide +kernel)]; kernel_rfl) | (rw [if_neg (by decide +kernel)]; exact ⟨rfl, rfl⟩))
    (fun os started H enc _ => lifted os started H enc)
end Go.Proofs.YtocacdahniamiaaDoor.healsAll

namespace Go.Proofs.YtocacdahniamiaaDoor
theorem healsAll_holds : Rows.HealsAllCardSaid :=
  Claim7.holds_tied_plain_at .later [] [.data, .data, .data] true (true, "18885e1258bc194c6b292561e07da59d40efcfd1e5f0754e0188f20a965a0dab") false
    healsAll.over (fun _ h => by cases h) (by kernel_rfl) (fun _ h => by cases h) healsAll_row_tie rfl ⟨rfl, rfl⟩ (by kernel_rfl) rfl
    (fun f fn hf hfn => by
      obtain rfl : f = 3 := Option.some.inj ((show Tryd.prog.funcNamed "arras/arraskeep.HealsAll" = some 3 by kernel_rfl).symm.trans hf) |>.symm
      obtain rfl : fn = Tryd.f3 := (Option.some.inj (Tryd.func3.symm.trans hfn)).symm
      exact ⟨by kernel_rfl, fun j t ht => by
        rw [Tryd.params3] at ht
        have hm : t ∈ [22, 22, 3, 3] := by simpa using Array.mem_of_getElem? ht
        have hall : ([22, 22, 3, 3].all fun u => !Tryd.prog.wantsStandIn u) = true := by kernel_rfl
        exact (show Tryd.prog.wantsStandIn t = false by simpa using List.all_eq_true.1 hall t hm)⟩)
    (by kernel_rfl)
#print axioms healsAll_holds
end Go.Proofs.YtocacdahniamiaaDoor
