/- For every two lists of raw things and every two numbers: whatever happens to one device of a filled array, all sectors are told as they were, from the first mirror, or from the second one where the first one was hurt; the array may be; what was handed in is left as it was; the table of powers of ten is listed and tied (Itoa looks into it), the two tables of math/bits are listed, and no step looks into them. -/
import Derived.Test.YtbjnaielicnfhabDoorRows
import Derived.Test.YtbjnaielicnfhabDoorTie
import Derived.Test.YtbjnaielicnfhabDoorCards
import Derived.Test.YtbjnaielicnfhabDoorKeepLate
import Derived.Test.YtbjnaielicnfhabDoorKeepReads
import Derived.WalkKit
import Derived.ProofKit
import Derived.OpenShut
import Derived.ShutString
import Derived.LaidOnce
import Derived.SevenTiedAt
import Derived.Lay
namespace Go.Proofs.YtbjnaielicnfhabDoor.arraysStand
open Go.ChangeShapes Go.WideShapes Go.ChangeAt Go.RowKit Go.Lib
open Go.ChangeMaps (open_string shut_string)

theorem own : ownKnob Tryd.prog.godebug = none := by kernel_rfl
theorem laidOut : laidOutB Tryd.prog = true := by kernel_rfl
theorem pow_of {W : World} (h : laidMetH Tryd.prog Rows.arraysStandRow.laid W) : Pow W := by
  rw [MakeChecks.laidMetH_plain _ _ _ (by kernel_rfl)] at h
  exact pow_laid h

set_option maxHeartbeats 3200000 in
set_option maxRecDepth 8000 in
theorem walk (w : World) (hp : Pow w) (a : Option Addr) (n c : Nat) (R : List Raw4) (dd : Int) (a' : Option Addr) (n' c' : Nat) (R' : List Raw4) (many_ : Int) (h : RawsAt w a n R) (w1 : (Lit.int .i64 dd).wf = true) (h' : RawsAt w a' n' R') (w3 : (Lit.int .i64 many_).wf = true) :
    Calls Tryd.prog 3 #[.slice a n c, .int .i64 dd, .slice a' n' c', .int .i64 many_] w fun e w' => e = .returned (.bool true) ∧ Below w.heap.size w w' := by
  have ha := wf_i64 w1
  have hmo := wf_i64 w3
  have pb := pick_bd dd 3 (by omega)
  have pe := pick_bd many_ 20 (by omega)
  obtain ⟨K, hK⟩ : ∃ K : Nat, pick dd 3 = K := ⟨(pick dd 3).toNat, by omega⟩
  obtain ⟨N, hN, hN1, hN2, hN3⟩ : ∃ N : Nat, 24 + 2 * pick many_ 20 = (N : Int) ∧ 16 ≤ N ∧ N ≤ 64 ∧ N % 2 = 0 := ⟨(24 + 2 * pick many_ 20).toNat, by omega, by omega, by omega, by omega⟩
  have hK3 : K < 3 := by omega
  have CS := hid (fun wx => sectors_any many_ wx hmo)
  rw [hN] at CS
  have CF := hid (filled_any a n c R N w h hp hN1 hN2 hN3)
  have HH := hid h'
  clear h h' hp pb pe w1 w3 hN
  go_enter Tryd.func3, Tryd.ntmps3
  go_wp2_with (go_at_call 6; refine (CS.out _).mono ?_; rintro _ w9 ⟨rfl, h9⟩; (have h8 := h9.symm); subst h8)
  refine CF.out.mono ?_
  rintro _ v1 ⟨all, b, c1, hh, g, rfl, hal, hf, ho, hb, hg, g1⟩
  go_upto_region 3 with fail
  obtain ⟨W, hW1⟩ : ∃ W1, W1 = v1.alloc (.cells #[.slice (some ⟨b, 0, none⟩) 3 c1] 26) := ⟨_, rfl⟩
  have b1 : Below v1.heap.size v1 W := by rw [hW1]; exact (Below.refl _ v1).alloc (Nat.le_refl _) _
  have p1 : W.cell? ⟨v1.heap.size, 0, none⟩ = some (.slice (some ⟨b, 0, none⟩) 3 c1) := by rw [hW1]; simp
  have z1 : v1.heap.size < W.heap.size := by rw [hW1]; simp
  rw [← hW1]
  have S1 := hid (And.intro (bel3 g1 b1) (And.intro (hf.below b1) (And.intro (ho.below' b1) (And.intro p1 (And.intro z1 (HH.out.below (bel3 g1 b1)))))))
  have HA := hid hal
  clear hW1 b1 hf ho hb hg g1 hal CF CS z1
  generalize v1.heap.size = pa at p1 S1 ⊢
  have HL : Hid (all.length = N) := HA.out.2
  obtain ⟨T, D, hX, hWn⟩ := stand HA.out.1 K hK3 R' 40
  have hXm : arMay (With all K D) = true := with_may HA.out.1 K hK3 D hWn.may hWn.len
  have hXr : ∀ i : Nat, i < N → arRead (With all K D) i = (pay all i, 1, 0) ∨ (K = 0 ∧ arRead (With all K D) i = (pay all i, 2, 0)) := fun i hi => worn_read HA.out.1 K hK3 T D hWn i (by rw [HL.out]; exact hi)
  have hmays := stand_may HA.out.1 K hK3 R' 40
  rw [HL.out] at hX hmays
  generalize With all K D = X at hX hXm hXr
  have hdev := hurts_dev R' K hK3 N 40
  obtain ⟨A, hA⟩ : ∃ A, A = hurtsOf R' K N 40 := ⟨_, rfl⟩
  rw [← hA] at hX hmays hdev
  have CU := hid (fun wx (g : Below W.heap.size W wx) => hurts_any a' n' c' R' K N 40 wx (S1.out.2.2.2.2.2.below g) hK3 hN1 hN2 (by omega))
  rw [← hA] at CU
  have CH := hid (fun wx x m e (HX : ActsAt wx x m A) (g : Below W.heap.size W wx) => hurt_any (some ⟨b, 0, none⟩) 3 c1 (goodA all) x m e A wx (.inr ⟨b, 0, hh, rfl, (S1.out.2.1.below g).arr⟩) HX hdev hmays)
  rw [hX] at CH
  have HX := hid (And.intro hXm hXr)
  clear hX hXm hXr hmays hdev hA hWn
  have B0 : Below W.heap.size W W.drew := (Below.refl _ W).drew
  have B2 : Below W.heap.size W (W.alloc (.cells #[.slice none 0 0] 26)).drew := ((Below.refl _ W).alloc (Nat.le_refl _) _).drew
  have D1 := hid (show Calls Tryd.prog 10 #[.slice a' n' c', .int .i64 (K : Int), .int .i64 (N : Int), .int .i64 40] W.drew (fun e w' => ∃ x m cap, e = .returned (.slice x m cap) ∧ ActsAt w' x m A ∧ Below W.heap.size W w') from (CU.out _ B0).mono (fun e w' ⟨x, m, cap, he, hx, gx⟩ => ⟨x, m, cap, he, hx, bel3 B0 gx⟩))
  have D2 := hid (show Calls Tryd.prog 10 #[.slice a' n' c', .int .i64 (K : Int), .int .i64 (N : Int), .int .i64 40] (W.alloc (.cells #[.slice none 0 0] 26)).drew (fun e w' => ∃ x m cap, e = .returned (.slice x m cap) ∧ ActsAt w' x m A ∧ Below W.heap.size W w' ∧ w'.cell? ⟨W.heap.size, 0, none⟩ = some (.slice none 0 0) ∧ w'.frozen? ⟨W.heap.size, 0, none⟩ = false ∧ W.heap.size < w'.heap.size) from (CU.out _ B2).mono (fun e w' ⟨x, m, cap, he, hx, gx⟩ => ⟨x, m, cap, he, hx, bel3 B2 gx, (gx.cell (p := ⟨W.heap.size, 0, none⟩) (by show W.heap.size < (W.alloc (.cells #[.slice none 0 0] 26)).heap.size; simp)).trans (by simp [go_sem]), (gx.frozen (p := ⟨W.heap.size, 0, none⟩) (by show W.heap.size < (W.alloc (.cells #[.slice none 0 0] 26)).heap.size; simp)).trans (by simp [go_sem]), Nat.lt_of_lt_of_le (by show W.heap.size < (W.alloc (.cells #[.slice none 0 0] 26)).heap.size; simp) gx.size⟩))
  clear B0 B2 CU
  go_upto_region 4 with (go_at_call 8; refine (picked_gen _ _ _ (by assumption) (by decide)).mono ?_; rintro _ w9 ⟨rfl, h9⟩; (have h8 := h9.symm); subst h8)
  go_cut [14] (fun s14 wx => ∃ py a5 c5, s14 = .pointer (some ⟨py, 0, none⟩) ∧ wx.cell? ⟨py, 0, none⟩ = some (.slice a5 3 c5) ∧ ArrAt wx a5 3 X ∧ py < wx.heap.size ∧ Below W.heap.size W wx)
  case first =>
    go_region_held3 (fun w' => w'.cell? ⟨pa, 0, none⟩ = some (.slice (some ⟨b, 0, none⟩) 3 c1)) (go_keep)
      (first | (go_at_call 10; (with_reducible show Calls _ _ _ (World.drew W) _); refine D1.out.mono ?_; rintro _ v4 ⟨x4, m4, e4, rfl, hx4, g4⟩; (have GA := hid (And.intro hx4 g4)); (have j4 := (g4.cell (p := ⟨pa, 0, none⟩) S1.out.2.2.2.2.1).trans p1); (have n4 := World.new_ne v4 ⟨pa, 0, none⟩ j4); clear hx4 g4) | (go_at_call 10; (with_reducible show Calls _ _ _ (World.drew (World.alloc W _)) _); refine D2.out.mono ?_; rintro _ v4 ⟨x4, m4, e4, rfl, hx4, g4, k4⟩; (have GB := hid (And.intro hx4 (And.intro g4 k4))); (have j4 := (g4.cell (p := ⟨pa, 0, none⟩) S1.out.2.2.2.2.1).trans p1); clear hx4 g4 k4) | (go_at_call 9; (with_reducible show Calls _ _ _ v4 _); (have GB2 := GB); refine (CH.out v4 _ _ _ GB.out.1 GB.out.2.1).mono ?_; rintro _ v5 ⟨a5, c5, rfl, h5, g5⟩; (have LB := hid (hu_late (c5 := c5) GB.out.2.1 GB.out.2.2.1 GB.out.2.2.2.1 ⟨Nat.le_refl _, GB.out.2.2.2.2⟩ h5 HX.out.1 g5)); (have b0 := LB.out.1.1); (have b1 := LB.out.1.2.1); (have j5 := (LB.out.1.2.2.cell (p := ⟨pa, 0, none⟩) S1.out.2.2.2.2.1).trans p1); (have j6 := (LB.out.2.2.2.2.cell (p := ⟨pa, 0, none⟩) S1.out.2.2.2.2.1).trans p1); clear h5 g5) | (go_at_call 9; (with_reducible show Calls _ _ _ v4 _); refine (CH.out v4 _ _ _ GA.out.1 GA.out.2).mono ?_; rintro _ v5 ⟨a5, c5, rfl, h5, g5⟩; (have LA := hid (And.intro h5 (bel3 GA.out.2 g5))); (have j5 := (LA.out.2.cell (p := ⟨pa, 0, none⟩) S1.out.2.2.2.2.1).trans p1); clear h5 g5) | (go_at_call 9; (with_reducible show Calls _ _ _ (World.alloc v4 _) _); refine (CH.out (v4.alloc (.cells #[.slice none 0 0] 26)) _ _ _ (GA.out.1.below ((Below.refl _ v4).alloc (Nat.le_refl _) _)) (bel3 GA.out.2 ((Below.refl _ v4).alloc (Nat.le_refl _) _))).mono ?_; rintro _ v5 ⟨a5, c5, rfl, h5, g5⟩; (have LC := hid (hu_late (p := v4.heap.size) (c5 := c5) (bel3 GA.out.2 ((Below.refl _ v4).alloc (Nat.le_refl _) (.cells #[.slice none 0 0] 26))) (by simp [go_sem]) (by simp [go_sem]) ⟨GA.out.2.size, by simp⟩ h5 HX.out.1 g5)); (have b0 := LC.out.1.1); (have b1 := LC.out.1.2.1); (have j5 := (LC.out.1.2.2.cell (p := ⟨pa, 0, none⟩) S1.out.2.2.2.2.1).trans p1); (have j6 := (LC.out.2.2.2.2.cell (p := ⟨pa, 0, none⟩) S1.out.2.2.2.2.1).trans p1); clear h5 g5))
    all_goals (go_wp2_with fail; go_meet)
    all_goals (first | (obtain ⟨W6, hW6⟩ : ∃ W6, W6 = v5.alloc (.cells #[.slice a5 3 c5] 26) := ⟨_, rfl⟩; rw [← hW6]; exact ⟨v5.heap.size, a5, c5, rfl, by rw [hW6]; simp, LA.out.1.below (by rw [hW6]; exact (Below.refl _ v5).alloc (Nat.le_refl _) _), by rw [hW6]; simp, bel3 LA.out.2 (by rw [hW6]; exact (Below.refl _ v5).alloc (Nat.le_refl _) _)⟩) | exact ⟨W.heap.size, a5, c5, rfl, LB.out.2.1, LB.out.2.2.1, LB.out.2.2.2.1, LB.out.2.2.2.2⟩ | exact ⟨v4.heap.size, a5, c5, rfl, LC.out.2.1, LC.out.2.2.1, LC.out.2.2.2.1, LC.out.2.2.2.2⟩)
  case rest =>
    obtain ⟨py, a5, c5, rfl, p5, h5, l5, hB5⟩ := hcut
    have S5 := hid (And.intro hB5 (And.intro p5 (And.intro h5 l5)))
    clear p5 h5 l5 hB5 CH D1 D2 p1
    go_wp2_with fail
    go_loopw [38] (fun i wr => ∃ k : Nat, k ≤ N ∧ i = .int .i64 k ∧ Hid (Below wc.heap.size wc wr)) (fun i _ => N - (intOf i).toNat)
    case atStart => exact ⟨0, Nat.zero_le _, rfl, Below.refl _ _⟩
    case round =>
      obtain ⟨k, hk, rfl, HG⟩ := hrel
      have d5 := (HG.out.cell (p := ⟨py, 0, none⟩) S5.out.2.2.2).trans S5.out.2.1
      by_cases hlt : k < N
      · have hlt' : (k : Int) < N := by omega
        have C := hid (aread_any a5 3 c5 k X wr (S5.out.2.2.1.below HG.out))
        generalize str (pay all k) = SK
        rcases HX.out.2 k hlt with e | ⟨hK0, e⟩
        · rw [e] at C
          clear e
          go_wp2_with fail
          refine C.out.mono ?_
          rintro _ v7 ⟨rfl, g7⟩
          have G7 := hid (bel3 HG.out g7)
          clear g7 C d5
          go_wp2
          go_roundw
          case rel => exact ⟨k + 1, by omega, by go_num, G7.out⟩
          case measure => simp [intOf]; omega
        · rw [e] at C
          have hK1 : ((K : Int) != 0) = false := by rw [bne_eq_false_iff_eq, hK0]; rfl
          clear e hK0
          go_wp2_with fail
          refine C.out.mono ?_
          rintro _ v7 ⟨rfl, g7⟩
          have G7 := hid (bel3 HG.out g7)
          clear g7 C d5
          go_wp2
          go_roundw
          case rel => exact ⟨k + 1, by omega, by go_num, G7.out⟩
          case measure => simp [intOf]; omega
      · have hlt' : ¬ (k : Int) < N := by omega
        have gW := bel3 S5.out.1 HG.out
        have d1 := (gW.cell (p := ⟨pa, 0, none⟩) S1.out.2.2.2.2.1).trans S1.out.2.2.2.1
        have GW := hid gW
        clear gW
        go_wp2_with fail
        refine (reads_any (some ⟨b, 0, none⟩) 3 c1 (goodA all) g N N all wr (.inr ⟨b, 0, hh, rfl, (S1.out.2.1.below GW.out).arr⟩) (S1.out.2.2.1.below' GW.out).row HL.out.symm (by omega) (fun i hi => by
          rw [good_read HA.out.1 i (by rw [HL.out]; exact hi)]; exact ⟨rfl, rfl⟩)).mono ?_
        rintro _ v8 ⟨rfl, g8⟩
        have e5 := (g8.cell (p := ⟨py, 0, none⟩) (Nat.lt_of_lt_of_le S5.out.2.2.2 HG.out.size)).trans d5
        have G8 := hid g8
        clear g8 d1 d5
        go_wp2_with fail
        refine (reads_any a5 3 c5 X g N N all v8 ((S5.out.2.2.1.below HG.out).below G8.out) ((S1.out.2.2.1.below' GW.out).below' G8.out).row HL.out.symm (by omega) (fun i hi => by
          rcases HX.out.2 i hi with e | ⟨_, e⟩ <;> rw [e] <;> exact ⟨rfl, rfl⟩)).mono ?_
        rintro _ v9 ⟨rfl, g9⟩
        have e6 := (g9.cell (p := ⟨py, 0, none⟩) (Nat.lt_of_lt_of_le S5.out.2.2.2 (Nat.le_trans HG.out.size G8.out.size))).trans e5
        have G9 := hid (bel3 G8.out g9)
        have CK := hid (acheck_any a5 3 c5 X v9 ((S5.out.2.2.1.below HG.out).below G9.out))
        rw [arChk_yes X HX.out.1] at CK
        clear g9 e5
        go_wp2_with fail
        refine CK.out.mono ?_
        rintro _ v10 ⟨rfl, g10⟩
        go_wp2
        go_ret
        exact ⟨rfl, bel3 S1.out.1 (bel3 (bel3 GW.out G9.out) g10)⟩

set_option maxRecDepth 100000 in
theorem lifted (os : Os) (started : os.Started) (H : Type) (enc : TypeId × Value → H) :
    ReturnsInHanded {} Tryd.checked os 3 .any (fun w args => (Rows.arraysStandSpec.pre enc Tryd.prog Tryd.f3 Rows.arraysStandRow.domain false w args ∧ laidMetH Tryd.prog Rows.arraysStandRow.laid w) ∧ sizedMet enc Tryd.prog Tryd.f3 (OpenSpec.ofChange Rows.arraysStandSpec) false w args)
      (Rows.arraysStandSpec.post enc Tryd.prog Tryd.f3 false true false false) := by
  refine returnsInHanded_of_change_and (C := Tryd.checked) (X := fun w _ => laidMetH Tryd.prog Rows.arraysStandRow.laid w) (fun _ _ _ hh h => h.of_heap hh) own started (by kernel_rfl) Tryd.func3
    (ChangeSpec.witness_shaped (enc := enc) (C := Tryd.checked) (os := os) (X := fun w _ => laidMetH Tryd.prog Rows.arraysStandRow.laid w) false (World.laidAll Tryd.prog os Rows.arraysStandRow.laid) #[.slice none 0 0, .int .i64 0, .slice none 0 0, .int .i64 0] 8 (World.laidAll_os _ _ _)
      (World.shaped_of_ZipB (by kernel_rfl) (by kernel_rfl)) (by kernel_rfl) (by kernel_rfl) (by kernel_rfl)
      (by rw [MakeChecks.laidMetH_plain _ _ _ (by kernel_rfl)]; exact laidMet_laidAll _ (by kernel_rfl) (by kernel_rfl))) ?_
  intro W base args ds gs before hval0 hW hcnd _ _hL _
  have hval : ∀ (j : Nat) t v, Tryd.f3.params[j]? = some t → args[j]? = some v → Value.okWide Tryd.prog W .any base t v := hval0
  have hW' := hW
  obtain ⟨p, q, hA0, hV, rfl, hfz, hnd⟩ := hW
  have hA : DataW.TrodAll enc Tryd.prog W 0 (fun _ => true) true Tryd.f3.params.toList args.toList ds p := hA0
  rw [Tryd.params3] at hA hval
  obtain ⟨v0, vs0, d0, ds0, p0, q0, hargs, rfl, rfl, h0, r0⟩ := trodAll_cons hA
  obtain ⟨v1, vs1, d1, ds1, p1, q1, rfl, rfl, rfl, h1, r1⟩ := trodAll_cons r0
  obtain ⟨v2, vs2, d2, ds2, p2, q2, rfl, rfl, rfl, h2, r2⟩ := trodAll_cons r1
  obtain ⟨v3, vs3, d3, ds3, p3, q3, rfl, rfl, rfl, h3, r3⟩ := trodAll_cons r2
  obtain ⟨rfl, rfl, rfl⟩ := trodAll_nil r3
  obtain rfl : args = #[v0, v1, v2, v3] := by cases args; simp_all
  obtain ⟨rfl, rfl⟩ := trodVars_none hV
  have h0k := h0
  obtain ⟨a0, n0, c0, R0, rfl, w0, f0⟩ := open_raws (hval 0 22 v0 rfl rfl) h0
  have l0 : ∀ x ∈ p0, x.block < W.heap.size := fun x hx => hW'.lt x (by simp [hx])
  obtain ⟨a1, rfl, rfl, rfl, w1⟩ := open_int Tryd.underlying3 (hval 1 3 v1 rfl rfl) h1
  have h2k := h2
  obtain ⟨a2, n2, c2, R2, rfl, w2, f2⟩ := open_raws (hval 2 22 v2 rfl rfl) h2
  have l2 : ∀ x ∈ p2, x.block < W.heap.size := fun x hx => hW'.lt x (by simp [hx])
  obtain ⟨a3, rfl, rfl, rfl, w3⟩ := open_int Tryd.underlying3 (hval 3 3 v3 rfl rfl) h3
  clear hA0 hval0
  refine (walk W (pow_of _hL) a0 n0 c0 R0 a1 a2 n2 c2 R2 a3 w0 w1 w2 w3).mono fun e W' ⟨he, bel⟩ => ?_
  subst he
  exact ⟨_, rfl, _, _, _, [], _, [], hW', trodAll_mk1 (shut_bool Tryd.underlying4 _), (trodAll_cons_mk (Below.trod laidOut (by kernel_rfl) (of_decide_eq_true (by kernel_rfl)) h0k bel l0) (trodAll_cons_mk (shut_int Tryd.underlying3 w1) (trodAll_cons_mk (Below.trod laidOut (by kernel_rfl) (of_decide_eq_true (by kernel_rfl)) h2k bel l2) (trodAll_cons_mk (shut_int Tryd.underlying3 w3) trodAll_mk0)))), rfl, bel.frame _, fun h => by cases h⟩

theorem over : Rows.arraysStandRow.holds Tryd.pinned (OpenSpec.ofChange Rows.arraysStandSpec) :=
  OpenClaim.holds_of_wide 3 Tryd.f3 rfl rfl rfl rfl rfl rfl rfl ⟨rfl, rfl, rfl, rfl, rfl⟩ rfl rfl rfl rfl rfl (by kernel_rfl) Tryd.func3 (by kernel_rfl)
    (of_decide_eq_true (by kernel_rfl)) (by unfold Func.isWrapper; first | (rw [if_pos (by decide +kernel)]; kernel_rfl) | (rw [if_neg (by decide +kernel)]; exact ⟨rfl, rfl⟩))
    (fun os started H enc _ => lifted os started H enc)
end Go.Proofs.YtbjnaielicnfhabDoor.arraysStand

namespace Go.Proofs.YtbjnaielicnfhabDoor
theorem arraysStand_holds : Rows.ArraysStandCardSaid :=
  Claim7.holds_tied_plain_at .later [] [.data, .data, .data] true (true, "6af98e124636e9addf48f55dcfcc2a840b779c1f904a22cf6fffbd9ba7135ca3") false
    arraysStand.over (fun _ h => by cases h) (by kernel_rfl) (fun _ h => by cases h) arraysStand_row_tie rfl ⟨rfl, rfl⟩ (by kernel_rfl) rfl
    (fun f fn hf hfn => by
      obtain rfl : f = 3 := Option.some.inj ((show Tryd.prog.funcNamed "arras/arraskeep.ArraysStand" = some 3 by kernel_rfl).symm.trans hf) |>.symm
      obtain rfl : fn = Tryd.f3 := (Option.some.inj (Tryd.func3.symm.trans hfn)).symm
      exact ⟨by kernel_rfl, fun j t ht => by
        rw [Tryd.params3] at ht
        have hm : t ∈ [22, 3, 22, 3] := by simpa using Array.mem_of_getElem? ht
        have hall : ([22, 3, 22, 3].all fun u => !Tryd.prog.wantsStandIn u) = true := by kernel_rfl
        exact (show Tryd.prog.wantsStandIn t = false by simpa using List.all_eq_true.1 hall t hm)⟩)
    (by kernel_rfl)
#print axioms arraysStand_holds
end Go.Proofs.YtbjnaielicnfhabDoor
