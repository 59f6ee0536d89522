/- For every list of raw things and every number: files that are added to an archive that is new are got as they were, unless there is no room; a name that there is already is refused, one that there is not is not found; all names are told, each once, in their order. What was handed in is left as it was; the table of powers of ten is listed and tied (Itoa looks into it), the other tables are listed, and no step looks into them. -/
import Derived.Test.YtkhjmfngeidlcabGreatDoorRows
import Derived.Test.YtkhjmfngeidlcabGreatDoorTie
import Derived.Test.YtkhjmfngeidlcabGreatDoorCards
import Derived.Test.YtkhjmfngeidlcabGreatDoorKeepBase
import Derived.Test.YtkhjmfngeidlcabGreatDoorKeepFiles
import Derived.Test.YtkhjmfngeidlcabGreatDoorKeepTxt
import Derived.Test.YtkhjmfngeidlcabGreatDoorArcAdd
import Derived.Test.YtkhjmfngeidlcabGreatDoorArcNames
import Derived.Test.YtkhjmfngeidlcabGreatDoorArcGet
import Derived.Test.YtkhjmfngeidlcabGreatDoorArrSame
import Derived.WalkKit
import Derived.ProofKit
import Derived.OpenShut
import Derived.ShutString
import Derived.LaidOnce
import Derived.SevenTiedAt
import Derived.Lay
import Derived.Stop.Joined
namespace Go.Proofs.YtkhjmfngeidlcabGreatDoor.archivesBack
open Go.ChangeShapes Go.WideShapes Go.ChangeAt Go.RowKit Go.Lib
open Go.ChangeMaps (open_string shut_string)

theorem own : ownKnob Tryz.prog.godebug = none := by kernel_rfl
theorem laidOut : laidOutB Tryz.prog = true := by kernel_rfl
theorem pow_of {W : World} (h : laidMetH Tryz.prog Rows.archivesBackRow.laid W) : Pow W := by
  rw [MakeChecks.laidMetH_plain _ _ _ (by kernel_rfl)] at h
  exact pow_laid h
set_option maxHeartbeats 400000 in
theorem sects_any (n : Int) (w : World) (hn : i64Ok n) : Calls Tryz.prog 5 #[.int .i64 n] w fun e w' => e = .returned (.int .i64 (24 + 2 * pick n 20)) ∧ w' = w := by
  have pb := pick_bd n 20 (by omega)
  go_enter Tryz.func5, Tryz.ntmps5
  go_wp2_with (go_at_call 13; refine (picked_gen _ _ _ (by assumption) (by decide)).mono ?_; rintro _ w9 ⟨rfl, h9⟩; (have h8 := h9.symm); subst h8)
  go_ret
  first | exact ⟨rfl, rfl⟩ | exact ⟨ret_int (by omega), rfl⟩

theorem late1 {W w4 : World} {c : Obj} {v : Value} (g : Below ((W.alloc c).drew).heap.size ((W.alloc c).drew) w4) : Below W.heap.size W (w4.setCell ⟨W.heap.size, 0, none⟩ v) :=
  (bel3 (((Below.refl _ W).alloc (Nat.le_refl _) c).drew) g).setCell (Nat.le_refl _) v
theorem late2 {W w4 : World} {c : Obj} {v : Value} (g : Below (W.alloc c).heap.size (W.alloc c) w4) : Below W.heap.size W (w4.setCell ⟨W.heap.size, 0, none⟩ v) :=
  (bel3 ((Below.refl _ W).alloc (Nat.le_refl _) c) g).setCell (Nat.le_refl _) v
theorem early1 {W w4 : World} {c : Obj} (g : Below W.drew.heap.size W.drew w4) : Below W.heap.size W (w4.alloc c) := by
  have g' := undrew g
  exact g'.alloc g'.size c
theorem early2 {W w4 : World} {c : Obj} (g : Below W.heap.size W w4) : Below W.heap.size W (w4.alloc c) := g.alloc g.size c
theorem kept_new {W w2 : World} (g : Below ((W.alloc (.cells #[.slice none 0 0] 25)).drew).heap.size ((W.alloc (.cells #[.slice none 0 0] 25)).drew) w2) : w2.cell? ⟨W.heap.size, 0, none⟩ = some (.slice none 0 0) ∧ w2.frozen? ⟨W.heap.size, 0, none⟩ = false :=
  ⟨cell_at g (by simp), (g.frozen (p := ⟨W.heap.size, 0, none⟩) (by simp)).trans (by simp)⟩
theorem kept_new2 {W w2 : World} (g : Below (W.alloc (.cells #[.slice none 0 0] 25)).heap.size (W.alloc (.cells #[.slice none 0 0] 25)) w2) : w2.cell? ⟨W.heap.size, 0, none⟩ = some (.slice none 0 0) ∧ w2.frozen? ⟨W.heap.size, 0, none⟩ = false :=
  ⟨cell_at g (by simp), (g.frozen (p := ⟨W.heap.size, 0, none⟩) (by simp)).trans (by simp)⟩
theorem old_new {W : World} {p : Addr} {v : Value} (h : W.cell? p = some v) : (W.alloc (.cells #[.slice none 0 0] 25)).cell? p = some v := cell_at ((Below.refl _ W).alloc (Nat.le_refl _) _) h

set_option maxHeartbeats 3200000 in
set_option maxRecDepth 8000 in
theorem walk (w : World) (hp : Pow w) (a : Option Addr) (n c : Nat) (R : List Raw4) (x : Int) (h : RawsAt w a n R) (w1 : (Lit.int .i64 x).wf = true) :
    Calls Tryz.prog 3 #[.slice a n c, .int .i64 x] w fun e w' => e = .returned (.bool true) ∧ Below w.heap.size w w' := by
  have ha := wf_i64 w1
  have pb := pick_bd x 20 (by omega)
  have CS := hid (sects_any x w ha)
  obtain ⟨M, hM, m1, m2, m3⟩ : ∃ M : Nat, 24 + 2 * pick x 20 = M ∧ 16 ≤ M ∧ M ≤ 64 ∧ M % 2 = 0 := ⟨(24 + 2 * pick x 20).toNat, by omega, by omega, by omega, by omega⟩
  rw [hM] at CS
  have CN := hid (archnew_any M w)
  rw [new_good M m1 m2 m3] at CN
  have HM := hid (And.intro m1 (And.intro m2 m3))
  have HH := hid (And.intro h hp)
  clear h hp pb hM ha w1 m1 m2 m3
  go_enter Tryz.func3, Tryz.ntmps3
  go_wp2_with fail
  refine CS.out.mono ?_
  rintro _ w9 ⟨rfl, h9⟩
  have h8 := h9.symm
  subst h8
  clear CS
  go_wp2_with fail
  refine CN.out.mono ?_
  rintro _ v1 ⟨⟨x1, n1, c1, rfl, hX⟩, g1⟩
  have k1 := outA_at hX
  clear CN hX
  go_upto_region 2 with fail
  obtain ⟨W1, hW1, b1, kb⟩ := aboxed c1 k1
  rw [← hW1]
  have S1 := hid (And.intro (bel3 g1 b1) kb)
  clear hW1 g1 b1 kb k1
  generalize v1.heap.size = pa at S1 ⊢
  have CF : Hid (Calls Tryz.prog 6 #[.slice a n c, .int .i64 0, .int .i64 3] W1 fun e w' => OutFs W1 0 (min n 3) e w') := files_any a n c R 0 3 W1 (HH.out.1.below S1.out.1) (HH.out.2.below S1.out.1) (by omega)
  have hn3 : min n 3 ≤ 3 := Nat.min_le_right _ _
  generalize min n 3 = N at CF hn3
  clear HH
  go_wp2_with fail
  refine CF.out.mono ?_
  rintro _ v2 ⟨fa, fn, fc, F, rfl, ⟨hfn, hfc, hF⟩, ⟨hNm, hFN⟩, g2⟩
  have S2 := hid (And.intro (bel3 S1.out.1 g2) (And.intro (S1.out.2.below g2) hF))
  clear CF g2 S1 hF
  by_cases h0 : fn = 0
  · subst h0
    go_wp2
    go_ret
    exact ⟨rfl, S2.out.1⟩
  · have h0' : ((fn : Int) == 0) = false := by rw [beq_eq_false_iff_ne]; omega
    have hl1 : 1 ≤ F.length := by omega
    have hl3 : F.length ≤ 3 := by omega
    have HB := hid (arc_back M HM.out.1 HM.out.2.1 HM.out.2.2 F hNm hl1 hl3)
    have HF := hid (And.intro hNm (And.intro hfn hFN))
    have CA := hid (aadd_any x1 n1 c1 (goodA (zeroRows M)) fa fn fc F v2 S2.out.2.1.d S2.out.2.2 hfc)
    have d0 := S2.out.2.1.b
    obtain ⟨r, hr⟩ : ∃ r, addA (goodA (zeroRows M)) F = r := ⟨_, rfl⟩
    rw [hr] at CA HB
    have hfn3 : fn ≤ 3 := by omega
    have hfn1 : 1 ≤ fn := by omega
    clear hr hNm hFN hfn h0 hl1 hl3 hn3 HM
    go_wp2_with fail
    refine CA.out.mono ?_
    rintro _ v3 ⟨⟨x3, n3, c3, rfl, hX⟩, g3⟩
    have k3 := outA_at hX
    clear CA hX d0 h0'
    go_upto_region 6 with fail
    obtain ⟨W3, hW3, b3, kb⟩ := aboxed c3 k3
    rw [← hW3]
    have g4 := bel3 g3 b3
    have S3 := hid (And.intro (bel3 S2.out.1 g4) (And.intro kb (S2.out.2.2.below g4)))
    clear hW3 g3 b3 kb k3 g4 S2
    generalize v3.heap.size = px at S3 ⊢
    rcases HB.out with e | ⟨all, e, e1, e2, e3, _, e4, e5, e6, e7⟩
    · subst e
      clear HB
      go_wp2
      go_ret
      exact ⟨rfl, S3.out.1⟩
    · subst e
      have HE := hid (And.intro e4 (And.intro e5 (And.intro e6 e7)))
      have CA := hid (fun wx (g : Below W3.heap.size W3 wx) => aadd_any x3 n3 c3 (goodA all) fa 1 fc (F.take 1) wx (S3.out.2.1.d.below g) ((S3.out.2.2.take 1 hfn1).below g) (by omega))
      rw [e1] at CA
      have CN := hid (fun wx (g : Below W3.heap.size W3 wx) => names_any x3 n3 c3 (goodA all) wx (S3.out.2.1.d.below g))
      rw [e3] at CN
      have CG := hid (fun s wx (g : Below W3.heap.size W3 wx) => get_any x3 n3 c3 (goodA all) s wx (S3.out.2.1.d.below g))
      have CZ := hid (CG.out ⟨#[122, 122]⟩)
      rw [e2] at CZ
      obtain ⟨S, hS⟩ : ∃ S, namesE (opn (goodA all)).1.2 = S := ⟨_, rfl⟩
      rw [hS] at CN HE
      clear HB hS e1 e2 e3 e4 e5 e6 e7
      go_upto_region 8 with fail
      go_cut [11] (fun s wx => s = .int .i64 7 ∧ Below W3.heap.size W3 wx)
      case first =>
        have d0 := S3.out.2.1.b
        have hfc1 : 1 ≤ fc := by omega
        have d9 := old_new d0
        go_region_with (go_at_call 7; refine (CA.out _ (by go_grown)).mono ?_; rintro _ w4 ⟨⟨x4, n4, c4, rfl, _⟩, g4⟩; (try have q4 := kept_new g4); (try have q4 := kept_new2 g4); (try have q5 := q4.1); (try have q6 := q4.2))
        all_goals go_wp2_with fail
        all_goals go_meet
        all_goals (first | exact ⟨rfl, late1 g4⟩ | exact ⟨rfl, late2 g4⟩ | exact ⟨rfl, early1 g4⟩ | exact ⟨rfl, early2 g4⟩)
      case rest =>
        obtain ⟨rfl, g4⟩ := hcut
        have CN1 := hid (CN.out wc g4)
        have d0 := (S3.out.2.1.below g4).b
        have G4 := hid g4
        clear g4 CN CA
        go_wp2_with fail
        refine CN1.out.mono ?_
        rintro _ w5 ⟨na, nn, nc, rfl, ⟨hR, hnS, _⟩, g5⟩
        have G5 := hid (bel3 G4.out g5)
        have HR5 := hid hR
        have HNS := hid hnS
        clear CN1 d0 hR g5 G4 hnS
        have d0 := (S3.out.2.1.below G5.out).b
        have CZ1 := hid (CZ.out w5 G5.out)
        go_wp2_with fail
        refine CZ1.out.mono ?_
        rintro _ w6 ⟨rfl, g6⟩
        have G6 := hid (bel3 G5.out g6)
        have HR := hid (HR5.out.below g6)
        clear CZ1 CZ d0 g6 HR5 G5
        go_wp2_with fail
        go_loopw [66] (fun i wr => ∃ k : Nat, k ≤ fn ∧ i = .int .i64 k ∧ Hid (Below w6.heap.size w6 wr)) (fun i _ => fn - (intOf i).toNat)
        case atStart => exact ⟨0, Nat.zero_le _, rfl, Below.refl _ _⟩
        case round =>
          obtain ⟨k, hk, rfl, HG⟩ := hrel
          by_cases hlt : k < fn
          · have hlt' : (k : Int) < fn := by omega
            have GG := hid (bel3 G6.out HG.out)
            obtain ⟨fb, fo, rfl, hfb, y0, y1⟩ := (S3.out.2.2.below GG.out).c k hlt
            have hkF : k < F.length := by have := HF.out.2.1; omega
            have E1 := HE.out.1 k hkF
            have E2 := hid (HE.out.2.2.1 k hkF)
            have CG1 := hid (fun wx (g : Below W3.heap.size W3 wx) => CG.out (fi F k).s wx g)
            rw [E1] at CG1
            dsimp only at CG1
            rw [str_of] at CG1
            clear E1 hkF
            generalize (fi F k).s = sn at y0 CG1 E2
            generalize (fi F k).d = sd at y1 CG1
            go_upto_region 14 with fail
            obtain ⟨W7, hW7⟩ : ∃ W7, W7 = wr.alloc (.cells #[.string sn, .string sd] 39) := ⟨_, rfl⟩
            have b7 : Below wr.heap.size wr W7 := by rw [hW7]; exact (Below.refl _ wr).alloc (Nat.le_refl _) _
            have k7 : Own W7 wr.heap.size 39 [.string sn, .string sd] := by rw [hW7]; exact Own.made wr _ _
            rw [← hW7]
            have G7 := hid (bel3 HG.out b7)
            have t0 := k7.cell (i := 0) rfl
            have d0 := (S3.out.2.1.below (bel3 G6.out G7.out)).b
            have CG2 := hid (CG1.out W7 (bel3 G6.out G7.out))
            have K7 := hid k7
            clear hW7 b7 k7 y0 y1 hfb CG1 GG
            generalize wr.heap.size = pf at t0 K7 ⊢
            go_wp2_with fail
            refine CG2.out.mono ?_
            rintro _ w8 ⟨rfl, g8⟩
            have G8 := hid (bel3 G7.out g8)
            have K8 := hid (K7.out.below' g8)
            clear t0 d0 CG2 g8 G7 K7
            have t0 := K8.out.cell (i := 0) rfl
            have t1 := K8.out.cell (i := 1) rfl
            have CC := hid (tcontains_any na nn nc S sn w8 (HR.out.below G8.out) HNS.out (by have := HNS.out; have := HE.out.2.1; have := HF.out.2.1; omega) E2.out)
            go_wp2_with fail
            refine CC.out.mono ?_
            rintro _ w9 ⟨rfl, h9⟩
            have h8 := h9.symm
            subst h8
            clear t0 t1 CC K8
            go_wp2
            go_roundw
            case rel => exact ⟨k + 1, by omega, by go_num, G8⟩
            case measure => simp [intOf]; omega
          · obtain rfl : k = fn := by omega
            have hlt' : ¬ (k : Int) < k := by omega
            have hnk : nn = k := by have := HNS.out; have := HE.out.2.1; have := HF.out.2.1; omega
            have CT := hid (tsorted_any na nn nc S wr (HR.out.below HG.out) HNS.out (by omega) HE.out.2.2.2)
            subst hnk
            go_wp2_with fail
            refine CT.out.mono ?_
            rintro _ w9 ⟨rfl, g9⟩
            go_wp2
            go_ret
            exact ⟨rfl, bel3 S3.out.1 (bel3 G6.out (bel3 HG.out g9))⟩

set_option maxRecDepth 100000 in
theorem lifted (os : Os) (started : os.Started) (H : Type) (enc : TypeId × Value → H) :
    ReturnsInHanded {} Tryz.checked os 3 .any (fun w args => (Rows.archivesBackSpec.pre enc Tryz.prog Tryz.f3 Rows.archivesBackRow.domain false w args ∧ laidMetH Tryz.prog Rows.archivesBackRow.laid w) ∧ sizedMet enc Tryz.prog Tryz.f3 (OpenSpec.ofChange Rows.archivesBackSpec) false w args)
      (Rows.archivesBackSpec.post enc Tryz.prog Tryz.f3 false true false false) := by
  refine returnsInHanded_of_change_and (C := Tryz.checked) (X := fun w _ => laidMetH Tryz.prog Rows.archivesBackRow.laid w) (fun _ _ _ hh h => h.of_heap hh) own started (by kernel_rfl) Tryz.func3
    (ChangeSpec.witness_shaped (enc := enc) (C := Tryz.checked) (os := os) (X := fun w _ => laidMetH Tryz.prog Rows.archivesBackRow.laid w) false (World.laidAll Tryz.prog os Rows.archivesBackRow.laid) #[.slice none 0 0, .int .i64 0] 8 (World.laidAll_os _ _ _)
      (World.shaped_of_ZipB (by kernel_rfl) (by kernel_rfl)) (by kernel_rfl) (by kernel_rfl) (by kernel_rfl)
      (by rw [MakeChecks.laidMetH_plain _ _ _ (by kernel_rfl)]; exact laidMet_laidAll _ (by kernel_rfl) (by kernel_rfl))) ?_
  intro W base args ds gs before hval0 hW hcnd _ _hL _
  have hval : ∀ (j : Nat) t v, Tryz.f3.params[j]? = some t → args[j]? = some v → Value.okWide Tryz.prog W .any base t v := hval0
  have hW' := hW
  obtain ⟨p, q, hA0, hV, rfl, hfz, hnd⟩ := hW
  have hA : DataW.TrodAll enc Tryz.prog W 0 (fun _ => true) true Tryz.f3.params.toList args.toList ds p := hA0
  rw [Tryz.params3] at hA hval
  obtain ⟨v0, vs0, d0, ds0, p0, q0, hargs, rfl, rfl, h0, r0⟩ := trodAll_cons hA
  obtain ⟨v1, vs1, d1, ds1, p1, q1, rfl, rfl, rfl, h1, r1⟩ := trodAll_cons r0
  obtain ⟨rfl, rfl, rfl⟩ := trodAll_nil r1
  obtain rfl : args = #[v0, v1] := by cases args; simp_all
  obtain ⟨rfl, rfl⟩ := trodVars_none hV
  have h0k := h0
  obtain ⟨a0, n0, c0, R0, rfl, w0, f0⟩ := open_raws (hval 0 22 v0 rfl rfl) h0
  have l0 : ∀ x ∈ p0, x.block < W.heap.size := fun x hx => hW'.lt x (by simp [hx])
  obtain ⟨a1, rfl, rfl, rfl, w1⟩ := open_int Tryz.underlying3 (hval 1 3 v1 rfl rfl) h1
  clear hA0 hval0
  refine (walk W (pow_of _hL) a0 n0 c0 R0 a1 w0 w1).mono fun e W' ⟨he, bel⟩ => ?_
  subst he
  exact ⟨_, rfl, _, _, _, [], _, [], hW', trodAll_mk1 (shut_bool Tryz.underlying4 _), (trodAll_cons_mk (Below.trod laidOut (by kernel_rfl) (of_decide_eq_true (by kernel_rfl)) h0k bel l0) (trodAll_cons_mk (shut_int Tryz.underlying3 w1) trodAll_mk0)), rfl, bel.frame _, fun h => by cases h⟩

theorem over : Rows.archivesBackRow.holds Tryz.pinned (OpenSpec.ofChange Rows.archivesBackSpec) :=
  OpenClaim.holds_of_wide 3 Tryz.f3 rfl rfl rfl rfl rfl rfl rfl ⟨rfl, rfl, rfl, rfl, rfl⟩ rfl rfl rfl rfl rfl (by kernel_rfl) Tryz.func3 (by kernel_rfl)
    (of_decide_eq_true (by kernel_rfl)) (by unfold Func.isWrapper; first | (rw [if_pos (by decide +kernel)]; kernel_rfl) | (rw [if_neg (by decide +kernel)]; exact ⟨rfl, rfl⟩))
    (fun os started H enc _ => lifted os started H enc)
end Go.Proofs.YtkhjmfngeidlcabGreatDoor.archivesBack

namespace Go.Proofs.YtkhjmfngeidlcabGreatDoor
theorem archivesBack_holds : Rows.ArchivesBackCardSaid :=
  Claim7.holds_tied_plain_at .later [] [.data, .data, .data, .data, .pinned] true (true, "8e6102d5b94e1d5b070676926fb1f848ef22b1d661026095e44c2d736672ac2e") false
    archivesBack.over (fun _ h => by cases h) (by kernel_rfl) (fun _ h => by cases h) archivesBack_row_tie rfl ⟨rfl, rfl⟩ (by kernel_rfl) rfl
    (fun f fn hf hfn => by
      obtain rfl : f = 3 := Option.some.inj ((show Tryz.prog.funcNamed "arras/arraskeep.ArchivesBack" = some 3 by kernel_rfl).symm.trans hf) |>.symm
      obtain rfl : fn = Tryz.f3 := (Option.some.inj (Tryz.func3.symm.trans hfn)).symm
      exact ⟨by kernel_rfl, fun j t ht => by
        rw [Tryz.params3] at ht
        have hm : t ∈ [22, 3] := by simpa using Array.mem_of_getElem? ht
        have hall : ([22, 3].all fun u => !Tryz.prog.wantsStandIn u) = true := by kernel_rfl
        exact (show Tryz.prog.wantsStandIn t = false by simpa using List.all_eq_true.1 hall t hm)⟩)
    (by kernel_rfl)
#print axioms archivesBack_holds
end Go.Proofs.YtkhjmfngeidlcabGreatDoor
