/- For every list of raw things, every number and every text: who writes a sector of a filled array changes no other one, though both mirrors lost its partner; what was handed in is left as it was; the table of powers of ten is listed and tied (Itoa looks into it), the two tables of math/bits are listed, and no step looks into them. -/
import Derived.Test.YtbjnaielicnfhabDoorRows
import Derived.Test.YtbjnaielicnfhabDoorTie
import Derived.Test.YtbjnaielicnfhabDoorCards
import Derived.Test.YtbjnaielicnfhabDoorKeepPow
import Derived.Test.YtbjnaielicnfhabDoorKeepReads
import Derived.Test.YtbjnaielicnfhabDoorArrLost
import Derived.WalkKit
import Derived.ProofKit
import Derived.OpenShut
import Derived.ShutString
import Derived.LaidOnce
import Derived.SevenTiedAt
import Derived.Lay
namespace Go.Proofs.YtbjnaielicnfhabDoor.writesStay
open Go.ChangeShapes Go.WideShapes Go.ChangeAt Go.RowKit Go.Lib
open Go.ChangeMaps (open_string shut_string)

theorem own : ownKnob Tryd.prog.godebug = none := by kernel_rfl
theorem laidOut : laidOutB Tryd.prog = true := by kernel_rfl
theorem pow_of {W : World} (h : laidMetH Tryd.prog Rows.writesStayRow.laid W) : Pow W := by
  rw [MakeChecks.laidMetH_plain _ _ _ (by kernel_rfl)] at h
  exact pow_laid h

/-- Both mirrors lose a sector. -/
def two (k : Nat) : List Hact := [⟨4, 0, k, 0, 0⟩, ⟨4, 1, k, 0, 0⟩]
theorem two_hurt {all : List (List UInt8)} (h : Alls all) (k : Nat) (hk : k < all.length) : hurtAll (goodA all) (two k) = ar3 all (upd (fun _ => false) k true) (upd (fun _ => false) k true) (fun _ => false) := by
  show hurt1 (hurt1 (goodA all) _) _ = _
  rw [← ar3_good, lose_0 h k hk, lose_1 h k hk]
theorem two_may {all : List (List UInt8)} (h : Alls all) (k : Nat) (hk : k < all.length) : ∀ j, j ≤ (two k).length → arMay (hurtAll (goodA all) ((two k).take j)) = true := by
  intro j hj
  match j, hj with
  | 0, _ => show arMay (goodA all) = true; rw [← ar3_good]; exact ar3_may h
  | 1, _ => show arMay (hurt1 (goodA all) ⟨4, 0, k, 0, 0⟩) = true; rw [← ar3_good, lose_0 h k hk]; exact ar3_may h
  | 2, _ => show arMay (hurtAll (goodA all) (two k)) = true; rw [two_hurt h k hk]; exact ar3_may h

set_option maxHeartbeats 1600000 in
set_option maxRecDepth 8000 in
theorem walk (w : World) (hp : Pow w) (a : Option Addr) (n c : Nat) (R : List Raw4) (at_ : Int) (s : ByteArray) (h : RawsAt w a n R) (w1 : (Lit.int .i64 at_).wf = true) (w2 : s.size ≤ maxLen) :
    Calls Tryd.prog 5 #[.slice a n c, .int .i64 at_, .string s] w fun e w' => e = .returned (.bool true) ∧ Below w.heap.size w w' := by
  have ha := wf_i64 w1
  have pb := pick_bd at_ 16 (by omega)
  obtain ⟨K, hK⟩ : ∃ K : Nat, pick at_ 16 = K := ⟨(pick at_ 16).toNat, by omega⟩
  have hK16 : K < 16 := by omega
  have hx := xor_one K (by omega)
  have CF := hid (filled_any a n c R 16 w h hp (by omega) (by omega) (by omega))
  unfold maxLen at w2
  obtain ⟨m, mn, hm1, hm2⟩ : ∃ m : Nat, min (s.size : Int) 24 = m ∧ m ≤ 24 ∧ m ≤ s.size := ⟨min s.size 24, by omega, by omega, by omega⟩
  have HS := hid (show (s.extract 0 m).size ≤ 24 by rw [ext_size _ _ _ hm2]; omega)
  clear h hp pb
  go_enter Tryd.func5, Tryd.ntmps5
  go_wp2_with fail
  refine CF.out.mono ?_
  rintro _ v1 ⟨all, b, c1, hh, g, rfl, hal, hf, ho, hb, hg, g1⟩
  go_upto_region 3 with fail
  obtain ⟨W1, hW1⟩ : ∃ W1, W1 = v1.alloc (.cells #[.slice (some ⟨b, 0, none⟩) 3 c1] 26) := ⟨_, rfl⟩
  have b1 : Below v1.heap.size v1 W1 := by rw [hW1]; exact (Below.refl _ v1).alloc (Nat.le_refl _) _
  have p1 : W1.cell? ⟨v1.heap.size, 0, none⟩ = some (.slice (some ⟨b, 0, none⟩) 3 c1) := by rw [hW1]; simp
  rw [← hW1]
  have S1 := hid (And.intro (bel3 g1 b1) (And.intro (hf.below b1) (And.intro (ho.below' b1) hg)))
  have HA := hid hal
  clear hW1 b1 hf ho hb hg g1 hal CF
  generalize v1.heap.size = pa at p1 ⊢
  go_wp2_with (go_at_call 8; refine (picked_gen _ _ _ (by assumption) (by decide)).mono ?_; rintro _ w9 ⟨rfl, h9⟩; (have h8 := h9.symm); subst h8)
  obtain ⟨W2, hW2⟩ : ∃ W2, W2 = W1.alloc (.cells #[.int .i64 4, .slice none 0 0, .string ⟨#[]⟩, .int .i64 0, .int .i64 (part K : Int), .int .i64 0, .int .i64 0, .int .i64 4, .slice none 0 0, .string ⟨#[]⟩, .int .i64 1, .int .i64 (part K : Int), .int .i64 0, .int .i64 0] 42) := ⟨_, rfl⟩
  have b2 : Below W1.heap.size W1 W2 := by rw [hW2]; exact (Below.refl _ W1).alloc (Nat.le_refl _) _
  have X2 : ActsAt W2 (some ⟨W1.heap.size, 0, none⟩) 2 (two (part K)) := by rw [hW2]; exact acts_made W1 (two (part K)) (by show 2 ≤ maxLen; unfold maxLen; omega)
  have hP := part_lt K 16 hK16 (by decide)
  rw [← hW2]
  refine (hurt_any (some ⟨b, 0, none⟩) 3 c1 (goodA all) (some ⟨W1.heap.size, 0, none⟩) 2 2 (two (part K)) W2 (.inr ⟨b, 0, hh, rfl, (S1.out.2.1.below b2).arr⟩) X2 (fun i hi => by
    match i, hi with
    | 0, _ => exact ⟨by show (0 : Int) ≤ 0; decide, by show (0 : Int) < 3; decide⟩
    | 1, _ => exact ⟨by show (0 : Int) ≤ 1; decide, by show (1 : Int) < 3; decide⟩) (two_may HA.out.1 (part K) (by rw [HA.out.2]; exact hP))).mono ?_
  rintro _ v2 ⟨a2, c2, rfl, h2, g2⟩
  rw [two_hurt HA.out.1 (part K) (by rw [HA.out.2]; exact hP)] at h2
  have g12 := bel3 b2 g2
  clear p1 X2 hW2
  go_upto_region 5 with fail
  obtain ⟨W3, hW3⟩ : ∃ W3, W3 = v2.alloc (.cells #[.slice a2 3 c2] 26) := ⟨_, rfl⟩
  have b3 : Below v2.heap.size v2 W3 := by rw [hW3]; exact (Below.refl _ v2).alloc (Nat.le_refl _) _
  have p3 : W3.cell? ⟨v2.heap.size, 0, none⟩ = some (.slice a2 3 c2) := by rw [hW3]; simp
  rw [← hW3]
  have g13 := bel3 g12 b3
  have S3 := hid (And.intro (bel3 S1.out.1 g13) (And.intro (h2.below b3) (And.intro (S1.out.2.2.1.below' g13) S1.out.2.2.2)))
  clear hW3 b3 h2 g2 g12 g13 b2 S1
  generalize v2.heap.size = px at p3 ⊢
  go_cut [13] (fun v wx => ∃ t : ByteArray, v = .string t ∧ t.size ≤ 24 ∧ wx = W3)
  case first =>
    go_wp2_with fail
    go_meet
    exact ⟨_, rfl, HS.out, rfl⟩
  case rest =>
    obtain ⟨t, rfl, ht, rfl⟩ := hcut
    have CW := hid (arwrite_any a2 3 c2 K t _ wc S3.out.2.1)
    rw [write_lost HA.out.1 K (by rw [HA.out.2]; exact hK16) t.data.toList (by rw [ba_len]; exact ht)] at CW
    have HT := hid ht
    clear HS mn hm1 hm2
    go_wp2_with fail
    refine CW.out.mono ?_
    rintro _ v4 ⟨⟨x, n4, c4, rfl, hX⟩, g4⟩
    rcases hX with ⟨_, e, _⟩ | ⟨b4, h4, rfl, hb4, hf4⟩
    · simp [goodA] at e
    obtain rfl : n4 = 3 := hf4.arr.sn
    clear p3 CW
    go_upto_region 7 with fail
    obtain ⟨W4, hW4⟩ : ∃ W4, W4 = v4.alloc (.cells #[.slice (some ⟨b4, 0, none⟩) 3 c4] 26) := ⟨_, rfl⟩
    have b5 : Below v4.heap.size v4 W4 := by rw [hW4]; exact (Below.refl _ v4).alloc (Nat.le_refl _) _
    have p4 : W4.cell? ⟨v4.heap.size, 0, none⟩ = some (.slice (some ⟨b4, 0, none⟩) 3 c4) := by rw [hW4]; simp
    have z4 : v4.heap.size < W4.heap.size := by rw [hW4]; simp
    rw [← hW4]
    have gg := bel3 g4 b5
    have S4 := hid (And.intro (bel3 S3.out.1 gg) (And.intro (hf4.below b5) (And.intro (S3.out.2.2.1.below' gg) (And.intro S3.out.2.2.2 (And.intro p4 (And.intro z4 (show g < v4.heap.size from Nat.lt_of_lt_of_le S3.out.2.2.1.lt g4.size)))))))
    obtain ⟨z, hz⟩ : ∃ z : Nat, z = 24 - t.size := ⟨_, rfl⟩
    have CR := hid (fun wx => rept_any ⟨#[0]⟩ z wx (by show 1 * z ≤ _; omega) (by omega))
    rw [show repeatL (⟨#[0]⟩ : ByteArray).data.toList z = List.replicate z 0 from rep0 z, show ((z : Nat) : Int) = 24 - (t.size : Int) by omega] at CR
    have epad : t ++ str (List.replicate z 0) = str (pad t.data.toList) := by
      rw [show t = str t.data.toList from (str_of t).symm, str_app, str_list, pad, ba_len, hz]
    have zN : (str (List.replicate z 0)).size ≤ 24 := by rw [str_size]; simp; omega
    have HE := hid epad
    generalize str (List.replicate z 0) = NN at CR zN HE
    have K16 : (K : Int) < 16 := by omega
    clear hW4 b5 p4 z4 gg hf4 hb4 g4 S3 epad hz
    generalize v4.heap.size = py at S4 ⊢
    go_wp2_with fail
    refine (CR.out _).mono ?_
    rintro _ v5 ⟨rfl, g5⟩
    obtain ⟨s1, s2, s3, s4, s5, s6, s7⟩ := S4.out
    have hKl : K < all.length := by rw [HA.out.2]; exact hK16
    have hpl : (pad t.data.toList).length = 24 := pad_length _ (by rw [ba_len]; exact HT.out)
    have o5 := s3.below' g5
    have f5 := s2.below g5
    have hc : v5.cell? ⟨g, K, none⟩ = some (.string (str (pay all K))) := o5.cell (textsV_at all K hKl)
    have hfz := o5.free K
    have f6 := f5.text (may_30 _ (good_may (HA.out.1.set K _ hKl hpl))) hc (by rw [str_size, HA.out.1.full K hKl]; decide) (.string (t ++ NN))
    have o6 := o5.set (i := K) (by rw [textsV_len]; exact hKl) (.string (t ++ NN))
    have hEe := HE.out
    rw [hEe, ← textsV_set] at o6
    rw [← hEe] at o6
    have q6 : (v5.setCell ⟨g, K, none⟩ (.string (t ++ NN))).cell? ⟨py, 0, none⟩ = some (.slice (some ⟨b4, 0, none⟩) 3 c4) := by
      rw [World.cell?_setCell_other _ _ _ _ (fun e => by have := congrArg Addr.block e; simp at this; omega)]
      exact (g5.cell (p := ⟨py, 0, none⟩) s6).trans s5
    have S6 := hid (And.intro ((bel3 s1 g5).setCell (p := ⟨g, K, none⟩) s4 (.string (t ++ NN))) (And.intro f6.arr (And.intro o6.row (And.intro (HA.out.1.set K _ hKl hpl) (show (all.set K (pad t.data.toList)).length = 16 by rw [List.length_set]; exact HA.out.2)))))
    clear s1 s2 s3 s4 s5 s6 s7 o5 f5 f6 o6 g5 S4 CR hEe hpl hKl
    go_wp2_with fail
    refine (reads_any (some ⟨b4, 0, none⟩) 3 c4 _ g 16 16 _ _ (.inr ⟨b4, 0, h4, rfl, S6.out.2.1⟩) S6.out.2.2.1 S6.out.2.2.2.2.symm (by omega) (fun i hi => by
      have := good_read S6.out.2.2.2.1 i (by rw [S6.out.2.2.2.2]; exact hi)
      rw [this]; exact ⟨rfl, rfl⟩)).mono ?_
    rintro _ v6 ⟨rfl, g6⟩
    go_wp2
    go_ret
    exact ⟨rfl, bel3 S6.out.1 g6⟩

set_option maxRecDepth 100000 in
theorem lifted (os : Os) (started : os.Started) (H : Type) (enc : TypeId × Value → H) :
    ReturnsInHanded {} Tryd.checked os 5 .any (fun w args => (Rows.writesStaySpec.pre enc Tryd.prog Tryd.f5 Rows.writesStayRow.domain false w args ∧ laidMetH Tryd.prog Rows.writesStayRow.laid w) ∧ sizedMet enc Tryd.prog Tryd.f5 (OpenSpec.ofChange Rows.writesStaySpec) false w args)
      (Rows.writesStaySpec.post enc Tryd.prog Tryd.f5 false true false false) := by
  refine returnsInHanded_of_change_and (C := Tryd.checked) (X := fun w _ => laidMetH Tryd.prog Rows.writesStayRow.laid w) (fun _ _ _ hh h => h.of_heap hh) own started (by kernel_rfl) Tryd.func5
    (ChangeSpec.witness_shaped (enc := enc) (C := Tryd.checked) (os := os) (X := fun w _ => laidMetH Tryd.prog Rows.writesStayRow.laid w) false (World.laidAll Tryd.prog os Rows.writesStayRow.laid) #[.slice none 0 0, .int .i64 0, .string ByteArray.empty] 8 (World.laidAll_os _ _ _)
      (World.shaped_of_ZipB (by kernel_rfl) (by kernel_rfl)) (by kernel_rfl) (by kernel_rfl) (by kernel_rfl)
      (by rw [MakeChecks.laidMetH_plain _ _ _ (by kernel_rfl)]; exact laidMet_laidAll _ (by kernel_rfl) (by kernel_rfl))) ?_
  intro W base args ds gs before hval0 hW hcnd _ _hL _
  have hval : ∀ (j : Nat) t v, Tryd.f5.params[j]? = some t → args[j]? = some v → Value.okWide Tryd.prog W .any base t v := hval0
  have hW' := hW
  obtain ⟨p, q, hA0, hV, rfl, hfz, hnd⟩ := hW
  have hA : DataW.TrodAll enc Tryd.prog W 0 (fun _ => true) true Tryd.f5.params.toList args.toList ds p := hA0
  rw [Tryd.params5] at hA hval
  obtain ⟨v0, vs0, d0, ds0, p0, q0, hargs, rfl, rfl, h0, r0⟩ := trodAll_cons hA
  obtain ⟨v1, vs1, d1, ds1, p1, q1, rfl, rfl, rfl, h1, r1⟩ := trodAll_cons r0
  obtain ⟨v2, vs2, d2, ds2, p2, q2, rfl, rfl, rfl, h2, r2⟩ := trodAll_cons r1
  obtain ⟨rfl, rfl, rfl⟩ := trodAll_nil r2
  obtain rfl : args = #[v0, v1, v2] := by cases args; simp_all
  obtain ⟨rfl, rfl⟩ := trodVars_none hV
  have h0k := h0
  obtain ⟨a0, n0, c0, R0, rfl, w0, f0⟩ := open_raws (hval 0 22 v0 rfl rfl) h0
  have l0 : ∀ x ∈ p0, x.block < W.heap.size := fun x hx => hW'.lt x (by simp [hx])
  obtain ⟨a1, rfl, rfl, rfl, w1⟩ := open_int Tryd.underlying3 (hval 1 3 v1 rfl rfl) h1
  obtain ⟨a2, rfl, rfl, rfl, w2⟩ := open_string Tryd.underlying9 (hval 2 9 v2 rfl rfl) h2
  clear hA0 hval0
  refine (walk W (pow_of _hL) a0 n0 c0 R0 a1 a2 w0 w1 w2).mono fun e W' ⟨he, bel⟩ => ?_
  subst he
  exact ⟨_, rfl, _, _, _, [], _, [], hW', trodAll_mk1 (shut_bool Tryd.underlying4 _), (trodAll_cons_mk (Below.trod laidOut (by kernel_rfl) (of_decide_eq_true (by kernel_rfl)) h0k bel l0) (trodAll_cons_mk (shut_int Tryd.underlying3 w1) (trodAll_cons_mk (shut_string Tryd.underlying9 w2) trodAll_mk0))), rfl, bel.frame _, fun h => by cases h⟩

theorem over : Rows.writesStayRow.holds Tryd.pinned (OpenSpec.ofChange Rows.writesStaySpec) :=
  OpenClaim.holds_of_wide 5 Tryd.f5 rfl rfl rfl rfl rfl rfl rfl ⟨rfl, rfl, rfl, rfl, rfl⟩ rfl rfl rfl rfl rfl (by kernel_rfl) Tryd.func5 (by kernel_rfl)
    (of_decide_eq_true (by kernel_rfl)) (by unfold Func.isWrapper; first | (rw [if_pos (by decide +kernel)]; kernel_rfl) | (rw [if_neg (by decide +kernel)]; exact ⟨rfl, rfl⟩))
    (fun os started H enc _ => lifted os started H enc)
end Go.Proofs.YtbjnaielicnfhabDoor.writesStay

namespace Go.Proofs.YtbjnaielicnfhabDoor
theorem writesStay_holds : Rows.WritesStayCardSaid :=
  Claim7.holds_tied_plain_at .later [] [.data, .data, .data] true (true, "6af98e124636e9addf48f55dcfcc2a840b779c1f904a22cf6fffbd9ba7135ca3") false
    writesStay.over (fun _ h => by cases h) (by kernel_rfl) (fun _ h => by cases h) writesStay_row_tie rfl ⟨rfl, rfl⟩ (by kernel_rfl) rfl
    (fun f fn hf hfn => by
      obtain rfl : f = 5 := Option.some.inj ((show Tryd.prog.funcNamed "arras/arraskeep.WritesStay" = some 5 by kernel_rfl).symm.trans hf) |>.symm
      obtain rfl : fn = Tryd.f5 := (Option.some.inj (Tryd.func5.symm.trans hfn)).symm
      exact ⟨by kernel_rfl, fun j t ht => by
        rw [Tryd.params5] at ht
        have hm : t ∈ [22, 3, 9] := by simpa using Array.mem_of_getElem? ht
        have hall : ([22, 3, 9].all fun u => !Tryd.prog.wantsStandIn u) = true := by kernel_rfl
        exact (show Tryd.prog.wantsStandIn t = false by simpa using List.all_eq_true.1 hall t hm)⟩)
    (by kernel_rfl)
#print axioms writesStay_holds
end Go.Proofs.YtbjnaielicnfhabDoor
