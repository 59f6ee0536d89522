/- For every list of raw things, every number and every text: bytes that are written over the sectors of a filled array are read as they were written, more than there are sectors for are refused, and the sectors around them are told as before; what was handed in is left as it was; the table of powers of ten is listed and tied (Itoa looks into it), the two tables of math/bits are listed, and no step looks into them. -/
import Derived.Test.YtgholkjpbdcdiaaDoorRows
import Derived.Test.YtgholkjpbdcdiaaDoorTie
import Derived.Test.YtgholkjpbdcdiaaDoorCards
import Derived.Test.YtgholkjpbdcdiaaDoorKeepSet
import Derived.Test.YtgholkjpbdcdiaaDoorKeepFill
import Derived.Test.YtgholkjpbdcdiaaDoorStreamGood
import Derived.Test.YtgholkjpbdcdiaaDoorStreamWrite
import Derived.Test.YtgholkjpbdcdiaaDoorStreamRd
import Derived.WalkKit
import Derived.ProofKit
import Derived.OpenShut
import Derived.ShutString
import Derived.LaidOnce
import Derived.SevenTiedAt
import Derived.Lay
namespace Go.Proofs.YtgholkjpbdcdiaaDoor.streamsBack
open Go.ChangeShapes Go.WideShapes Go.ChangeAt Go.RowKit Go.Lib
open Go.ChangeMaps (open_string shut_string)

theorem own : ownKnob Tryd.prog.godebug = none := by kernel_rfl
theorem laidOut : laidOutB Tryd.prog = true := by kernel_rfl
theorem pow_of {W : World} (h : laidMetH Tryd.prog Rows.streamsBackRow.laid W) : Pow W := by
  rw [MakeChecks.laidMetH_plain _ _ _ (by kernel_rfl)] at h
  exact pow_laid h

set_option maxHeartbeats 1600000 in
set_option maxRecDepth 8000 in
theorem walk (w : World) (hp : Pow w) (a : Option Addr) (n c : Nat) (R : List Raw4) (x : Int) (s : ByteArray) (h : RawsAt w a n R) (w1 : (Lit.int .i64 x).wf = true) (_w2 : s.size ≤ maxLen) :
    Calls Tryd.prog 3 #[.slice a n c, .int .i64 x, .string s] w fun e w' => e = .returned (.bool true) ∧ Below w.heap.size w w' := by
  have ha := wf_i64 w1
  have pb := pick_bd x 40 (by omega)
  obtain ⟨K, hK⟩ : ∃ K : Nat, pick x 40 = K := ⟨(pick x 40).toNat, by omega⟩
  have hK40 : K < 40 := by omega
  have CF := hid (filled_any a n c R 40 w h hp (by omega) (by omega) (by omega))
  obtain ⟨m, mn, hm1, hm2⟩ : ∃ m : Nat, min (s.size : Int) ((40 - (K : Int)) * 24) = m ∧ m ≤ (40 - K) * 24 ∧ m ≤ s.size := ⟨min s.size ((40 - K) * 24), by omega, by omega, by omega⟩
  have HS := hid (show (s.extract 0 m).size ≤ (40 - K) * 24 by rw [ext_size _ _ _ hm2]; omega)
  clear h hp pb
  go_enter Tryd.func3, Tryd.ntmps3
  go_wp2_with fail
  refine CF.out.mono ?_
  rintro _ v1 ⟨all, b, c1, hh, g, rfl, hal, hf, ho, hb, hg, g1⟩
  go_upto_region 3 with fail
  obtain ⟨W1, hW1⟩ : ∃ W1, W1 = v1.alloc (.cells #[.slice (some ⟨b, 0, none⟩) 3 c1] 25) := ⟨_, rfl⟩
  have b1 : Below v1.heap.size v1 W1 := by rw [hW1]; exact (Below.refl _ v1).alloc (Nat.le_refl _) _
  have p1 : W1.cell? ⟨v1.heap.size, 0, none⟩ = some (.slice (some ⟨b, 0, none⟩) 3 c1) := by rw [hW1]; simp
  rw [← hW1]
  have S1 := hid (And.intro (bel3 g1 b1) (And.intro (hf.below b1) (ho.below' b1)))
  have HA := hid hal
  clear hW1 b1 hf ho hb hg g1 hal CF
  generalize v1.heap.size = pa at p1 ⊢
  go_upto_region 4 with (go_at_call 5; refine (picked_gen _ _ _ (by assumption) (by decide)).mono ?_; rintro _ w9 ⟨rfl, h9⟩; (have h8 := h9.symm); subst h8)
  go_cut [12] (fun v wx => ∃ t : ByteArray, v = .string t ∧ t.size ≤ (40 - K) * 24 ∧ wx = W1)
  case first =>
    go_wp2_with fail
    go_meet
    exact ⟨_, rfl, HS.out, rfl⟩
  case rest =>
    obtain ⟨t, rfl, ht, rfl⟩ := hcut
    have hx : K + secs t.data.toList.length ≤ all.length := by rw [HA.out.2, ba_len]; have := secs_ge t.size (40 - K) (by omega); omega
    obtain ⟨f1, f2⟩ := stream_back HA.out.1 K t.data.toList (by rw [ba_len]; omega) hx
    have f3 := over_alls HA.out.1 K t.data.toList _ hx
    have f4 := over_len all K t.data.toList (secs t.data.toList.length)
    have f5 := stream_far f3 K (by rw [f4, HA.out.2]; omega) (by rw [f4, HA.out.2]; omega)
    have f6 := fun j hj => stream_stays HA.out.1 K t.data.toList hx j hj
    rw [f4, HA.out.2, show (((40 - K) * 24 + 1 : Nat) : Int) = (40 - (K : Int)) * 24 + 1 by omega] at f5
    rw [ba_len] at f1 f2 f5 f6
    have CW := hid (stwrite_any (some ⟨b, 0, none⟩) 3 c1 K t (goodA all) wc (.inr ⟨b, 0, hh, rfl, S1.out.2.1.arr⟩))
    rw [f1] at CW
    have CS := hid (fun wx => sectors_ok t.size wx (by omega))
    have HF := hid (And.intro f2 (And.intro f5 f6))
    have hq : K + secs t.size ≤ 40 := by rw [ba_len, HA.out.2] at hx; exact hx
    clear f1 f2 f3 f4 f5 f6 hx HS mn hm1 hm2
    generalize over all K t.data.toList (secs t.size) = ov at CW HF
    generalize secs t.size = Q at HF CS hq
    go_wp2_with fail
    refine CW.out.mono ?_
    rintro _ v4 ⟨⟨x4, n4, c4, rfl, hX⟩, g4⟩
    rcases hX with ⟨_, e, _⟩ | ⟨b4, h4, rfl, hb4, hf4⟩
    · simp [goodA] at e
    obtain rfl : n4 = 3 := hf4.arr.sn
    clear p1 CW
    go_upto_region 6 with fail
    obtain ⟨W4, hW4⟩ : ∃ W4, W4 = v4.alloc (.cells #[.slice (some ⟨b4, 0, none⟩) 3 c4] 25) := ⟨_, rfl⟩
    have b5 : Below v4.heap.size v4 W4 := by rw [hW4]; exact (Below.refl _ v4).alloc (Nat.le_refl _) _
    have p4 : W4.cell? ⟨v4.heap.size, 0, none⟩ = some (.slice (some ⟨b4, 0, none⟩) 3 c4) := by rw [hW4]; simp
    have z4 : v4.heap.size < W4.heap.size := by rw [hW4]; simp
    rw [← hW4]
    have gg := bel3 g4 b5
    have hf5 := hf4.below b5
    have CR := hid (fun (y q : Int) wx (g : Below W4.heap.size W4 wx) => stread_any (some ⟨b4, 0, none⟩) 3 c4 y q (goodA ov) wx (.inr ⟨b4, 0, h4, rfl, (hf5.below g).arr⟩))
    have CA := hid (fun (y : Int) wx (g : Below W4.heap.size W4 wx) => aread_any (some ⟨b4, 0, none⟩) 3 c4 y (goodA ov) wx (.inr ⟨b4, 0, h4, rfl, (hf5.below g).arr⟩))
    have S4 := hid (And.intro (bel3 S1.out.1 gg) (And.intro (S1.out.2.2.below' gg).row (And.intro p4 z4)))
    clear hW4 b5 z4 gg hf4 hf5 hb4 g4 S1
    generalize v4.heap.size = py at S4 p4 ⊢
    have C1 := hid (CR.out K t.size W4 (Below.refl _ _))
    rw [HF.out.1] at C1
    have C2 := hid (fun wx (g : Below W4.heap.size W4 wx) => CR.out K ((40 - (K : Int)) * 24 + 1) wx g)
    rw [HF.out.2.1] at C2
    change Hid (Calls Tryd.prog _ _ _ fun e w' => e = .returned (.tuple #[.string (str t.data.toList), .int .i64 0]) ∧ _) at C1
    rw [str_of] at C1
    go_wp2_with fail
    refine C1.out.mono ?_
    rintro _ v5 ⟨rfl, g5⟩
    have p5 := (g5.cell (p := ⟨py, 0, none⟩) S4.out.2.2.2).trans p4
    have G5 := hid g5
    clear C1 p4 g5
    go_wp2_with fail
    refine (C2.out _ G5.out).mono ?_
    rintro _ v6 ⟨rfl, g6⟩
    have G6 := hid (bel3 G5.out g6)
    clear C2 p5 g6 G5 CR
    go_wp2_with fail
    go_loopw [69] (fun i wr => ∃ k : Nat, k ≤ 40 ∧ i = .int .i64 k ∧ Hid (Below W4.heap.size W4 wr)) (fun i _ => 40 - (intOf i).toNat)
    case atStart => exact ⟨0, Nat.zero_le _, rfl, G6.out⟩
    case round =>
      obtain ⟨k, hk, rfl, HG⟩ := hrel
      clear G6
      by_cases hlt : k < 40
      · have hlt' : (k : Int) < 40 := by omega
        have p6 := (HG.out.cell (p := ⟨py, 0, none⟩) S4.out.2.2.2).trans S4.out.2.2.1
        by_cases e1 : K ≤ k
        · have e1' : (K : Int) ≤ k := by omega
          by_cases e2 : k < K + Q
          · have e2' : (k : Int) < (K : Int) + Q := by omega
            go_wp2_with (go_at_call 8; refine (CS.out _).mono ?_; rintro _ w9 ⟨rfl, h9⟩; (have h8 := h9.symm); subst h8)
            go_roundw
            case rel => exact ⟨k + 1, by omega, by go_num, HG.out⟩
            case measure => simp [intOf]; omega
          · have e2' : ¬ (k : Int) < (K : Int) + Q := by omega
            have C3 := hid (CA.out k wr HG.out)
            rw [HF.out.2.2 k (by rw [HA.out.2]; exact hlt) (by omega)] at C3
            obtain ⟨b9, o9, e9, hb9, hc9⟩ := (S4.out.2.1.below HG.out) k _ (textsV_at all k (by rw [HA.out.2]; exact hlt))
            cases e9
            rw [Nat.zero_add] at hc9
            change Hid (Calls Tryd.prog _ _ _ fun e w' => e = .returned (.tuple #[.string (str (pay all k)), .int .i64 1, .int .i64 0]) ∧ _) at C3
            generalize str (pay all k) = Z at C3 hc9
            go_wp2_with (go_at_call 8; refine (CS.out _).mono ?_; rintro _ w9 ⟨rfl, h9⟩; (have h8 := h9.symm); subst h8)
            refine C3.out.mono ?_
            rintro _ v7 ⟨rfl, g7⟩
            have hc7 := (g7.cell (p := ⟨g, k, none⟩) hb9).trans hc9
            have G7 := hid (bel3 HG.out g7)
            clear g7 C3 hc9 p6 hb9
            go_wp2
            go_roundw
            case rel => exact ⟨k + 1, by omega, by go_num, G7.out⟩
            case measure => simp [intOf]; omega
        · have e1' : ¬ (K : Int) ≤ k := by omega
          have C3 := hid (CA.out k wr HG.out)
          rw [HF.out.2.2 k (by rw [HA.out.2]; exact hlt) (by omega)] at C3
          obtain ⟨b9, o9, e9, hb9, hc9⟩ := (S4.out.2.1.below HG.out) k _ (textsV_at all k (by rw [HA.out.2]; exact hlt))
          cases e9
          rw [Nat.zero_add] at hc9
          change Hid (Calls Tryd.prog _ _ _ fun e w' => e = .returned (.tuple #[.string (str (pay all k)), .int .i64 1, .int .i64 0]) ∧ _) at C3
          generalize str (pay all k) = Z at C3 hc9
          go_wp2_with fail
          refine C3.out.mono ?_
          rintro _ v7 ⟨rfl, g7⟩
          have hc7 := (g7.cell (p := ⟨g, k, none⟩) hb9).trans hc9
          have G7 := hid (bel3 HG.out g7)
          clear g7 C3 hc9 p6 hb9
          go_wp2
          go_roundw
          case rel => exact ⟨k + 1, by omega, by go_num, G7.out⟩
          case measure => simp [intOf]; omega
      · have hlt' : ¬ (k : Int) < 40 := by omega
        go_wp2
        go_ret
        exact ⟨ret_bool (by simp), bel3 S4.out.1 HG.out⟩

set_option maxRecDepth 100000 in
theorem lifted (os : Os) (started : os.Started) (H : Type) (enc : TypeId × Value → H) :
    ReturnsInHanded {} Tryd.checked os 3 .any (fun w args => (Rows.streamsBackSpec.pre enc Tryd.prog Tryd.f3 Rows.streamsBackRow.domain false w args ∧ laidMetH Tryd.prog Rows.streamsBackRow.laid w) ∧ sizedMet enc Tryd.prog Tryd.f3 (OpenSpec.ofChange Rows.streamsBackSpec) false w args)
      (Rows.streamsBackSpec.post enc Tryd.prog Tryd.f3 false true false false) := by
  refine returnsInHanded_of_change_and (C := Tryd.checked) (X := fun w _ => laidMetH Tryd.prog Rows.streamsBackRow.laid w) (fun _ _ _ hh h => h.of_heap hh) own started (by kernel_rfl) Tryd.func3
    (ChangeSpec.witness_shaped (enc := enc) (C := Tryd.checked) (os := os) (X := fun w _ => laidMetH Tryd.prog Rows.streamsBackRow.laid w) false (World.laidAll Tryd.prog os Rows.streamsBackRow.laid) #[.slice none 0 0, .int .i64 0, .string ByteArray.empty] 8 (World.laidAll_os _ _ _)
      (World.shaped_of_ZipB (by kernel_rfl) (by kernel_rfl)) (by kernel_rfl) (by kernel_rfl) (by kernel_rfl)
      (by rw [MakeChecks.laidMetH_plain _ _ _ (by kernel_rfl)]; exact laidMet_laidAll _ (by kernel_rfl) (by kernel_rfl))) ?_
  intro W base args ds gs before hval0 hW hcnd _ _hL _
  have hval : ∀ (j : Nat) t v, Tryd.f3.params[j]? = some t → args[j]? = some v → Value.okWide Tryd.prog W .any base t v := hval0
  have hW' := hW
  obtain ⟨p, q, hA0, hV, rfl, hfz, hnd⟩ := hW
  have hA : DataW.TrodAll enc Tryd.prog W 0 (fun _ => true) true Tryd.f3.params.toList args.toList ds p := hA0
  rw [Tryd.params3] at hA hval
  obtain ⟨v0, vs0, d0, ds0, p0, q0, hargs, rfl, rfl, h0, r0⟩ := trodAll_cons hA
  obtain ⟨v1, vs1, d1, ds1, p1, q1, rfl, rfl, rfl, h1, r1⟩ := trodAll_cons r0
  obtain ⟨v2, vs2, d2, ds2, p2, q2, rfl, rfl, rfl, h2, r2⟩ := trodAll_cons r1
  obtain ⟨rfl, rfl, rfl⟩ := trodAll_nil r2
  obtain rfl : args = #[v0, v1, v2] := by cases args; simp_all
  obtain ⟨rfl, rfl⟩ := trodVars_none hV
  have h0k := h0
  obtain ⟨a0, n0, c0, R0, rfl, w0, f0⟩ := open_raws (hval 0 22 v0 rfl rfl) h0
  have l0 : ∀ x ∈ p0, x.block < W.heap.size := fun x hx => hW'.lt x (by simp [hx])
  obtain ⟨a1, rfl, rfl, rfl, w1⟩ := open_int Tryd.underlying3 (hval 1 3 v1 rfl rfl) h1
  obtain ⟨a2, rfl, rfl, rfl, w2⟩ := open_string Tryd.underlying9 (hval 2 9 v2 rfl rfl) h2
  clear hA0 hval0
  refine (walk W (pow_of _hL) a0 n0 c0 R0 a1 a2 w0 w1 w2).mono fun e W' ⟨he, bel⟩ => ?_
  subst he
  exact ⟨_, rfl, _, _, _, [], _, [], hW', trodAll_mk1 (shut_bool Tryd.underlying4 _), (trodAll_cons_mk (Below.trod laidOut (by kernel_rfl) (of_decide_eq_true (by kernel_rfl)) h0k bel l0) (trodAll_cons_mk (shut_int Tryd.underlying3 w1) (trodAll_cons_mk (shut_string Tryd.underlying9 w2) trodAll_mk0))), rfl, bel.frame _, fun h => by cases h⟩

theorem over : Rows.streamsBackRow.holds Tryd.pinned (OpenSpec.ofChange Rows.streamsBackSpec) :=
  OpenClaim.holds_of_wide 3 Tryd.f3 rfl rfl rfl rfl rfl rfl rfl ⟨rfl, rfl, rfl, rfl, rfl⟩ rfl rfl rfl rfl rfl (by kernel_rfl) Tryd.func3 (by kernel_rfl)
    (of_decide_eq_true (by kernel_rfl)) (by unfold Func.isWrapper; first | (rw [if_pos (by decide +kernel)]; kernel_rfl) | (rw [if_neg (by decide +kernel)]; exact ⟨rfl, rfl⟩))
    (fun os started H enc _ => lifted os started H enc)
end Go.Proofs.YtgholkjpbdcdiaaDoor.streamsBack

namespace Go.Proofs.YtgholkjpbdcdiaaDoor
theorem streamsBack_holds : Rows.StreamsBackCardSaid :=
  Claim7.holds_tied_plain_at .later [] [.data, .data, .data] true (true, "307f606e74b4da3259a65c4a620799e87bc474f96dcc6e12a3e3bd5f41215d62") false
    streamsBack.over (fun _ h => by cases h) (by kernel_rfl) (fun _ h => by cases h) streamsBack_row_tie rfl ⟨rfl, rfl⟩ (by kernel_rfl) rfl
    (fun f fn hf hfn => by
      obtain rfl : f = 3 := Option.some.inj ((show Tryd.prog.funcNamed "arras/arraskeep.StreamsBack" = some 3 by kernel_rfl).symm.trans hf) |>.symm
      obtain rfl : fn = Tryd.f3 := (Option.some.inj (Tryd.func3.symm.trans hfn)).symm
      exact ⟨by kernel_rfl, fun j t ht => by
        rw [Tryd.params3] at ht
        have hm : t ∈ [22, 3, 9] := by simpa using Array.mem_of_getElem? ht
        have hall : ([22, 3, 9].all fun u => !Tryd.prog.wantsStandIn u) = true := by kernel_rfl
        exact (show Tryd.prog.wantsStandIn t = false by simpa using List.all_eq_true.1 hall t hm)⟩)
    (by kernel_rfl)
#print axioms streamsBack_holds
end Go.Proofs.YtgholkjpbdcdiaaDoor
