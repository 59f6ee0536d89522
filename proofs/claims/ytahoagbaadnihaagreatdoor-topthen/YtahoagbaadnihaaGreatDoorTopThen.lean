/- For every list of raw things, all lists of hurts and all devices: whatever happens to the one device, and, when all was scrubbed, to the other, all files that were added are got as they were, and those that there was no room for are not found. What was handed in is left as it was; the table of powers of ten is listed and tied (Itoa looks into it), the other tables are listed, and no step looks into them. -/
import Derived.Test.YtahoagbaadnihaaGreatDoorRows
import Derived.Test.YtahoagbaadnihaaGreatDoorTie
import Derived.Test.YtahoagbaadnihaaGreatDoorCards
import Derived.Test.YtahoagbaadnihaaGreatDoorKeepBase
import Derived.Test.YtahoagbaadnihaaGreatDoorTopM
import Derived.WalkKit
import Derived.ProofKit
import Derived.OpenShut
import Derived.ShutString
import Derived.LaidOnce
import Derived.SevenTiedAt
import Derived.Lay
import Derived.Stop.Joined
namespace Go.Proofs.YtahoagbaadnihaaGreatDoor.topThen
open Go.ChangeShapes Go.WideShapes Go.ChangeAt Go.RowKit Go.Lib
open Go.ChangeMaps (open_string shut_string)

theorem own : ownKnob Tryz.prog.godebug = none := by kernel_rfl
theorem laidOut : laidOutB Tryz.prog = true := by kernel_rfl
theorem pow_of {W : World} (h : laidMetH Tryz.prog Rows.topThenRow.laid W) : Pow W := by
  rw [MakeChecks.laidMetH_plain _ _ _ (by kernel_rfl)] at h
  exact pow_laid h
set_option maxHeartbeats 3200000 in
set_option maxRecDepth 8000 in
theorem walk (w : World) (hp : Pow w) (a : Option Addr) (n c : Nat) (R : List Raw4) (b : Option Addr) (m d : Nat) (S : List Raw4) (x : Int) (b2 : Option Addr) (m2 d2 : Nat) (S2 : List Raw4) (y : Int) (h : RawsAt w a n R ∧ n ≤ c) (h2 : RawsAt w b m S ∧ m ≤ d) (w1 : (Lit.int .i64 x).wf = true) (h3 : RawsAt w b2 m2 S2 ∧ m2 ≤ d2) (w2 : (Lit.int .i64 y).wf = true) :
    Calls Tryz.prog 6 #[.slice a n c, .slice b m d, .int .i64 x, .slice b2 m2 d2, .int .i64 y] w fun e w' => e = .returned (.bool true) ∧ Below w.heap.size w w' := by
  have hx := wf_i64 w1
  have hy := wf_i64 w2
  obtain ⟨K, hK, hK3⟩ := nat_pick x
  obtain ⟨E, hE, hE3⟩ := nat_pick y
  have C1 := hid (adds_any a n c R 8 w h.1 h.2 hp (by omega) (by omega) (by omega))
  have HH := hid (And.intro h2.1 (And.intro h3.1 (And.intro hK3 hE3)))
  have CP : Hid (∀ wx, Calls Tryz.prog 23 #[.int .i64 x, .int .i64 3] wx fun e w' => e = .returned (.int .i64 K) ∧ w' = wx) := fun wx => by
    have := Picked_any x 3 wx hx (by omega)
    rw [hK] at this
    exact this
  have CQ : Hid (∀ wx, Calls Tryz.prog 23 #[.int .i64 y, .int .i64 3] wx fun e w' => e = .returned (.int .i64 E) ∧ w' = wx) := fun wx => by
    have := Picked_any y 3 wx hy (by omega)
    rw [hE] at this
    exact this
  clear h h2 h3 hp hx hK hK3 w1 hy hE hE3 w2
  go_enter Tryz.func6, Tryz.ntmps6
  go_wp2_with fail
  refine C1.out.mono ?_
  rintro _ v0 ⟨ga, gm, gc, fb, fk, fd, Gs, A, rfl, ⟨hA1, hA2⟩, ⟨hF1, hF2⟩, ⟨hch, htot, _⟩, g0⟩
  obtain ⟨v1, hv1⟩ : ∃ v1, v1 = v0.alloc (.cells #[.int .i64 7, .slice none 0 0, .string ⟨#[]⟩, .int .i64 0, .int .i64 48, .int .i64 0, .int .i64 0] 47) := ⟨_, rfl⟩
  have gv : Below v0.heap.size v0 v1 := by rw [hv1]; exact (Below.refl _ v0).alloc (Nat.le_refl _) _
  have sc : PartOk v1 ⟨⟨some ⟨v0.heap.size, 0, none⟩, 1, 1⟩, [⟨scrubAc 48, nilS⟩]⟩ := by rw [hv1]; exact acts_laid v0 [scrubAc 48] (fun q hq => by rw [List.mem_singleton] at hq; subst hq; exact ⟨rfl, Nat.zero_le _⟩) (by simp)
  have g1 := bel3 g0 gv
  have htl := tot_flat Gs
  have hfk : fk = tot Gs := by rw [hF2.sn, htl]
  have hcl := chain_len Gs 0 hch
  have hAl : A.length = Gs.length := by rw [← acs_len, hA2, List.length_map]
  have hAt := (hA1.below gv).at (by unfold maxLen; omega)
  have S1 := hid (And.intro g1 (And.intro hAt (And.intro hA2 (And.intro (hF2.below gv) (And.intro hch (And.intro htot (And.intro hcl sc)))))))
  have CH := hid (hurts_out b m d S K 48 60 v1 (HH.out.1.below g1) HH.out.2.2.1 (by omega) (by omega) (by omega))
  have hhl : ((hurtsOf S K 48 60).map hurtAc).length ≤ 60 := by rw [List.length_map]; exact hurts_le S K 48 60
  have hhl2 : ((hurtsOf S2 E 48 60).map hurtAc).length ≤ 60 := by rw [List.length_map]; exact hurts_le S2 E 48 60
  have CH2 := hid (fun wx (g : Below v1.heap.size v1 wx) => hurts_out b2 m2 d2 S2 E 48 60 wx ((HH.out.2.1.below g1).below g) HH.out.2.2.2 (by omega) (by omega) (by omega))
  have CG := hid (fun wx (g : Below v1.heap.size v1 wx) => gets_any fb fk fd Gs.flatten wx ((hF2.below gv).below g) (by omega))
  have HL := hid (And.intro hfk (And.intro hF1 (And.intro hhl (And.intro hAl hhl2))))
  have ONE := hid (then_told Gs hch htot K HH.out.2.2.1 E HH.out.2.2.2 S S2 60 60)
  clear C1 hA1 hA2 hF1 hF2 hch htot g1 g0 gv sc htl hfk hcl hAl hAt hhl hhl2
  generalize (hurtsOf S K 48 60).map hurtAc = hu at CH HL ONE
  generalize (hurtsOf S2 E 48 60).map hurtAc = hu2 at CH2 HL ONE
  go_upto_region 3 with fail
  rw [← hv1]
  clear hv1
  go_wp2_with fail
  refine (CP.out _).mono ?_
  rintro _ w9 ⟨rfl, h9⟩
  have h8 := h9.symm
  subst h8
  go_wp2_with fail
  refine CH.out.mono ?_
  rintro _ v2 ⟨ha, hn, hc, H, rfl, hH1, hH2, g2⟩
  have hHl : H.length ≤ 60 := by rw [← acs_len, hH2]; exact HL.out.2.2.1
  have hHt := hH1.at (by unfold maxLen; omega)
  have CH2' := hid (CH2.out v2 g2)
  have S2' := hid (And.intro g2 (And.intro hHt hH2))
  clear CH CH2 hH1 hH2 hHl hHt g2
  go_wp2_with fail
  refine (CQ.out _).mono ?_
  rintro _ w9 ⟨rfl, h9⟩
  have h8 := h9.symm
  subst h8
  go_wp2_with fail
  refine CH2'.out.mono ?_
  rintro _ v6 ⟨ia, im, ic, I, rfl, hI1, hI2, g6⟩
  have hIl : I.length ≤ 60 := by rw [← acs_len, hI2]; exact HL.out.2.2.2.2
  have hIt := hI1.at (by unfold maxLen; omega)
  have g26 := bel3 S2'.out.1 g6
  have C3 := hid (CG.out v6 g26)
  have S6 := hid (And.intro g6 (And.intro hIt (And.intro hI2 g26)))
  clear CH2' CG hI1 hI2 hIl hIt g6 g26
  go_wp2_with fail
  refine C3.out.mono ?_
  rintro _ v3 ⟨qa, qn, qc, Q, rfl, hQ1, hQ2, g3⟩
  have hQl : Q.length = tot Gs := by rw [← acs_len, hQ2, List.length_map, tot_flat]
  have hQt := hQ1.at (by unfold maxLen; have := S1.out.2.2.2.2.2.1; omega)
  have g23 := bel3 S6.out.2.2.2 g3
  have b4 : Below v3.heap.size v3 (v3.alloc (.cells #[.slice ga gm gc, .slice ha hn hc, .slice (some ⟨v0.heap.size, 0, none⟩) 1 1, .slice ia im ic, .slice qa qn qc] 22)) := (Below.refl _ v3).alloc (Nat.le_refl _) _
  obtain ⟨l, hl0⟩ : ∃ l, l = Gs.map addAc ++ (hu ++ ([scrubAc 48] ++ (hu2 ++ Gs.flatten.map getAc))) := ⟨_, rfl⟩
  have hl : l.length ≤ 200 ∧ tot Gs ≤ l.length ∧ Gs.length ≤ l.length := by
    have h1 := S1.out.2.2.2.2.2.1
    have h2 := S1.out.2.2.2.2.2.2.1
    have h3 := HL.out.2.2.1
    have h4 := tot_flat Gs
    have h5 := HL.out.2.2.2.2
    rw [hl0]
    simp only [List.length_append, List.length_map, List.length_singleton]
    omega
  rw [← hl0] at ONE
  have C4 : Hid (Calls Tryz.prog 22 #[.slice (some ⟨v3.heap.size, 0, none⟩) 5 5] (v3.alloc (.cells #[.slice ga gm gc, .slice ha hn hc, .slice (some ⟨v0.heap.size, 0, none⟩) 1 1, .slice ia im ic, .slice qa qn qc] 22)) (OutTr (v3.alloc (.cells #[.slice ga gm gc, .slice ha hn hc, .slice (some ⟨v0.heap.size, 0, none⟩) 1 1, .slice ia im ic, .slice qa qn qc] 22)) l)) :=
    laid_run [⟨⟨ga, gm, gc⟩, A⟩, ⟨⟨ha, hn, hc⟩, H⟩, ⟨⟨some ⟨v0.heap.size, 0, none⟩, 1, 1⟩, [⟨scrubAc 48, nilS⟩]⟩, ⟨⟨ia, im, ic⟩, I⟩, ⟨⟨qa, qn, qc⟩, Q⟩] (fun q hq => by
      simp only [List.mem_cons, List.not_mem_nil, or_false] at hq
      rcases hq with rfl | rfl | rfl | rfl | rfl
      · exact ⟨S1.out.2.1.1, S1.out.2.1.2.below g23⟩
      · exact ⟨S2'.out.2.1.1, (S2'.out.2.1.2.below S6.out.1).below g3⟩
      · exact S1.out.2.2.2.2.2.2.2.below g23
      · exact ⟨S6.out.2.1.1, S6.out.2.1.2.below g3⟩
      · exact hQt) (by simp) (by
      rw [hl0]
      show acs A ++ (acs H ++ ([scrubAc 48] ++ (acs I ++ (acs Q ++ [])))) = _
      rw [S1.out.2.2.1, S2'.out.2.2, S6.out.2.2.1, hQ2, List.append_nil]) hl.1 5 rfl
  have S3 := hid (And.intro g23 (And.intro b4 hl))
  clear C3 hQ1 hQ2 hQl hQt g3 g23 b4 hl hl0
  go_wp2_with fail
  refine C4.out.mono ?_
  rintro _ v5 ⟨xa, xn, xc, za, zm, zc, X, rfl, ⟨hX1, hX2, hX3⟩, _, g5⟩
  have S5 := hid (bel3 S3.out.2.1 g5)
  have hXl := ans_len hX1
  have b6 : Below v5.heap.size v5 (v5.alloc (.cells #[.slice za zm zc] 26)) := (Below.refl _ v5).alloc (Nat.le_refl _) _
  have hxn : xn = l.length := by rw [hX3.sn]; exact hXl
  have hle : tot Gs ≤ xn ∧ Gs.length ≤ xn ∧ xn ≤ 200 := by rw [hxn]; exact ⟨S3.out.2.2.2.1, S3.out.2.2.2.2, S3.out.2.2.1⟩
  have CT := hid (told_call xa xn xc X ga gm gc A fb fk fd Gs (v5.alloc (.cells #[.slice za zm zc] 26)) (hX3.below b6) hX2 ((((S1.out.2.1.2.below S3.out.1).below S5.out).below b6)) S1.out.2.2.1 HL.out.1 (fun G hG => chain_ne Gs 0 S1.out.2.2.2.2.1 G hG) (by rw [HL.out.1]; exact hle.1) (by rw [S1.out.2.1.2.sn, HL.out.2.2.2.1]; exact hle.2.1) hle.2.2 (by
    have q := ONE.out xn hxn
    rw [hX1, HL.out.1]
    exact q))
  have FIN := hid (bel3 S1.out.1 (bel3 S3.out.1 (bel3 S5.out b6)))
  clear C4 hX1 hX2 hX3 hXl hxn hle b6 g5
  go_wp2_with fail
  refine CT.out.mono ?_
  rintro _ v7 ⟨rfl, g7⟩
  have K := hid (bel3 FIN.out g7)
  clear CT FIN g7
  go_wp2
  go_ret
  exact ⟨rfl, K.out⟩

set_option maxRecDepth 100000 in
theorem lifted (os : Os) (started : os.Started) (H : Type) (enc : TypeId × Value → H) :
    ReturnsInHanded {} Tryz.checked os 6 .any (fun w args => (Rows.topThenSpec.pre enc Tryz.prog Tryz.f6 Rows.topThenRow.domain false w args ∧ laidMetH Tryz.prog Rows.topThenRow.laid w) ∧ sizedMet enc Tryz.prog Tryz.f6 (OpenSpec.ofChange Rows.topThenSpec) false w args)
      (Rows.topThenSpec.post enc Tryz.prog Tryz.f6 false true false false) := by
  refine returnsInHanded_of_change_and (C := Tryz.checked) (X := fun w _ => laidMetH Tryz.prog Rows.topThenRow.laid w) (fun _ _ _ hh h => h.of_heap hh) own started (by kernel_rfl) Tryz.func6
    (ChangeSpec.witness_shaped (enc := enc) (C := Tryz.checked) (os := os) (X := fun w _ => laidMetH Tryz.prog Rows.topThenRow.laid w) false (World.laidAll Tryz.prog os Rows.topThenRow.laid) #[.slice none 0 0, .slice none 0 0, .int .i64 0, .slice none 0 0, .int .i64 0] 8 (World.laidAll_os _ _ _)
      (World.shaped_of_ZipB (by kernel_rfl) (by kernel_rfl)) (by kernel_rfl) (by kernel_rfl) (by kernel_rfl)
      (by rw [MakeChecks.laidMetH_plain _ _ _ (by kernel_rfl)]; exact laidMet_laidAll _ (by kernel_rfl) (by kernel_rfl))) ?_
  intro W base args ds gs before hval0 hW hcnd _ _hL _
  have hval : ∀ (j : Nat) t v, Tryz.f6.params[j]? = some t → args[j]? = some v → Value.okWide Tryz.prog W .any base t v := hval0
  have hW' := hW
  obtain ⟨p, q, hA0, hV, rfl, hfz, hnd⟩ := hW
  have hA : DataW.TrodAll enc Tryz.prog W 0 (fun _ => true) true Tryz.f6.params.toList args.toList ds p := hA0
  rw [Tryz.params6] at hA hval
  obtain ⟨v0, vs0, d0, ds0, p0, q0, hargs, rfl, rfl, h0, r0⟩ := trodAll_cons hA
  obtain ⟨v1, vs1, d1, ds1, p1, q1, rfl, rfl, rfl, h1, r1⟩ := trodAll_cons r0
  obtain ⟨v2, vs2, d2, ds2, p2, q2, rfl, rfl, rfl, h2, r2⟩ := trodAll_cons r1
  obtain ⟨v3, vs3, d3, ds3, p3, q3, rfl, rfl, rfl, h3, r3⟩ := trodAll_cons r2
  obtain ⟨v4, vs4, d4, ds4, p4, q4, rfl, rfl, rfl, h4, r4⟩ := trodAll_cons r3
  obtain ⟨rfl, rfl, rfl⟩ := trodAll_nil r4
  obtain rfl : args = #[v0, v1, v2, v3, v4] := by cases args; simp_all
  obtain ⟨rfl, rfl⟩ := trodVars_none hV
  have h0k := h0
  obtain ⟨a0, n0, c0, R0, rfl, w0, f0⟩ := open_raws (hval 0 38 v0 rfl rfl) h0
  have l0 : ∀ x ∈ p0, x.block < W.heap.size := fun x hx => hW'.lt x (by simp [hx])
  have h1k := h1
  obtain ⟨a1, n1, c1, R1, rfl, w1, f1⟩ := open_raws (hval 1 38 v1 rfl rfl) h1
  have l1 : ∀ x ∈ p1, x.block < W.heap.size := fun x hx => hW'.lt x (by simp [hx])
  obtain ⟨a2, rfl, rfl, rfl, w2⟩ := open_int Tryz.underlying3 (hval 2 3 v2 rfl rfl) h2
  have h3k := h3
  obtain ⟨a3, n3, c3, R3, rfl, w3, f3⟩ := open_raws (hval 3 38 v3 rfl rfl) h3
  have l3 : ∀ x ∈ p3, x.block < W.heap.size := fun x hx => hW'.lt x (by simp [hx])
  obtain ⟨a4, rfl, rfl, rfl, w4⟩ := open_int Tryz.underlying3 (hval 4 3 v4 rfl rfl) h4
  clear hA0 hval0
  refine (walk W (pow_of _hL) a0 n0 c0 R0 a1 n1 c1 R1 a2 a3 n3 c3 R3 a4 (And.intro w0 f0) (And.intro w1 f1) w2 (And.intro w3 f3) w4).mono fun e W' ⟨he, bel⟩ => ?_
  subst he
  exact ⟨_, rfl, _, _, _, [], _, [], hW', trodAll_mk1 (shut_bool Tryz.underlying4 _), (trodAll_cons_mk (Below.trod laidOut (by kernel_rfl) (of_decide_eq_true (by kernel_rfl)) h0k bel l0) (trodAll_cons_mk (Below.trod laidOut (by kernel_rfl) (of_decide_eq_true (by kernel_rfl)) h1k bel l1) (trodAll_cons_mk (shut_int Tryz.underlying3 w2) (trodAll_cons_mk (Below.trod laidOut (by kernel_rfl) (of_decide_eq_true (by kernel_rfl)) h3k bel l3) (trodAll_cons_mk (shut_int Tryz.underlying3 w4) trodAll_mk0))))), rfl, bel.frame _, fun h => by cases h⟩

theorem over : Rows.topThenRow.holds Tryz.pinned (OpenSpec.ofChange Rows.topThenSpec) :=
  OpenClaim.holds_of_wide 6 Tryz.f6 rfl rfl rfl rfl rfl rfl rfl ⟨rfl, rfl, rfl, rfl, rfl⟩ rfl rfl rfl rfl rfl (by kernel_rfl) Tryz.func6 (by kernel_rfl)
    (of_decide_eq_true (by kernel_rfl)) (by unfold Func.isWrapper; first | (rw [if_pos (by decide +kernel)]; kernel_rfl) | (rw [if_neg (by decide +kernel)]; exact ⟨rfl, rfl⟩))
    (fun os started H enc _ => lifted os started H enc)
end Go.Proofs.YtahoagbaadnihaaGreatDoor.topThen

namespace Go.Proofs.YtahoagbaadnihaaGreatDoor
theorem topThen_holds : Rows.TopThenCardSaid :=
  Claim7.holds_tied_plain_at .later [] [.data, .data, .data, .data, .pinned] true (true, "b499f7743dfc50bd312f82b71788530561c73f43cef8a9a5f4b330cad4d5a33e") false
    topThen.over (fun _ h => by cases h) (by kernel_rfl) (fun _ h => by cases h) topThen_row_tie rfl ⟨rfl, rfl⟩ (by kernel_rfl) rfl
    (fun f fn hf hfn => by
      obtain rfl : f = 6 := Option.some.inj ((show Tryz.prog.funcNamed "arras/arrastop.TopThen" = some 6 by kernel_rfl).symm.trans hf) |>.symm
      obtain rfl : fn = Tryz.f6 := (Option.some.inj (Tryz.func6.symm.trans hfn)).symm
      exact ⟨by kernel_rfl, fun j t ht => by
        rw [Tryz.params6] at ht
        have hm : t ∈ [38, 38, 3, 38, 3] := by simpa using Array.mem_of_getElem? ht
        have hall : ([38, 38, 3, 38, 3].all fun u => !Tryz.prog.wantsStandIn u) = true := by kernel_rfl
        exact (show Tryz.prog.wantsStandIn t = false by simpa using List.all_eq_true.1 hall t hm)⟩)
    (by kernel_rfl)
#print axioms topThen_holds
end Go.Proofs.YtahoagbaadnihaaGreatDoor
