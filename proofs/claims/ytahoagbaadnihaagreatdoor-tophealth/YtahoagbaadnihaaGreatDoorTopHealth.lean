/- For all lists of raw things, of hurts and every number: where no sector is gone all files are got as they were, whatever happened to two devices. What was handed in is left as it was; the table of powers of ten is listed and tied (Itoa looks into it), the other tables are listed, and no step looks into them. -/
import Derived.Test.YtahoagbaadnihaaGreatDoorRows
import Derived.Test.YtahoagbaadnihaaGreatDoorTie
import Derived.Test.YtahoagbaadnihaaGreatDoorCards
import Derived.Test.YtahoagbaadnihaaGreatDoorKeepBase
import Derived.Test.YtahoagbaadnihaaGreatDoorTopM
import Derived.WalkKit
import Derived.ProofKit
import Derived.OpenShut
import Derived.ShutString
import Derived.LaidOnce
import Derived.SevenTiedAt
import Derived.Lay
import Derived.Stop.Joined
namespace Go.Proofs.YtahoagbaadnihaaGreatDoor.topHealth
open Go.ChangeShapes Go.WideShapes Go.ChangeAt Go.RowKit Go.Lib
open Go.ChangeMaps (open_string shut_string)

theorem own : ownKnob Tryz.prog.godebug = none := by kernel_rfl
theorem laidOut : laidOutB Tryz.prog = true := by kernel_rfl
theorem pow_of {W : World} (h : laidMetH Tryz.prog Rows.topHealthRow.laid W) : Pow W := by
  rw [MakeChecks.laidMetH_plain _ _ _ (by kernel_rfl)] at h
  exact pow_laid h
set_option maxHeartbeats 3200000 in
set_option maxRecDepth 8000 in
theorem walk (w : World) (hp : Pow w) (a : Option Addr) (n c : Nat) (R : List Raw4) (b : Option Addr) (m d : Nat) (S : List Raw4) (x : Int) (h : RawsAt w a n R ∧ n ≤ c) (h2 : RawsAt w b m S ∧ m ≤ d) (w1 : (Lit.int .i64 x).wf = true) :
    Calls Tryz.prog 7 #[.slice a n c, .slice b m d, .int .i64 x] w fun e w' => e = .returned (.bool true) ∧ Below w.heap.size w w' := by
  have hx := wf_i64 w1
  obtain ⟨K, hK, hK3⟩ := nat_pick x
  obtain ⟨E, hE⟩ : ∃ E, E = (K + 1) % 3 := ⟨_, rfl⟩
  have hE3 : E < 3 := by omega
  have hne : E ≠ K := by omega
  have C1 := hid (adds_any a n c R 8 w h.1 h.2 hp (by omega) (by omega) (by omega))
  have CB : Hid (∀ wx, Below w.heap.size w wx → Calls Tryz.prog 26 #[.slice b m d, .int .i64 x, .int .i64 20] wx (OutX wx ((hurtsOf (S.take (m / 2)) K 48 20).map hurtAc ++ (hurtsOf (S.drop (m / 2)) E 48 20).map hurtAc))) := fun wx g => by
    rw [hE]
    exact both_any b m d S x 20 K wx hx hK hK3 (h2.1.below g) h2.2 (by decide)
  have HK := hid (And.intro hK3 (And.intro hE3 hne))
  clear h h2 hp hx hK hK3 w1 hE hE3 hne
  go_enter Tryz.func7, Tryz.ntmps7
  go_wp2_with fail
  refine C1.out.mono ?_
  rintro _ v1 ⟨ga, gm, gc, fb, fk, fd, Gs, A, rfl, ⟨hA1, hA2⟩, ⟨hF1, hF2⟩, ⟨hch, htot, _⟩, g1⟩
  have htl := tot_flat Gs
  have hfk : fk = tot Gs := by rw [hF2.sn, htl]
  have hcl := chain_len Gs 0 hch
  have hAl : A.length = Gs.length := by rw [← acs_len, hA2, List.length_map]
  have hAt := hA1.at (by unfold maxLen; omega)
  have S1 := hid (And.intro g1 (And.intro hAt (And.intro hA2 (And.intro hF2 (And.intro hch (And.intro htot hcl))))))
  have CH := hid (CB.out v1 g1)
  have hhl : ((hurtsOf (S.take (m / 2)) K 48 20).map hurtAc ++ (hurtsOf (S.drop (m / 2)) E 48 20).map hurtAc).length ≤ 60 := by
    have q1 := hurts_le (S.take (m / 2)) K 48 20
    have q2 := hurts_le (S.drop (m / 2)) E 48 20
    rw [List.length_append, List.length_map, List.length_map]; omega
  have CG := hid (fun wx (g : Below v1.heap.size v1 wx) => gets_any fb fk fd Gs.flatten wx (hF2.below g) (by omega))
  have HL := hid (And.intro hfk (And.intro hF1 (And.intro hhl hAl)))
  have ONE := hid (health_told Gs hch htot K HK.out.1 E HK.out.2.1 HK.out.2.2 (S.take (m / 2)) (S.drop (m / 2)) 20)
  clear C1 CB hA1 hA2 hF1 hF2 hch htot g1 htl hfk hcl hAl hAt hhl
  generalize (hurtsOf (S.take (m / 2)) K 48 20).map hurtAc ++ (hurtsOf (S.drop (m / 2)) E 48 20).map hurtAc = hu at CH HL ONE
  go_wp2_with fail
  refine CH.out.mono ?_
  rintro _ v2 ⟨ha, hn, hc, H, rfl, hH1, hH2, g2⟩
  have hHl : H.length ≤ 60 := by rw [← acs_len, hH2]; exact HL.out.2.2.1
  have hHt := hH1.at (by unfold maxLen; omega)
  obtain ⟨v3, hv3⟩ : ∃ v3, v3 = v2.alloc (.cells #[.int .i64 8, .slice none 0 0, .string ⟨#[]⟩, .int .i64 0, .int .i64 0, .int .i64 0, .int .i64 0] 47) := ⟨_, rfl⟩
  have g3 : Below v2.heap.size v2 v3 := by rw [hv3]; exact (Below.refl _ v2).alloc (Nat.le_refl _) _
  have hh : PartOk v3 ⟨⟨some ⟨v2.heap.size, 0, none⟩, 1, 1⟩, [⟨healthAc, nilS⟩]⟩ := by rw [hv3]; exact acts_laid v2 [healthAc] (fun q hq => by rw [List.mem_singleton] at hq; subst hq; exact ⟨rfl, Nat.zero_le _⟩) (by simp)
  have C3 := hid (CG.out v3 (bel3 g2 g3))
  have S2 := hid (And.intro g2 (And.intro g3 (And.intro hHt (And.intro hH2 hh))))
  clear CH CG hH1 hH2 hHl hHt g2 g3 hh
  go_wp2_with fail
  rw [← hv3]
  clear hv3
  refine C3.out.mono ?_
  rintro _ v4 ⟨qa, qn, qc, Q, rfl, hQ1, hQ2, g4⟩
  have hQl : Q.length = tot Gs := by rw [← acs_len, hQ2, List.length_map, tot_flat]
  have hQt := hQ1.at (by unfold maxLen; have := S1.out.2.2.2.2.2.1; omega)
  have g34 := bel3 S2.out.2.1 g4
  have g24 := bel3 S2.out.1 g34
  have b4 : Below v4.heap.size v4 (v4.alloc (.cells #[.slice ga gm gc, .slice ha hn hc, .slice (some ⟨v2.heap.size, 0, none⟩) 1 1, .slice qa qn qc] 22)) := (Below.refl _ v4).alloc (Nat.le_refl _) _
  obtain ⟨l, hl0⟩ : ∃ l, l = Gs.map addAc ++ (hu ++ ([healthAc] ++ Gs.flatten.map getAc)) := ⟨_, rfl⟩
  have hl : l.length ≤ 200 ∧ tot Gs + 1 ≤ l.length ∧ Gs.length ≤ l.length := by
    have h1 := S1.out.2.2.2.2.2.1
    have h2 := S1.out.2.2.2.2.2.2
    have h3 := HL.out.2.2.1
    have h4 := tot_flat Gs
    rw [hl0]
    simp only [List.length_append, List.length_map, List.length_singleton]
    omega
  have TWO := hid (ONE.out l hl0)
  have C4 : Hid (Calls Tryz.prog 22 #[.slice (some ⟨v4.heap.size, 0, none⟩) 4 4] (v4.alloc (.cells #[.slice ga gm gc, .slice ha hn hc, .slice (some ⟨v2.heap.size, 0, none⟩) 1 1, .slice qa qn qc] 22)) (OutTr (v4.alloc (.cells #[.slice ga gm gc, .slice ha hn hc, .slice (some ⟨v2.heap.size, 0, none⟩) 1 1, .slice qa qn qc] 22)) l)) :=
    laid_run [⟨⟨ga, gm, gc⟩, A⟩, ⟨⟨ha, hn, hc⟩, H⟩, ⟨⟨some ⟨v2.heap.size, 0, none⟩, 1, 1⟩, [⟨healthAc, nilS⟩]⟩, ⟨⟨qa, qn, qc⟩, Q⟩] (fun q hq => by
      simp only [List.mem_cons, List.not_mem_nil, or_false] at hq
      rcases hq with rfl | rfl | rfl | rfl
      · exact ⟨S1.out.2.1.1, S1.out.2.1.2.below g24⟩
      · exact ⟨S2.out.2.2.1.1, S2.out.2.2.1.2.below g34⟩
      · exact S2.out.2.2.2.2.below g4
      · exact hQt) (by simp) (by
      rw [hl0]
      show acs A ++ (acs H ++ ([healthAc] ++ (acs Q ++ []))) = _
      rw [S1.out.2.2.1, S2.out.2.2.2.1, hQ2, List.append_nil]) hl.1 4 rfl
  have S3 := hid (And.intro g24 (And.intro b4 hl))
  clear C3 hQ1 hQ2 hQl hQt g4 g34 g24 b4 hl hl0 ONE
  go_wp2_with fail
  refine C4.out.mono ?_
  rintro _ v5 ⟨xa, xn, xc, za, zm, zc, X, rfl, ⟨hX1, hX2, hX3⟩, _, g5⟩
  have hXl := ans_len hX1
  have hxn : xn = l.length := by rw [hX3.sn]; exact hXl
  have hle : tot Gs + 1 ≤ xn ∧ Gs.length ≤ xn ∧ xn ≤ 200 := by rw [hxn]; exact ⟨S3.out.2.2.2.1, S3.out.2.2.2.2, S3.out.2.2.1⟩
  obtain ⟨j, hj⟩ : ∃ j, j = xn - tot Gs - 1 := ⟨_, rfl⟩
  obtain ⟨j1, hj1⟩ : ∃ j1, j1 = j + 1 := ⟨_, rfl⟩
  have TW := TWO.out
  rw [← hX1, ← hxn] at TW
  obtain ⟨v6, hv6⟩ : ∃ v6, v6 = v5.alloc (.cells #[.slice za zm zc] 26) := ⟨_, rfl⟩
  have b6 : Below v5.heap.size v5 v6 := by rw [hv6]; exact (Below.refl _ v5).alloc (Nat.le_refl _) _
  obtain ⟨q, b1, o1, hq, rfl, hb1, hok, x0, x1, x2, x3, x4⟩ := (hX3.below b6).one j (by omega)
  obtain ⟨v7, hv7⟩ : ∃ v7, v7 = v6.alloc (.cells #[.int .i64 q.r.code, .string (str q.r.data), .slice q.f.a q.f.n q.f.c, .int .i64 q.r.count, .slice q.g.a q.g.n q.g.c] 34) := ⟨_, rfl⟩
  have b7 : Below v6.heap.size v6 v7 := by rw [hv7]; exact (Below.refl _ v6).alloc (Nat.le_refl _) _
  rw [← hj, an1_of hq] at TW
  have hcode : q.r.code = 0 := TW.1
  have Q0 : Own v7 v6.heap.size 34 (nxC q) := by
    have := Own.made v6 34 (nxC q)
    rw [show v6.alloc (.cells (nxC q).toArray 34) = v7 from hv7.symm] at this
    exact this
  have q0 : v7.cell? ⟨v6.heap.size, 0, none⟩ = some (.int .i64 q.r.code) := Q0.cell (i := 0) rfl
  have q4 : v7.cell? ⟨v6.heap.size, 4, none⟩ = some (.slice q.g.a q.g.n q.g.c) := Q0.cell (i := 4) rfl
  have hgone : q.g.n = 0 → q.r.gone = [] := fun e => by
    have := hok.G.sn
    rw [e] at this
    simpa [ups] using this.symm
  have hX7 := (hX3.below b6).below b7
  have g57 := bel3 (bel3 S3.out.2.1 g5) (bel3 b6 b7)
  have FIN := hid (bel3 S1.out.1 (bel3 S3.out.1 g57))
  have CT : Hid (q.g.n = 0 → Calls Tryz.prog 25 #[.slice (some ⟨b1, o1, none⟩) xn xc, .slice ga gm gc, .slice fb fk fd] v7 (OutYes v7)) := fun e =>
    told_call (some ⟨b1, o1, none⟩) xn xc X ga gm gc A fb fk fd Gs v7 hX7 hX2 ((S1.out.2.1.2.below S3.out.1).below g57) S1.out.2.2.1 HL.out.1 (fun G hG => chain_ne Gs 0 S1.out.2.2.2.2.1 G hG) (by rw [HL.out.1]; omega) (by rw [S1.out.2.1.2.sn, HL.out.2.2.2]; exact hle.2.1) hle.2.2 (by
      have z := TW.2 (hgone e)
      rw [HL.out.1]
      exact z)
  have hfk := HL.out.1
  have k1 : (xn : Int) - (fk : Int) = (j1 : Int) := by omega
  have k2 : (j1 : Int) - 1 = (j : Int) := by omega
  have k3 : (j : Int) < (xn : Int) := by omega
  have k4 : j1 ≤ 200 := by omega
  have k5 : j ≤ 200 := by omega
  clear C4 hX1 hX2 hX3 hXl hxn hle b6 b7 g5 g57 TW TWO hj hj1 hfk hX7 hgone Q0 hq hok
  obtain ⟨⟨qc', qd, qns, qt, qg⟩, ⟨fa, fn, fc⟩, ⟨ua, un, uc⟩⟩ := q
  dsimp only at x0 x1 x2 x3 x4 q0 q4 hcode CT hv7
  subst hcode
  go_upto_region 5 with fail
  rw [← hv6]
  clear hv6
  go_upto_region 6 with fail
  rw [← hv7]
  clear hv7 x0 x1 x2 x3 x4 k1 k2 k3
  by_cases hu0 : un = 0
  · subst hu0
    have CT2 := hid (CT.out rfl)
    clear CT
    go_wp2_with fail
    refine CT2.out.mono ?_
    rintro _ v8 ⟨rfl, g8⟩
    have FF := hid (bel3 FIN.out g8)
    clear CT2 FIN g8 q0 q4
    go_wp2
    go_ret
    exact ⟨rfl, FF.out⟩
  · have hpos : (0 : Int) < un := by omega
    have hd : decide ((0 : Int) < un) = true := decide_eq_true hpos
    clear CT
    go_wp2
    go_ret
    exact ⟨rfl, FIN.out⟩

set_option maxRecDepth 100000 in
theorem lifted (os : Os) (started : os.Started) (H : Type) (enc : TypeId × Value → H) :
    ReturnsInHanded {} Tryz.checked os 7 .any (fun w args => (Rows.topHealthSpec.pre enc Tryz.prog Tryz.f7 Rows.topHealthRow.domain false w args ∧ laidMetH Tryz.prog Rows.topHealthRow.laid w) ∧ sizedMet enc Tryz.prog Tryz.f7 (OpenSpec.ofChange Rows.topHealthSpec) false w args)
      (Rows.topHealthSpec.post enc Tryz.prog Tryz.f7 false true false false) := by
  refine returnsInHanded_of_change_and (C := Tryz.checked) (X := fun w _ => laidMetH Tryz.prog Rows.topHealthRow.laid w) (fun _ _ _ hh h => h.of_heap hh) own started (by kernel_rfl) Tryz.func7
    (ChangeSpec.witness_shaped (enc := enc) (C := Tryz.checked) (os := os) (X := fun w _ => laidMetH Tryz.prog Rows.topHealthRow.laid w) false (World.laidAll Tryz.prog os Rows.topHealthRow.laid) #[.slice none 0 0, .slice none 0 0, .int .i64 0] 8 (World.laidAll_os _ _ _)
      (World.shaped_of_ZipB (by kernel_rfl) (by kernel_rfl)) (by kernel_rfl) (by kernel_rfl) (by kernel_rfl)
      (by rw [MakeChecks.laidMetH_plain _ _ _ (by kernel_rfl)]; exact laidMet_laidAll _ (by kernel_rfl) (by kernel_rfl))) ?_
  intro W base args ds gs before hval0 hW hcnd _ _hL _
  have hval : ∀ (j : Nat) t v, Tryz.f7.params[j]? = some t → args[j]? = some v → Value.okWide Tryz.prog W .any base t v := hval0
  have hW' := hW
  obtain ⟨p, q, hA0, hV, rfl, hfz, hnd⟩ := hW
  have hA : DataW.TrodAll enc Tryz.prog W 0 (fun _ => true) true Tryz.f7.params.toList args.toList ds p := hA0
  rw [Tryz.params7] at hA hval
  obtain ⟨v0, vs0, d0, ds0, p0, q0, hargs, rfl, rfl, h0, r0⟩ := trodAll_cons hA
  obtain ⟨v1, vs1, d1, ds1, p1, q1, rfl, rfl, rfl, h1, r1⟩ := trodAll_cons r0
  obtain ⟨v2, vs2, d2, ds2, p2, q2, rfl, rfl, rfl, h2, r2⟩ := trodAll_cons r1
  obtain ⟨rfl, rfl, rfl⟩ := trodAll_nil r2
  obtain rfl : args = #[v0, v1, v2] := by cases args; simp_all
  obtain ⟨rfl, rfl⟩ := trodVars_none hV
  have h0k := h0
  obtain ⟨a0, n0, c0, R0, rfl, w0, f0⟩ := open_raws (hval 0 38 v0 rfl rfl) h0
  have l0 : ∀ x ∈ p0, x.block < W.heap.size := fun x hx => hW'.lt x (by simp [hx])
  have h1k := h1
  obtain ⟨a1, n1, c1, R1, rfl, w1, f1⟩ := open_raws (hval 1 38 v1 rfl rfl) h1
  have l1 : ∀ x ∈ p1, x.block < W.heap.size := fun x hx => hW'.lt x (by simp [hx])
  obtain ⟨a2, rfl, rfl, rfl, w2⟩ := open_int Tryz.underlying3 (hval 2 3 v2 rfl rfl) h2
  clear hA0 hval0
  refine (walk W (pow_of _hL) a0 n0 c0 R0 a1 n1 c1 R1 a2 (And.intro w0 f0) (And.intro w1 f1) w2).mono fun e W' ⟨he, bel⟩ => ?_
  subst he
  exact ⟨_, rfl, _, _, _, [], _, [], hW', trodAll_mk1 (shut_bool Tryz.underlying4 _), (trodAll_cons_mk (Below.trod laidOut (by kernel_rfl) (of_decide_eq_true (by kernel_rfl)) h0k bel l0) (trodAll_cons_mk (Below.trod laidOut (by kernel_rfl) (of_decide_eq_true (by kernel_rfl)) h1k bel l1) (trodAll_cons_mk (shut_int Tryz.underlying3 w2) trodAll_mk0))), rfl, bel.frame _, fun h => by cases h⟩

theorem over : Rows.topHealthRow.holds Tryz.pinned (OpenSpec.ofChange Rows.topHealthSpec) :=
  OpenClaim.holds_of_wide 7 Tryz.f7 rfl rfl rfl rfl rfl rfl rfl ⟨rfl, rfl, rfl, rfl, rfl⟩ rfl rfl rfl rfl rfl (by kernel_rfl) Tryz.func7 (by kernel_rfl)
    (of_decide_eq_true (by kernel_rfl)) (by unfold Func.isWrapper; first | (rw [if_pos (by decide +kernel)]; kernel_rfl) | (rw [if_neg (by decide +kernel)]; exact ⟨rfl, rfl⟩))
    (fun os started H enc _ => lifted os started H enc)
end Go.Proofs.YtahoagbaadnihaaGreatDoor.topHealth

namespace Go.Proofs.YtahoagbaadnihaaGreatDoor
theorem topHealth_holds : Rows.TopHealthCardSaid :=
  Claim7.holds_tied_plain_at .later [] [.data, .data, .data, .data, .pinned] true (true, "b499f7743dfc50bd312f82b71788530561c73f43cef8a9a5f4b330cad4d5a33e") false
    topHealth.over (fun _ h => by cases h) (by kernel_rfl) (fun _ h => by cases h) topHealth_row_tie rfl ⟨rfl, rfl⟩ (by kernel_rfl) rfl
    (fun f fn hf hfn => by
      obtain rfl : f = 7 := Option.some.inj ((show Tryz.prog.funcNamed "arras/arrastop.TopHealth" = some 7 by kernel_rfl).symm.trans hf) |>.symm
      obtain rfl : fn = Tryz.f7 := (Option.some.inj (Tryz.func7.symm.trans hfn)).symm
      exact ⟨by kernel_rfl, fun j t ht => by
        rw [Tryz.params7] at ht
        have hm : t ∈ [38, 38, 3] := by simpa using Array.mem_of_getElem? ht
        have hall : ([38, 38, 3].all fun u => !Tryz.prog.wantsStandIn u) = true := by kernel_rfl
        exact (show Tryz.prog.wantsStandIn t = false by simpa using List.all_eq_true.1 hall t hm)⟩)
    (by kernel_rfl)
#print axioms topHealth_holds
end Go.Proofs.YtahoagbaadnihaaGreatDoor
