/- For all lists of raw things and of hurts: whatever happened to one device, all files that were added are listed, by their names, each once. What was handed in is left as it was; the table of powers of ten is listed and tied (Itoa looks into it), the other tables are listed, and no step looks into them. -/
import Derived.Test.YtahoagbaadnihabGreatDoorRows
import Derived.Test.YtahoagbaadnihabGreatDoorTie
import Derived.Test.YtahoagbaadnihabGreatDoorCards
import Derived.Test.YtahoagbaadnihabGreatDoorKeepBase
import Derived.Test.YtahoagbaadnihabGreatDoorTopM
import Derived.WalkKit
import Derived.ProofKit
import Derived.OpenShut
import Derived.ShutString
import Derived.LaidOnce
import Derived.SevenTiedAt
import Derived.Lay
import Derived.Stop.Joined
namespace Go.Proofs.YtahoagbaadnihabGreatDoor.topNames
open Go.ChangeShapes Go.WideShapes Go.ChangeAt Go.RowKit Go.Lib
open Go.ChangeMaps (open_string shut_string)

theorem own : ownKnob Tryz.prog.godebug = none := by kernel_rfl
theorem laidOut : laidOutB Tryz.prog = true := by kernel_rfl
theorem pow_of {W : World} (h : laidMetH Tryz.prog Rows.topNamesRow.laid W) : Pow W := by
  rw [MakeChecks.laidMetH_plain _ _ _ (by kernel_rfl)] at h
  exact pow_laid h
set_option maxHeartbeats 3200000 in
set_option maxRecDepth 8000 in
theorem walk (w : World) (hp : Pow w) (a : Option Addr) (n c : Nat) (R : List Raw4) (b : Option Addr) (m d : Nat) (S : List Raw4) (x : Int) (h : RawsAt w a n R ∧ n ≤ c) (h2 : RawsAt w b m S ∧ m ≤ d) (w1 : (Lit.int .i64 x).wf = true) :
    Calls Tryz.prog 5 #[.slice a n c, .slice b m d, .int .i64 x] w fun e w' => e = .returned (.bool true) ∧ Below w.heap.size w w' := by
  have hx := wf_i64 w1
  obtain ⟨K, hK, hK3⟩ := nat_pick x
  have C1 := hid (adds_any a n c R 10 w h.1 h.2 hp (by omega) (by omega) (by omega))
  have HH := hid (And.intro h2.1 hK3)
  have CP : Hid (∀ wx, Calls Tryz.prog 10 #[.int .i64 x, .int .i64 3] wx fun e w' => e = .returned (.int .i64 K) ∧ w' = wx) := fun wx => by
    have := Picked_any x 3 wx hx (by omega)
    rw [hK] at this
    exact this
  clear h h2 hp hx hK hK3 w1
  go_enter Tryz.func5, Tryz.ntmps5
  go_wp2_with fail
  refine C1.out.mono ?_
  rintro _ v1 ⟨ga, gm, gc, fb, fk, fd, Gs, A, rfl, ⟨hA1, hA2⟩, ⟨hF1, hF2⟩, ⟨hch, htot, _⟩, g1⟩
  have hcl := chain_len Gs 0 hch
  have hAl : A.length = Gs.length := by rw [← acs_len, hA2, List.length_map]
  have hAt := hA1.at (by unfold maxLen; omega)
  have CH := hid (hurts_out b m d S K 48 20 v1 (HH.out.1.below g1) HH.out.2 (by omega) (by omega) (by omega))
  have hhl : ((hurtsOf S K 48 20).map hurtAc).length ≤ 60 := by rw [List.length_map]; have := hurts_le S K 48 20; omega
  have ONE := hid (names_told Gs hch htot K HH.out.2 S 20)
  have S1 := hid (And.intro g1 (And.intro hAt (And.intro hA2 (And.intro htot (And.intro hcl (And.intro hhl hAl))))))
  clear C1 hA1 hA2 hF1 hF2 hch htot g1 hcl hAl hAt hhl
  generalize (hurtsOf S K 48 20).map hurtAc = hu at CH S1 ONE
  go_wp2_with fail
  refine (CP.out _).mono ?_
  rintro _ w9 ⟨rfl, h9⟩
  have h8 := h9.symm
  subst h8
  clear h9 CP
  go_wp2_with fail
  refine CH.out.mono ?_
  rintro _ v2 ⟨ha, hn, hc, H, rfl, hH1, hH2, g2⟩
  have hHl : H.length ≤ 60 := by rw [← acs_len, hH2]; exact S1.out.2.2.2.2.2.1
  have hHt := hH1.at (by unfold maxLen; omega)
  obtain ⟨v3, hv3⟩ : ∃ v3, v3 = v2.alloc (.cells #[.int .i64 3, .slice none 0 0, .string ⟨#[]⟩, .int .i64 0, .int .i64 0, .int .i64 0, .int .i64 0] 29) := ⟨_, rfl⟩
  have g3 : Below v2.heap.size v2 v3 := by rw [hv3]; exact (Below.refl _ v2).alloc (Nat.le_refl _) _
  have sc : PartOk v3 ⟨⟨some ⟨v2.heap.size, 0, none⟩, 1, 1⟩, [⟨listAc, nilS⟩]⟩ := by rw [hv3]; exact acts_laid v2 [listAc] (fun q hq => by rw [List.mem_singleton] at hq; subst hq; exact ⟨rfl, Nat.zero_le _⟩) (by simp)
  have b3 : Below v3.heap.size v3 (v3.alloc (.cells #[.slice ga gm gc, .slice ha hn hc, .slice (some ⟨v2.heap.size, 0, none⟩) 1 1] 23)) := (Below.refl _ v3).alloc (Nat.le_refl _) _
  obtain ⟨l, hl0⟩ : ∃ l, l = Gs.map addAc ++ (hu ++ [listAc]) := ⟨_, rfl⟩
  have hl : l.length ≤ 200 ∧ 1 ≤ l.length ∧ Gs.length < l.length := by
    have h1 := S1.out.2.2.2.1
    have h2 := S1.out.2.2.2.2.1
    have h3 := S1.out.2.2.2.2.2.1
    rw [hl0]
    simp only [List.length_append, List.length_map, List.length_cons, List.length_nil]
    omega
  have TWO := hid (ONE.out l hl0)
  have C4 : Hid (Calls Tryz.prog 11 #[.slice (some ⟨v2.heap.size + 1, 0, none⟩) 3 3] (v3.alloc (.cells #[.slice ga gm gc, .slice ha hn hc, .slice (some ⟨v2.heap.size, 0, none⟩) 1 1] 23)) (OutTr (v3.alloc (.cells #[.slice ga gm gc, .slice ha hn hc, .slice (some ⟨v2.heap.size, 0, none⟩) 1 1] 23)) l)) := by
    have q := laid_run [⟨⟨ga, gm, gc⟩, A⟩, ⟨⟨ha, hn, hc⟩, H⟩, ⟨⟨some ⟨v2.heap.size, 0, none⟩, 1, 1⟩, [⟨listAc, nilS⟩]⟩] (fun q hq => by
      simp only [List.mem_cons, List.not_mem_nil, or_false] at hq
      rcases hq with rfl | rfl | rfl
      · exact ⟨S1.out.2.1.1, (S1.out.2.1.2.below g2).below g3⟩
      · exact ⟨hHt.1, hHt.2.below g3⟩
      · exact sc) (by simp) (by
      rw [hl0]
      show acs A ++ (acs H ++ ([listAc] ++ [])) = _
      rw [S1.out.2.2.1, hH2, List.append_nil]) hl.1 3 rfl
    rw [show v3.heap.size = v2.heap.size + 1 by rw [hv3]; simp] at q
    exact q
  have S3 := hid (And.intro (bel3 g2 (bel3 g3 b3)) hl)
  clear CH hH1 hH2 hHl hHt g2 g3 b3 sc hl hl0 ONE
  go_wp2_with fail
  rw [← hv3]
  clear hv3
  refine C4.out.mono ?_
  rintro _ v5 ⟨xa, xn, xc, za, zm, zc, X, rfl, ⟨hX1, hX2, hX3⟩, _, g5⟩
  have hxn : xn = l.length := by rw [hX3.sn]; exact ans_len hX1
  obtain ⟨u5, hu5⟩ : ∃ u5, u5 = v5.alloc (.cells #[.slice za zm zc] 35) := ⟨_, rfl⟩
  have gu5 : Below v5.heap.size v5 u5 := by rw [hu5]; exact (Below.refl _ v5).alloc (Nat.le_refl _) _
  have g1u := bel3 S3.out.1 (bel3 g5 gu5)
  have hx2 : gm < xn ∧ xn ≤ 200 ∧ 1 ≤ xn := by rw [hxn, S1.out.2.1.2.sn, S1.out.2.2.2.2.2.2]; exact ⟨S3.out.2.2.2, S3.out.2.1, S3.out.2.2.1⟩
  obtain ⟨_, xb, xo, _, rfl, _⟩ := hX3.one 0 (by omega)
  have hgn : gm = Gs.length := by rw [S1.out.2.1.2.sn, S1.out.2.2.2.2.2.2]
  have TW := TWO.out
  rw [← hX1, ← hxn] at TW
  have HX := hid (And.intro (hX3.below gu5) (And.intro (S1.out.2.1.2.below g1u) (And.intro S1.out.2.2.1 (And.intro hgn (And.intro TW hx2)))))
  have FIN := hid (bel3 S1.out.1 g1u)
  have hgm : gm ≤ 200 := by omega
  have J0 : Hid (NmsI u5 (wantN (ans X) Gs 0) (.slice none 0 0) u5) := ⟨World.ownsRow_nil _ _ _ _, Below.refl _ _⟩
  have HT := hid S1.out.2.2.2.1
  clear C4 hX1 hX2 hX3 hxn g5 gu5 g1u hx2 hgn TW TWO S1 S3
  go_upto_region 3 with fail
  rw [← hu5]
  clear hu5
  go_wp2_with fail
  go_loopw [12, 40] (fun v i wr => ∃ (ya : Option Addr) (yn yc i' : Nat), v = .slice ya yn yc ∧ i = .int .i64 i' ∧ i' ≤ gm ∧ Hid (NmsI u5 (wantN (ans X) Gs i') (.slice ya yn yc) wr)) (fun _ i _ => gm - (intOf i).toNat)
  case atStart => exact ⟨none, 0, 0, 0, rfl, rfl, Nat.zero_le _, J0.out⟩
  case round =>
    obtain ⟨ya, yn, yc, i', rfl, rfl, him, HI⟩ := hrel
    clear J0
    by_cases hlt : i' < gm
    · have hlt' : (i' : Int) < gm := by omega
      have hin : (i' : Int) < xn := by have := HX.out.2.2.2.2.2.1; omega
      obtain ⟨q, b1, o1, hq, rfl, hb1, hok, x0, x1, x2, x3, x4, x5, x6⟩ := (HX.out.2.1.below HI.out.below).one i' hlt
      have hqf := add_files HX.out.2.2.1 hq
      have hF := hok.1.2
      rw [hqf] at hF
      obtain ⟨⟨qk, qF, qs, qd, qn, qa, qb⟩, ⟨fa, fn, fc⟩⟩ := q
      dsimp only at x0 x1 x2 x3 x4 x5 x6 hF
      obtain ⟨V, hV⟩ : ∃ V, V = wr.alloc (.cells #[.int .i64 qk, .slice fa fn fc, .string qs, .int .i64 qd, .int .i64 qn, .int .i64 qa, .int .i64 qb] 29) := ⟨_, rfl⟩
      have gV : Below wr.heap.size wr V := by rw [hV]; exact (Below.refl _ wr).alloc (Nat.le_refl _) _
      have z1 : V.cell? ⟨wr.heap.size, 1, none⟩ = some (.slice fa fn fc) := by rw [hV]; exact (Own.made wr 29 [.int .i64 qk, .slice fa fn fc, .string qs, .int .i64 qd, .int .i64 qn, .int .i64 qa, .int .i64 qb]).cell (i := 1) rfl
      have HF5 := hid (show FilAt u5 fa fn (grp Gs i') from by have := (HX.out.2.1.ok _ (List.mem_of_getElem? hq)).1.2; rw [hqf] at this; exact this)
      have hfn : fn = (grp Gs i').length := hF.sn
      have hiG : i' < Gs.length := by have := HX.out.2.2.2.1; omega
      have hfb : fn ≤ 200 := by
        have h1 := tot_take Gs i' hiG
        have h2 := tot_le Gs (i' + 1)
        have h3 := HT.out
        omega
      have HFN := hid (And.intro hfn hiG)
      have J1 : Hid (NmsI u5 (partN (ans X) Gs i' 0) (.slice ya yn yc) V) := by rw [partN_none]; exact HI.out.to gV
      clear hq hb1 hok hqf hF gV hfn hiG HI
      go_upto_region 9 with fail
      rw [← hV]
      clear hV x0 x1 x2 x3 x4 x5 x6
      go_upto_region 10 with fail
      clear z1
      go_loopw [12, 48] (fun v j wr' => ∃ (ta : Option Addr) (tn tc j' : Nat), v = .slice ta tn tc ∧ j = .int .i64 j' ∧ j' ≤ fn ∧ Hid (NmsI u5 (partN (ans X) Gs i' j') (.slice ta tn tc) wr')) (fun _ j _ => fn - (intOf j).toNat)
      case atStart => exact ⟨ya, yn, yc, 0, rfl, rfl, Nat.zero_le _, J1.out⟩
      case round =>
        obtain ⟨ta, tn, tc, j', rfl, rfl, hjf, HJ⟩ := hrel
        clear J1
        by_cases hlt2 : j' < fn
        · have hlt2' : (j' : Int) < fn := by omega
          obtain ⟨b2, o2, rfl, hb2, y0, y1⟩ := (HF5.out.below HJ.out.below).c j' hlt2
          have hjg : j' < (grp Gs i').length := by have := HFN.out.1; omega
          have NY := hid (fun hc => partN_yes (ans X) Gs i' j' hc hjg)
          have NN := hid (partN_no (ans X) Gs i' j')
          have hlen : (partN (ans X) Gs i' j').length ≤ 100 := by
            have h0 := want_len (ans X) Gs i' j'
            have h1 := tot_take Gs i' HFN.out.2
            have h2 := tot_le Gs (i' + 1)
            have h3 := HT.out
            omega
          generalize fi (grp Gs i') j' = g at y0 y1 NY
          obtain ⟨gs, gd⟩ := g
          dsimp only at y0 y1 NY
          obtain ⟨V2, hV2⟩ : ∃ V2, V2 = wr.alloc (.cells #[.string gs, .string gd] 52) := ⟨_, rfl⟩
          have gV2 : Below wr.heap.size wr V2 := by rw [hV2]; exact (Below.refl _ wr).alloc (Nat.le_refl _) _
          have z0 : V2.cell? ⟨wr.heap.size, 0, none⟩ = some (.string gs) := by rw [hV2]; exact (Own.made wr 52 [.string gs, .string gd]).cell (i := 0) rfl
          obtain ⟨p, b4, o4, hp, e4, _, _, u0, _⟩ := (HX.out.1.below (bel3 HJ.out.below gV2)).one i' (by omega)
          cases e4
          have hpc : p.r.code = (an1 (ans X) i').code := by rw [an1_of hp]
          have HK := hid (HJ.out.to gV2)
          clear gV2 hb2 hjg hp HJ
          go_upto_region 12 with fail
          rw [← hV2]
          clear hV2 y0 y1
          by_cases hz : p.r.code = 0
          · obtain ⟨V3, hV3⟩ : ∃ V3, V3 = V2.alloc (.cells #[.string gs] 9) := ⟨_, rfl⟩
            have gV3 : Below V2.heap.size V2 V3 := by rw [hV3]; exact (Below.refl _ V2).alloc (Nat.le_refl _) _
            have KK := hid (HK.out.to gV3)
            have NX := hid (NY.out (by rw [← hpc]; exact hz))
            rw [hz] at u0
            clear gV3 HK NY NN hpc hz
            generalize partN (ans X) Gs i' j' = L at KK NX hlen
            go_wp2_with (at_builtin; (refine wpList_append1 _ rfl (.tmp 58) (.tmp 61) 39 9 (.string ⟨#[]⟩) 16 rfl Tryz.underlying39 info_strN rfl u5.heap.size (.slice ta tn tc) L.length (L.map .string) rfl (by rw [← hV3]; exact KK.out.own) ⟨V2.heap.size, 0, none⟩ (.string gs) rfl ?_ rfl ?_ ?_ ?_ ?_; (simp [go_sem]); (unfold maxLen; omega); (omega); (rw [← hV3]; exact KK.out.below.size); intro g5 m5 cap5 w5 hm5 hg5 hown5 hgrow5; rw [← hV3] at hgrow5; (have K5 := hid (show NmsI u5 (partN (ans X) Gs i' (j' + 1)) (.slice (some ⟨g5, 0, none⟩) m5 cap5) w5 by rw [NX.out]; rw [hm5.out] at hown5 ⊢; exact KK.out.app hown5 hgrow5)); clear hown5 hgrow5 hm5))
            go_roundw
            case rel => exact ⟨some ⟨g5, 0, none⟩, m5, cap5, j' + 1, rfl, by go_num, by omega, K5.out⟩
            case measure => simp [intOf]; omega
          · have hz1 : (p.r.code == 0) = false := beq_eq_false_iff_ne.2 hz
            have hz2 : decide (p.r.code = 0) = false := decide_eq_false hz
            have K5 := hid (show NmsI u5 (partN (ans X) Gs i' (j' + 1)) (.slice ta tn tc) V2 by rw [NN.out (by rw [← hpc]; exact hz)]; exact HK.out)
            clear HK NY NN hpc
            go_wp2
            go_roundw
            case rel => exact ⟨ta, tn, tc, j' + 1, rfl, by go_num, by omega, K5.out⟩
            case measure => simp [intOf]; omega
        · have hlt2' : ¬ (j' : Int) < fn := by omega
          have K5 := hid (show NmsI u5 (wantN (ans X) Gs (i' + 1)) (.slice ta tn tc) wr by
            rw [← partN_all, ← HFN.out.1, show fn = j' by omega]
            exact HJ.out)
          clear HJ
          go_wp2
          go_roundw
          case rel => exact ⟨ta, tn, tc, i' + 1, rfl, by go_num, by omega, K5.out⟩
          case measure => simp [intOf]; omega
    · have hlt' : ¬ (i' : Int) < gm := by omega
      have hi : i' = Gs.length := by have := HX.out.2.2.2.1; omega
      subst hi
      obtain ⟨t1, t2, t3⟩ := HX.out.2.2.2.2.1
      have hlen : (wantN (ans X) Gs Gs.length).length ≤ 100 := by
        have h0 := want_len (ans X) Gs Gs.length 0
        rw [partN_none] at h0
        have h2 := tot_le Gs Gs.length
        have h3 := HT.out
        have e2 : grp Gs Gs.length = [] := by unfold grp; rw [List.getElem?_eq_none (Nat.le_refl _)]; rfl
        rw [e2] at h0
        simp only [List.length_nil] at h0
        omega
      have CS := hid (sortT_any u5 wr (wantN (ans X) Gs Gs.length) ya yn yc HI.out (by omega) t3)
      have TT := hid (And.intro t1 t2)
      clear HI t1 t2 t3
      go_wp2_with fail
      refine CS.out.mono ?_
      rintro _ w7 ⟨rfl, H7⟩
      obtain ⟨j, hj⟩ : ∃ j, j = xn - 1 := ⟨_, rfl⟩
      have hx1 := HX.out.2.2.2.2.2
      have j1 : (xn : Int) - 1 = (j : Int) := by omega
      have j2 : (j : Int) < xn := by omega
      have j3 : xn ≤ 200 := by omega
      obtain ⟨q, b2, o2, hq, e2, _, hok, x0, x1, x2, x3, x4⟩ := (HX.out.1.below H7.below).one j (by omega)
      cases e2
      obtain ⟨W, hW⟩ : ∃ W, W = w7.alloc (.cells #[.int .i64 q.r.code, .string (str q.r.data), .slice q.f.a q.f.n q.f.c, .int .i64 q.r.count, .slice q.g.a q.g.n q.g.c] 42) := ⟨_, rfl⟩
      have gW : Below w7.heap.size w7 W := by rw [hW]; exact (Below.refl _ w7).alloc (Nat.le_refl _) _
      have Q0 : Own W w7.heap.size 42 (nxC q) := by
        have := Own.made w7 42 (nxC q)
        rw [show w7.alloc (.cells (nxC q).toArray 42) = W from hW.symm] at this
        exact this
      have q0 : W.cell? ⟨w7.heap.size, 0, none⟩ = some (.int .i64 q.r.code) := Q0.cell (i := 0) rfl
      have q2 : W.cell? ⟨w7.heap.size, 2, none⟩ = some (.slice q.f.a q.f.n q.f.c) := Q0.cell (i := 2) rfl
      have e1 := TT.out.1
      have e3 := TT.out.2
      rw [← hj, an1_of hq] at e1 e3
      have hr := H7.row
      have hyq : yn = q.f.n := by rw [hr.1, hok.sn, e3]
      have CE := hid (eqT_any q.f.a q.f.n q.f.c ya yc q.r.names W (hok.S.below gW) (by rw [e3]; exact hr.2.below gW) hok.sn hok.sb)
      subst hyq
      have F := hid (bel3 FIN.out (bel3 H7.below gW))
      rw [e1] at x0 q0 hW
      clear CS TT H7 hr hok e1 e3 gW Q0 hq hj hx1 FIN
      obtain ⟨⟨qc, qd, qns, qt, qg⟩, ⟨fa, fn, fc⟩, ⟨ua, un, uc⟩⟩ := q
      dsimp only at x0 x1 x2 x3 x4 q0 q2 hW CE
      go_upto_region 18 with fail
      rw [← hW]
      clear hW x0 x1 x2 x3 x4 j1 j2
      go_wp2_with fail
      refine CE.out.mono ?_
      rintro _ w8 ⟨rfl, g8⟩
      have FF := hid (bel3 F.out g8)
      clear CE F g8 q0 q2
      go_wp2
      go_ret
      exact ⟨rfl, FF.out⟩

set_option maxRecDepth 100000 in
theorem lifted (os : Os) (started : os.Started) (H : Type) (enc : TypeId × Value → H) :
    ReturnsInHanded {} Tryz.checked os 5 .any (fun w args => (Rows.topNamesSpec.pre enc Tryz.prog Tryz.f5 Rows.topNamesRow.domain false w args ∧ laidMetH Tryz.prog Rows.topNamesRow.laid w) ∧ sizedMet enc Tryz.prog Tryz.f5 (OpenSpec.ofChange Rows.topNamesSpec) false w args)
      (Rows.topNamesSpec.post enc Tryz.prog Tryz.f5 false true false false) := by
  refine returnsInHanded_of_change_and (C := Tryz.checked) (X := fun w _ => laidMetH Tryz.prog Rows.topNamesRow.laid w) (fun _ _ _ hh h => h.of_heap hh) own started (by kernel_rfl) Tryz.func5
    (ChangeSpec.witness_shaped (enc := enc) (C := Tryz.checked) (os := os) (X := fun w _ => laidMetH Tryz.prog Rows.topNamesRow.laid w) false (World.laidAll Tryz.prog os Rows.topNamesRow.laid) #[.slice none 0 0, .slice none 0 0, .int .i64 0] 8 (World.laidAll_os _ _ _)
      (World.shaped_of_ZipB (by kernel_rfl) (by kernel_rfl)) (by kernel_rfl) (by kernel_rfl) (by kernel_rfl)
      (by rw [MakeChecks.laidMetH_plain _ _ _ (by kernel_rfl)]; exact laidMet_laidAll _ (by kernel_rfl) (by kernel_rfl))) ?_
  intro W base args ds gs before hval0 hW hcnd _ _hL _
  have hval : ∀ (j : Nat) t v, Tryz.f5.params[j]? = some t → args[j]? = some v → Value.okWide Tryz.prog W .any base t v := hval0
  have hW' := hW
  obtain ⟨p, q, hA0, hV, rfl, hfz, hnd⟩ := hW
  have hA : DataW.TrodAll enc Tryz.prog W 0 (fun _ => true) true Tryz.f5.params.toList args.toList ds p := hA0
  rw [Tryz.params5] at hA hval
  obtain ⟨v0, vs0, d0, ds0, p0, q0, hargs, rfl, rfl, h0, r0⟩ := trodAll_cons hA
  obtain ⟨v1, vs1, d1, ds1, p1, q1, rfl, rfl, rfl, h1, r1⟩ := trodAll_cons r0
  obtain ⟨v2, vs2, d2, ds2, p2, q2, rfl, rfl, rfl, h2, r2⟩ := trodAll_cons r1
  obtain ⟨rfl, rfl, rfl⟩ := trodAll_nil r2
  obtain rfl : args = #[v0, v1, v2] := by cases args; simp_all
  obtain ⟨rfl, rfl⟩ := trodVars_none hV
  have h0k := h0
  obtain ⟨a0, n0, c0, R0, rfl, w0, f0⟩ := open_raws (hval 0 22 v0 rfl rfl) h0
  have l0 : ∀ x ∈ p0, x.block < W.heap.size := fun x hx => hW'.lt x (by simp [hx])
  have h1k := h1
  obtain ⟨a1, n1, c1, R1, rfl, w1, f1⟩ := open_raws (hval 1 22 v1 rfl rfl) h1
  have l1 : ∀ x ∈ p1, x.block < W.heap.size := fun x hx => hW'.lt x (by simp [hx])
  obtain ⟨a2, rfl, rfl, rfl, w2⟩ := open_int Tryz.underlying3 (hval 2 3 v2 rfl rfl) h2
  clear hA0 hval0
  refine (walk W (pow_of _hL) a0 n0 c0 R0 a1 n1 c1 R1 a2 (And.intro w0 f0) (And.intro w1 f1) w2).mono fun e W' ⟨he, bel⟩ => ?_
  subst he
  exact ⟨_, rfl, _, _, _, [], _, [], hW', trodAll_mk1 (shut_bool Tryz.underlying4 _), (trodAll_cons_mk (Below.trod laidOut (by kernel_rfl) (of_decide_eq_true (by kernel_rfl)) h0k bel l0) (trodAll_cons_mk (Below.trod laidOut (by kernel_rfl) (of_decide_eq_true (by kernel_rfl)) h1k bel l1) (trodAll_cons_mk (shut_int Tryz.underlying3 w2) trodAll_mk0))), rfl, bel.frame _, fun h => by cases h⟩

theorem over : Rows.topNamesRow.holds Tryz.pinned (OpenSpec.ofChange Rows.topNamesSpec) :=
  OpenClaim.holds_of_wide 5 Tryz.f5 rfl rfl rfl rfl rfl rfl rfl ⟨rfl, rfl, rfl, rfl, rfl⟩ rfl rfl rfl rfl rfl (by kernel_rfl) Tryz.func5 (by kernel_rfl)
    (of_decide_eq_true (by kernel_rfl)) (by unfold Func.isWrapper; first | (rw [if_pos (by decide +kernel)]; kernel_rfl) | (rw [if_neg (by decide +kernel)]; exact ⟨rfl, rfl⟩))
    (fun os started H enc _ => lifted os started H enc)
end Go.Proofs.YtahoagbaadnihabGreatDoor.topNames

namespace Go.Proofs.YtahoagbaadnihabGreatDoor
theorem topNames_holds : Rows.TopNamesCardSaid :=
  Claim7.holds_tied_plain_at .later [] [.data, .data, .data, .data, .pinned] true (true, "8186e83c2b630ecb5b5db4f58e20c29036d3e3797c5a3ac63be0229e6cb3176b") false
    topNames.over (fun _ h => by cases h) (by kernel_rfl) (fun _ h => by cases h) topNames_row_tie rfl ⟨rfl, rfl⟩ (by kernel_rfl) rfl
    (fun f fn hf hfn => by
      obtain rfl : f = 5 := Option.some.inj ((show Tryz.prog.funcNamed "arras/arrastop.TopNames" = some 5 by kernel_rfl).symm.trans hf) |>.symm
      obtain rfl : fn = Tryz.f5 := (Option.some.inj (Tryz.func5.symm.trans hfn)).symm
      exact ⟨by kernel_rfl, fun j t ht => by
        rw [Tryz.params5] at ht
        have hm : t ∈ [22, 22, 3] := by simpa using Array.mem_of_getElem? ht
        have hall : ([22, 22, 3].all fun u => !Tryz.prog.wantsStandIn u) = true := by kernel_rfl
        exact (show Tryz.prog.wantsStandIn t = false by simpa using List.all_eq_true.1 hall t hm)⟩)
    (by kernel_rfl)
#print axioms topNames_holds
end Go.Proofs.YtahoagbaadnihabGreatDoor
