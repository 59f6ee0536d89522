/- For all lists of raw things, of hurts and all numbers: a script is answered the same, however often it is run, and leaves the same; a longer one begins as a shorter one does. What was handed in is left as it was; the table of powers of ten is listed and tied (Itoa looks into it), the other tables are listed, and no step looks into them. -/
import Derived.Test.YtahoagbaadnihabGreatDoorRows
import Derived.Test.YtahoagbaadnihabGreatDoorTie
import Derived.Test.YtahoagbaadnihabGreatDoorCards
import Derived.Test.YtahoagbaadnihabGreatDoorKeepBase
import Derived.Test.YtahoagbaadnihabGreatDoorTopM
import Derived.WalkKit
import Derived.ProofKit
import Derived.OpenShut
import Derived.ShutString
import Derived.LaidOnce
import Derived.SevenTiedAt
import Derived.Lay
import Derived.Stop.Joined
namespace Go.Proofs.YtahoagbaadnihabGreatDoor.topTwice
open Go.ChangeShapes Go.WideShapes Go.ChangeAt Go.RowKit Go.Lib
open Go.ChangeMaps (open_string shut_string)

theorem own : ownKnob Tryz.prog.godebug = none := by kernel_rfl
theorem laidOut : laidOutB Tryz.prog = true := by kernel_rfl
theorem pow_of {W : World} (h : laidMetH Tryz.prog Rows.topTwiceRow.laid W) : Pow W := by
  rw [MakeChecks.laidMetH_plain _ _ _ (by kernel_rfl)] at h
  exact pow_laid h
set_option maxHeartbeats 3200000 in
set_option maxRecDepth 8000 in
theorem walk (w : World) (hp : Pow w) (a : Option Addr) (n c : Nat) (R : List Raw4) (b : Option Addr) (m d : Nat) (S : List Raw4) (x : Int) (y : Int) (h : RawsAt w a n R ∧ n ≤ c) (h2 : RawsAt w b m S ∧ m ≤ d) (w1 : (Lit.int .i64 x).wf = true) (w2 : (Lit.int .i64 y).wf = true) :
    Calls Tryz.prog 6 #[.slice a n c, .slice b m d, .int .i64 x, .int .i64 y] w fun e w' => e = .returned (.bool true) ∧ Below w.heap.size w w' := by
  have hx := wf_i64 w1
  have hy := wf_i64 w2
  obtain ⟨K, hK, hK3⟩ := nat_pick x
  obtain ⟨E, hE⟩ : ∃ E, E = (K + 1) % 3 := ⟨_, rfl⟩
  have C1 := hid (adds_any a n c R 6 w h.1 h.2 hp (by omega) (by omega) (by omega))
  have CB : Hid (∀ wx, Below w.heap.size w wx → Calls Tryz.prog 9 #[.slice b m d, .int .i64 x, .int .i64 20] wx (OutX wx ((hurtsOf (S.take (m / 2)) K 48 20).map hurtAc ++ (hurtsOf (S.drop (m / 2)) E 48 20).map hurtAc))) := fun wx g => by
    rw [hE]
    exact both_any b m d S x 20 K wx hx hK hK3 (h2.1.below g) h2.2 (by decide)
  have CP : Hid (∀ (c1 : Nat) wx, 1 ≤ c1 → c1 ≤ 201 → Calls Tryz.prog 10 #[.int .i64 y, .int .i64 c1] wx fun e w' => (∃ k : Nat, k + 1 ≤ c1 ∧ e = .returned (.int .i64 k)) ∧ w' = wx) := fun c1 wx h1 h2 => by
    refine (Picked_any y c1 wx hy (by omega)).mono ?_
    rintro _ w9 ⟨rfl, rfl⟩
    have := pick_bd y c1 (by omega)
    exact ⟨⟨(pick y c1).toNat, by omega, by rw [Int.toNat_of_nonneg this.1]⟩, rfl⟩
  clear h h2 hp hx hK hK3 w1 hE hy w2
  go_enter Tryz.func6, Tryz.ntmps6
  go_wp2_with fail
  refine C1.out.mono ?_
  rintro _ v1 ⟨ga, gm, gc, fb, fk, fd, Gs, A, rfl, ⟨hA1, hA2⟩, ⟨hF1, hF2⟩, ⟨hch, htot, _⟩, g1⟩
  have hcl := chain_len Gs 0 hch
  have hAl : A.length = Gs.length := by rw [← acs_len, hA2, List.length_map]
  have hAt := hA1.at (by unfold maxLen; omega)
  have CH := hid (CB.out v1 g1)
  have hhl : ((hurtsOf (S.take (m / 2)) K 48 20).map hurtAc ++ (hurtsOf (S.drop (m / 2)) E 48 20).map hurtAc).length ≤ 60 := by
    have q1 := hurts_le (S.take (m / 2)) K 48 20
    have q2 := hurts_le (S.drop (m / 2)) E 48 20
    rw [List.length_append, List.length_map, List.length_map]; omega
  have hfk : fk = tot Gs := by rw [hF2.sn, tot_flat]
  have CG := hid (fun wx (g : Below v1.heap.size v1 wx) => gets_any fb fk fd Gs.flatten wx (hF2.below g) (by omega))
  have S1 := hid (And.intro g1 (And.intro hAt (And.intro hA2 (And.intro htot (And.intro hcl hhl)))))
  clear C1 CB hA1 hA2 hF1 hF2 hch htot g1 hcl hAl hAt hhl hfk
  generalize (hurtsOf (S.take (m / 2)) K 48 20).map hurtAc ++ (hurtsOf (S.drop (m / 2)) E 48 20).map hurtAc = hu at CH S1
  go_wp2_with fail
  refine CH.out.mono ?_
  rintro _ v2 ⟨ha, hn, hc, H, rfl, hH1, hH2, g2⟩
  have hHl : H.length ≤ 60 := by rw [← acs_len, hH2]; exact S1.out.2.2.2.2.2
  have hHt := hH1.at (by unfold maxLen; omega)
  obtain ⟨v3, hv3⟩ : ∃ v3, v3 = v2.alloc (.cells #[.int .i64 8, .slice none 0 0, .string ⟨#[]⟩, .int .i64 0, .int .i64 0, .int .i64 0, .int .i64 0, .int .i64 7, .slice none 0 0, .string ⟨#[]⟩, .int .i64 0, .int .i64 20, .int .i64 0, .int .i64 0] 29) := ⟨_, rfl⟩
  have g3 : Below v2.heap.size v2 v3 := by rw [hv3]; exact (Below.refl _ v2).alloc (Nat.le_refl _) _
  have sc : PartOk v3 ⟨⟨some ⟨v2.heap.size, 0, none⟩, 2, 2⟩, [⟨healthAc, nilS⟩, ⟨scrubAc 20, nilS⟩]⟩ := by rw [hv3]; exact acts_laid v2 [healthAc, scrubAc 20] (fun q hq => by simp only [List.mem_cons, List.not_mem_nil, or_false] at hq; rcases hq with rfl | rfl <;> exact ⟨rfl, Nat.zero_le _⟩) (by simp)
  have C3 := hid (CG.out v3 (bel3 g2 g3))
  have S2 := hid (And.intro g2 (And.intro g3 (And.intro hHt (And.intro hH2 sc))))
  clear CH CG hH1 hH2 hHl hHt g2 g3 sc
  go_wp2_with fail
  rw [← hv3]
  clear hv3
  refine C3.out.mono ?_
  rintro _ v4 ⟨qa, qn, qc, Q, rfl, hQ1, hQ2, g4⟩
  have hQl : Q.length = tot Gs := by rw [← acs_len, hQ2, List.length_map, tot_flat]
  have hQt := hQ1.at (by unfold maxLen; have := S1.out.2.2.2.1; omega)
  have g34 := bel3 S2.out.2.1 g4
  have g24 := bel3 S2.out.1 g34
  obtain ⟨u4, hu4⟩ : ∃ u4, u4 = v4.alloc (.cells #[.slice ga gm gc, .slice ha hn hc, .slice (some ⟨v2.heap.size, 0, none⟩) 2 2, .slice qa qn qc] 23) := ⟨_, rfl⟩
  have gu4 : Below v4.heap.size v4 u4 := by rw [hu4]; exact (Below.refl _ v4).alloc (Nat.le_refl _) _
  obtain ⟨l, hl0⟩ : ∃ l, l = Gs.map addAc ++ (hu ++ ([healthAc, scrubAc 20] ++ Gs.flatten.map getAc)) := ⟨_, rfl⟩
  have hl : l.length ≤ 200 ∧ 1 ≤ l.length := by
    have h1 := S1.out.2.2.2.1
    have h2 := S1.out.2.2.2.2.1
    have h3 := S1.out.2.2.2.2.2
    have h4 := tot_flat Gs
    rw [hl0]
    simp only [List.length_append, List.length_map, List.length_cons, List.length_nil]
    omega
  have hPL : partL [⟨⟨ga, gm, gc⟩, A⟩, ⟨⟨ha, hn, hc⟩, H⟩, ⟨⟨some ⟨v2.heap.size, 0, none⟩, 2, 2⟩, [⟨healthAc, nilS⟩, ⟨scrubAc 20, nilS⟩]⟩, ⟨⟨qa, qn, qc⟩, Q⟩] = l := by
    rw [hl0]
    show acs A ++ (acs H ++ ([healthAc, scrubAc 20] ++ (acs Q ++ []))) = _
    rw [S1.out.2.2.1, S2.out.2.2.2.1, hQ2, List.append_nil]
  have C4 : Hid (Calls Tryz.prog 8 #[.slice (some ⟨v4.heap.size, 0, none⟩) 4 4] u4 (OutX u4 l)) := by
    have := concat_any (some ⟨v4.heap.size, 0, none⟩) 4 4 [⟨⟨ga, gm, gc⟩, A⟩, ⟨⟨ha, hn, hc⟩, H⟩, ⟨⟨some ⟨v2.heap.size, 0, none⟩, 2, 2⟩, [⟨healthAc, nilS⟩, ⟨scrubAc 20, nilS⟩]⟩, ⟨⟨qa, qn, qc⟩, Q⟩] u4 (by rw [hu4]; exact (Own.made v4 23 [.slice ga gm gc, .slice ha hn hc, .slice (some ⟨v2.heap.size, 0, none⟩) 2 2, .slice qa qn qc]).row) rfl (by simp) (fun q hq => by
      simp only [List.mem_cons, List.not_mem_nil, or_false] at hq
      rcases hq with rfl | rfl | rfl | rfl
      · exact ⟨S1.out.2.1.1, (S1.out.2.1.2.below g24).below gu4⟩
      · exact ⟨S2.out.2.2.1.1, (S2.out.2.2.1.2.below g34).below gu4⟩
      · exact (S2.out.2.2.2.2.below g4).below gu4
      · exact ⟨hQt.1, hQt.2.below gu4⟩) (by rw [cnt, hPL]; omega)
    rw [hPL] at this
    exact this
  have S4 := hid (And.intro (bel3 g24 gu4) hl)
  clear C3 hQ1 hQ2 hQl hQt g4 g34 g24 gu4 hl hPL hl0
  go_wp2_with fail
  rw [← hu4]
  clear hu4
  refine C4.out.mono ?_
  rintro _ v5 ⟨ca, cn, cc, C, rfl, hC1, hC2, g5⟩
  have hCl : C.length = l.length := by rw [← acs_len, hC2]
  have hCt := hC1.at (by unfold maxLen; have := S4.out.2.1; omega)
  have hcn : cn = l.length := hCt.2.sn.trans hCl
  obtain ⟨_, cb, co, _, rfl, _⟩ := hCt.2.one 0 (by have := S4.out.2.2; omega)
  have hcn2 : cn ≤ 200 ∧ 1 ≤ cn := by have := S4.out.2; omega
  have hcc : (cn : Int) ≤ cc := by have := hCt.1; omega
  obtain ⟨c1, hc1⟩ : ∃ c1, c1 = cn + 1 := ⟨_, rfl⟩
  have hp1 : (cn : Int) + 1 = (c1 : Int) := by omega
  have CP' := hid (fun wx => CP.out c1 wx (by omega) (by omega))
  have HC1 := hid hc1
  clear hc1 CP
  have hcn0 : cn ≤ 200 := hcn2.1
  have S5 := hid (And.intro (bel3 S4.out.1 g5) (And.intro hCt (And.intro hC2 hcn)))
  clear C4 hC1 hC2 hCl hCt hcn g5
  go_wp2_with fail
  refine (CP'.out _).mono ?_
  rintro _ w9 ⟨⟨k, hk, rfl⟩, h9⟩
  have h8 := h9.symm
  subst h8
  clear CP' h9 hp1
  have hkn : k ≤ cn := by have := HC1.out; omega
  have HKN := hid hkn
  have k0 : (k : Int) ≤ cn := by omega
  have k1 : (k : Int) ≤ cc := by omega
  have hlt2 : (l.take k).length ≤ 200 := by have := S4.out.2.1; rw [List.length_take]; omega
  -- the whole script
  have b1 : Below v5.heap.size v5 (v5.alloc (.cells #[.slice (some ⟨cb, co, none⟩) cn cc] 23)) := (Below.refl _ v5).alloc (Nat.le_refl _) _
  have RUN := hid (fun (wx : World) (g : Below v5.heap.size v5 wx) => show Calls Tryz.prog 11 #[.slice (some ⟨wx.heap.size, 0, none⟩) 1 1] (wx.alloc (.cells #[.slice (some ⟨cb, co, none⟩) cn cc] 23)) (OutTr (wx.alloc (.cells #[.slice (some ⟨cb, co, none⟩) cn cc] 23)) l) from
    laid_run [⟨⟨some ⟨cb, co, none⟩, cn, cc⟩, C⟩] (fun q hq => by
      rw [List.mem_singleton] at hq
      subst hq
      exact ⟨S5.out.2.1.1, S5.out.2.1.2.below g⟩) (by simp) (by
      show acs C ++ [] = _
      rw [S5.out.2.2.1, List.append_nil]) S4.out.2.1 1 rfl)
  have RUNK := hid (fun (wx : World) (g : Below v5.heap.size v5 wx) => show Calls Tryz.prog 11 #[.slice (some ⟨wx.heap.size, 0, none⟩) 1 1] (wx.alloc (.cells #[.slice (some ⟨cb, co, none⟩) k cc] 23)) (OutTr (wx.alloc (.cells #[.slice (some ⟨cb, co, none⟩) k cc] 23)) (l.take k)) from
    laid_run [⟨⟨some ⟨cb, co, none⟩, k, cc⟩, C.take k⟩] (fun q hq => by
      rw [List.mem_singleton] at hq
      subst hq
      exact ⟨Nat.le_trans hkn S5.out.2.1.1, (S5.out.2.1.2.take k hkn).below g⟩) (by simp) (by
      show acs (C.take k) ++ [] = _
      rw [List.append_nil, acs, List.map_take, show C.map (fun q => q.x) = acs C from rfl, S5.out.2.2.1]) hlt2 1 rfl)
  have R1 := hid (RUN.out v5 (Below.refl _ _))
  go_wp2_with fail
  refine R1.out.mono ?_
  rintro _ v6 ⟨xa, xn, xc, za, zm, zc, X, rfl, ⟨hX1, hX2, hX3⟩, ⟨hXA, hXm⟩, g6⟩
  obtain ⟨u6, hu6⟩ : ∃ u6, u6 = v6.alloc (.cells #[.slice za zm zc] 35) := ⟨_, rfl⟩
  have gu6 : Below v6.heap.size v6 u6 := by rw [hu6]; exact (Below.refl _ v6).alloc (Nat.le_refl _) _
  have bx : Own u6 v6.heap.size 35 [.slice za zm zc] := by rw [hu6]; exact Own.made v6 35 [.slice za zm zc]
  have g56 := bel3 (bel3 b1 g6) gu6
  have hxn : xn = l.length := by rw [hX3.sn]; exact ans_len hX1
  have R2 := hid (RUNK.out u6 g56)
  have S6 := hid (And.intro g56 (And.intro hX1 (And.intro hX2 (And.intro (hX3.below gu6) (And.intro (hXA.below gu6) (And.intro hXm (And.intro bx hxn)))))))
  clear R1 hX1 hX2 hX3 hXA hXm g6 gu6 bx g56 b1 hxn
  go_upto_region 6 with fail
  rw [← hu6]
  clear hu6
  go_wp2_with fail
  refine R2.out.mono ?_
  rintro _ v7 ⟨ya, yn, yc, ua, um, uc, Y, rfl, ⟨hY1, hY2, hY3⟩, _, g7⟩
  obtain ⟨u7, hu7⟩ : ∃ u7, u7 = v7.alloc (.cells #[.slice ua um uc] 35) := ⟨_, rfl⟩
  have gu7 : Below v7.heap.size v7 u7 := by rw [hu7]; exact (Below.refl _ v7).alloc (Nat.le_refl _) _
  have g67 := bel3 (bel3 ((Below.refl _ u6).alloc (Nat.le_refl _) (.cells #[.slice (some ⟨cb, co, none⟩) k cc] 23)) g7) gu7
  have hyn : yn = k := by have := S5.out.2.2.2; rw [hY3.sn, ans_len hY1, List.length_take]; omega
  have R3 := hid (RUN.out u7 (bel3 S6.out.1 g67))
  have S7 := hid (And.intro g67 (And.intro hY1 (And.intro hY2 (And.intro (hY3.below gu7) hyn))))
  clear R2 hY1 hY2 hY3 g7 gu7 g67 RUN RUNK k1
  go_upto_region 7 with fail
  rw [← hu7]
  clear hu7
  go_wp2_with fail
  refine R3.out.mono ?_
  rintro _ v8 ⟨ta, tn, tc, sa, sm, sc, Z, rfl, ⟨hZ1, hZ2, hZ3⟩, ⟨hZA, hZm⟩, g8⟩
  obtain ⟨W, hW⟩ : ∃ W, W = v8.alloc (.cells #[.slice sa sm sc] 35) := ⟨_, rfl⟩
  have gW : Below v8.heap.size v8 W := by rw [hW]; exact (Below.refl _ v8).alloc (Nat.le_refl _) _
  have bz : Own W v8.heap.size 35 [.slice sa sm sc] := by rw [hW]; exact Own.made v8 35 [.slice sa sm sc]
  have g78 := bel3 (bel3 ((Below.refl _ u7).alloc (Nat.le_refl _) (.cells #[.slice (some ⟨cb, co, none⟩) cn cc] 23)) g8) gW
  have g68 := bel3 S7.out.1 g78
  have hxn := S6.out.2.2.2.2.2.2.2
  have hX := S6.out.2.2.2.1.below g68
  have hY := S7.out.2.2.2.1.below g78
  have hZ := hZ3.below gW
  have htn : tn = xn := by rw [hZ3.sn, ans_len hZ1, hxn]
  have hyn := S7.out.2.2.2.2
  subst htn
  subst hyn
  have hkx : yn ≤ tn := by have h1 := S5.out.2.2.2; have h2 := HKN.out; omega
  obtain ⟨_, xb, xo, _, rfl, _⟩ := hX.one 0 (by have := S5.out.2.2.2; omega)
  have e1 : ans (X.take yn) = ans Y := by
    rw [S7.out.2.1, run48_take, ← S6.out.2.1, ans, ans, List.map_take]
  have e2 : ans X = ans Z := by rw [S6.out.2.1, hZ1]
  have CE1 := hid (eqf_any (some ⟨xb, xo, none⟩) yn xc ya yc (X.take yn) Y 20 #[] W (hX.take yn hkx) hY e1 (enters_of Tryz.func20 (by kernel_rfl) rfl) (fun p q wx hr hp hq => same5_any p q wx hr hp hq))
  have CE2 := hid (fun wx (g : Below W.heap.size W wx) => eqf_any (some ⟨xb, xo, none⟩) tn xc ta tc X Z 20 #[] wx (hX.below g) (hZ.below g) e2 (enters_of Tryz.func20 (by kernel_rfl) rfl) (fun p q wx hr hp hq => same5_any p q wx hr hp hq))
  have hzs : zm = sm := by rw [S6.out.2.2.2.2.1.len, hZA.len]
  subst hzs
  have hz3 : zm ≤ 3 := by
    have := S6.out.2.2.2.2.1.len
    rw [((arMay_iff _).1 S6.out.2.2.2.2.2.1).1] at this
    omega
  have CA := hid (fun wx (g : Below W.heap.size W wx) => topsame_any za zm zc sa sc (run48 l).1.A wx ((S6.out.2.2.2.2.1.below g68).below g) ((hZA.below gW).below g) hz3)
  have a1 : W.cell? ⟨v6.heap.size, 0, none⟩ = some (.slice za zm zc) := (S6.out.2.2.2.2.2.2.1.below' g68).cell (i := 0) rfl
  have a2 : W.cell? ⟨v8.heap.size, 0, none⟩ = some (.slice sa zm sc) := bz.cell (i := 0) rfl
  have m1 : (yn : Int) ≤ tn := by omega
  have m2 : (yn : Int) ≤ xc := by have := S6.out.2.2.1; omega
  have m3 : tn ≤ 200 := by have := S5.out.2.2.2; omega
  have FIN := hid (bel3 S1.out.1 (bel3 S5.out.1 (bel3 S6.out.1 g68)))
  clear R3 hZ1 hZ2 hZ3 hZA hZm g8 gW bz g78 g68 hxn hX hY hZ e1 e2 hlt2 hz3
  go_upto_region 8 with fail
  rw [← hW]
  clear hW
  go_wp2_with fail
  refine CE1.out.mono ?_
  rintro _ w6 ⟨rfl, g6⟩
  have G6 := hid g6
  clear CE1 g6
  go_wp2_with fail
  refine (CE2.out w6 G6.out).mono ?_
  rintro _ w7 ⟨rfl, g7⟩
  have g7' := bel3 G6.out g7
  have c1 := cell_at g7' a1
  have c2 := cell_at g7' a2
  have G7 := hid g7'
  clear CE2 g7 g7' a1 a2
  go_wp2_with fail
  refine (CA.out w7 G7.out).mono ?_
  rintro _ w8 ⟨rfl, g8⟩
  have F := hid (bel3 FIN.out (bel3 G7.out g8))
  clear CA g8 c1 c2
  go_wp2
  go_ret
  exact ⟨rfl, F.out⟩

set_option maxRecDepth 100000 in
theorem lifted (os : Os) (started : os.Started) (H : Type) (enc : TypeId × Value → H) :
    ReturnsInHanded {} Tryz.checked os 6 .any (fun w args => (Rows.topTwiceSpec.pre enc Tryz.prog Tryz.f6 Rows.topTwiceRow.domain false w args ∧ laidMetH Tryz.prog Rows.topTwiceRow.laid w) ∧ sizedMet enc Tryz.prog Tryz.f6 (OpenSpec.ofChange Rows.topTwiceSpec) false w args)
      (Rows.topTwiceSpec.post enc Tryz.prog Tryz.f6 false true false false) := by
  refine returnsInHanded_of_change_and (C := Tryz.checked) (X := fun w _ => laidMetH Tryz.prog Rows.topTwiceRow.laid w) (fun _ _ _ hh h => h.of_heap hh) own started (by kernel_rfl) Tryz.func6
    (ChangeSpec.witness_shaped (enc := enc) (C := Tryz.checked) (os := os) (X := fun w _ => laidMetH Tryz.prog Rows.topTwiceRow.laid w) false (World.laidAll Tryz.prog os Rows.topTwiceRow.laid) #[.slice none 0 0, .slice none 0 0, .int .i64 0, .int .i64 0] 8 (World.laidAll_os _ _ _)
      (World.shaped_of_ZipB (by kernel_rfl) (by kernel_rfl)) (by kernel_rfl) (by kernel_rfl) (by kernel_rfl)
      (by rw [MakeChecks.laidMetH_plain _ _ _ (by kernel_rfl)]; exact laidMet_laidAll _ (by kernel_rfl) (by kernel_rfl))) ?_
  intro W base args ds gs before hval0 hW hcnd _ _hL _
  have hval : ∀ (j : Nat) t v, Tryz.f6.params[j]? = some t → args[j]? = some v → Value.okWide Tryz.prog W .any base t v := hval0
  have hW' := hW
  obtain ⟨p, q, hA0, hV, rfl, hfz, hnd⟩ := hW
  have hA : DataW.TrodAll enc Tryz.prog W 0 (fun _ => true) true Tryz.f6.params.toList args.toList ds p := hA0
  rw [Tryz.params6] at hA hval
  obtain ⟨v0, vs0, d0, ds0, p0, q0, hargs, rfl, rfl, h0, r0⟩ := trodAll_cons hA
  obtain ⟨v1, vs1, d1, ds1, p1, q1, rfl, rfl, rfl, h1, r1⟩ := trodAll_cons r0
  obtain ⟨v2, vs2, d2, ds2, p2, q2, rfl, rfl, rfl, h2, r2⟩ := trodAll_cons r1
  obtain ⟨v3, vs3, d3, ds3, p3, q3, rfl, rfl, rfl, h3, r3⟩ := trodAll_cons r2
  obtain ⟨rfl, rfl, rfl⟩ := trodAll_nil r3
  obtain rfl : args = #[v0, v1, v2, v3] := by cases args; simp_all
  obtain ⟨rfl, rfl⟩ := trodVars_none hV
  have h0k := h0
  obtain ⟨a0, n0, c0, R0, rfl, w0, f0⟩ := open_raws (hval 0 22 v0 rfl rfl) h0
  have l0 : ∀ x ∈ p0, x.block < W.heap.size := fun x hx => hW'.lt x (by simp [hx])
  have h1k := h1
  obtain ⟨a1, n1, c1, R1, rfl, w1, f1⟩ := open_raws (hval 1 22 v1 rfl rfl) h1
  have l1 : ∀ x ∈ p1, x.block < W.heap.size := fun x hx => hW'.lt x (by simp [hx])
  obtain ⟨a2, rfl, rfl, rfl, w2⟩ := open_int Tryz.underlying3 (hval 2 3 v2 rfl rfl) h2
  obtain ⟨a3, rfl, rfl, rfl, w3⟩ := open_int Tryz.underlying3 (hval 3 3 v3 rfl rfl) h3
  clear hA0 hval0
  refine (walk W (pow_of _hL) a0 n0 c0 R0 a1 n1 c1 R1 a2 a3 (And.intro w0 f0) (And.intro w1 f1) w2 w3).mono fun e W' ⟨he, bel⟩ => ?_
  subst he
  exact ⟨_, rfl, _, _, _, [], _, [], hW', trodAll_mk1 (shut_bool Tryz.underlying4 _), (trodAll_cons_mk (Below.trod laidOut (by kernel_rfl) (of_decide_eq_true (by kernel_rfl)) h0k bel l0) (trodAll_cons_mk (Below.trod laidOut (by kernel_rfl) (of_decide_eq_true (by kernel_rfl)) h1k bel l1) (trodAll_cons_mk (shut_int Tryz.underlying3 w2) (trodAll_cons_mk (shut_int Tryz.underlying3 w3) trodAll_mk0)))), rfl, bel.frame _, fun h => by cases h⟩

theorem over : Rows.topTwiceRow.holds Tryz.pinned (OpenSpec.ofChange Rows.topTwiceSpec) :=
  OpenClaim.holds_of_wide 6 Tryz.f6 rfl rfl rfl rfl rfl rfl rfl ⟨rfl, rfl, rfl, rfl, rfl⟩ rfl rfl rfl rfl rfl (by kernel_rfl) Tryz.func6 (by kernel_rfl)
    (of_decide_eq_true (by kernel_rfl)) (by unfold Func.isWrapper; first | (rw [if_pos (by decide +kernel)]; kernel_rfl) | (rw [if_neg (by decide +kernel)]; exact ⟨rfl, rfl⟩))
    (fun os started H enc _ => lifted os started H enc)
end Go.Proofs.YtahoagbaadnihabGreatDoor.topTwice

namespace Go.Proofs.YtahoagbaadnihabGreatDoor
theorem topTwice_holds : Rows.TopTwiceCardSaid :=
  Claim7.holds_tied_plain_at .later [] [.data, .data, .data, .data, .pinned] true (true, "8186e83c2b630ecb5b5db4f58e20c29036d3e3797c5a3ac63be0229e6cb3176b") false
    topTwice.over (fun _ h => by cases h) (by kernel_rfl) (fun _ h => by cases h) topTwice_row_tie rfl ⟨rfl, rfl⟩ (by kernel_rfl) rfl
    (fun f fn hf hfn => by
      obtain rfl : f = 6 := Option.some.inj ((show Tryz.prog.funcNamed "arras/arrastop.TopTwice" = some 6 by kernel_rfl).symm.trans hf) |>.symm
      obtain rfl : fn = Tryz.f6 := (Option.some.inj (Tryz.func6.symm.trans hfn)).symm
      exact ⟨by kernel_rfl, fun j t ht => by
        rw [Tryz.params6] at ht
        have hm : t ∈ [22, 22, 3, 3] := by simpa using Array.mem_of_getElem? ht
        have hall : ([22, 22, 3, 3].all fun u => !Tryz.prog.wantsStandIn u) = true := by kernel_rfl
        exact (show Tryz.prog.wantsStandIn t = false by simpa using List.all_eq_true.1 hall t hm)⟩)
    (by kernel_rfl)
#print axioms topTwice_holds
end Go.Proofs.YtahoagbaadnihabGreatDoor
