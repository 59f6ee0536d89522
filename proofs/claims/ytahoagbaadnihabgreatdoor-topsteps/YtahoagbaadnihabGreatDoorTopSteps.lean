/- For all lists of raw things, of hurts and all numbers: a scrub of all sectors in two steps answers, and leaves, what one step does. What was handed in is left as it was; the table of powers of ten is listed and tied (Itoa looks into it), the other tables are listed, and no step looks into them. -/
import Derived.Test.YtahoagbaadnihabGreatDoorRows
import Derived.Test.YtahoagbaadnihabGreatDoorTie
import Derived.Test.YtahoagbaadnihabGreatDoorCards
import Derived.Test.YtahoagbaadnihabGreatDoorKeepBase
import Derived.Test.YtahoagbaadnihabGreatDoorTopM
import Derived.WalkKit
import Derived.ProofKit
import Derived.OpenShut
import Derived.ShutString
import Derived.LaidOnce
import Derived.SevenTiedAt
import Derived.Lay
import Derived.Stop.Joined
namespace Go.Proofs.YtahoagbaadnihabGreatDoor.topSteps
open Go.ChangeShapes Go.WideShapes Go.ChangeAt Go.RowKit Go.Lib
open Go.ChangeMaps (open_string shut_string)

theorem own : ownKnob Tryz.prog.godebug = none := by kernel_rfl
theorem laidOut : laidOutB Tryz.prog = true := by kernel_rfl
theorem pow_of {W : World} (h : laidMetH Tryz.prog Rows.topStepsRow.laid W) : Pow W := by
  rw [MakeChecks.laidMetH_plain _ _ _ (by kernel_rfl)] at h
  exact pow_laid h
set_option maxHeartbeats 3200000 in
set_option maxRecDepth 8000 in
theorem walk (w : World) (hp : Pow w) (a : Option Addr) (n c : Nat) (R : List Raw4) (b : Option Addr) (m d : Nat) (S : List Raw4) (x : Int) (y : Int) (h : RawsAt w a n R ∧ n ≤ c) (h2 : RawsAt w b m S ∧ m ≤ d) (w1 : (Lit.int .i64 x).wf = true) (w2 : (Lit.int .i64 y).wf = true) :
    Calls Tryz.prog 3 #[.slice a n c, .slice b m d, .int .i64 x, .int .i64 y] w fun e w' => e = .returned (.bool true) ∧ Below w.heap.size w w' := by
  have hx := wf_i64 w1
  have hy := wf_i64 w2
  obtain ⟨K, hK, hK3⟩ := nat_pick x
  obtain ⟨E, hE⟩ : ∃ E, E = (K + 1) % 3 := ⟨_, rfl⟩
  have hE3 : E < 3 := by omega
  have hne : E ≠ K := by omega
  obtain ⟨N, hN, hN3⟩ : ∃ N : Nat, pick y 49 = (N : Int) ∧ N < 49 := by
    have := pick_bd y 49 (by omega)
    exact ⟨(pick y 49).toNat, by omega, by omega⟩
  obtain ⟨M, hM⟩ : ∃ M, M = 48 - N := ⟨_, rfl⟩
  have hNM : N + M = 48 := by omega
  have hsub : (48 : Int) - (N : Int) = (M : Int) := by omega
  have C1 := hid (adds_any a n c R 6 w h.1 h.2 hp (by omega) (by omega) (by omega))
  have CB : Hid (∀ wx, Below w.heap.size w wx → Calls Tryz.prog 9 #[.slice b m d, .int .i64 x, .int .i64 25] wx (OutX wx ((hurtsOf (S.take (m / 2)) K 48 25).map hurtAc ++ (hurtsOf (S.drop (m / 2)) E 48 25).map hurtAc))) := fun wx g => by
    rw [hE]
    exact both_any b m d S x 25 K wx hx hK hK3 (h2.1.below g) h2.2 (by decide)
  have CP : Hid (∀ wx, Calls Tryz.prog 10 #[.int .i64 y, .int .i64 49] wx fun e w' => e = .returned (.int .i64 N) ∧ w' = wx) := fun wx => by
    have := Picked_any y 49 wx hy (by omega)
    rw [hN] at this
    exact this
  have HK := hid (And.intro hK3 (And.intro hE3 (And.intro hne (And.intro hN3 hNM))))
  clear h h2 hp hx hK hK3 w1 hE hE3 hne hy hN w2 hM hNM
  go_enter Tryz.func3, Tryz.ntmps3
  go_wp2_with fail
  refine C1.out.mono ?_
  rintro _ v1 ⟨ga, gm, gc, fb, fk, fd, Gs, A, rfl, ⟨hA1, hA2⟩, ⟨hF1, hF2⟩, ⟨hch, htot, _⟩, g1⟩
  have htl := tot_flat Gs
  have hfk : fk = tot Gs := by rw [hF2.sn, htl]
  have hcl := chain_len Gs 0 hch
  have hAl : A.length = Gs.length := by rw [← acs_len, hA2, List.length_map]
  have hAt := hA1.at (by unfold maxLen; omega)
  have S1 := hid (And.intro g1 (And.intro hAt (And.intro hA2 (And.intro hF2 (And.intro hch (And.intro htot hcl))))))
  have CH := hid (CB.out v1 g1)
  have hhl : ((hurtsOf (S.take (m / 2)) K 48 25).map hurtAc ++ (hurtsOf (S.drop (m / 2)) E 48 25).map hurtAc).length ≤ 60 := by
    have q1 := hurts_le (S.take (m / 2)) K 48 25
    have q2 := hurts_le (S.drop (m / 2)) E 48 25
    rw [List.length_append, List.length_map, List.length_map]; omega
  have HL := hid (And.intro hfk (And.intro hF1 (And.intro hhl hAl)))
  have ONE := hid (steps_told Gs hch (by omega) K HK.out.1 E HK.out.2.1 HK.out.2.2.1 (S.take (m / 2)) (S.drop (m / 2)) 25 N M HK.out.2.2.2.2)
  clear C1 CB hA1 hA2 hF1 hF2 hch htot g1 htl hfk hcl hAl hAt hhl
  generalize (hurtsOf (S.take (m / 2)) K 48 25).map hurtAc ++ (hurtsOf (S.drop (m / 2)) E 48 25).map hurtAc = hu at CH HL ONE
  go_wp2_with fail
  refine CH.out.mono ?_
  rintro _ v2 ⟨ha, hn, hc, H, rfl, hH1, hH2, g2⟩
  have hHl : H.length ≤ 60 := by rw [← acs_len, hH2]; exact HL.out.2.2.1
  have hHt := hH1.at (by unfold maxLen; omega)
  obtain ⟨u2, hu2⟩ : ∃ u2, u2 = v2.alloc (.cells #[.slice ga gm gc, .slice ha hn hc] 23) := ⟨_, rfl⟩
  have gu2 : Below v2.heap.size v2 u2 := by rw [hu2]; exact (Below.refl _ v2).alloc (Nat.le_refl _) _
  obtain ⟨pl, hpl⟩ : ∃ pl, pl = Gs.map addAc ++ hu := ⟨_, rfl⟩
  have hll : pl.length ≤ 100 ∧ Gs.length ≤ pl.length := by
    have h1 := S1.out.2.2.2.2.2.1
    have h2 := S1.out.2.2.2.2.2.2
    have h3 := HL.out.2.2.1
    rw [hpl]
    simp only [List.length_append, List.length_map]
    omega
  have hPL : partL [⟨⟨ga, gm, gc⟩, A⟩, ⟨⟨ha, hn, hc⟩, H⟩] = pl := by
    rw [hpl]
    show acs A ++ (acs H ++ []) = _
    rw [S1.out.2.2.1, hH2, List.append_nil]
  have C2 : Hid (Calls Tryz.prog 8 #[.slice (some ⟨v2.heap.size, 0, none⟩) 2 2] u2 (OutX u2 pl)) := by
    have := concat_any (some ⟨v2.heap.size, 0, none⟩) 2 2 [⟨⟨ga, gm, gc⟩, A⟩, ⟨⟨ha, hn, hc⟩, H⟩] u2 (by rw [hu2]; exact (Own.made v2 23 [.slice ga gm gc, .slice ha hn hc]).row) rfl (by simp) (fun q hq => by
      simp only [List.mem_cons, List.not_mem_nil, or_false] at hq
      rcases hq with rfl | rfl
      · exact ⟨S1.out.2.1.1, (S1.out.2.1.2.below g2).below gu2⟩
      · exact ⟨hHt.1, hHt.2.below gu2⟩) (by rw [cnt, hPL]; omega)
    rw [hPL] at this
    exact this
  have S2 := hid (And.intro (bel3 g2 gu2) (And.intro hpl hll))
  clear CH hH1 hH2 hHl hHt g2 gu2 hPL hll hpl
  go_wp2_with fail
  rw [← hu2]
  clear hu2
  refine C2.out.mono ?_
  rintro _ v3 ⟨ca, cn, cc, C, rfl, hC1, hC2, g3⟩
  have hCl : C.length ≤ 100 := by rw [← acs_len, hC2]; exact S2.out.2.2.1
  have hCt := hC1.at (by unfold maxLen; omega)
  have g13 := bel3 S2.out.1 g3
  have S3 := hid (And.intro g13 (And.intro hCt hC2))
  clear C2 hC1 hC2 hCl hCt g13 g3
  go_wp2_with fail
  refine (CP.out _).mono ?_
  rintro _ w9 ⟨rfl, h9⟩
  have h8 := h9.symm
  subst h8
  clear CP h9
  obtain ⟨u4, hu4⟩ : ∃ u4, u4 = v3.alloc (.cells #[.int .i64 7, .slice none 0 0, .string ⟨#[]⟩, .int .i64 0, .int .i64 48, .int .i64 0, .int .i64 0] 29) := ⟨_, rfl⟩
  have gu4 : Below v3.heap.size v3 u4 := by rw [hu4]; exact (Below.refl _ v3).alloc (Nat.le_refl _) _
  have sc : PartOk u4 ⟨⟨some ⟨v3.heap.size, 0, none⟩, 1, 1⟩, [⟨scrubAc 48, nilS⟩]⟩ := by rw [hu4]; exact acts_laid v3 [scrubAc 48] (fun q hq => by rw [List.mem_singleton] at hq; subst hq; exact ⟨rfl, Nat.zero_le _⟩) (by simp)
  have b4 : Below u4.heap.size u4 (u4.alloc (.cells #[.slice ca cn cc, .slice (some ⟨v3.heap.size, 0, none⟩) 1 1] 23)) := (Below.refl _ u4).alloc (Nat.le_refl _) _
  obtain ⟨l, hl0⟩ : ∃ l, l = pl ++ [scrubAc 48] := ⟨_, rfl⟩
  obtain ⟨l', hl1⟩ : ∃ l', l' = pl ++ [scrubAc N, scrubAc M] := ⟨_, rfl⟩
  have el : l.length = pl.length + 1 := by rw [hl0, List.length_append]; rfl
  have el' : l'.length = pl.length + 2 := by rw [hl1, List.length_append]; rfl
  have hl : l.length ≤ 200 ∧ l'.length ≤ 200 ∧ l.length = pl.length + 1 ∧ l'.length = pl.length + 2 := by
    have h3 := S2.out.2.2.1
    exact ⟨by omega, by omega, el, el'⟩
  have TWO := hid (ONE.out l l' (by rw [hl0, S2.out.2.1]) (by rw [hl1, S2.out.2.1]))
  have C4 : Hid (Calls Tryz.prog 11 #[.slice (some ⟨v3.heap.size + 1, 0, none⟩) 2 2] (u4.alloc (.cells #[.slice ca cn cc, .slice (some ⟨v3.heap.size, 0, none⟩) 1 1] 23)) (OutTr (u4.alloc (.cells #[.slice ca cn cc, .slice (some ⟨v3.heap.size, 0, none⟩) 1 1] 23)) l)) := by
    have q := laid_run [⟨⟨ca, cn, cc⟩, C⟩, ⟨⟨some ⟨v3.heap.size, 0, none⟩, 1, 1⟩, [⟨scrubAc 48, nilS⟩]⟩] (fun q hq => by
      simp only [List.mem_cons, List.not_mem_nil, or_false] at hq
      rcases hq with rfl | rfl
      · exact ⟨S3.out.2.1.1, S3.out.2.1.2.below gu4⟩
      · exact sc) (by simp) (by
      rw [hl0]
      show acs C ++ ([scrubAc 48] ++ []) = _
      rw [S3.out.2.2, List.append_nil]) hl.1 2 rfl
    rw [show u4.heap.size = v3.heap.size + 1 by rw [hu4]; simp] at q
    exact q
  have L3 := hid (And.intro hl (And.intro hl1 (bel3 gu4 b4)))
  clear gu4 sc b4 hl hl0 hl1 el el' ONE
  go_wp2_with fail
  rw [← hu4]
  clear hu4
  refine C4.out.mono ?_
  rintro _ v5 ⟨xa, xn, xc, za, zm, zc, X, rfl, ⟨hX1, hX2, hX3⟩, ⟨hXA, hXm⟩, g5⟩
  have hxn : xn = l.length := by rw [hX3.sn]; exact ans_len hX1
  obtain ⟨u5, hu5⟩ : ∃ u5, u5 = v5.alloc (.cells #[.slice za zm zc] 35) := ⟨_, rfl⟩
  have gu5 : Below v5.heap.size v5 u5 := by rw [hu5]; exact (Below.refl _ v5).alloc (Nat.le_refl _) _
  have bx : Own u5 v5.heap.size 35 [.slice za zm zc] := by rw [hu5]; exact Own.made v5 35 [.slice za zm zc]
  obtain ⟨u6, hu6⟩ : ∃ u6, u6 = u5.alloc (.cells #[.int .i64 7, .slice none 0 0, .string ⟨#[]⟩, .int .i64 0, .int .i64 N, .int .i64 0, .int .i64 0, .int .i64 7, .slice none 0 0, .string ⟨#[]⟩, .int .i64 0, .int .i64 M, .int .i64 0, .int .i64 0] 29) := ⟨_, rfl⟩
  have gu6 : Below u5.heap.size u5 u6 := by rw [hu6]; exact (Below.refl _ u5).alloc (Nat.le_refl _) _
  have sc2 : PartOk u6 ⟨⟨some ⟨u5.heap.size, 0, none⟩, 2, 2⟩, [⟨scrubAc N, nilS⟩, ⟨scrubAc M, nilS⟩]⟩ := by rw [hu6]; exact acts_laid u5 [scrubAc N, scrubAc M] (fun q hq => by simp only [List.mem_cons, List.not_mem_nil, or_false] at hq; rcases hq with rfl | rfl <;> exact ⟨rfl, Nat.zero_le _⟩) (by simp)
  have g36 := bel3 L3.out.2.2 (bel3 g5 (bel3 gu5 gu6))
  have b6 : Below u6.heap.size u6 (u6.alloc (.cells #[.slice ca cn cc, .slice (some ⟨u5.heap.size, 0, none⟩) 2 2] 23)) := (Below.refl _ u6).alloc (Nat.le_refl _) _
  have C5 : Hid (Calls Tryz.prog 11 #[.slice (some ⟨u5.heap.size + 1, 0, none⟩) 2 2] (u6.alloc (.cells #[.slice ca cn cc, .slice (some ⟨u5.heap.size, 0, none⟩) 2 2] 23)) (OutTr (u6.alloc (.cells #[.slice ca cn cc, .slice (some ⟨u5.heap.size, 0, none⟩) 2 2] 23)) l')) := by
    have q := laid_run [⟨⟨ca, cn, cc⟩, C⟩, ⟨⟨some ⟨u5.heap.size, 0, none⟩, 2, 2⟩, [⟨scrubAc N, nilS⟩, ⟨scrubAc M, nilS⟩]⟩] (fun q hq => by
      simp only [List.mem_cons, List.not_mem_nil, or_false] at hq
      rcases hq with rfl | rfl
      · exact ⟨S3.out.2.1.1, S3.out.2.1.2.below g36⟩
      · exact sc2) (by simp) (by
      rw [L3.out.2.1]
      show acs C ++ ([scrubAc N, scrubAc M] ++ []) = _
      rw [S3.out.2.2, List.append_nil]) L3.out.1.2.1 2 rfl
    rw [show u6.heap.size = u5.heap.size + 1 by rw [hu6]; simp] at q
    exact q
  have g66 := bel3 gu6 b6
  have S5 := hid (And.intro hX1 (And.intro hX2 (And.intro hxn (And.intro ((hX3.below gu5).below g66) (And.intro (bx.below' g66) (And.intro ((hXA.below gu5).below g66) (And.intro hXm (bel3 g36 b6))))))))
  clear C4 hX1 hX2 hX3 hXA hXm hxn g5 gu5 bx gu6 sc2 g36 b6 g66
  go_upto_region 5 with fail
  rw [← hu5]
  clear hu5
  go_wp2_with fail
  rw [← hu6]
  clear hu6 hsub
  refine C5.out.mono ?_
  rintro _ v7 ⟨ya, yn, yc, ua, um, uc, Y, rfl, ⟨hY1, hY2, hY3⟩, ⟨hYA, hYm⟩, g7⟩
  have hyn : yn = l'.length := by rw [hY3.sn]; exact ans_len hY1
  obtain ⟨u7, hu7⟩ : ∃ u7, u7 = v7.alloc (.cells #[.slice ua um uc] 35) := ⟨_, rfl⟩
  have gu7 : Below v7.heap.size v7 u7 := by rw [hu7]; exact (Below.refl _ v7).alloc (Nat.le_refl _) _
  have by7 : Own u7 v7.heap.size 35 [.slice ua um uc] := by rw [hu7]; exact Own.made v7 35 [.slice ua um uc]
  have hX := (S5.out.2.2.2.1.below g7).below gu7
  have hY := hY3.below gu7
  have hxn := S5.out.2.2.1
  have hlen := L3.out.1
  have hpl := S2.out.2.2.1
  obtain ⟨j, hj⟩ : ∃ j, j = xn - 1 := ⟨_, rfl⟩
  obtain ⟨k, hk⟩ : ∃ k, k = yn - 2 := ⟨_, rfl⟩
  obtain ⟨k2, hk2⟩ : ∃ k2, k2 = yn - 1 := ⟨_, rfl⟩
  have j1 : (xn : Int) - 1 = (j : Int) := by omega
  have j2 : (yn : Int) - 2 = (k : Int) := by omega
  have j3 : (yn : Int) - 1 = (k2 : Int) := by omega
  have j4 : (j : Int) < xn := by omega
  have j5 : (k : Int) < yn := by omega
  have j6 : (k2 : Int) < yn := by omega
  have j7 : xn ≤ 200 := by omega
  have j8 : yn ≤ 200 := by omega
  obtain ⟨p, b1, o1, hp, rfl, _, okp, x0, x1, x2, x3, x4⟩ := hX.one j (by omega)
  obtain ⟨u8, hu8⟩ : ∃ u8, u8 = u7.alloc (.cells #[.int .i64 p.r.code, .string (str p.r.data), .slice p.f.a p.f.n p.f.c, .int .i64 p.r.count, .slice p.g.a p.g.n p.g.c] 42) := ⟨_, rfl⟩
  have gu8 : Below u7.heap.size u7 u8 := by rw [hu8]; exact (Below.refl _ u7).alloc (Nat.le_refl _) _
  obtain ⟨q, b2, o2, hq, rfl, _, okq, y0, y1, y2, y3, y4⟩ := (hY.below gu8).one k (by omega)
  obtain ⟨u9, hu9⟩ : ∃ u9, u9 = u8.alloc (.cells #[.int .i64 q.r.code, .string (str q.r.data), .slice q.f.a q.f.n q.f.c, .int .i64 q.r.count, .slice q.g.a q.g.n q.g.c] 42) := ⟨_, rfl⟩
  have gu9 : Below u8.heap.size u8 u9 := by rw [hu9]; exact (Below.refl _ u8).alloc (Nat.le_refl _) _
  obtain ⟨r, b3, o3, hr, e3, _, okr, z0, z1, z2, z3, z4⟩ := ((hY.below gu8).below gu9).one k2 (by omega)
  cases e3
  obtain ⟨W, hW⟩ : ∃ W, W = u9.alloc (.cells #[.int .i64 r.r.code, .string (str r.r.data), .slice r.f.a r.f.n r.f.c, .int .i64 r.r.count, .slice r.g.a r.g.n r.g.c] 42) := ⟨_, rfl⟩
  have gW : Below u9.heap.size u9 W := by rw [hW]; exact (Below.refl _ u9).alloc (Nat.le_refl _) _
  have g9W := bel3 gu9 gW
  have g8W := bel3 gu8 g9W
  have g5W := bel3 (bel3 g7 gu7) g8W
  have P0 : Own W u7.heap.size 42 (nxC p) := by
    have := Own.made u7 42 (nxC p)
    rw [show u7.alloc (.cells (nxC p).toArray 42) = u8 from hu8.symm] at this
    exact this.below' g9W
  have Q0 : Own W u8.heap.size 42 (nxC q) := by
    have := Own.made u8 42 (nxC q)
    rw [show u8.alloc (.cells (nxC q).toArray 42) = u9 from hu9.symm] at this
    exact this.below' gW
  have R0 : Own W u9.heap.size 42 (nxC r) := by
    have := Own.made u9 42 (nxC r)
    rw [show u9.alloc (.cells (nxC r).toArray 42) = W from hW.symm] at this
    exact this
  have p3 := P0.cell (i := 3) rfl
  have p4 := P0.cell (i := 4) rfl
  have q3 := Q0.cell (i := 3) rfl
  have q4 := Q0.cell (i := 4) rfl
  have r3 := R0.cell (i := 3) rfl
  have r4 := R0.cell (i := 4) rfl
  have a1 : W.cell? ⟨v5.heap.size, 0, none⟩ = some (.slice za zm zc) := (S5.out.2.2.2.2.1.below' g5W).cell (i := 0) rfl
  have a2 : W.cell? ⟨v7.heap.size, 0, none⟩ = some (.slice ua um uc) := (by7.below' g8W).cell (i := 0) rfl
  obtain ⟨tA, _, _, _, t1, t2, t3, t4, t5, t6, t7⟩ := TWO.out
  have hzm : zm = um := by rw [S5.out.2.2.2.2.2.1.len, hYA.len, tA]
  subst hzm
  have hz3 : zm ≤ 3 := by
    have := S5.out.2.2.2.2.2.1.len
    rw [((arMay_iff _).1 S5.out.2.2.2.2.2.2.1).1] at this
    omega
  have CS := hid (fun wx (g : Below W.heap.size W wx) => topsame_any za zm zc ua uc (run48 l).1.A wx ((S5.out.2.2.2.2.2.1.below g5W).below g) (by rw [tA]; exact ((hYA.below gu7).below g8W).below g) hz3)
  rw [← S5.out.1, ← hxn, ← hj, an1_of hp] at t1
  rw [← hY1, ← hyn, ← hk, an1_of hq] at t2
  rw [← hY1, ← hyn, ← hk2, an1_of hr] at t3
  subst t1 t2 t3
  have hct : IntKind.i64.wrap (q.r.count + r.r.count) = q.r.count + r.r.count := IntWalk.i64_in _ (by omega)
  have hgo : ups p.r.gone = ups q.r.gone ++ ups r.r.gone := by rw [t7.1]; exact List.map_append
  have hpn : p.g.n = (ups q.r.gone ++ ups r.r.gone).length := by rw [okp.G.sn, hgo]
  have g7W := bel3 gu8 g9W
  have GP := hid (And.intro (okp.G.below g7W) (And.intro (okq.G.below g9W) (And.intro (okr.G.below gW) (And.intro hgo (And.intro hpn (And.intro (show (ups q.r.gone).length ≤ 48 by rw [ups, List.length_map]; exact t7.2.1) (show (ups r.r.gone).length ≤ 48 by rw [ups, List.length_map]; exact t7.2.2)))))))
  have FIN := hid (bel3 S1.out.1 (bel3 S3.out.1 (bel3 S5.out.2.2.2.2.2.2.2 g5W)))
  clear C5 hY1 hY2 hY3 hYA hYm hX hY hxn hyn hlen hpl hj hk hk2 tA hz3 hp hq hr okp okq okr gu7 gu8 gu9 gW g9W g8W g5W g7W g7 by7 P0 Q0 R0 t5 t6 t7 hgo hpn TWO
  obtain ⟨⟨pc, pd, pns, pt, pg⟩, ⟨fa, fn, fc⟩, ⟨la, ln, lc⟩⟩ := p
  obtain ⟨⟨qc, qd, qns, qt, qg⟩, ⟨fa2, fn2, fc2⟩, ⟨ma, mn, mc⟩⟩ := q
  obtain ⟨⟨rc, rd, rns, rt, rg⟩, ⟨fa3, fn3, fc3⟩, ⟨na, nn, nc⟩⟩ := r
  dsimp only [nxC, List.getElem?_cons_zero, List.getElem?_cons_succ] at x0 x1 x2 x3 x4 y0 y1 y2 y3 y4 z0 z1 z2 z3 z4 p3 p4 q3 q4 r3 r4 hu8 hu9 hW t4 hct GP
  subst t4
  go_upto_region 8 with fail
  rw [← hu7]
  clear hu7
  go_upto_region 9 with fail
  rw [← hu8]
  clear hu8 x0 x1 x2 x3 x4 j1 j4
  go_upto_region 10 with fail
  rw [← hu9]
  clear hu9 y0 y1 y2 y3 y4 j2 j5
  go_upto_region 11 with fail
  rw [← hW]
  clear hW z0 z1 z2 z3 z4 j3 j6
  have CC := hid (fun wx (g : Below W.heap.size W wx) => clonei_any wx ma mn mc (ups qg) (GP.out.2.1.below g) (by have := GP.out.2.2.2.2.2.1; omega))
  have ST := hid (fun (w5 w6 w7 : World) (a6 : Option Addr) (n6 c6 : Nat) (a7 : Option Addr) (n7 c7 : Nat) (g5 : Below W.heap.size W w5) (g6 : Below W.heap.size W w6) (hI6 : ownsI w6 w5.heap.size (.slice a6 n6 c6) (ups qg)) (hI7 : ownsI w7 w5.heap.size (.slice a7 n7 c7) (ups qg ++ ups rg)) (hg7 : w6.grownBy w7 (Value.slice a6 n6 c6).ownBlock) => show Below W.heap.size W w7 ∧ ln = n7 ∧ Calls Tryz.prog 13 #[.slice la ln lc, .slice a7 ln c7] w7 (OutYes w7) from by
    have g7 : Below W.heap.size W w7 := g6.grown hg7 g6.size (fun b e => Nat.le_trans g5.size (World.ownsRow.lt hI6 b e).1)
    have hR := ownsI_row hI7 (by have h1 := GP.out.2.2.2.2.2.1; have h2 := GP.out.2.2.2.2.2.2; rw [List.length_append]; omega)
    have e : ln = n7 := by rw [GP.out.2.2.2.2.1, hR.sn]
    subst e
    refine ⟨g7, rfl, eqI_any la ln lc a7 c7 (ups qg ++ ups rg) w7 ?_ hR.R GP.out.2.2.2.2.1 GP.out.1.nb⟩
    have := (GP.out.1.below g7).R
    rw [GP.out.2.2.2.1] at this
    exact this)
  have KP := hid (fun (wx : World) (g : Below W.heap.size W wx) => show wx.cell? ⟨u7.heap.size, 3, none⟩ = some (.int .i64 (qt + rt)) ∧ wx.cell? ⟨u7.heap.size, 4, none⟩ = some (.slice la ln lc) ∧ wx.cell? ⟨u8.heap.size, 3, none⟩ = some (.int .i64 qt) ∧ wx.cell? ⟨u8.heap.size, 4, none⟩ = some (.slice ma mn mc) ∧ wx.cell? ⟨u9.heap.size, 3, none⟩ = some (.int .i64 rt) ∧ wx.cell? ⟨u9.heap.size, 4, none⟩ = some (.slice na nn nc) ∧ wx.cell? ⟨v5.heap.size, 0, none⟩ = some (.slice za zm zc) ∧ wx.cell? ⟨v7.heap.size, 0, none⟩ = some (.slice ua zm uc) from ⟨cell_at g p3, cell_at g p4, cell_at g q3, cell_at g q4, cell_at g r3, cell_at g r4, cell_at g a1, cell_at g a2⟩)
  go_region_held3 (fun w' => w'.cell? ⟨u7.heap.size, 3, none⟩ = some (.int .i64 (qt + rt)) ∧ w'.cell? ⟨u7.heap.size, 4, none⟩ = some (.slice la ln lc) ∧ w'.cell? ⟨u8.heap.size, 3, none⟩ = some (.int .i64 qt) ∧ w'.cell? ⟨u8.heap.size, 4, none⟩ = some (.slice ma mn mc) ∧ w'.cell? ⟨u9.heap.size, 3, none⟩ = some (.int .i64 rt) ∧ w'.cell? ⟨u9.heap.size, 4, none⟩ = some (.slice na nn nc) ∧ w'.cell? ⟨v5.heap.size, 0, none⟩ = some (.slice za zm zc) ∧ w'.cell? ⟨v7.heap.size, 0, none⟩ = some (.slice ua zm uc)) (go_keep) (first
    | (go_at_call 12; refine (CS.out _ ((Below.refl _ W).drew)).mono ?_; rintro _ w5 ⟨rfl, g5⟩; (have g5' := undrew g5); obtain ⟨ka0, ka1, ka2, ka3, ka4, ka5, ka6, ka7⟩ := KP.out w5 g5'; (have G5 := hid g5'); clear g5 g5')
    | (go_at_call 14; refine (CC.out _ G5.out).mono ?_; rintro _ w6 ⟨a6, n6, c6, rfl, hI6, g6⟩; (have g6' := bel3 G5.out g6); obtain ⟨kb0, kb1, kb2, kb3, kb4, kb5, kb6, kb7⟩ := KP.out w6 g6'; (have G6 := hid g6'); (have I6 := hid (And.intro hI6 g6.size)); clear hI6 g6 g6')
    | (refine step_appendIs rfl (.tmp 99) (.tmp 101) rfl w5.heap.size (.slice a6 n6 c6) (ups qg) (ups rg) rfl I6.out.1 na nn nc rfl GP.out.2.2.1.sn (ints_src (GP.out.2.2.1.below G6.out)) (by have h1 := GP.out.2.2.2.2.2.1; have h2 := GP.out.2.2.2.2.2.2; omega) I6.out.2 ?_; intro a7 n7 c7 w7 hI7 hg7; obtain ⟨g7, e7, E7'⟩ := ST.out w5 w6 w7 a6 n6 c6 a7 n7 c7 G5.out G6.out I6.out.1 hI7 hg7; subst e7; obtain ⟨kc0, kc1, kc2, kc3, kc4, kc5, kc6, kc7⟩ := KP.out w7 g7; (have G7 := hid g7); (have E7 := hid E7'); clear hI7 hg7 g7 E7')
    | (go_at_call 13; refine E7.out.mono ?_; rintro _ w8 ⟨rfl, g8⟩; (have g8' := bel3 G7.out g8); obtain ⟨kd0, kd1, kd2, kd3, kd4, kd5, kd6, kd7⟩ := KP.out w8 g8'; (have FF := hid (bel3 FIN.out g8')); clear g8 g8'))
  all_goals go_wp2
  all_goals go_ret
  all_goals exact ⟨rfl, FF.out⟩

set_option maxRecDepth 100000 in
theorem lifted (os : Os) (started : os.Started) (H : Type) (enc : TypeId × Value → H) :
    ReturnsInHanded {} Tryz.checked os 3 .any (fun w args => (Rows.topStepsSpec.pre enc Tryz.prog Tryz.f3 Rows.topStepsRow.domain false w args ∧ laidMetH Tryz.prog Rows.topStepsRow.laid w) ∧ sizedMet enc Tryz.prog Tryz.f3 (OpenSpec.ofChange Rows.topStepsSpec) false w args)
      (Rows.topStepsSpec.post enc Tryz.prog Tryz.f3 false true false false) := by
  refine returnsInHanded_of_change_and (C := Tryz.checked) (X := fun w _ => laidMetH Tryz.prog Rows.topStepsRow.laid w) (fun _ _ _ hh h => h.of_heap hh) own started (by kernel_rfl) Tryz.func3
    (ChangeSpec.witness_shaped (enc := enc) (C := Tryz.checked) (os := os) (X := fun w _ => laidMetH Tryz.prog Rows.topStepsRow.laid w) false (World.laidAll Tryz.prog os Rows.topStepsRow.laid) #[.slice none 0 0, .slice none 0 0, .int .i64 0, .int .i64 0] 8 (World.laidAll_os _ _ _)
      (World.shaped_of_ZipB (by kernel_rfl) (by kernel_rfl)) (by kernel_rfl) (by kernel_rfl) (by kernel_rfl)
      (by rw [MakeChecks.laidMetH_plain _ _ _ (by kernel_rfl)]; exact laidMet_laidAll _ (by kernel_rfl) (by kernel_rfl))) ?_
  intro W base args ds gs before hval0 hW hcnd _ _hL _
  have hval : ∀ (j : Nat) t v, Tryz.f3.params[j]? = some t → args[j]? = some v → Value.okWide Tryz.prog W .any base t v := hval0
  have hW' := hW
  obtain ⟨p, q, hA0, hV, rfl, hfz, hnd⟩ := hW
  have hA : DataW.TrodAll enc Tryz.prog W 0 (fun _ => true) true Tryz.f3.params.toList args.toList ds p := hA0
  rw [Tryz.params3] at hA hval
  obtain ⟨v0, vs0, d0, ds0, p0, q0, hargs, rfl, rfl, h0, r0⟩ := trodAll_cons hA
  obtain ⟨v1, vs1, d1, ds1, p1, q1, rfl, rfl, rfl, h1, r1⟩ := trodAll_cons r0
  obtain ⟨v2, vs2, d2, ds2, p2, q2, rfl, rfl, rfl, h2, r2⟩ := trodAll_cons r1
  obtain ⟨v3, vs3, d3, ds3, p3, q3, rfl, rfl, rfl, h3, r3⟩ := trodAll_cons r2
  obtain ⟨rfl, rfl, rfl⟩ := trodAll_nil r3
  obtain rfl : args = #[v0, v1, v2, v3] := by cases args; simp_all
  obtain ⟨rfl, rfl⟩ := trodVars_none hV
  have h0k := h0
  obtain ⟨a0, n0, c0, R0, rfl, w0, f0⟩ := open_raws (hval 0 22 v0 rfl rfl) h0
  have l0 : ∀ x ∈ p0, x.block < W.heap.size := fun x hx => hW'.lt x (by simp [hx])
  have h1k := h1
  obtain ⟨a1, n1, c1, R1, rfl, w1, f1⟩ := open_raws (hval 1 22 v1 rfl rfl) h1
  have l1 : ∀ x ∈ p1, x.block < W.heap.size := fun x hx => hW'.lt x (by simp [hx])
  obtain ⟨a2, rfl, rfl, rfl, w2⟩ := open_int Tryz.underlying3 (hval 2 3 v2 rfl rfl) h2
  obtain ⟨a3, rfl, rfl, rfl, w3⟩ := open_int Tryz.underlying3 (hval 3 3 v3 rfl rfl) h3
  clear hA0 hval0
  refine (walk W (pow_of _hL) a0 n0 c0 R0 a1 n1 c1 R1 a2 a3 (And.intro w0 f0) (And.intro w1 f1) w2 w3).mono fun e W' ⟨he, bel⟩ => ?_
  subst he
  exact ⟨_, rfl, _, _, _, [], _, [], hW', trodAll_mk1 (shut_bool Tryz.underlying4 _), (trodAll_cons_mk (Below.trod laidOut (by kernel_rfl) (of_decide_eq_true (by kernel_rfl)) h0k bel l0) (trodAll_cons_mk (Below.trod laidOut (by kernel_rfl) (of_decide_eq_true (by kernel_rfl)) h1k bel l1) (trodAll_cons_mk (shut_int Tryz.underlying3 w2) (trodAll_cons_mk (shut_int Tryz.underlying3 w3) trodAll_mk0)))), rfl, bel.frame _, fun h => by cases h⟩

theorem over : Rows.topStepsRow.holds Tryz.pinned (OpenSpec.ofChange Rows.topStepsSpec) :=
  OpenClaim.holds_of_wide 3 Tryz.f3 rfl rfl rfl rfl rfl rfl rfl ⟨rfl, rfl, rfl, rfl, rfl⟩ rfl rfl rfl rfl rfl (by kernel_rfl) Tryz.func3 (by kernel_rfl)
    (of_decide_eq_true (by kernel_rfl)) (by unfold Func.isWrapper; first | (rw [if_pos (by decide +kernel)]; kernel_rfl) | (rw [if_neg (by decide +kernel)]; exact ⟨rfl, rfl⟩))
    (fun os started H enc _ => lifted os started H enc)
end Go.Proofs.YtahoagbaadnihabGreatDoor.topSteps

namespace Go.Proofs.YtahoagbaadnihabGreatDoor
theorem topSteps_holds : Rows.TopStepsCardSaid :=
  Claim7.holds_tied_plain_at .later [] [.data, .data, .data, .data, .pinned] true (true, "8186e83c2b630ecb5b5db4f58e20c29036d3e3797c5a3ac63be0229e6cb3176b") false
    topSteps.over (fun _ h => by cases h) (by kernel_rfl) (fun _ h => by cases h) topSteps_row_tie rfl ⟨rfl, rfl⟩ (by kernel_rfl) rfl
    (fun f fn hf hfn => by
      obtain rfl : f = 3 := Option.some.inj ((show Tryz.prog.funcNamed "arras/arrastop.TopSteps" = some 3 by kernel_rfl).symm.trans hf) |>.symm
      obtain rfl : fn = Tryz.f3 := (Option.some.inj (Tryz.func3.symm.trans hfn)).symm
      exact ⟨by kernel_rfl, fun j t ht => by
        rw [Tryz.params3] at ht
        have hm : t ∈ [22, 22, 3, 3] := by simpa using Array.mem_of_getElem? ht
        have hall : ([22, 22, 3, 3].all fun u => !Tryz.prog.wantsStandIn u) = true := by kernel_rfl
        exact (show Tryz.prog.wantsStandIn t = false by simpa using List.all_eq_true.1 hall t hm)⟩)
    (by kernel_rfl)
#print axioms topSteps_holds
end Go.Proofs.YtahoagbaadnihabGreatDoor
