/- For all lists of raw things, of hurts and all numbers: a scrub, however far it goes, changes nothing that is told: all gets and the list answer as without it, whatever is gone. What was handed in is left as it was; the table of powers of ten is listed and tied (Itoa looks into it), the other tables are listed, and no step looks into them. -/
import Derived.Test.YtahoagbaadnihaaGreatDoorRows
import Derived.Test.YtahoagbaadnihaaGreatDoorTie
import Derived.Test.YtahoagbaadnihaaGreatDoorCards
import Derived.Test.YtahoagbaadnihaaGreatDoorKeepBase
import Derived.Test.YtahoagbaadnihaaGreatDoorTopM
import Derived.WalkKit
import Derived.ProofKit
import Derived.OpenShut
import Derived.ShutString
import Derived.LaidOnce
import Derived.SevenTiedAt
import Derived.Lay
import Derived.Stop.Joined
namespace Go.Proofs.YtahoagbaadnihaaGreatDoor.topScrub
open Go.ChangeShapes Go.WideShapes Go.ChangeAt Go.RowKit Go.Lib
open Go.ChangeMaps (open_string shut_string)

theorem own : ownKnob Tryz.prog.godebug = none := by kernel_rfl
theorem laidOut : laidOutB Tryz.prog = true := by kernel_rfl
theorem pow_of {W : World} (h : laidMetH Tryz.prog Rows.topScrubRow.laid W) : Pow W := by
  rw [MakeChecks.laidMetH_plain _ _ _ (by kernel_rfl)] at h
  exact pow_laid h
set_option maxHeartbeats 3200000 in
set_option maxRecDepth 8000 in
theorem walk (w : World) (hp : Pow w) (a : Option Addr) (n c : Nat) (R : List Raw4) (b : Option Addr) (m d : Nat) (S : List Raw4) (x : Int) (y : Int) (h : RawsAt w a n R ∧ n ≤ c) (h2 : RawsAt w b m S ∧ m ≤ d) (w1 : (Lit.int .i64 x).wf = true) (w2 : (Lit.int .i64 y).wf = true) :
    Calls Tryz.prog 8 #[.slice a n c, .slice b m d, .int .i64 x, .int .i64 y] w fun e w' => e = .returned (.bool true) ∧ Below w.heap.size w w' := by
  have hx := wf_i64 w1
  have hy := wf_i64 w2
  obtain ⟨K, hK, hK3⟩ := nat_pick x
  obtain ⟨E, hE⟩ : ∃ E, E = (K + 1) % 3 := ⟨_, rfl⟩
  have hE3 : E < 3 := by omega
  have hne : E ≠ K := by omega
  obtain ⟨N, hN, hN3⟩ : ∃ N : Nat, pick y 49 = (N : Int) ∧ N < 49 := by
    have := pick_bd y 49 (by omega)
    exact ⟨(pick y 49).toNat, by omega, by omega⟩
  have C1 := hid (adds_any a n c R 8 w h.1 h.2 hp (by omega) (by omega) (by omega))
  have CB : Hid (∀ wx, Below w.heap.size w wx → Calls Tryz.prog 26 #[.slice b m d, .int .i64 x, .int .i64 25] wx (OutX wx ((hurtsOf (S.take (m / 2)) K 48 25).map hurtAc ++ (hurtsOf (S.drop (m / 2)) E 48 25).map hurtAc))) := fun wx g => by
    rw [hE]
    exact both_any b m d S x 25 K wx hx hK hK3 (h2.1.below g) h2.2 (by decide)
  have CP : Hid (∀ wx, Calls Tryz.prog 23 #[.int .i64 y, .int .i64 49] wx fun e w' => e = .returned (.int .i64 N) ∧ w' = wx) := fun wx => by
    have := Picked_any y 49 wx hy (by omega)
    rw [hN] at this
    exact this
  have HK := hid (And.intro hK3 (And.intro hE3 (And.intro hne hN3)))
  clear h h2 hp hx hK hK3 w1 hE hE3 hne hy hN hN3 w2
  go_enter Tryz.func8, Tryz.ntmps8
  go_wp2_with fail
  refine C1.out.mono ?_
  rintro _ v1 ⟨ga, gm, gc, fb, fk, fd, Gs, A, rfl, ⟨hA1, hA2⟩, ⟨hF1, hF2⟩, ⟨hch, htot, _⟩, g1⟩
  have htl := tot_flat Gs
  have hfk : fk = tot Gs := by rw [hF2.sn, htl]
  have hcl := chain_len Gs 0 hch
  have hAl : A.length = Gs.length := by rw [← acs_len, hA2, List.length_map]
  have hAt := hA1.at (by unfold maxLen; omega)
  have S1 := hid (And.intro g1 (And.intro hAt (And.intro hA2 (And.intro hF2 (And.intro hch (And.intro htot hcl))))))
  have CH := hid (CB.out v1 g1)
  have hhl : ((hurtsOf (S.take (m / 2)) K 48 25).map hurtAc ++ (hurtsOf (S.drop (m / 2)) E 48 25).map hurtAc).length ≤ 60 := by
    have q1 := hurts_le (S.take (m / 2)) K 48 25
    have q2 := hurts_le (S.drop (m / 2)) E 48 25
    rw [List.length_append, List.length_map, List.length_map]; omega
  have CG := hid (fun wx (g : Below v1.heap.size v1 wx) => gets_any fb fk fd Gs.flatten wx (hF2.below g) (by omega))
  have HL := hid (And.intro hfk (And.intro hF1 (And.intro hhl hAl)))
  have ONE := hid (scrub_told Gs hch htot K HK.out.1 E HK.out.2.1 HK.out.2.2.1 (S.take (m / 2)) (S.drop (m / 2)) 25 N (by have := HK.out.2.2.2; omega))
  clear C1 CB hA1 hA2 hF1 hF2 hch htot g1 htl hfk hcl hAl hAt hhl
  generalize (hurtsOf (S.take (m / 2)) K 48 25).map hurtAc ++ (hurtsOf (S.drop (m / 2)) E 48 25).map hurtAc = hu at CH HL ONE
  go_wp2_with fail
  refine CH.out.mono ?_
  rintro _ v2 ⟨ha, hn, hc, H, rfl, hH1, hH2, g2⟩
  have hHl : H.length ≤ 60 := by rw [← acs_len, hH2]; exact HL.out.2.2.1
  have hHt := hH1.at (by unfold maxLen; omega)
  obtain ⟨u2, hu2⟩ : ∃ u2, u2 = v2.alloc (.cells #[.slice ga gm gc, .slice ha hn hc] 22) := ⟨_, rfl⟩
  have gu2 : Below v2.heap.size v2 u2 := by rw [hu2]; exact (Below.refl _ v2).alloc (Nat.le_refl _) _
  obtain ⟨pl, hpl⟩ : ∃ pl, pl = Gs.map addAc ++ hu := ⟨_, rfl⟩
  have hll : pl.length ≤ 100 ∧ Gs.length ≤ pl.length := by
    have h1 := S1.out.2.2.2.2.2.1
    have h2 := S1.out.2.2.2.2.2.2
    have h3 := HL.out.2.2.1
    rw [hpl]
    simp only [List.length_append, List.length_map]
    omega
  have hPL : partL [⟨⟨ga, gm, gc⟩, A⟩, ⟨⟨ha, hn, hc⟩, H⟩] = pl := by
    rw [hpl]
    show acs A ++ (acs H ++ []) = _
    rw [S1.out.2.2.1, hH2, List.append_nil]
  have C2 : Hid (Calls Tryz.prog 27 #[.slice (some ⟨v2.heap.size, 0, none⟩) 2 2] u2 (OutX u2 pl)) := by
    have := concat_any (some ⟨v2.heap.size, 0, none⟩) 2 2 [⟨⟨ga, gm, gc⟩, A⟩, ⟨⟨ha, hn, hc⟩, H⟩] u2 (by rw [hu2]; exact (Own.made v2 22 [.slice ga gm gc, .slice ha hn hc]).row) rfl (by simp) (fun q hq => by
      simp only [List.mem_cons, List.not_mem_nil, or_false] at hq
      rcases hq with rfl | rfl
      · exact ⟨S1.out.2.1.1, (S1.out.2.1.2.below g2).below gu2⟩
      · exact ⟨hHt.1, hHt.2.below gu2⟩) (by rw [cnt, hPL]; omega)
    rw [hPL] at this
    exact this
  have S2 := hid (And.intro (bel3 g2 gu2) (And.intro hpl hll))
  clear CH hH1 hH2 hHl hHt g2 gu2 hPL hll hpl
  go_wp2_with fail
  rw [← hu2]
  clear hu2
  refine C2.out.mono ?_
  rintro _ v3 ⟨ca, cn, cc, C, rfl, hC1, hC2, g3⟩
  have hCl : C.length ≤ 100 := by rw [← acs_len, hC2]; exact S2.out.2.2.1
  have hCt := hC1.at (by unfold maxLen; omega)
  have g13 := bel3 S2.out.1 g3
  have C3 := hid (CG.out v3 g13)
  have S3 := hid (And.intro g13 (And.intro hCt hC2))
  clear C2 CG hC1 hC2 hCl hCt g13 g3
  go_wp2_with fail
  refine C3.out.mono ?_
  rintro _ v4 ⟨qa, qn, qc, Q, rfl, hQ1, hQ2, g4⟩
  have hQl : Q.length = tot Gs := by rw [← acs_len, hQ2, List.length_map, tot_flat]
  obtain ⟨v5, hv5⟩ : ∃ v5, v5 = v4.alloc (.cells #[.int .i64 3, .slice none 0 0, .string ⟨#[]⟩, .int .i64 0, .int .i64 0, .int .i64 0, .int .i64 0] 47) := ⟨_, rfl⟩
  have g5 : Below v4.heap.size v4 v5 := by rw [hv5]; exact (Below.refl _ v4).alloc (Nat.le_refl _) _
  have hsrc : ∀ j u, (axV [(⟨listAc, nilS⟩ : Ax)])[j]? = some u → v5.cell? ((⟨v4.heap.size, 0, none⟩ : Addr).add j) = some u := by rw [hv5]; exact act_made v4 ⟨listAc, nilS⟩
  have hI5 := hQ1.below g5
  have S4 := hid (And.intro hI5 (And.intro hsrc (And.intro (show Q.length + 1 ≤ 1000 by have := S1.out.2.2.2.2.2.1; omega) (And.intro (bel3 g4 g5) (And.intro hQ2 hQl)))))
  clear C3 hQ1 hQ2 hQl g4 g5 hsrc hI5
  go_wp2_with (at_builtin; (refine wpList_appendX _ rfl (.tmp 33) (.tmp 35) rfl v3.heap.size (.slice qa qn qc) Q [⟨listAc, nilS⟩] rfl (by rw [← hv5]; exact S4.out.1) (some ⟨v4.heap.size, 0, none⟩) 1 1 rfl rfl (.inr ⟨_, rfl, by rw [← hv5]; exact S4.out.2.1⟩) (fun q hq => by rw [List.mem_singleton] at hq; subst hq; exact ⟨axOk_nil rfl (Nat.zero_le _), nilS_off _⟩) (by have := S4.out.2.2.1; simp; omega) (by rw [← hv5]; exact S4.out.2.2.2.1.size) ?_; intro a6 n6 c6 v6 hn6 hI6 hg6; rw [← hv5] at hg6))
  clear hv5
  have g6 := S4.out.2.2.2.1.grown hg6 S4.out.2.2.2.1.size (fun g e => (World.ownsRow.lt S4.out.1.own g e).1)
  have hGt := hI6.at (by unfold maxLen; have := S4.out.2.2.1; simp; omega)
  have hGa : acs (Q ++ [(⟨listAc, nilS⟩ : Ax)]) = Gs.flatten.map getAc ++ [listAc] := by
    rw [acs_app, S4.out.2.2.2.2.1]
    rfl
  have hGn : n6 = tot Gs + 1 := by rw [hGt.2.sn, List.length_append, S4.out.2.2.2.2.2]; rfl
  have S6 := hid (And.intro g6 (And.intro hGt (And.intro hGa hGn)))
  have b6 : Below v6.heap.size v6 (v6.alloc (.cells #[.slice ca cn cc, .slice a6 n6 c6] 22)) := (Below.refl _ v6).alloc (Nat.le_refl _) _
  obtain ⟨l, hl0⟩ : ∃ l, l = pl ++ (Gs.flatten.map getAc ++ [listAc]) := ⟨_, rfl⟩
  obtain ⟨l', hl1⟩ : ∃ l', l' = pl ++ ([scrubAc N] ++ (Gs.flatten.map getAc ++ [listAc])) := ⟨_, rfl⟩
  have hl : l.length ≤ 200 ∧ l'.length ≤ 200 ∧ tot Gs + 1 ≤ l.length ∧ tot Gs + 1 ≤ l'.length := by
    have h1 := S1.out.2.2.2.2.2.1
    have h3 := S2.out.2.2.1
    have h4 := tot_flat Gs
    rw [hl0, hl1]
    simp only [List.length_append, List.length_map, List.length_singleton]
    omega
  have TWO := hid (ONE.out l l' (by rw [hl0, S2.out.2.1]) (by rw [hl1, S2.out.2.1]))
  have C4 : Hid (Calls Tryz.prog 22 #[.slice (some ⟨v6.heap.size, 0, none⟩) 2 2] (v6.alloc (.cells #[.slice ca cn cc, .slice a6 n6 c6] 22)) (OutTr (v6.alloc (.cells #[.slice ca cn cc, .slice a6 n6 c6] 22)) l)) :=
    laid_run [⟨⟨ca, cn, cc⟩, C⟩, ⟨⟨a6, n6, c6⟩, Q ++ [⟨listAc, nilS⟩]⟩] (fun q hq => by
      simp only [List.mem_cons, List.not_mem_nil, or_false] at hq
      rcases hq with rfl | rfl
      · exact ⟨S3.out.2.1.1, S3.out.2.1.2.below g6⟩
      · exact hGt) (by simp) (by
      rw [hl0]
      show acs C ++ (acs (Q ++ [⟨listAc, nilS⟩]) ++ []) = _
      rw [S3.out.2.2, hGa, List.append_nil]) hl.1 2 rfl
  have L3 := hid (And.intro hl hl1)
  clear hI6 hg6 g6 hGt hGa hGn hn6 hl hl0 hl1 ONE
  go_wp2_with fail
  refine C4.out.mono ?_
  rintro _ v7 ⟨xa, xn, xc, za, zm, zc, X, rfl, ⟨hX1, hX2, hX3⟩, _, g7⟩
  have hxn : xn = l.length := by rw [hX3.sn]; exact ans_len hX1
  obtain ⟨v8, hv8⟩ : ∃ v8, v8 = v7.alloc (.cells #[.slice za zm zc] 26) := ⟨_, rfl⟩
  have b8 : Below v7.heap.size v7 v8 := by rw [hv8]; exact (Below.refl _ v7).alloc (Nat.le_refl _) _
  obtain ⟨v9, hv9⟩ : ∃ v9, v9 = v8.alloc (.cells #[.int .i64 7, .slice none 0 0, .string ⟨#[]⟩, .int .i64 0, .int .i64 N, .int .i64 0, .int .i64 0] 47) := ⟨_, rfl⟩
  have b9 : Below v8.heap.size v8 v9 := by rw [hv9]; exact (Below.refl _ v8).alloc (Nat.le_refl _) _
  have sc : PartOk v9 ⟨⟨some ⟨v8.heap.size, 0, none⟩, 1, 1⟩, [⟨scrubAc N, nilS⟩]⟩ := by rw [hv9]; exact acts_laid v8 [scrubAc N] (fun q hq => by rw [List.mem_singleton] at hq; subst hq; exact ⟨rfl, Nat.zero_le _⟩) (by simp)
  have g69 := bel3 (bel3 (bel3 b6 g7) b8) b9
  have b10 : Below v9.heap.size v9 (v9.alloc (.cells #[.slice ca cn cc, .slice (some ⟨v8.heap.size, 0, none⟩) 1 1, .slice a6 n6 c6] 22)) := (Below.refl _ v9).alloc (Nat.le_refl _) _
  have C5 : Hid (Calls Tryz.prog 22 #[.slice (some ⟨v8.heap.size + 1, 0, none⟩) 3 3] (v9.alloc (.cells #[.slice ca cn cc, .slice (some ⟨v8.heap.size, 0, none⟩) 1 1, .slice a6 n6 c6] 22)) (OutTr (v9.alloc (.cells #[.slice ca cn cc, .slice (some ⟨v8.heap.size, 0, none⟩) 1 1, .slice a6 n6 c6] 22)) l')) := by
    have q := laid_run [⟨⟨ca, cn, cc⟩, C⟩, ⟨⟨some ⟨v8.heap.size, 0, none⟩, 1, 1⟩, [⟨scrubAc N, nilS⟩]⟩, ⟨⟨a6, n6, c6⟩, Q ++ [⟨listAc, nilS⟩]⟩] (fun q hq => by
      simp only [List.mem_cons, List.not_mem_nil, or_false] at hq
      rcases hq with rfl | rfl | rfl
      · exact ⟨S3.out.2.1.1, (S3.out.2.1.2.below S6.out.1).below g69⟩
      · exact sc
      · exact ⟨S6.out.2.1.1, S6.out.2.1.2.below g69⟩) (by simp) (by
      rw [L3.out.2]
      show acs C ++ ([scrubAc N] ++ (acs (Q ++ [⟨listAc, nilS⟩]) ++ [])) = _
      rw [S3.out.2.2, S6.out.2.2.1, List.append_nil]) L3.out.1.2.1 3 rfl
    rw [show v9.heap.size = v8.heap.size + 1 by rw [hv9]; simp] at q
    exact q
  have S7 := hid (And.intro hX1 (And.intro hX2 (And.intro hxn (And.intro (hX3.below (bel3 (bel3 b8 b9) b10)) (And.intro (bel3 g69 b10) trivial)))))
  clear C4 hX1 hX2 hX3 hxn b6 b8 b9 b10 g7 g69 sc
  go_wp2_with fail
  rw [← hv8]
  clear hv8
  refine (CP.out _).mono ?_
  rintro _ w9 ⟨rfl, h9⟩
  have h8 := h9.symm
  subst h8
  clear CP h9
  go_wp2_with fail
  rw [← hv9]
  clear hv9
  refine C5.out.mono ?_
  rintro _ v10 ⟨ya, yn, yc, ua, um, uc, Y, rfl, ⟨hY1, hY2, hY3⟩, _, g10⟩
  have hyn : yn = l'.length := by rw [hY3.sn]; exact ans_len hY1
  obtain ⟨v11, hv11⟩ : ∃ v11, v11 = v10.alloc (.cells #[.slice ua um uc] 26) := ⟨_, rfl⟩
  have b11 : Below v10.heap.size v10 v11 := by rw [hv11]; exact (Below.refl _ v10).alloc (Nat.le_refl _) _
  have hX := (S7.out.2.2.2.1.below g10).below b11
  have hY := hY3.below b11
  have hxn := S7.out.2.2.1
  have hxc := S7.out.2.1
  have hGn := S6.out.2.2.2
  have hx2 := L3.out.1
  obtain ⟨j, hj⟩ : ∃ j, j = xn - n6 := ⟨_, rfl⟩
  obtain ⟨k, hk⟩ : ∃ k, k = yn - n6 := ⟨_, rfl⟩
  have e1 : ans (X.drop j) = ans (Y.drop k) := by
    have q := TWO.out
    rw [← S7.out.1, ← hY1, ← hxn, ← hyn, ← hGn, ← hj, ← hk] at q
    rw [ans, ans, List.map_drop, List.map_drop]
    exact q
  obtain ⟨_, b1, o1, _, rfl, _⟩ := hX.one j (by omega)
  obtain ⟨_, b2, o2, _, rfl, _⟩ := hY.one k (by omega)
  have p1 : (xn : Int) - (n6 : Int) = (j : Int) := by omega
  have p2 : (yn : Int) - (n6 : Int) = (k : Int) := by omega
  have p3 : xn - j = n6 := by omega
  have p4 : yn - k = n6 := by omega
  have p5 : ¬ xc = j := by omega
  have p6 : ¬ yc = k := by omega
  have p7 : (j : Int) ≤ xn := by omega
  have p8 : (k : Int) ≤ yn := by omega
  have p9 : xn ≤ 200 := by omega
  have p10 : yn ≤ 200 := by omega
  have D1 := hX.drop j (by omega)
  have D2 := hY.drop k (by omega)
  rw [p3] at D1
  rw [p4] at D2
  have CE := hid (eqf_any (some ⟨b1, o1 + j * 5, none⟩) n6 (xc - j) (some ⟨b2, o2 + k * 5, none⟩) (yc - k) (X.drop j) (Y.drop k) 29 #[] v11 D1 D2 e1 (enters_of Tryz.func29 (by kernel_rfl) rfl) (fun p q wx hr hp hq => same3_any p q wx hr hp hq))
  have FIN := hid (bel3 S1.out.1 (bel3 S3.out.1 (bel3 S6.out.1 (bel3 S7.out.2.2.2.2.1 (bel3 g10 b11)))))
  clear C5 hY1 hY2 hY3 hyn hxn hxc hx2 hX hY e1 D1 D2 hj hk g10 b11 hGn TWO
  go_upto_region 8 with fail
  rw [← hv11]
  clear hv11
  go_wp2_with fail
  refine CE.out.mono ?_
  rintro _ v12 ⟨rfl, g12⟩
  have F := hid (bel3 FIN.out g12)
  clear CE FIN g12
  go_wp2
  go_ret
  exact ⟨rfl, F.out⟩

set_option maxRecDepth 100000 in
theorem lifted (os : Os) (started : os.Started) (H : Type) (enc : TypeId × Value → H) :
    ReturnsInHanded {} Tryz.checked os 8 .any (fun w args => (Rows.topScrubSpec.pre enc Tryz.prog Tryz.f8 Rows.topScrubRow.domain false w args ∧ laidMetH Tryz.prog Rows.topScrubRow.laid w) ∧ sizedMet enc Tryz.prog Tryz.f8 (OpenSpec.ofChange Rows.topScrubSpec) false w args)
      (Rows.topScrubSpec.post enc Tryz.prog Tryz.f8 false true false false) := by
  refine returnsInHanded_of_change_and (C := Tryz.checked) (X := fun w _ => laidMetH Tryz.prog Rows.topScrubRow.laid w) (fun _ _ _ hh h => h.of_heap hh) own started (by kernel_rfl) Tryz.func8
    (ChangeSpec.witness_shaped (enc := enc) (C := Tryz.checked) (os := os) (X := fun w _ => laidMetH Tryz.prog Rows.topScrubRow.laid w) false (World.laidAll Tryz.prog os Rows.topScrubRow.laid) #[.slice none 0 0, .slice none 0 0, .int .i64 0, .int .i64 0] 8 (World.laidAll_os _ _ _)
      (World.shaped_of_ZipB (by kernel_rfl) (by kernel_rfl)) (by kernel_rfl) (by kernel_rfl) (by kernel_rfl)
      (by rw [MakeChecks.laidMetH_plain _ _ _ (by kernel_rfl)]; exact laidMet_laidAll _ (by kernel_rfl) (by kernel_rfl))) ?_
  intro W base args ds gs before hval0 hW hcnd _ _hL _
  have hval : ∀ (j : Nat) t v, Tryz.f8.params[j]? = some t → args[j]? = some v → Value.okWide Tryz.prog W .any base t v := hval0
  have hW' := hW
  obtain ⟨p, q, hA0, hV, rfl, hfz, hnd⟩ := hW
  have hA : DataW.TrodAll enc Tryz.prog W 0 (fun _ => true) true Tryz.f8.params.toList args.toList ds p := hA0
  rw [Tryz.params8] at hA hval
  obtain ⟨v0, vs0, d0, ds0, p0, q0, hargs, rfl, rfl, h0, r0⟩ := trodAll_cons hA
  obtain ⟨v1, vs1, d1, ds1, p1, q1, rfl, rfl, rfl, h1, r1⟩ := trodAll_cons r0
  obtain ⟨v2, vs2, d2, ds2, p2, q2, rfl, rfl, rfl, h2, r2⟩ := trodAll_cons r1
  obtain ⟨v3, vs3, d3, ds3, p3, q3, rfl, rfl, rfl, h3, r3⟩ := trodAll_cons r2
  obtain ⟨rfl, rfl, rfl⟩ := trodAll_nil r3
  obtain rfl : args = #[v0, v1, v2, v3] := by cases args; simp_all
  obtain ⟨rfl, rfl⟩ := trodVars_none hV
  have h0k := h0
  obtain ⟨a0, n0, c0, R0, rfl, w0, f0⟩ := open_raws (hval 0 38 v0 rfl rfl) h0
  have l0 : ∀ x ∈ p0, x.block < W.heap.size := fun x hx => hW'.lt x (by simp [hx])
  have h1k := h1
  obtain ⟨a1, n1, c1, R1, rfl, w1, f1⟩ := open_raws (hval 1 38 v1 rfl rfl) h1
  have l1 : ∀ x ∈ p1, x.block < W.heap.size := fun x hx => hW'.lt x (by simp [hx])
  obtain ⟨a2, rfl, rfl, rfl, w2⟩ := open_int Tryz.underlying3 (hval 2 3 v2 rfl rfl) h2
  obtain ⟨a3, rfl, rfl, rfl, w3⟩ := open_int Tryz.underlying3 (hval 3 3 v3 rfl rfl) h3
  clear hA0 hval0
  refine (walk W (pow_of _hL) a0 n0 c0 R0 a1 n1 c1 R1 a2 a3 (And.intro w0 f0) (And.intro w1 f1) w2 w3).mono fun e W' ⟨he, bel⟩ => ?_
  subst he
  exact ⟨_, rfl, _, _, _, [], _, [], hW', trodAll_mk1 (shut_bool Tryz.underlying4 _), (trodAll_cons_mk (Below.trod laidOut (by kernel_rfl) (of_decide_eq_true (by kernel_rfl)) h0k bel l0) (trodAll_cons_mk (Below.trod laidOut (by kernel_rfl) (of_decide_eq_true (by kernel_rfl)) h1k bel l1) (trodAll_cons_mk (shut_int Tryz.underlying3 w2) (trodAll_cons_mk (shut_int Tryz.underlying3 w3) trodAll_mk0)))), rfl, bel.frame _, fun h => by cases h⟩

theorem over : Rows.topScrubRow.holds Tryz.pinned (OpenSpec.ofChange Rows.topScrubSpec) :=
  OpenClaim.holds_of_wide 8 Tryz.f8 rfl rfl rfl rfl rfl rfl rfl ⟨rfl, rfl, rfl, rfl, rfl⟩ rfl rfl rfl rfl rfl (by kernel_rfl) Tryz.func8 (by kernel_rfl)
    (of_decide_eq_true (by kernel_rfl)) (by unfold Func.isWrapper; first | (rw [if_pos (by decide +kernel)]; kernel_rfl) | (rw [if_neg (by decide +kernel)]; exact ⟨rfl, rfl⟩))
    (fun os started H enc _ => lifted os started H enc)
end Go.Proofs.YtahoagbaadnihaaGreatDoor.topScrub

namespace Go.Proofs.YtahoagbaadnihaaGreatDoor
theorem topScrub_holds : Rows.TopScrubCardSaid :=
  Claim7.holds_tied_plain_at .later [] [.data, .data, .data, .data, .pinned] true (true, "b499f7743dfc50bd312f82b71788530561c73f43cef8a9a5f4b330cad4d5a33e") false
    topScrub.over (fun _ h => by cases h) (by kernel_rfl) (fun _ h => by cases h) topScrub_row_tie rfl ⟨rfl, rfl⟩ (by kernel_rfl) rfl
    (fun f fn hf hfn => by
      obtain rfl : f = 8 := Option.some.inj ((show Tryz.prog.funcNamed "arras/arrastop.TopScrub" = some 8 by kernel_rfl).symm.trans hf) |>.symm
      obtain rfl : fn = Tryz.f8 := (Option.some.inj (Tryz.func8.symm.trans hfn)).symm
      exact ⟨by kernel_rfl, fun j t ht => by
        rw [Tryz.params8] at ht
        have hm : t ∈ [38, 38, 3, 3] := by simpa using Array.mem_of_getElem? ht
        have hall : ([38, 38, 3, 3].all fun u => !Tryz.prog.wantsStandIn u) = true := by kernel_rfl
        exact (show Tryz.prog.wantsStandIn t = false by simpa using List.all_eq_true.1 hall t hm)⟩)
    (by kernel_rfl)
#print axioms topScrub_holds
end Go.Proofs.YtahoagbaadnihaaGreatDoor
