/- Files added to an archive: what the program's archive.Add answers. -/
import Derived.Test.YtkhjmfngeidlcaaGreatDoorArcStore
import Derived.Test.YtkhjmfngeidlcaaGreatDoorArcAX
import Derived.Test.YtkhjmfngeidlcaaGreatDoorArcTT
import Derived.Test.YtkhjmfngeidlcaaGreatDoorFilB
import Derived.Test.YtkhjmfngeidlcaaGreatDoorPressP
namespace Go.Proofs.YtkhjmfngeidlcaaGreatDoor
open Go.RowKit Go.Lib

theorem ext_one (C : Ct) (F : List Fi) (hc : catChk C = 0) (hf : filChk F = 0) (ht : takN C F F.length = false) (E' : List En) (hp : E'.Perm (C.2 ++ entsN F C.1.length F.length)) (hs : E'.Pairwise fun x y => lss y.s x.s = false) : E' = insAll C.2 (entsN F C.1.length F.length) := by
  obtain ⟨_, _, _, f4⟩ := chk_files F hf
  exact srt_one E' _ (hp.trans (insAll_perm _ _).symm) (ins_ents C F (chk_srt C hc) ht (fun k hk => (f4 k hk).2.2) F.length (Nat.le_refl _)) hs
theorem full_eq (A : Ar) (C : Ct) (F : List Fi) : fullB A (C.2.length + F.length) (C.1.length + 1) (atC C) (pk F).length = fullA A C F := by
  unfold fullB fullA
  congr 1
  rw [eq_iff_iff]
  omega
theorem atC_le (C : Ct) (hc : catChk C = 0) : atC C ≤ 64 := by
  obtain ⟨_, _, h3, _⟩ := chk_ok C hc
  exact (blk_at C.1 _ h3).2

set_option maxHeartbeats 3200000 in
set_option maxRecDepth 4000 in
theorem aadd_any (a : Option Addr) (n c : Nat) (A : Ar) (b : Option Addr) (k d : Nat) (F : List Fi) (w : World) (H : ArrAt w a n A) (HF : FilAt w b k F) (hd : k ≤ d) :
    Calls Tryz.prog 5 #[.agg #[.slice a n c], .slice b k d] w (OutA w (addA A F)) := by
  have hsn := HF.sn
  subst hsn
  obtain ⟨W, hW⟩ : ∃ W, W = (w.alloc (.cells #[.slice a n c] 24)).alloc (.cells #[.slice none 0 0] 24) := ⟨_, rfl⟩
  have hB : Below w.heap.size w W := by rw [hW]; go_grown
  have k1 : Own W w.heap.size 24 [.slice a n c] := by rw [hW]; exact (Own.made w 24 [.slice a n c]).alloc _
  have k2 : Own W (w.heap.size + 1) 24 [.slice none 0 0] := by
    have := Own.made (w.alloc (.cells #[.slice a n c] 24)) 24 [.slice none 0 0]
    rw [show (w.alloc (.cells #[.slice a n c] 24)).heap.size = w.heap.size + 1 by simp] at this
    rw [hW]; exact this
  have CA := aopen_any a n c A W (H.below hB)
  rw [hW] at CA
  have HB := hid (And.intro hB (And.intro k1 (And.intro k2 (And.intro (H.below hB) (HF.below hB)))))
  have HE := hid hW
  have hlt : w.heap.size + 1 < W.heap.size := k2.lt
  -- an error's answer
  have HN := hid (fun (T : Int) (wx : World) (g : Below W.heap.size W wx) => show OutA w ([], T) (.returned (.tuple #[.agg #[.slice none 0 0], .int .i64 T])) (wx.setCell ⟨w.heap.size + 1, 0, none⟩ (.slice none 0 0)) from outA_none ((bel3 hB g).setCell (by show w.heap.size ≤ w.heap.size + 1; omega) _))
  have HR := hid (fun (wx : World) (g : Below W.heap.size W wx) => And.intro ((k2.below' g).cell (i := 0) rfl) (And.intro ((k2.below' g).free 0) (World.cell?_setCell_same wx ⟨w.heap.size + 1, 0, none⟩ (.slice none 0 0) ((k2.below' g).cell (i := 0) rfl))))
  unfold addA
  have HC := opn_chk A
  obtain ⟨R, hR⟩ : ∃ R, opn A = R := ⟨_, rfl⟩
  rw [hR] at CA HC ⊢
  obtain ⟨C, T⟩ := R
  dsimp only at CA HC ⊢
  have H1 := hid CA
  clear CA hR hB hW H HF k1 k2
  by_cases e : T = 0
  · rw [if_pos e]
    subst e
    obtain ⟨hc, hm, h16⟩ := HC rfl
    clear HC
    have e0 : ((0 : Int) != 0) = false := rfl
    unfold addC
    obtain ⟨O, hO⟩ : ∃ O : Ar × Int, O = if filChk F = 0 then (if takN C F F.length = true then ([], 7) else if fullA A C F = true then ([], 8) else (outA A C F, 0)) else ([], filChk F) := ⟨_, rfl⟩
    rw [← hO]
    have HO := hid hO
    clear hO
    go_enter Tryz.func5, Tryz.ntmps5
    go_wp2_with fail
    refine H1.out.mono ?_
    rintro _ w1 ⟨x, n1, d1, x', m, d', rfl, hX, g1⟩
    rw [← HE.out] at g1
    have hn1 : n1 = C.1.length := hX.B.sn
    have hm1 : m = C.2.length := hX.E.sn
    subst hn1 hm1
    dsimp only at hX
    obtain ⟨W2, hW2⟩ : ∃ W2, W2 = w1.alloc (.cells #[.slice x C.1.length d1, .slice x' C.2.length d'] 40) := ⟨_, rfl⟩
    have b2 : Below w1.heap.size w1 W2 := by rw [hW2]; go_grown
    have hz2 : W.heap.size ≤ w1.heap.size := g1.size
    have k3 : Own W2 w1.heap.size 40 [.slice x C.1.length d1, .slice x' C.2.length d'] := by rw [hW2]; exact Own.made w1 _ _
    have G2 := hid (And.intro (g1.trans (b2.mono g1.size)) (And.intro k3 (hX.below b2)))
    clear g1 hX b2 k3 H1
    go_upto_region 2 with fail
    rw [← hW2]
    clear hW2
    generalize w1.heap.size = p2 at G2 hz2 ⊢
    have CF := hid (checkfiles_any b F.length d F W2 (HB.out.2.2.2.2.below G2.out.1) hd)
    go_wp2_with fail
    refine CF.out.mono ?_
    rintro _ w3 ⟨rfl, g3⟩
    have G3 := hid (And.intro (G2.out.1.trans (g3.mono G2.out.1.size)) (And.intro (G2.out.2.1.below' g3) (G2.out.2.2.below g3)))
    clear g3 G2 CF
    by_cases f : filChk F = 0
    · have f0 : (filChk F != 0) = false := by rw [bne_eq_false_iff_eq]; exact f
      have HF0 := hid (chk_files F f)
      have hf := hid f
      have c0 := G3.out.2.1.cell (i := 0) rfl
      have c1 := G3.out.2.1.cell (i := 1) rfl
      have CT := hid (taken_any x C.1.length d1 x' C.2.length d' C b F.length d F w3 G3.out.2.2 (HB.out.2.2.2.2.below G3.out.1) hc)
      clear f
      go_wp2_with fail
      refine CT.out.mono ?_
      rintro _ w4 ⟨rfl, g4⟩
      have G4 := hid (And.intro (G3.out.1.trans (g4.mono G3.out.1.size)) (And.intro (G3.out.2.1.below' g4) (G3.out.2.2.below g4)))
      clear g4 G3 CT c0 c1
      cases ht : takN C F F.length with
      | true =>
        have E := hid (show O = ([], 7) by rw [HO.out, if_pos hf.out, if_pos ht])
        obtain ⟨r0, r1, y0⟩ := HR.out w4 G4.out.1
        have FIN := hid (HN.out 7 w4 G4.out.1)
        clear G4 ht f0
        go_wp2
        refine bodyPost_ret (v := .tuple #[.agg #[.slice none 0 0], .int .i64 7]) (by simp [results, Tryz.results5, go_sem, y0]) rfl ?_
        rw [E.out]
        exact FIN.out
      | false =>
        have HT := hid ht
        clear ht f0
        have c0 := G4.out.2.1.cell (i := 0) rfl
        have CG := hid (together_any b F.length d F C.1.length w4 (HB.out.2.2.2.2.below G4.out.1) hd hf.out)
        go_wp2_with fail
        refine CG.out.mono ?_
        rintro _ w5 ⟨ao, m5, cap5, rfl, hE, g5⟩
        have G5 := hid (And.intro (G4.out.1.trans (g5.mono G4.out.1.size)) (And.intro (G4.out.2.1.below' g5) (And.intro (G4.out.2.2.below g5) hE)))
        clear g5 G4 CG c0 hE
        have CP := hid (pack_any (str (datN F F.length)) w5 (by rw [str_size, datN_len]; exact HF0.out.2.2.1))
        rw [str_list] at CP
        change Hid (Calls Tryz.prog _ _ w5 fun e w' => e = .returned (.tuple #[.string (str (pk F)), .int .i64 0]) ∧ Below w5.heap.size w5 w') at CP
        generalize str (datN F F.length) = Y at CP ⊢
        go_wp2_with fail
        refine CP.out.mono ?_
        rintro _ w6 ⟨rfl, g6⟩
        have G6 := hid (And.intro (G5.out.1.trans (g6.mono G5.out.1.size)) (And.intro (G5.out.2.1.below' g6) (And.intro (G5.out.2.2.1.below g6) (G5.out.2.2.2.below g6))))
        clear g6 G5 CP
        have hz : (str (pk F)).size = (pk F).length := str_size _
        have HZ := hid (show (str (pk F)).data.toList = pk F from str_list _)
        have hm5 : m5 = F.length := by rw [G6.out.2.2.2.sn, entsN_len]
        have CX := hid (extended_any x C.1.length d1 x' C.2.length d' C (pk F).length ao m5 cap5 (entsN F C.1.length F.length) w6 G6.out.2.2.1 G6.out.2.2.2 hc (by have := HF0.out.1; omega) (by have := HF0.out.1; omega))
        have c0 := G6.out.2.1.cell (i := 0) rfl
        have c1 := G6.out.2.1.cell (i := 1) rfl
        have f0 := G6.out.2.1.free 0
        have f1 := G6.out.2.1.free 1
        obtain ⟨Z, hZZ⟩ : ∃ Z, str (pk F) = Z := ⟨_, rfl⟩
        rw [hZZ] at hz HZ ⊢
        clear hZZ hm5
        go_wp2_with fail
        refine CX.out.mono ?_
        rintro _ w7 ⟨x7, n7, d7, y7, m7, e7, E', rfl, hK, ⟨p1, p2'⟩, g7⟩
        have hn7 : n7 = C.1.length + 1 := by rw [hK.B.sn]; simp
        have hE' := ext_one C F hc hf.out HT.out E' p1 p2'
        have hm7 : m7 = C.2.length + F.length := by rw [hK.E.sn]; show E'.length = _; rw [hE', insAll_len, entsN_len]
        subst hn7 hm7
        have k7 := G6.out.2.1.below' g7
        obtain ⟨W8, hW8⟩ : ∃ W8, W8 = (w7.setCell ⟨p2, 0, none⟩ (.slice x7 (C.1.length + 1) d7)).setCell ⟨p2, 1, none⟩ (.slice y7 (C.2.length + F.length) e7) := ⟨_, rfl⟩
        have q0 := k7.cell (i := 0) rfl
        have q1 := k7.cell (i := 1) rfl
        have q2 := k7.free 0
        have q3 := k7.free 1
        have k8 : Own W8 p2 40 [.slice x7 (C.1.length + 1) d7, .slice y7 (C.2.length + F.length) e7] := by rw [hW8]; exact (k7.set (i := 0) (by simp) _).set (i := 1) (by simp) _
        have kC : CatAt W8 x7 (C.1.length + 1) d7 y7 (C.2.length + F.length) (C.1 ++ [⟨atC C, (pk F).length⟩], E') := by rw [hW8]; exact (hK.slices q0 _).slices ((k7.set (i := 0) (by simp) (.slice x7 (C.1.length + 1) d7)).cell (i := 1) rfl) _
        have kB : Below W.heap.size W W8 := by rw [hW8]; exact ((G6.out.1.trans (g7.mono G6.out.1.size)).setCell (p := ⟨p2, 0, none⟩) (by show W.heap.size ≤ p2; exact hz2) _).setCell (p := ⟨p2, 1, none⟩) (by show W.heap.size ≤ p2; exact hz2) _
        have G8 := hid (And.intro kB (And.intro k8 kC))
        have a0 := (HB.out.2.1.below' kB).cell (i := 0) rfl
        have b0 := k8.cell (i := 0) rfl
        have b1 := k8.cell (i := 1) rfl
        have CL := hid (full_any a n c A x7 d7 y7 (C.2.length + F.length) e7 C.1 E' (atC C) (pk F).length W8 (HB.out.2.2.2.1.below kB) hm kC (by have := atC_le C hc; omega) (by have := pk_len F HF0.out.2.2.1; omega) (by have := (chk_ok C hc).1; omega) (by have := (chk_ok C hc).2.1; have := HF0.out.1; omega))
        rw [full_eq] at CL
        have HE' := hid hE'
        clear g7 hK p1 p2' k7 k8 kC kB CX c0 c1 f0 f1 hE' G6
        go_upto_region 12 with fail
        rw [← hW8]
        clear hW8 q0 q1 q2 q3
        go_wp2_with fail
        refine CL.out.mono ?_
        rintro _ w9 ⟨rfl, g9⟩
        have G9 := hid (And.intro (G8.out.1.trans (g9.mono G8.out.1.size)) (And.intro (G8.out.2.1.below' g9) (G8.out.2.2.below g9)))
        clear g9 G8 CL a0 b0 b1
        cases hu : fullA A C F with
        | true =>
          have E := hid (show O = ([], 8) by rw [HO.out, if_pos hf.out, if_neg (by rw [HT.out]; decide), if_pos hu])
          obtain ⟨r0, r1, y0⟩ := HR.out w9 G9.out.1
          have FIN := hid (HN.out 8 w9 G9.out.1)
          clear G9 hu
          go_wp2
          refine bodyPost_ret (v := .tuple #[.agg #[.slice none 0 0], .int .i64 8]) (by simp [results, Tryz.results5, go_sem, y0]) rfl ?_
          rw [E.out]
          exact FIN.out
        | false =>
          have E := hid (show O = (outA A C F, 0) by rw [HO.out, if_pos hf.out, if_neg (by rw [HT.out]; decide), if_neg (by rw [hu]; decide)])
          obtain ⟨z1, z2, z3, _, _⟩ := outA_ok A C F hm h16 hc hf.out HT.out hu
          have HCA : catA C F = (C.1 ++ [⟨atC C, (pk F).length⟩], E') := by rw [HE'.out]; rfl
          unfold outA at E
          rw [HCA] at z2 z3 E
          have CS := store_any a n c A x7 d7 y7 (C.2.length + F.length) e7 C.1 E' (atC C) (pk F).length Z w9 (HB.out.2.2.2.1.below G9.out.1) G9.out.2.2 (by have := (chk_ok C hc).1; omega) (by rw [HZ.out]; exact z1) z2 (by rw [HZ.out]; exact z3)
          rw [HZ.out, ← E.out] at CS
          have C2 := hid CS
          have hO0 := hid (show O.2 = 0 by rw [E.out])
          have a0 := (HB.out.2.1.below' G9.out.1).cell (i := 0) rfl
          have b0 := G9.out.2.1.cell (i := 0) rfl
          have b1 := G9.out.2.1.cell (i := 1) rfl
          have r0 := (HB.out.2.2.1.below' G9.out.1).cell (i := 0) rfl
          have hlt9 : w.heap.size + 1 < w9.heap.size := Nat.lt_of_lt_of_le hlt G9.out.1.size
          have HBX := hid (fun (w10 : World) (x8 : Option Addr) (n8 c8 : Nat) hX (g8 : Below w9.heap.size w9 w10) => outA_box (w := w) (W := w9) (w2 := w10) (p := w.heap.size + 1) (r := O) (x := x8) (n := n8) (c := c8) (bel3 HB.out.1 G9.out.1) (by omega) hlt9 r0 hX g8)
          have HR9 := hid (fun (w10 : World) (v : Value) (g8 : Below w9.heap.size w9 w10) => And.intro ((HB.out.2.2.1.below' (G9.out.1.trans (g8.mono G9.out.1.size))).cell (i := 0) rfl) (And.intro ((HB.out.2.2.1.below' (G9.out.1.trans (g8.mono G9.out.1.size))).free 0) (World.cell?_setCell_same w10 ⟨w.heap.size + 1, 0, none⟩ v ((HB.out.2.2.1.below' (G9.out.1.trans (g8.mono G9.out.1.size))).cell (i := 0) rfl))))
          clear hu z1 z2 z3 HCA CS G9 r0
          go_wp2_with fail
          refine C2.out.mono ?_
          rintro _ w10 ⟨⟨x8, n8, c8, rfl, hX8⟩, g8⟩
          obtain ⟨r0, r1, y0⟩ := HR9.out w10 (.slice x8 n8 c8) g8
          have FIN := hid (HBX.out w10 x8 n8 c8 hX8 g8)
          rw [hO0.out] at FIN
          rw [hO0.out]
          clear hX8 g8 C2 a0 b0 b1
          go_wp2
          refine bodyPost_ret (v := .tuple #[.agg #[.slice x8 n8 c8], .int .i64 0]) (by simp [results, Tryz.results5, go_sem, y0]) rfl ?_
          exact FIN.out
    · have f0 : (filChk F != 0) = true := by rw [bne_iff_ne]; exact f
      have E := hid (show O = ([], filChk F) by rw [HO.out, if_neg f])
      clear f
      generalize filChk F = V at *
      obtain ⟨r0, r1, y0⟩ := HR.out w3 G3.out.1
      have FIN := hid (HN.out V w3 G3.out.1)
      clear G3
      go_wp2
      refine bodyPost_ret (v := .tuple #[.agg #[.slice none 0 0], .int .i64 V]) (by simp [results, Tryz.results5, go_sem, y0]) rfl ?_
      rw [E.out]
      exact FIN.out
  · rw [if_neg e]
    have e0 : (T != 0) = true := by rw [bne_iff_ne]; exact e
    clear e HC
    go_enter Tryz.func5, Tryz.ntmps5
    go_wp2_with fail
    refine H1.out.mono ?_
    rintro _ w1 ⟨x, n1, d1, x', m, d', rfl, hX, g1⟩
    rw [← HE.out] at g1
    have g2 := g1.alloc g1.size (.cells #[.slice x n1 d1, .slice x' m d'] 40)
    obtain ⟨r0, r1, y0⟩ := HR.out _ g2
    have FIN := hid (HN.out T _ g2)
    clear hX g1 g2 H1
    go_wp2
    refine bodyPost_ret (v := .tuple #[.agg #[.slice none 0 0], .int .i64 T]) (by simp [results, Tryz.results5, go_sem, y0]) rfl ?_
    exact FIN.out
end Go.Proofs.YtkhjmfngeidlcaaGreatDoor
