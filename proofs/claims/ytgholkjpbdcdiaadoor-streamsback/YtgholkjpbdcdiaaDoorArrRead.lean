/- What the program's array.checkSector, readMirrors and Read answer. -/
import Derived.Test.YtgholkjpbdcdiaaDoorArrCheck
import Derived.Test.YtgholkjpbdcdiaaDoorArrDiff
import Derived.Test.YtgholkjpbdcdiaaDoorDevRead
namespace Go.Proofs.YtgholkjpbdcdiaaDoor
open Go.RowKit Go.Lib

theorem arTouch_no (A : Ar) (i : Int) (h : arMay A = false) : arTouch A i = 9 := by rw [arTouch, h]; rfl

set_option maxHeartbeats 800000 in
theorem checksector_any (a : Option Addr) (n c : Nat) (i : Int) (A : Ar) (w : World) (H : ArrAt w a n A) :
    Calls Tryd.prog 19 #[.agg #[.slice a n c], .int .i64 i] w fun e w' => e = .returned (.int .i64 (arTouch A i)) ∧ Below w.heap.size w w' := by
  obtain ⟨W, hW⟩ : ∃ W, W = w.alloc (.cells #[.slice a n c] 25) := ⟨_, rfl⟩
  have hB : Below w.heap.size w W := by rw [hW]; go_grown
  have hz : W.heap.size = w.heap.size + 1 := by rw [hW]; simp
  have c0 : W.cell? ⟨w.heap.size, 0, none⟩ = some (.slice a n c) := by rw [hW]; simp
  have hM := acheck_any a n c A W (H.below hB)
  rw [hW] at hM
  cases hm : arMay A with
  | false =>
    rw [arChk_no A hm] at hM
    rw [arTouch_no A i hm]
    have HM := hid hM
    have HP := hid (And.intro hB hW)
    clear hM hB hz c0 H hm hW
    go_enter Tryd.func19, Tryd.ntmps19
    go_wp2_with fail
    refine HM.out.mono ?_
    rintro _ w1 ⟨rfl, g1⟩
    rw [← HP.out.2] at g1
    go_wp2
    go_ret
    exact ⟨rfl, HP.out.1.trans (g1.mono HP.out.1.size)⟩
  | true =>
    rw [arChk_yes A hm] at hM
    have ha : arTouch A i = if 0 ≤ i ∧ i < many A then 0 else 6 := by rw [arTouch, if_pos hm]
    rw [ha]
    have hmm := (arMay_iff A).1 hm
    obtain ⟨rfl, b, o, h, rfl, HX⟩ := may_three H hm
    clear H
    have H := HX
    clear HX
    have HA := H.below hB
    obtain ⟨⟨t0, _⟩, _⟩ := HA.three
    have s0 : many A = (h 0).p := (HA.dv 0 (by omega)).sn.symm
    have nb : (h 0).p ≤ 64 := by rw [← s0]; exact hmm.2.2.2.1
    rw [s0]
    have HM := hid hM
    have HP := hid (And.intro hB (And.intro hW (And.intro hz (And.intro c0 (And.intro t0 HA.lt)))))
    clear hM hB hz c0 H HA hm hW t0 s0 hmm ha
    generalize (h 0).p = p at nb HP
    by_cases h1 : i < 0
    · rw [if_neg (by omega)]
      go_enter Tryd.func19, Tryd.ntmps19
      go_wp2_with fail
      refine HM.out.mono ?_
      rintro _ w1 ⟨rfl, g1⟩
      rw [← HP.out.2.1] at g1
      go_wp2
      go_ret
      exact ⟨rfl, HP.out.1.trans (g1.mono HP.out.1.size)⟩
    · by_cases h2 : (p : Int) ≤ i
      · rw [if_neg (by omega)]
        go_enter Tryd.func19, Tryd.ntmps19
        go_wp2_with fail
        refine HM.out.mono ?_
        rintro _ w1 ⟨rfl, g1⟩
        rw [← HP.out.2.1] at g1
        have d0 := (g1.cell (p := ⟨w.heap.size, 0, none⟩) (by show w.heap.size < W.heap.size; rw [HP.out.2.2.1]; omega)).trans HP.out.2.2.2.1
        have d1 := (g1.cell (p := ⟨b, o, none⟩) HP.out.2.2.2.2.2).trans HP.out.2.2.2.2.1
        have HG := hid g1
        clear g1
        go_wp2
        go_ret
        exact ⟨rfl, HP.out.1.trans (HG.out.mono HP.out.1.size)⟩
      · rw [if_pos (by omega)]
        have h3 : i < (p : Int) := by omega
        go_enter Tryd.func19, Tryd.ntmps19
        go_wp2_with fail
        refine HM.out.mono ?_
        rintro _ w1 ⟨rfl, g1⟩
        rw [← HP.out.2.1] at g1
        have d0 := (g1.cell (p := ⟨w.heap.size, 0, none⟩) (by show w.heap.size < W.heap.size; rw [HP.out.2.2.1]; omega)).trans HP.out.2.2.2.1
        have d1 := (g1.cell (p := ⟨b, o, none⟩) HP.out.2.2.2.2.2).trans HP.out.2.2.2.2.1
        have HG := hid g1
        clear g1
        go_wp2
        go_ret
        exact ⟨rfl, HP.out.1.trans (HG.out.mono HP.out.1.size)⟩

set_option maxHeartbeats 400000 in
theorem readmirrors_any (b o c : Nat) (h : Nat → Hd) (A : Ar) (n : Nat) (w : World) (H : Arr w b o 3 h A) :
    Calls Tryd.prog 20 #[.agg #[.slice (some ⟨b, o, none⟩) 3 c], .int .i64 n] w fun e w' => e = .returned (.tuple #[.string (str (mirr A n).1), .int .i64 (mirr A n).2]) ∧ Below w.heap.size w w' := by
  obtain ⟨W, hW⟩ : ∃ W, W = w.alloc (.cells #[.slice (some ⟨b, o, none⟩) 3 c] 25) := ⟨_, rfl⟩
  have hB : Below w.heap.size w W := by rw [hW]; go_grown
  have hz : W.heap.size = w.heap.size + 1 := by rw [hW]; simp
  have c0 : W.cell? ⟨w.heap.size, 0, none⟩ = some (.slice (some ⟨b, o, none⟩) 3 c) := by rw [hW]; simp
  have HA := H.below hB
  have h1 := read_any (h 0).x (h 0).p (h 0).c (h 0).y (h 0).q (h 0).d n n (dev A 0) W (HA.dv 0 (by omega))
  have h2 := fun wx (g : Below W.heap.size W wx) => read_any (h 1).x (h 1).p (h 1).c (h 1).y (h 1).q (h 1).d n n (dev A 1) wx ((HA.below g).dv 1 (by omega))
  obtain ⟨⟨t0, t1⟩, ⟨t2, t3⟩, _, _⟩ := HA.three
  unfold mirr
  generalize dvRead (dev A 0) n n = r0 at h1
  generalize dvRead (dev A 1) n n = r1 at h2
  have HP := hid (And.intro hB (And.intro hz (And.intro c0 (And.intro t2 (And.intro t3 HA.lt)))))
  rw [hW] at h1 t0 t1
  have H1 := hid h1
  have H2 := hid h2
  have HE := hid hW
  clear h1 h2 hW hB hz c0 t2 t3 HA H
  by_cases e0 : r0.2 = 0
  · rw [if_pos e0]
    have e0' : (r0.2 == 0) = true := beq_iff_eq.2 e0
    go_enter Tryd.func20, Tryd.ntmps20
    go_wp2_with fail
    refine H1.out.mono ?_
    rintro _ w1 ⟨rfl, g1⟩
    rw [← HE.out] at g1
    go_wp2
    go_ret2
    exact ⟨rfl, HP.out.1.trans (g1.mono HP.out.1.size)⟩
  · rw [if_neg e0]
    have e0' : (r0.2 == 0) = false := beq_eq_false_iff_ne.2 e0
    by_cases e1 : r1.2 = 0
    · rw [if_pos e1]
      have e1' : (r1.2 == 0) = true := beq_iff_eq.2 e1
      clear e0 e1
      go_enter Tryd.func20, Tryd.ntmps20
      go_wp2_with fail
      refine H1.out.mono ?_
      rintro _ w1 ⟨rfl, g1⟩
      rw [← HE.out] at g1
      have c0 := (g1.cell (p := ⟨w.heap.size, 0, none⟩) (by show w.heap.size < W.heap.size; rw [HP.out.2.1]; omega)).trans HP.out.2.2.1
      have c2 := (g1.cell (p := ⟨b, o + 2, none⟩) HP.out.2.2.2.2.2).trans HP.out.2.2.2.1
      have c3 := (g1.cell (p := ⟨b, o + 3, none⟩) HP.out.2.2.2.2.2).trans HP.out.2.2.2.2.1
      have G1 := hid g1
      clear g1 t0 t1
      go_wp2_with fail
      refine (H2.out _ G1.out).mono ?_
      rintro _ w2 ⟨rfl, g2⟩
      go_wp2
      go_ret2
      exact ⟨rfl, HP.out.1.trans ((G1.out.trans (g2.mono G1.out.size)).mono HP.out.1.size)⟩
    · rw [if_neg e1]
      have e1' : (r1.2 == 0) = false := beq_eq_false_iff_ne.2 e1
      clear e0 e1
      go_enter Tryd.func20, Tryd.ntmps20
      go_wp2_with fail
      refine H1.out.mono ?_
      rintro _ w1 ⟨rfl, g1⟩
      rw [← HE.out] at g1
      have c0 := (g1.cell (p := ⟨w.heap.size, 0, none⟩) (by show w.heap.size < W.heap.size; rw [HP.out.2.1]; omega)).trans HP.out.2.2.1
      have c2 := (g1.cell (p := ⟨b, o + 2, none⟩) HP.out.2.2.2.2.2).trans HP.out.2.2.2.1
      have c3 := (g1.cell (p := ⟨b, o + 3, none⟩) HP.out.2.2.2.2.2).trans HP.out.2.2.2.2.1
      have G1 := hid g1
      clear g1 t0 t1
      go_wp2_with fail
      refine (H2.out _ G1.out).mono ?_
      rintro _ w2 ⟨rfl, g2⟩
      go_wp2
      go_ret2
      exact ⟨rfl, HP.out.1.trans ((G1.out.trans (g2.mono G1.out.size)).mono HP.out.1.size)⟩

set_option maxHeartbeats 1600000 in
set_option maxRecDepth 4000 in
theorem aread_any (a : Option Addr) (n c : Nat) (i : Int) (A : Ar) (w : World) (H : ArrAt w a n A) :
    Calls Tryd.prog 9 #[.agg #[.slice a n c], .int .i64 i] w fun e w' => e = .returned (.tuple #[.string (str (arRead A i).1), .int .i64 (arRead A i).2.1, .int .i64 (arRead A i).2.2]) ∧ Below w.heap.size w w' := by
  obtain ⟨W, hW⟩ : ∃ W, W = w.alloc (.cells #[.slice a n c] 25) := ⟨_, rfl⟩
  have hB : Below w.heap.size w W := by rw [hW]; go_grown
  have hz : W.heap.size = w.heap.size + 1 := by rw [hW]; simp
  have c0 : W.cell? ⟨w.heap.size, 0, none⟩ = some (.slice a n c) := by rw [hW]; simp
  have hT := checksector_any a n c i A W (H.below hB)
  rw [hW] at hT
  by_cases ht : arTouch A i = 0
  · obtain ⟨hm, h0, h1⟩ := arTouch_ok A i ht
    have hmm := (arMay_iff A).1 hm
    obtain ⟨k, rfl⟩ : ∃ k : Nat, i = k := ⟨i.toNat, by omega⟩
    have hto : (k : Int).toNat = k := by omega
    rw [arRead, if_pos ht, hto]
    rw [ht] at hT
    obtain ⟨rfl, b, o, h, rfl, HX⟩ := may_three H hm
    clear H
    have H := HX
    clear HX
    have HT := hid hT
    have HP := hid (And.intro hB (And.intro hW (And.intro hz (And.intro c0 (H.below hB)))))
    have hk64 : k ≤ 64 := by omega
    have C1 := hid (fun wx (g : Below W.heap.size W wx) => readmirrors_any b o c h A k wx ((H.below hB).below g))
    clear hT hB hz c0 H hm hW ht h0 h1 hto hmm
    unfold tell
    by_cases e1 : 0 < (mirr A k).2
    · rw [if_pos e1]
      generalize mirr A k = r at C1 e1
      have e1' : (r.2 != 0) = true := by rw [bne_iff_ne]; omega
      go_enter Tryd.func9, Tryd.ntmps9
      go_wp2_with fail
      refine HT.out.mono ?_
      rintro _ w1 ⟨rfl, g1⟩
      rw [← HP.out.2.1] at g1
      have d0 := (g1.cell (p := ⟨w.heap.size, 0, none⟩) (by show w.heap.size < W.heap.size; rw [HP.out.2.2.1]; omega)).trans HP.out.2.2.2.1
      have G1 := hid g1
      clear g1
      go_wp2_with fail
      refine (C1.out _ G1.out).mono ?_
      rintro _ w2 ⟨rfl, g2⟩
      go_wp2
      go_ret3
      exact ⟨rfl, HP.out.1.trans ((G1.out.trans (g2.mono G1.out.size)).mono HP.out.1.size)⟩
    · rw [if_neg e1]
      have e1' : (mirr A k).2 = 0 := by rcases mirr_bd A k with h | h; exact h; exact absurd h e1
      have e1'' : ((mirr A k).2 != 0) = false := by rw [bne_eq_false_iff_eq]; exact e1'
      have C0 := hid (fun wx => apartner_any k wx (by omega))
      have CP := hid (fun wx => paritynumber_any k wx (by omega))
      have C2 := hid (fun wx (g : Below W.heap.size W wx) => readmirrors_any b o c h A (part k) wx (HP.out.2.2.2.2.below g))
      have C3 := hid (fun wx (g : Below W.heap.size W wx) => read_any (h 2).x (h 2).p (h 2).c (h 2).y (h 2).q (h 2).d ((k / 2 : Nat) : Int) ((512 + k / 2 : Nat) : Int) (dev A 2) wx ((HP.out.2.2.2.2.below g).dv 2 (by omega)))
      have hb := mirr_bd A (part k)
      have hl := mirr_len A (part k)
      have hp : (pari A k).2 = 0 → (pari A k).1.length = 24 := dvRead_len _ _ _
      change Hid (∀ wx, Below W.heap.size W wx → Calls Tryd.prog _ _ wx fun e w' => e = .returned (.tuple #[.string (str (pari A k).1), .int .i64 (pari A k).2]) ∧ Below wx.heap.size wx w') at C3
      generalize mirr A k = r0 at C1 e1 e1' e1''
      generalize mirr A (part k) = r1 at C2 hb hl
      generalize pari A k = r2 at C3 hp
      have u1 : IntKind.i64.wrap ((k : Int) / 2) = ((k / 2 : Nat) : Int) := by rw [IntWalk.i64_in _ (by omega)]; omega
      have HL := hid (And.intro hb (And.intro hl hp))
      generalize hF : (if r1.2 = 0 ∨ r2.2 ≠ 0 then (([], 0, 11) : List UInt8 × Int × Int) else (xors r2.1 r1.1, 3, 0)) = F
      have HF := hid hF
      clear hF
      clear e1 hb hl hp
      generalize ((512 + k / 2 : Nat) : Int) = R at C3 CP
      generalize ((k / 2 : Nat) : Int) = Q at C3 u1
      go_enter Tryd.func9, Tryd.ntmps9
      go_wp2_with fail
      refine HT.out.mono ?_
      rintro _ w1 ⟨rfl, g1⟩
      rw [← HP.out.2.1] at g1
      have d0 := (g1.cell (p := ⟨w.heap.size, 0, none⟩) (by show w.heap.size < W.heap.size; rw [HP.out.2.2.1]; omega)).trans HP.out.2.2.2.1
      have G1 := hid g1
      clear g1 HT
      go_wp2_with fail
      refine (C1.out _ G1.out).mono ?_
      rintro _ w2 ⟨rfl, g2⟩
      have G2 := hid (G1.out.trans (g2.mono G1.out.size))
      clear g2 G1 C1 d0
      have d0 := (G2.out.cell (p := ⟨w.heap.size, 0, none⟩) (by show w.heap.size < W.heap.size; rw [HP.out.2.2.1]; omega)).trans HP.out.2.2.2.1
      obtain ⟨_, _, t4, t5⟩ := (HP.out.2.2.2.2.below G2.out).three
      go_upto_region 7 with fail
      go_cut [10, 11] (fun s10 s11 wx => s10 = .string (str r2.1) ∧ s11 = .int .i64 r2.2 ∧ Below W.heap.size W wx)
      case first =>
        go_region_held3 (fun w' => w'.cell? ⟨w.heap.size, 0, none⟩ = some (.slice (some ⟨b, o, none⟩) 3 c) ∧ w'.cell? ⟨b, o + 4, none⟩ = some (.slice (h 2).x (h 2).p (h 2).c) ∧ w'.cell? ⟨b, o + 5, none⟩ = some (.slice (h 2).y (h 2).q (h 2).d)) (go_keep)
          (first | (go_at_call 22; refine (CP.out _).mono ?_; rintro _ w9 ⟨rfl, h9⟩; (have h8 := h9.symm); subst h8) | (go_at_call 21; refine (C3.out _ G2.out.drew).mono ?_; rintro _ w9 ⟨rfl, g9⟩; (have G9 := hid (G2.out.drew.trans (g9.mono G2.out.drew.size))); (have j0 := (G9.out.cell (p := ⟨w.heap.size, 0, none⟩) (by show w.heap.size < W.heap.size; rw [HP.out.2.2.1]; omega)).trans HP.out.2.2.2.1); (have j4 := (HP.out.2.2.2.2.below G9.out).three.2.2.1); (have j5 := (HP.out.2.2.2.2.below G9.out).three.2.2.2); clear g9))
        all_goals (go_wp2_with fail; go_meet)
        all_goals exact ⟨rfl, rfl, G9.out⟩
      case rest =>
        obtain ⟨rfl, rfl, hB⟩ := hcut
        have G3 := hid hB
        clear hB G2 d0 t4 t5 C3 CP u1
        by_cases f2 : r2.2 = 0
        · have f2' : (r2.2 != 0) = false := bne_eq_false_iff_eq.2 f2
          have F2 := hid f2
          clear f2
          have d0 := (G3.out.cell (p := ⟨w.heap.size, 0, none⟩) (by show w.heap.size < W.heap.size; rw [HP.out.2.2.1]; omega)).trans HP.out.2.2.2.1
          go_upto_region 10 with fail
          go_cut [12, 13] (fun s12 s13 wx => s12 = .string (str r1.1) ∧ s13 = .int .i64 r1.2 ∧ Below W.heap.size W wx)
          case first =>
            go_region_held3 (fun w' => w'.cell? ⟨w.heap.size, 0, none⟩ = some (.slice (some ⟨b, o, none⟩) 3 c)) (go_keep)
              (first | (go_at_call 23; refine (C0.out _).mono ?_; rintro _ w9 ⟨rfl, h9⟩; (have h8 := h9.symm); subst h8) | (go_at_call 20; refine (C2.out _ G3.out.drew).mono ?_; rintro _ w9 ⟨rfl, g9⟩; (have G9 := hid (G3.out.drew.trans (g9.mono G3.out.drew.size))); (have j0 := (G9.out.cell (p := ⟨w.heap.size, 0, none⟩) (by show w.heap.size < W.heap.size; rw [HP.out.2.2.1]; omega)).trans HP.out.2.2.2.1); clear g9))
            all_goals (go_wp2_with fail; go_meet)
            all_goals exact ⟨rfl, rfl, G9.out⟩
          case rest =>
            obtain ⟨rfl, rfl, hB⟩ := hcut
            have G4 := hid hB
            clear hB G3 d0 C0 C2
            by_cases f1 : r1.2 = 0
            · have f1' : (r1.2 == 0) = true := beq_iff_eq.2 f1
              have HG : Hid (F = ([], 0, 11)) := by show _ = _; rw [← HF.out, if_pos (.inl f1)]
              clear f1
              go_wp2
              go_ret3
              exact ⟨by rw [HG.out]; rfl, HP.out.1.trans (G4.out.mono HP.out.1.size)⟩
            · have f1' : (r1.2 == 0) = false := beq_eq_false_iff_ne.2 f1
              have HG : Hid (F = (xors r2.1 r1.1, 3, 0)) := by show _ = _; rw [← HF.out, if_neg (by rintro (h | h); exact f1 h; exact h F2.out)]
              have l1 := HL.out.2.1 f1
              have l2 := HL.out.2.2 F2.out
              have CO := hid (fun wx => difference_any (str r2.1) (str r1.1) wx (by rw [str_size, l2]; omega) (by rw [str_size, str_size, l1, l2]; exact Nat.le_refl _))
              rw [str_list, str_list, diffs_same _ _ (by rw [l1, l2])] at CO
              clear f1 l1 l2
              go_wp2_with fail
              refine (CO.out _).mono ?_
              rintro _ w5 ⟨rfl, g5⟩
              go_wp2
              go_ret3
              exact ⟨by rw [HG.out]; rfl, HP.out.1.trans ((G4.out.trans (g5.mono G4.out.size)).mono HP.out.1.size)⟩
        · have f2' : (r2.2 != 0) = true := bne_iff_ne.2 f2
          have HG : Hid (F = ([], 0, 11)) := by show _ = _; rw [← HF.out, if_pos (.inr f2)]
          clear f2
          go_wp2
          go_ret3
          exact ⟨by rw [HG.out]; rfl, HP.out.1.trans (G3.out.mono HP.out.1.size)⟩
  · rw [arRead, if_neg ht]
    have HT := hid hT
    have HP := hid (And.intro hB hW)
    clear hT hB hz c0 H hW
    generalize arTouch A i = t at HT ht
    have ht' : (t != 0) = true := bne_iff_ne.2 ht
    clear ht
    go_enter Tryd.func9, Tryd.ntmps9
    go_wp2_with fail
    refine HT.out.mono ?_
    rintro _ w1 ⟨rfl, g1⟩
    rw [← HP.out.2] at g1
    go_wp2
    go_ret3
    exact ⟨rfl, HP.out.1.trans (g1.mono HP.out.1.size)⟩
end Go.Proofs.YtgholkjpbdcdiaaDoor
