/- What the program's heal.Bad answers. -/
import Derived.Test.YtpnmidkocmokeaaGreatDoorHealDiff
namespace Go.Proofs.YtpnmidkocmokeaaGreatDoor
open Go.RowKit Go.Lib

/-- A mirror that can't tell a sector. -/
def mis (A : Ar) (d n : Nat) : Int := if (dvRead (dev A d) n n).2 = 0 then 0 else 1
/-- So many of the mirrors looked at. -/
def mis2 (A : Ar) (n : Nat) : Nat → Int
  | 0 => 0
  | k + 1 => mis2 A n k + mis A k n
theorem mis2_bd (A : Ar) (n : Nat) : ∀ k, 0 ≤ mis2 A n k ∧ mis2 A n k ≤ k
  | 0 => ⟨Int.le_refl _, Int.le_refl _⟩
  | k + 1 => by
    have := mis2_bd A n k
    have : 0 ≤ mis A k n ∧ mis A k n ≤ 1 := by unfold mis; split <;> omega
    unfold mis2
    omega
theorem bad1_eq (A : Ar) (n : Nat) : bad1 A n = mis2 A n 2 + if n % 2 = 0 ∧ right A n = false then 1 else 0 := by
  unfold bad1 mis2 mis2 mis2 mis
  omega
/-- What Read answers, of a sector that there is: all is well, or it is lost. -/
theorem tell_end (A : Ar) (n : Nat) : (tell A n).2.2 = 0 ∨ (tell A n).2.2 = 11 := by
  unfold tell
  split
  · exact .inl rfl
  · split
    · exact .inr rfl
    · exact .inl rfl

set_option maxHeartbeats 1600000 in
set_option maxRecDepth 4000 in
theorem hbad_ok (b o c : Nat) (h : Nat → Hd) (A : Ar) (k : Nat) (w : World) (H : Arr w b o 3 h A) (hm : arMay A = true) (hk : k < many A) :
    Calls Tryz.prog 27 #[.agg #[.slice (some ⟨b, o, none⟩) 3 c], .int .i64 k] w fun e w' => e = .returned (.tuple #[.int .i64 (bad1 A k), .int .i64 0]) ∧ Below w.heap.size w w' := by
  obtain ⟨W, hW⟩ : ∃ W, W = w.alloc (.cells #[.slice (some ⟨b, o, none⟩) 3 c] 26) := ⟨_, rfl⟩
  have hB : Below w.heap.size w W := by rw [hW]; go_grown
  have hz : W.heap.size = w.heap.size + 1 := by rw [hW]; simp
  have c0 : W.cell? ⟨w.heap.size, 0, none⟩ = some (.slice (some ⟨b, o, none⟩) 3 c) := by rw [hW]; simp
  have hmm := (arMay_iff A).1 hm
  have hk64 : k ≤ 64 := by omega
  have C1 := aread_any (some ⟨b, o, none⟩) 3 c k A W (.inr ⟨b, o, h, rfl, H.below hB⟩)
  rw [arRead_tell A k hm hk, hW] at C1
  have hte := tell_end A k
  generalize tell A k = r at C1 hte
  have C2 := hid (fun (j : Nat) (hj : j < 3) wx (g : Below W.heap.size W wx) => read_any (h j).x (h j).p (h j).c (h j).y (h j).q (h j).d k k (dev A j) wx (((H.below hB).below g).dv j hj))
  have C3 := hid (fun wx (g : Below W.heap.size W wx) => hparityright_any b o c h A k wx ((H.below hB).below g) hm hk)
  have HB := hid (bad1_eq A k)
  generalize bad1 A k = Z at HB
  generalize right A k = R at C3 HB
  have H1 := hid C1
  have HP := hid (And.intro hB (And.intro hW (And.intro hz (And.intro c0 (H.below hB)))))
  have HTE := hid hte
  clear C1 hB hW hz c0 H hm hk hmm hte
  go_enter Tryz.func27, Tryz.ntmps27
  go_wp2_with fail
  refine H1.out.mono ?_
  rintro _ w1 ⟨rfl, g1⟩
  rw [← HP.out.2.1] at g1
  have G1 := hid g1
  clear g1 H1
  rcases HTE.out with hr | hr
  · have e1 : (r.2.2 != 0) = false := bne_eq_false_iff_eq.2 hr
    have e2 : (r.2.2 != 0) = false := e1
    clear hr
    go_wp2_with fail
    clear e1 e2
    go_loopw [9, 10] (fun s9 s10 wr => ∃ j : Nat, j ≤ 2 ∧ s9 = .int .i64 (mis2 A k j) ∧ s10 = .int .i64 j ∧ Hid (Below W.heap.size W wr)) (fun _ i _ => 2 - (intOf i).toNat)
    case atStart => exact ⟨0, by omega, rfl, rfl, G1.out⟩
    case round =>
      obtain ⟨j, hj, rfl, rfl, HG⟩ := hrel
      clear G1
      have mb := mis2_bd A k j
      have d0 := (HG.out.cell (p := ⟨w.heap.size, 0, none⟩) (by show w.heap.size < W.heap.size; rw [HP.out.2.2.1]; omega)).trans HP.out.2.2.2.1
      by_cases hlt : j < 2
      · have hlt' : (j : Int) ≤ 1 := by omega
        have hlt2 : (j : Int) < 3 := by omega
        have t0 := (HP.out.2.2.2.2.below HG.out).c0 j (by omega)
        have t1 := (HP.out.2.2.2.2.below HG.out).c1 j (by omega)
        have C := hid (C2.out j (by omega) wr HG.out)
        have HM : Hid (mis2 A k (j + 1) = mis2 A k j + (if (dvRead (dev A j) k k).2 = 0 then 0 else 1)) := rfl
        generalize dvRead (dev A j) k k = r1 at C HM
        obtain ⟨M1, hM1⟩ : ∃ M1, mis2 A k (j + 1) = M1 := ⟨_, rfl⟩
        have HM1 := hid hM1
        rw [hM1] at HM
        clear hM1
        generalize mis2 A k j = M at mb HM
        by_cases e : r1.2 = 0
        · have e' : (r1.2 != 0) = false := bne_eq_false_iff_eq.2 e
          have HN : Hid (M1 = M) := by show _ = _; rw [HM.out, if_pos e]; omega
          clear e
          go_wp2_with fail
          refine C.out.mono ?_
          rintro _ w2 ⟨rfl, g2⟩
          have G2 := hid (bel3 HG.out g2)
          clear g2 C d0 t0 t1
          go_wp2
          go_roundw
          case rel => exact ⟨j + 1, by omega, by rw [HM1.out, HN.out] <;> rfl, by go_num, G2.out⟩
          case measure => simp [intOf]; omega
        · have e' : (r1.2 != 0) = true := bne_iff_ne.2 e
          have HN : Hid (M1 = M + 1) := by show _ = _; rw [HM.out, if_neg e]
          clear e
          go_wp2_with fail
          refine C.out.mono ?_
          rintro _ w2 ⟨rfl, g2⟩
          have G2 := hid (bel3 HG.out g2)
          clear g2 C d0 t0 t1
          go_wp2
          go_roundw
          case rel => exact ⟨j + 1, by omega, by rw [HM1.out, HN.out] <;> rfl, by go_num, G2.out⟩
          case measure => simp [intOf]; omega
      · obtain rfl : j = 2 := by omega
        have hnl : ¬ ((2 : Nat) : Int) ≤ 1 := by decide
        clear hlt hj
        generalize mis2 A k 2 = M at mb HB
        by_cases h2 : k % 2 = 0
        · have e : ((k : Int).tmod 2 == 0) = true := by rw [beq_iff_eq, Int.tmod_eq_emod_of_nonneg (by omega)]; omega
          go_wp2_with fail
          refine (C3.out _ HG.out).mono ?_
          rintro _ w2 ⟨rfl, g2⟩
          have G2 := hid (bel3 HP.out.1 (bel3 HG.out g2))
          clear g2 d0
          cases R with
          | true =>
            have HZ : Hid (Z = M) := by show _ = _; rw [HB.out, if_neg (by simp)]; omega
            clear HB
            go_wp2
            go_ret2
            exact ⟨by rw [HZ.out] <;> rfl, G2.out⟩
          | false =>
            have HZ : Hid (Z = M + 1) := by show _ = _; rw [HB.out, if_pos ⟨h2, rfl⟩]
            clear HB
            go_wp2
            go_ret2
            exact ⟨by rw [HZ.out] <;> rfl, G2.out⟩
        · have e : ((k : Int).tmod 2 == 0) = false := by rw [beq_eq_false_iff_ne, Int.tmod_eq_emod_of_nonneg (by omega)]; omega
          have HZ : Hid (Z = M) := by show _ = _; rw [HB.out, if_neg (fun x => h2 x.1)]; omega
          clear HB
          go_wp2
          go_ret2
          exact ⟨by rw [HZ.out] <;> rfl, bel3 HP.out.1 HG.out⟩
  · have e1 : (r.2.2 != 0) = true := bne_iff_ne.2 (by omega)
    have e2 : (r.2.2 != 11) = false := bne_eq_false_iff_eq.2 hr
    clear hr
    go_wp2_with fail
    clear e1 e2
    go_loopw [9, 10] (fun s9 s10 wr => ∃ j : Nat, j ≤ 2 ∧ s9 = .int .i64 (mis2 A k j) ∧ s10 = .int .i64 j ∧ Hid (Below W.heap.size W wr)) (fun _ i _ => 2 - (intOf i).toNat)
    case atStart => exact ⟨0, by omega, rfl, rfl, G1.out⟩
    case round =>
      obtain ⟨j, hj, rfl, rfl, HG⟩ := hrel
      clear G1
      have mb := mis2_bd A k j
      have d0 := (HG.out.cell (p := ⟨w.heap.size, 0, none⟩) (by show w.heap.size < W.heap.size; rw [HP.out.2.2.1]; omega)).trans HP.out.2.2.2.1
      by_cases hlt : j < 2
      · have hlt' : (j : Int) ≤ 1 := by omega
        have hlt2 : (j : Int) < 3 := by omega
        have t0 := (HP.out.2.2.2.2.below HG.out).c0 j (by omega)
        have t1 := (HP.out.2.2.2.2.below HG.out).c1 j (by omega)
        have C := hid (C2.out j (by omega) wr HG.out)
        have HM : Hid (mis2 A k (j + 1) = mis2 A k j + (if (dvRead (dev A j) k k).2 = 0 then 0 else 1)) := rfl
        generalize dvRead (dev A j) k k = r1 at C HM
        obtain ⟨M1, hM1⟩ : ∃ M1, mis2 A k (j + 1) = M1 := ⟨_, rfl⟩
        have HM1 := hid hM1
        rw [hM1] at HM
        clear hM1
        generalize mis2 A k j = M at mb HM
        by_cases e : r1.2 = 0
        · have e' : (r1.2 != 0) = false := bne_eq_false_iff_eq.2 e
          have HN : Hid (M1 = M) := by show _ = _; rw [HM.out, if_pos e]; omega
          clear e
          go_wp2_with fail
          refine C.out.mono ?_
          rintro _ w2 ⟨rfl, g2⟩
          have G2 := hid (bel3 HG.out g2)
          clear g2 C d0 t0 t1
          go_wp2
          go_roundw
          case rel => exact ⟨j + 1, by omega, by rw [HM1.out, HN.out] <;> rfl, by go_num, G2.out⟩
          case measure => simp [intOf]; omega
        · have e' : (r1.2 != 0) = true := bne_iff_ne.2 e
          have HN : Hid (M1 = M + 1) := by show _ = _; rw [HM.out, if_neg e]
          clear e
          go_wp2_with fail
          refine C.out.mono ?_
          rintro _ w2 ⟨rfl, g2⟩
          have G2 := hid (bel3 HG.out g2)
          clear g2 C d0 t0 t1
          go_wp2
          go_roundw
          case rel => exact ⟨j + 1, by omega, by rw [HM1.out, HN.out] <;> rfl, by go_num, G2.out⟩
          case measure => simp [intOf]; omega
      · obtain rfl : j = 2 := by omega
        have hnl : ¬ ((2 : Nat) : Int) ≤ 1 := by decide
        clear hlt hj
        generalize mis2 A k 2 = M at mb HB
        by_cases h2 : k % 2 = 0
        · have e : ((k : Int).tmod 2 == 0) = true := by rw [beq_iff_eq, Int.tmod_eq_emod_of_nonneg (by omega)]; omega
          go_wp2_with fail
          refine (C3.out _ HG.out).mono ?_
          rintro _ w2 ⟨rfl, g2⟩
          have G2 := hid (bel3 HP.out.1 (bel3 HG.out g2))
          clear g2 d0
          cases R with
          | true =>
            have HZ : Hid (Z = M) := by show _ = _; rw [HB.out, if_neg (by simp)]; omega
            clear HB
            go_wp2
            go_ret2
            exact ⟨by rw [HZ.out] <;> rfl, G2.out⟩
          | false =>
            have HZ : Hid (Z = M + 1) := by show _ = _; rw [HB.out, if_pos ⟨h2, rfl⟩]
            clear HB
            go_wp2
            go_ret2
            exact ⟨by rw [HZ.out] <;> rfl, G2.out⟩
        · have e : ((k : Int).tmod 2 == 0) = false := by rw [beq_eq_false_iff_ne, Int.tmod_eq_emod_of_nonneg (by omega)]; omega
          have HZ : Hid (Z = M) := by show _ = _; rw [HB.out, if_neg (fun x => h2 x.1)]; omega
          clear HB
          go_wp2
          go_ret2
          exact ⟨by rw [HZ.out] <;> rfl, bel3 HP.out.1 HG.out⟩

theorem hbad_any (a : Option Addr) (n c : Nat) (i : Int) (A : Ar) (w : World) (H : ArrAt w a n A) :
    Calls Tryz.prog 27 #[.agg #[.slice a n c], .int .i64 i] w fun e w' => e = .returned (.tuple #[.int .i64 (arBad A i).1, .int .i64 (arBad A i).2]) ∧ Below w.heap.size w w' := by
  by_cases ht : arTouch A i = 0
  · obtain ⟨hm, h0, h1⟩ := arTouch_ok A i ht
    obtain ⟨k, rfl⟩ : ∃ k : Nat, i = k := ⟨i.toNat, by omega⟩
    obtain ⟨rfl, b, o, h, rfl, HX⟩ := may_three H hm
    rw [arBad, if_pos ht, show (k : Int).toNat = k by omega]
    exact hbad_ok b o c h A k w HX hm (by omega)
  · obtain ⟨W, hW⟩ : ∃ W, W = w.alloc (.cells #[.slice a n c] 26) := ⟨_, rfl⟩
    have hB : Below w.heap.size w W := by rw [hW]; go_grown
    have C1 := aread_any a n c i A W (H.below hB)
    have ht2 : arTouch A i ≠ 11 := by unfold arTouch; split; split; decide; decide; decide
    rw [arRead, if_neg ht, hW] at C1
    rw [arBad, if_neg ht]
    generalize arTouch A i = t at C1 ht ht2
    have e1 : (t != 0) = true := bne_iff_ne.2 ht
    have e2 : (t != 11) = true := bne_iff_ne.2 ht2
    have H1 := hid C1
    have HP := hid (And.intro hB hW)
    clear C1 hB hW H ht ht2
    go_enter Tryz.func27, Tryz.ntmps27
    go_wp2_with fail
    refine H1.out.mono ?_
    rintro _ w1 ⟨rfl, g1⟩
    rw [← HP.out.2] at g1
    go_wp2
    go_ret2
    exact ⟨rfl, bel3 HP.out.1 g1⟩
end Go.Proofs.YtpnmidkocmokeaaGreatDoor
