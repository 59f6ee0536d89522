/- What the document's own BadOf answers. -/
import Derived.Test.YtpnmidkocmokeaaHealRefRight
namespace Go.Proofs.Ytpnmidkocmokeaa
open Go.RowKit Go.Lib

set_option maxHeartbeats 1600000 in
set_option maxRecDepth 4000 in
theorem refbad_ok (b o c : Nat) (h : Nat → Hd) (A : Ar) (k : Nat) (w : World) (H : Arr w b o 3 h A) (hm : arMay A = true) (hk : k < many A) :
    Calls Try.prog 26 #[.agg #[.slice (some ⟨b, o, none⟩) 3 c], .int .i64 k] w fun e w' => e = .returned (.tuple #[.int .i64 (bad1 A k), .int .i64 0]) ∧ Below w.heap.size w w' := by
  obtain ⟨W, hW⟩ : ∃ W, W = w.alloc (.cells #[.slice (some ⟨b, o, none⟩) 3 c] 24) := ⟨_, rfl⟩
  have hB : Below w.heap.size w W := by rw [hW]; go_grown
  have hz : W.heap.size = w.heap.size + 1 := by rw [hW]; simp
  have c0 : W.cell? ⟨w.heap.size, 0, none⟩ = some (.slice (some ⟨b, o, none⟩) 3 c) := by rw [hW]; simp
  have hmm := (arMay_iff A).1 hm
  have hk64 : k ≤ 64 := by omega
  have C1 := artouched_any (some ⟨b, o, none⟩) 3 c k A W (.inr ⟨b, o, h, rfl, H.below hB⟩)
  have ht : arTouch A k = 0 := by rw [arTouch, if_pos hm, if_pos ⟨by omega, by omega⟩]
  rw [ht, hW] at C1
  have C2 := hid (fun wx (g : Below W.heap.size W wx) => refread_any (h 0).x (h 0).p (h 0).c (h 0).y (h 0).q (h 0).d k k (dev A 0) wx (((H.below hB).below g).dv 0 (by omega)))
  have C3 := hid (fun wx (g : Below W.heap.size W wx) => refread_any (h 1).x (h 1).p (h 1).c (h 1).y (h 1).q (h 1).d k k (dev A 1) wx (((H.below hB).below g).dv 1 (by omega)))
  have C4 := hid (fun wx (g : Below W.heap.size W wx) => refright_any b o c h A k wx ((H.below hB).below g) hm hk)
  have HB : Hid (bad1 A k = (if (dvRead (dev A 0) k k).2 = 0 then 0 else 1) + (if (dvRead (dev A 1) k k).2 = 0 then 0 else 1) + (if k % 2 = 0 ∧ right A k = false then 1 else 0)) := rfl
  generalize bad1 A k = Z at HB
  generalize right A k = R at C4 HB
  generalize known A k = K at C4
  generalize dvRead (dev A 0) k k = r0 at C2 HB
  generalize dvRead (dev A 1) k k = r1 at C3 HB
  have H1 := hid C1
  have HP := hid (And.intro hB (And.intro hW (And.intro hz (And.intro c0 (H.below hB)))))
  clear C1 hB hW hz c0 H hm hk hmm ht
  go_enter Try.func26, Try.ntmps26
  go_wp2_with fail
  refine H1.out.mono ?_
  rintro _ w1 ⟨rfl, g1⟩
  rw [← HP.out.2.1] at g1
  have d0 := (g1.cell (p := ⟨w.heap.size, 0, none⟩) (by show w.heap.size < W.heap.size; rw [HP.out.2.2.1]; omega)).trans HP.out.2.2.2.1
  have G1 := hid g1
  obtain ⟨⟨t0, t1⟩, _, _⟩ := (HP.out.2.2.2.2.below g1).three
  clear g1 H1
  go_wp2_with fail
  refine (C2.out _ G1.out).mono ?_
  rintro _ w2 ⟨rfl, g2⟩
  have G2 := hid (bel3 G1.out g2)
  clear g2 d0 t0 t1 G1 C2
  have d0 := (G2.out.cell (p := ⟨w.heap.size, 0, none⟩) (by show w.heap.size < W.heap.size; rw [HP.out.2.2.1]; omega)).trans HP.out.2.2.2.1
  obtain ⟨_, ⟨t2, t3⟩, _⟩ := (HP.out.2.2.2.2.below G2.out).three
  by_cases e0 : r0.2 = 0
  · have f0 : (r0.2 != 0) = false := bne_eq_false_iff_eq.2 e0
    by_cases e1 : r1.2 = 0
    · have f1 : (r1.2 != 0) = false := bne_eq_false_iff_eq.2 e1
      have E0 := hid e0
      have E1 := hid e1
      clear e0 e1
      go_wp2_with fail
      refine (C3.out _ G2.out).mono ?_
      rintro _ w3 ⟨rfl, g3⟩
      have G3 := hid (bel3 G2.out g3)
      clear g3 d0 t2 t3 C3
      have d0 := (G3.out.cell (p := ⟨w.heap.size, 0, none⟩) (by show w.heap.size < W.heap.size; rw [HP.out.2.2.1]; omega)).trans HP.out.2.2.2.1
      go_wp2_with fail
      refine (C4.out _ G3.out).mono ?_
      rintro _ w4 ⟨rfl, g4⟩
      have G4 := hid (bel3 HP.out.1 (bel3 G3.out g4))
      clear g4 d0
      by_cases h2 : k % 2 = 0
      · have e : ((k : Int).tmod 2 == 0) = true := by rw [beq_iff_eq, Int.tmod_eq_emod_of_nonneg (by omega)]; omega
        cases R with
        | true =>
          have HZ : Hid (Z = 0) := by show _ = _; rw [HB.out, if_pos E0.out, if_pos E1.out, if_neg (fun x => by cases x.2)]; rfl
          clear HB
          go_wp2
          go_ret2
          exact ⟨by rw [HZ.out] <;> rfl, G4.out⟩
        | false =>
          have HZ : Hid (Z = 1) := by show _ = _; rw [HB.out, if_pos E0.out, if_pos E1.out, if_pos ⟨h2, rfl⟩]; rfl
          clear HB
          go_wp2
          go_ret2
          exact ⟨by rw [HZ.out] <;> rfl, G4.out⟩
      · have e : ((k : Int).tmod 2 == 0) = false := by rw [beq_eq_false_iff_ne, Int.tmod_eq_emod_of_nonneg (by omega)]; omega
        have HZ : Hid (Z = 0) := by show _ = _; rw [HB.out, if_pos E0.out, if_pos E1.out, if_neg (fun x => h2 x.1)]; rfl
        clear HB
        go_wp2
        go_ret2
        exact ⟨by rw [HZ.out] <;> rfl, G4.out⟩
    · have f1 : (r1.2 != 0) = true := bne_iff_ne.2 e1
      have E0 := hid e0
      have E1 := hid e1
      clear e0 e1
      go_wp2_with fail
      refine (C3.out _ G2.out).mono ?_
      rintro _ w3 ⟨rfl, g3⟩
      have G3 := hid (bel3 G2.out g3)
      clear g3 d0 t2 t3 C3
      have d0 := (G3.out.cell (p := ⟨w.heap.size, 0, none⟩) (by show w.heap.size < W.heap.size; rw [HP.out.2.2.1]; omega)).trans HP.out.2.2.2.1
      go_wp2_with fail
      refine (C4.out _ G3.out).mono ?_
      rintro _ w4 ⟨rfl, g4⟩
      have G4 := hid (bel3 HP.out.1 (bel3 G3.out g4))
      clear g4 d0
      by_cases h2 : k % 2 = 0
      · have e : ((k : Int).tmod 2 == 0) = true := by rw [beq_iff_eq, Int.tmod_eq_emod_of_nonneg (by omega)]; omega
        cases R with
        | true =>
          have HZ : Hid (Z = 1) := by show _ = _; rw [HB.out, if_pos E0.out, if_neg E1.out, if_neg (fun x => by cases x.2)]; rfl
          clear HB
          go_wp2
          go_ret2
          exact ⟨by rw [HZ.out] <;> rfl, G4.out⟩
        | false =>
          have HZ : Hid (Z = 2) := by show _ = _; rw [HB.out, if_pos E0.out, if_neg E1.out, if_pos ⟨h2, rfl⟩]; rfl
          clear HB
          go_wp2
          go_ret2
          exact ⟨by rw [HZ.out] <;> rfl, G4.out⟩
      · have e : ((k : Int).tmod 2 == 0) = false := by rw [beq_eq_false_iff_ne, Int.tmod_eq_emod_of_nonneg (by omega)]; omega
        have HZ : Hid (Z = 1) := by show _ = _; rw [HB.out, if_pos E0.out, if_neg E1.out, if_neg (fun x => h2 x.1)]; rfl
        clear HB
        go_wp2
        go_ret2
        exact ⟨by rw [HZ.out] <;> rfl, G4.out⟩
  · have f0 : (r0.2 != 0) = true := bne_iff_ne.2 e0
    by_cases e1 : r1.2 = 0
    · have f1 : (r1.2 != 0) = false := bne_eq_false_iff_eq.2 e1
      have E0 := hid e0
      have E1 := hid e1
      clear e0 e1
      go_wp2_with fail
      refine (C3.out _ G2.out).mono ?_
      rintro _ w3 ⟨rfl, g3⟩
      have G3 := hid (bel3 G2.out g3)
      clear g3 d0 t2 t3 C3
      have d0 := (G3.out.cell (p := ⟨w.heap.size, 0, none⟩) (by show w.heap.size < W.heap.size; rw [HP.out.2.2.1]; omega)).trans HP.out.2.2.2.1
      go_wp2_with fail
      refine (C4.out _ G3.out).mono ?_
      rintro _ w4 ⟨rfl, g4⟩
      have G4 := hid (bel3 HP.out.1 (bel3 G3.out g4))
      clear g4 d0
      by_cases h2 : k % 2 = 0
      · have e : ((k : Int).tmod 2 == 0) = true := by rw [beq_iff_eq, Int.tmod_eq_emod_of_nonneg (by omega)]; omega
        cases R with
        | true =>
          have HZ : Hid (Z = 1) := by show _ = _; rw [HB.out, if_neg E0.out, if_pos E1.out, if_neg (fun x => by cases x.2)]; rfl
          clear HB
          go_wp2
          go_ret2
          exact ⟨by rw [HZ.out] <;> rfl, G4.out⟩
        | false =>
          have HZ : Hid (Z = 2) := by show _ = _; rw [HB.out, if_neg E0.out, if_pos E1.out, if_pos ⟨h2, rfl⟩]; rfl
          clear HB
          go_wp2
          go_ret2
          exact ⟨by rw [HZ.out] <;> rfl, G4.out⟩
      · have e : ((k : Int).tmod 2 == 0) = false := by rw [beq_eq_false_iff_ne, Int.tmod_eq_emod_of_nonneg (by omega)]; omega
        have HZ : Hid (Z = 1) := by show _ = _; rw [HB.out, if_neg E0.out, if_pos E1.out, if_neg (fun x => h2 x.1)]; rfl
        clear HB
        go_wp2
        go_ret2
        exact ⟨by rw [HZ.out] <;> rfl, G4.out⟩
    · have f1 : (r1.2 != 0) = true := bne_iff_ne.2 e1
      have E0 := hid e0
      have E1 := hid e1
      clear e0 e1
      go_wp2_with fail
      refine (C3.out _ G2.out).mono ?_
      rintro _ w3 ⟨rfl, g3⟩
      have G3 := hid (bel3 G2.out g3)
      clear g3 d0 t2 t3 C3
      have d0 := (G3.out.cell (p := ⟨w.heap.size, 0, none⟩) (by show w.heap.size < W.heap.size; rw [HP.out.2.2.1]; omega)).trans HP.out.2.2.2.1
      go_wp2_with fail
      refine (C4.out _ G3.out).mono ?_
      rintro _ w4 ⟨rfl, g4⟩
      have G4 := hid (bel3 HP.out.1 (bel3 G3.out g4))
      clear g4 d0
      by_cases h2 : k % 2 = 0
      · have e : ((k : Int).tmod 2 == 0) = true := by rw [beq_iff_eq, Int.tmod_eq_emod_of_nonneg (by omega)]; omega
        cases R with
        | true =>
          have HZ : Hid (Z = 2) := by show _ = _; rw [HB.out, if_neg E0.out, if_neg E1.out, if_neg (fun x => by cases x.2)]; rfl
          clear HB
          go_wp2
          go_ret2
          exact ⟨by rw [HZ.out] <;> rfl, G4.out⟩
        | false =>
          have HZ : Hid (Z = 3) := by show _ = _; rw [HB.out, if_neg E0.out, if_neg E1.out, if_pos ⟨h2, rfl⟩]; rfl
          clear HB
          go_wp2
          go_ret2
          exact ⟨by rw [HZ.out] <;> rfl, G4.out⟩
      · have e : ((k : Int).tmod 2 == 0) = false := by rw [beq_eq_false_iff_ne, Int.tmod_eq_emod_of_nonneg (by omega)]; omega
        have HZ : Hid (Z = 2) := by show _ = _; rw [HB.out, if_neg E0.out, if_neg E1.out, if_neg (fun x => h2 x.1)]; rfl
        clear HB
        go_wp2
        go_ret2
        exact ⟨by rw [HZ.out] <;> rfl, G4.out⟩

theorem refbad_any (a : Option Addr) (n c : Nat) (i : Int) (A : Ar) (w : World) (H : ArrAt w a n A) :
    Calls Try.prog 26 #[.agg #[.slice a n c], .int .i64 i] w fun e w' => e = .returned (.tuple #[.int .i64 (arBad A i).1, .int .i64 (arBad A i).2]) ∧ Below w.heap.size w w' := by
  by_cases ht : arTouch A i = 0
  · obtain ⟨hm, h0, h1⟩ := arTouch_ok A i ht
    obtain ⟨k, rfl⟩ : ∃ k : Nat, i = k := ⟨i.toNat, by omega⟩
    obtain ⟨rfl, b, o, h, rfl, HX⟩ := may_three H hm
    rw [arBad, if_pos ht, show (k : Int).toNat = k by omega]
    exact refbad_ok b o c h A k w HX hm (by omega)
  · obtain ⟨W, hW⟩ : ∃ W, W = w.alloc (.cells #[.slice a n c] 24) := ⟨_, rfl⟩
    have hB : Below w.heap.size w W := by rw [hW]; go_grown
    have C1 := artouched_any a n c i A W (H.below hB)
    rw [hW] at C1
    rw [arBad, if_neg ht]
    generalize arTouch A i = t at C1 ht
    have e1 : (t != 0) = true := bne_iff_ne.2 ht
    have H1 := hid C1
    have HP := hid (And.intro hB hW)
    clear C1 hB hW H ht
    go_enter Try.func26, Try.ntmps26
    go_wp2_with fail
    refine H1.out.mono ?_
    rintro _ w1 ⟨rfl, g1⟩
    rw [← HP.out.2] at g1
    go_wp2
    go_ret2
    exact ⟨rfl, bel3 HP.out.1 g1⟩
end Go.Proofs.Ytpnmidkocmokeaa
