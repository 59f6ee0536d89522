/- What the document's own HealthOf answers. -/
import Derived.Test.YtpnmidkocmokeaaScrubHl
import Derived.Test.YtpnmidkocmokeaaHealRefBad
namespace Go.Proofs.Ytpnmidkocmokeaa
open Go.RowKit Go.Lib

set_option maxHeartbeats 1600000 in
set_option maxRecDepth 4000 in
theorem refhealth_any (a : Option Addr) (n c : Nat) (A : Ar) (w : World) (H : ArrAt w a n A) :
    Calls Try.prog 11 #[.agg #[.slice a n c]] w (OutHl w (arHealth A)) := by
  obtain ⟨W, hW⟩ : ∃ W, W = w.alloc (.cells #[.slice a n c] 24) := ⟨_, rfl⟩
  have hB : Below w.heap.size w W := by rw [hW]; go_grown
  have hz : W.heap.size = w.heap.size + 1 := by rw [hW]; simp
  have c0 : W.cell? ⟨w.heap.size, 0, none⟩ = some (.slice a n c) := by rw [hW]; simp
  have C1 := armay_any a n c A W (H.below hB)
  rw [hW] at C1
  unfold arHealth
  cases hm : arMay A with
  | false =>
    rw [hm] at C1
    have H1 := hid C1
    have HP := hid (And.intro hB hW)
    clear C1 hB hz c0 hW H hm
    go_enter Try.func11, Try.ntmps11
    go_wp2_with fail
    refine H1.out.mono ?_
    rintro _ w1 ⟨rfl, g1⟩
    rw [← HP.out.2] at g1
    go_wp2
    go_ret3
    exact ⟨⟨none, 0, 0, rfl, intsAt_none _ _⟩, bel3 HP.out.1 g1⟩
  | true =>
    rw [hm] at C1
    rw [if_pos rfl]
    have hmm := (arMay_iff A).1 hm
    have hN : many A ≤ 64 := hmm.2.2.2.1
    obtain ⟨rfl, b, o, h, rfl, HX⟩ := may_three H hm
    have HA : ∀ wx, Below W.heap.size W wx → ArrAt wx (some ⟨b, o, none⟩) 3 A := fun wx g => .inr ⟨b, o, h, rfl, (HX.below hB).below g⟩
    have CB := hid (fun (k : Nat) (hk : k < many A) wx (g : Below W.heap.size W wx) => refbad_any (some ⟨b, o, none⟩) 3 c k A wx (HA wx g))
    have CR := hid (fun (k : Nat) wx (g : Below W.heap.size W wx) => refaread_any (some ⟨b, o, none⟩) 3 c k A wx (HA wx g))
    have BI := hid (fun k hk => arBad_in A hm k hk)
    have H1 := hid C1
    have hp : many A = (h 0).p := (HX.dv 0 (by omega)).sn.symm
    rw [hp] at CB BI hN
    rw [hp]
    have HP := hid (And.intro hB (And.intro hW (And.intro hz (And.intro c0 (And.intro (HX.below hB).lt ((HX.below hB).three.1.1))))))
    clear C1 hB hz c0 hW H hm HX hmm HA hp
    generalize (h 0).p = N at CB BI hN HP
    generalize (h 0).x = xx at HP
    generalize (h 0).c = cc at HP
    go_enter Try.func11, Try.ntmps11
    go_wp2_with fail
    refine H1.out.mono ?_
    rintro _ w1 ⟨rfl, g1⟩
    rw [← HP.out.2.1] at g1
    have G2 := hid g1
    clear g1 H1
    go_wp2_with fail
    go_loopw [5, 6, 7] (fun s5 v s7 wr => ∃ k : Nat, k ≤ N ∧ s5 = .int .i64 (badN A k) ∧ s7 = .int .i64 k ∧ Hid (HlI W (lostAt A) k v wr)) (fun _ _ i _ => N - (intOf i).toNat)
    case atStart => exact ⟨0, Nat.zero_le _, rfl, rfl, ⟨ownsI_nil _ _, G2.out⟩⟩
    case round =>
      obtain ⟨k, hk, rfl, rfl, HI⟩ := hrel
      clear G2
      have bb := badN_bd A k
      have d0 := (HI.out.below.cell (p := ⟨w.heap.size, 0, none⟩) (by show w.heap.size < W.heap.size; rw [HP.out.2.2.1]; omega)).trans HP.out.2.2.2.1
      have t0 := (HI.out.below.cell (p := ⟨b, o, none⟩) HP.out.2.2.2.2.1).trans HP.out.2.2.2.2.2
      by_cases hlt : k < N
      · have hlt' : (k : Int) < N := by omega
        have C2 := hid (CB.out k hlt wr HI.out.below)
        rw [BI.out k hlt] at C2
        have b1 := bad1_bd A k
        have HM : Hid (badN A (k + 1) = badN A k + bad1 A k) := rfl
        obtain ⟨M1, hM1⟩ : ∃ M1, badN A (k + 1) = M1 := ⟨_, rfl⟩
        have HM1 := hid hM1
        rw [hM1] at HM
        clear hM1
        generalize badN A k = M at bb HM
        generalize bad1 A k = E at b1 HM C2
        go_wp2_with fail
        refine C2.out.mono ?_
        rintro _ w3 ⟨rfl, g3⟩
        have I3 := hid (HI.out.to g3)
        clear g3 C2 d0 t0
        have d0 := (I3.out.below.cell (p := ⟨w.heap.size, 0, none⟩) (by show w.heap.size < W.heap.size; rw [HP.out.2.2.1]; omega)).trans HP.out.2.2.2.1
        have C3 := hid (CR.out k w3 I3.out.below)
        have HL : Hid (lostAt A k = decide ((arRead A k).2.2 ≠ 0)) := rfl
        generalize arRead A k = R at C3 HL
        go_wp2_with fail
        refine C3.out.mono ?_
        rintro _ w4 ⟨rfl, g4⟩
        have I4 := hid (I3.out.to g4)
        clear g4 C3 d0 I3 HI
        by_cases e : R.2.2 = 0
        · have e' : (R.2.2 != 0) = false := bne_eq_false_iff_eq.2 e
          have HF : Hid (lostAt A k = false) := by show _ = _; rw [HL.out]; exact decide_eq_false (fun h => h e)
          clear e
          go_wp2
          go_roundw
          case rel => exact ⟨k + 1, by omega, by rw [HM1.out, HM.out] <;> rfl, by go_num, I4.out.skip HF.out⟩
          case measure => simp [intOf]; omega
        · have e' : (R.2.2 != 0) = true := bne_iff_ne.2 e
          have HF : Hid (lostAt A k = true) := by show _ = _; rw [HL.out]; exact decide_eq_true e
          clear e
          have I5 := hid (I4.out.to ((Below.refl _ w4).alloc (Nat.le_refl _) (.cells #[.int .i64 (k : Int)] 3)))
          go_wp2_with (at_builtin; (refine wpList_appendI _ rfl (.tmp 44) (.tmp 46) rfl W.heap.size u6 (ups (goneOf k (lostAt A))) (k : Int) rfl I5.out.own ⟨w4.heap.size, 0, none⟩ rfl (laid_one w4 k 3) (by rw [ups_length]; have := goneOf_len k (lostAt A); omega) I5.out.below.size ?_; intro g6 m6 cap6 w6 hm6 hown6 hgrow6; (have J6 := hid (I5.out.put HF.out hown6 hgrow6)); clear hown6 hgrow6 hm6))
          go_roundw
          case rel => exact ⟨k + 1, by omega, by rw [HM1.out, HM.out] <;> rfl, by go_num, J6.out⟩
          case measure => simp [intOf]; omega
      · have hlt' : ¬ (k : Int) < N := by omega
        obtain rfl : k = N := by omega
        clear hlt hk
        have HO := hid (fun m => HI.out.out hN HP.out.1 m)
        obtain ⟨M, hM⟩ : ∃ M, badN A k = M := ⟨_, rfl⟩
        have HE := hid hM
        rw [hM] at bb
        rw [hM]
        clear HI hM
        go_wp2
        go_ret3
        rw [HE.out]
        exact HO.out M
end Go.Proofs.Ytpnmidkocmokeaa
