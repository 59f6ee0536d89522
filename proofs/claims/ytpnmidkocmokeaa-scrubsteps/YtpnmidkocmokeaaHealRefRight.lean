/- What the document's own parityRight answers. -/
import Derived.Test.YtpnmidkocmokeaaHealPure
import Derived.Test.YtpnmidkocmokeaaArrRefTouch
import Derived.Test.YtpnmidkocmokeaaArrRefRead
import Derived.Test.YtpnmidkocmokeaaArrStore
namespace Go.Proofs.Ytpnmidkocmokeaa
open Go.RowKit Go.Lib

set_option maxHeartbeats 1600000 in
set_option maxRecDepth 4000 in
theorem refright_any (b o c : Nat) (h : Nat → Hd) (A : Ar) (k : Nat) (w : World) (H : Arr w b o 3 h A) (hm : arMay A = true) (hk : k < many A) :
    Calls Try.prog 37 #[.agg #[.slice (some ⟨b, o, none⟩) 3 c], .int .i64 k] w fun e w' => e = .returned (.tuple #[.bool (right A k), .bool (known A k)]) ∧ Below w.heap.size w w' := by
  obtain ⟨W, hW⟩ : ∃ W, W = w.alloc (.cells #[.slice (some ⟨b, o, none⟩) 3 c] 24) := ⟨_, rfl⟩
  have hB : Below w.heap.size w W := by rw [hW]; go_grown
  have hz : W.heap.size = w.heap.size + 1 := by rw [hW]; simp
  have c0 : W.cell? ⟨w.heap.size, 0, none⟩ = some (.slice (some ⟨b, o, none⟩) 3 c) := by rw [hW]; simp
  have hmm := (arMay_iff A).1 hm
  have hk64 : k ≤ 64 := by omega
  have HA : ∀ wx, Below W.heap.size W wx → ArrAt wx (some ⟨b, o, none⟩) 3 A := fun wx g => .inr ⟨b, o, h, rfl, (H.below hB).below g⟩
  have C1 := refaread_any (some ⟨b, o, none⟩) 3 c k A W (HA W (Below.refl _ _))
  have C2 := fun wx (g : Below W.heap.size W wx) => refaread_any (some ⟨b, o, none⟩) 3 c (part k) A wx (HA wx g)
  rw [arRead_tell A (part k) hm (part_lt k _ hk hmm.2.2.2.2.1)] at C2
  rw [arRead_tell A k hm hk, hW] at C1
  have l1 := tell_len A k
  have l2 := tell_len A (part k)
  have CN := hid (fun wx => partner_any k wx (by omega))
  have C3 := hid (fun wx (g : Below W.heap.size W wx) => refread_any (h 2).x (h 2).p (h 2).c (h 2).y (h 2).q (h 2).d ((k / 2 : Nat) : Int) ((512 + k / 2 : Nat) : Int) (dev A 2) wx (((H.below hB).below g).dv 2 (by omega)))
  change Hid (∀ wx, Below W.heap.size W wx → Calls Try.prog _ _ wx fun e w' => e = .returned (.tuple #[.string (str (pari A k).1), .int .i64 (pari A k).2]) ∧ Below wx.heap.size wx w') at C3
  unfold right known
  generalize tell A k = r1 at C1 l1
  generalize tell A (part k) = r2 at C2 l2
  generalize pari A k = r3 at C3
  have u1 : IntKind.i64.wrap ((k : Int) / 2) = ((k / 2 : Nat) : Int) := by rw [IntWalk.i64_in _ (by omega)]; omega
  have u2 : IntKind.i64.wrap (512 + ((k / 2 : Nat) : Int)) = ((512 + k / 2 : Nat) : Int) := by rw [IntWalk.i64_in _ (by omega)]; omega
  have H1 := hid C1
  have H2 := hid C2
  have HP := hid (And.intro hB (And.intro hW (And.intro hz (And.intro c0 (H.below hB)))))
  have HL := hid (And.intro l1 l2)
  clear C1 C2 hB hW hz c0 HA H hm hk hmm l1 l2
  go_enter Try.func37, Try.ntmps37
  go_wp2_with fail
  refine H1.out.mono ?_
  rintro _ w1 ⟨rfl, g1⟩
  rw [← HP.out.2.1] at g1
  have d0 := (g1.cell (p := ⟨w.heap.size, 0, none⟩) (by show w.heap.size < W.heap.size; rw [HP.out.2.2.1]; omega)).trans HP.out.2.2.2.1
  have G1 := hid g1
  clear g1 H1
  go_upto_region 2 with fail
  go_cut [9, 10, 11] (fun s9 s10 s11 wx => s9 = .string (str r2.1) ∧ s10 = .int .i64 r2.2.1 ∧ s11 = .int .i64 r2.2.2 ∧ Below W.heap.size W wx)
  case first =>
    go_region_held3 (fun w' => w'.cell? ⟨w.heap.size, 0, none⟩ = some (.slice (some ⟨b, o, none⟩) 3 c)) (go_keep)
      (first | (go_at_call 38; refine (CN.out _).mono ?_; rintro _ w9 ⟨rfl, h9⟩; (have h8 := h9.symm); subst h8) | (go_at_call 27; refine (H2.out _ G1.out.drew).mono ?_; rintro _ w9 ⟨rfl, g9⟩; (have G9 := hid (bel3 G1.out.drew g9)); (have j0 := (G9.out.cell (p := ⟨w.heap.size, 0, none⟩) (by show w.heap.size < W.heap.size; rw [HP.out.2.2.1]; omega)).trans HP.out.2.2.2.1); clear g9))
    all_goals (go_wp2_with fail; go_meet)
    all_goals exact ⟨rfl, rfl, rfl, G9.out⟩
  case rest =>
    obtain ⟨rfl, rfl, rfl, hB⟩ := hcut
    have G2 := hid hB
    clear hB G1 d0
    have d0 := (G2.out.cell (p := ⟨w.heap.size, 0, none⟩) (by show w.heap.size < W.heap.size; rw [HP.out.2.2.1]; omega)).trans HP.out.2.2.2.1
    obtain ⟨_, _, t4, t5⟩ := (HP.out.2.2.2.2.below G2.out).three
    by_cases e1 : r1.2.2 = 0
    · have e1' : (r1.2.2 != 0) = false := bne_eq_false_iff_eq.2 e1
      by_cases e2 : r2.2.2 = 0
      · have e2' : (r2.2.2 != 0) = false := bne_eq_false_iff_eq.2 e2
        have HK : Hid (decide (r1.2.2 = 0 ∧ r2.2.2 = 0) = true) := decide_eq_true (show r1.2.2 = 0 ∧ r2.2.2 = 0 from ⟨e1, e2⟩)
        have l1 := HL.out.1 e1
        have l2 := HL.out.2 e2
        have CD := hid (fun wx => others_any (str r1.1) (str r2.1) wx (by rw [str_size, l1]; omega) (by rw [str_size, str_size, l1, l2]; exact Nat.le_refl _) (by rw [str_size, l2]; omega))
        rw [str_list, str_list] at CD
        clear e1 e2 l1 l2
        generalize ((512 + k / 2 : Nat) : Int) = R at C3 u2
        generalize ((k / 2 : Nat) : Int) = Q at C3 u1 u2
        go_wp2_with fail
        refine (C3.out _ G2.out).mono ?_
        rintro _ w3 ⟨rfl, g3⟩
        have G3 := hid (bel3 G2.out g3)
        clear g3 d0 t4 t5
        by_cases e3 : r3.2 = 0
        · have e3' : (r3.2 == 0) = true := beq_iff_eq.2 e3
          have HR : Hid (((str r3.1).toList == (str (xors r1.1 r2.1)).toList) = (decide (r1.2.2 = 0 ∧ r2.2.2 = 0) && decide (r3.2 = 0 ∧ r3.1 = xors r1.1 r2.1))) := by show _ = _; rw [txt_eq, HK.out]; simp [e3]
          clear e3
          go_wp2_with fail
          refine (CD.out _).mono ?_
          rintro _ w4 ⟨rfl, g4⟩
          go_wp2
          go_ret2
          exact ⟨by rw [← HR.out, HK.out] <;> rfl, bel3 HP.out.1 (bel3 G3.out g4)⟩
        · have e3' : (r3.2 == 0) = false := beq_eq_false_iff_ne.2 e3
          have HR : Hid (false = (decide (r1.2.2 = 0 ∧ r2.2.2 = 0) && decide (r3.2 = 0 ∧ r3.1 = xors r1.1 r2.1))) := by show _ = _; simp [e3]
          clear e3
          go_wp2
          go_ret2
          exact ⟨by rw [← HR.out, HK.out] <;> rfl, bel3 HP.out.1 G3.out⟩
      · have e2' : (r2.2.2 != 0) = true := bne_iff_ne.2 e2
        have HK : Hid (decide (r1.2.2 = 0 ∧ r2.2.2 = 0) = false) := decide_eq_false (show ¬ (r1.2.2 = 0 ∧ r2.2.2 = 0) from fun x => e2 x.2)
        clear e1 e2
        go_wp2
        go_ret2
        exact ⟨by rw [HK.out] <;> rfl, bel3 HP.out.1 G2.out⟩
    · have e1' : (r1.2.2 != 0) = true := bne_iff_ne.2 e1
      have HK : Hid (decide (r1.2.2 = 0 ∧ r2.2.2 = 0) = false) := decide_eq_false (show ¬ (r1.2.2 = 0 ∧ r2.2.2 = 0) from fun x => e1 x.1)
      clear e1
      go_wp2
      go_ret2
      exact ⟨by rw [HK.out] <;> rfl, bel3 HP.out.1 G2.out⟩
end Go.Proofs.Ytpnmidkocmokeaa
