/- What the program's heal.Sector answers. -/
import Derived.Test.YtpnmidkocmokeaaGreatDoorHealRenew
import Derived.Test.YtpnmidkocmokeaaGreatDoorArrCopy
namespace Go.Proofs.YtpnmidkocmokeaaGreatDoor
open Go.RowKit Go.Lib

/-- An array that comes out of a call in new memory, with a number and an error; its devices can be stored over. -/
def OutHe (w : World) (r : Ar × Int × Int) (e : Ending) (w' : World) : Prop :=
  (∃ a n c, e = .returned (.tuple #[.agg #[.slice a n c], .int .i64 r.2.1, .int .i64 r.2.2]) ∧ ((n = 0 ∧ r.1 = [] ∧ a = none) ∨ ∃ b h, a = some ⟨b, 0, none⟩ ∧ w.heap.size ≤ b ∧ ArrFree w' b 0 n h r.1)) ∧ Below w.heap.size w w'
theorem outHe_none {w w' : World} {x : Int} (g : Below w.heap.size w w') : OutHe w ([], 0, x) (.returned (.tuple #[.agg #[.slice none 0 0], .int .i64 0, .int .i64 x])) w' := ⟨⟨none, 0, 0, rfl, .inl ⟨rfl, rfl, rfl⟩⟩, g⟩
/-- The copy's box is stored into the result's. -/
theorem WrI.outHe {w W : World} {pr pc b cc : Nat} {A : Ar} (H : WrI w pr pc b cc A W) (m : Int) : OutHe w (A, m, 0) (.returned (.tuple #[.agg #[.slice (some ⟨b, 0, none⟩) 3 cc], .int .i64 m, .int .i64 0])) (W.setCell ⟨pr, 0, none⟩ (.slice (some ⟨b, 0, none⟩) 3 cc)) := by
  obtain ⟨h, hh⟩ := H.fr
  exact ⟨⟨_, 3, cc, rfl, .inr ⟨b, h, rfl, H.ge.2, hh.box H.ne.1 H.rc _⟩⟩, H.below.setCell (p := ⟨pr, 0, none⟩) H.ge.1 _⟩

/-- Behind so many mirrors: the array, and how many copies were written. -/
def hstep (A : Ar) (k : Nat) : Nat → Ar
  | 0 => A
  | j + 1 => renA (hstep A k j) j k k (tell A k).1
def hcnt (A : Ar) (k : Nat) : Nat → Int
  | 0 => 0
  | j + 1 => hcnt A k j + renN (hstep A k j) j k k (tell A k).1
theorem renN_bd (A : Ar) (d : Nat) (p no : Int) (s : List UInt8) : 0 ≤ renN A d p no s ∧ renN A d p no s ≤ 1 := by unfold renN; split <;> omega
theorem hcnt_bd (A : Ar) (k : Nat) : ∀ j : Nat, 0 ≤ hcnt A k j ∧ hcnt A k j ≤ j
  | 0 => ⟨Int.le_refl _, Int.le_refl _⟩
  | j + 1 => by
    have := hcnt_bd A k j
    have := renN_bd (hstep A k j) j k k (tell A k).1
    unfold hcnt
    omega
theorem hstep_two (A : Ar) (k : Nat) : hstep A k 2 = heal1 A k := by
  have e : hstep A k 1 = heal0 A k := (heal0_eq A k).symm
  show renA (hstep A k 1) 1 k k _ = _
  rw [e]; exact (heal1_eq A k).symm
theorem hcnt_two (A : Ar) (k : Nat) : hcnt A k 2 = renN A 0 k k (tell A k).1 + renN (heal0 A k) 1 k k (tell A k).1 := by
  have e : hstep A k 1 = heal0 A k := (heal0_eq A k).symm
  show (0 + renN A 0 k k _) + renN (hstep A k 1) 1 k k _ = _
  rw [e, Int.zero_add]

theorem hsector_no (a : Option Addr) (n c : Nat) (i : Int) (A : Ar) (w : World) (H : ArrAt w a n A) (ht : (arRead A i).2.2 ≠ 0) :
    Calls Tryz.prog 22 #[.agg #[.slice a n c], .int .i64 i] w (OutHe w ([], 0, (arRead A i).2.2)) := by
  obtain ⟨W, hW⟩ : ∃ W, W = (w.alloc (.cells #[.slice a n c] 26)).alloc (.cells #[.slice none 0 0] 26) := ⟨_, rfl⟩
  have hB : Below w.heap.size w W := by rw [hW]; go_grown
  have hz : W.heap.size = w.heap.size + 2 := by rw [hW]; simp
  have rc : W.cell? ⟨w.heap.size + 1, 0, none⟩ = some (.slice none 0 0) := by rw [hW]; simp [go_sem]
  have rf : W.frozen? ⟨w.heap.size + 1, 0, none⟩ = false := by rw [hW]; simp [go_sem]
  have HT := hid (aread_any a n c i A W (H.below hB))
  have HP := hid (And.intro hB (And.intro hz (And.intro rc rf)))
  have HK := hid (fun x w' (g : Below w.heap.size w w') => outHe_none (x := x) g)
  generalize arRead A i = r at HT ht
  have ht' : (r.2.2 != 0) = true := bne_iff_ne.2 ht
  rw [hW] at HT
  have HE := hid hW
  clear ht hB hz rc rf H hW
  go_enter Tryz.func22, Tryz.ntmps22
  go_wp2_with fail
  refine HT.out.mono ?_
  rintro _ w1 ⟨rfl, g1⟩
  rw [← HE.out] at g1
  have r1 := (g1.cell (p := ⟨w.heap.size + 1, 0, none⟩) (by show w.heap.size + 1 < W.heap.size; rw [HP.out.2.1]; omega)).trans HP.out.2.2.1
  have r2 := (g1.frozen (p := ⟨w.heap.size + 1, 0, none⟩) (by show w.heap.size + 1 < W.heap.size; rw [HP.out.2.1]; omega)).trans HP.out.2.2.2
  have y0 := World.cell?_setCell_same w1 ⟨w.heap.size + 1, 0, none⟩ (.slice none 0 0) r1
  have G1 := hid ((bel3 HP.out.1 g1).setCell (p := ⟨w.heap.size + 1, 0, none⟩) (by show w.heap.size ≤ w.heap.size + 1; omega) (.slice none 0 0))
  clear g1
  go_wp2
  refine bodyPost_ret (v := .tuple #[.agg #[.slice none 0 0], .int .i64 0, .int .i64 r.2.2]) (by simp [results, Tryz.results22, go_sem, y0]) rfl ?_
  exact HK.out _ _ G1.out

set_option maxHeartbeats 1600000 in
set_option maxRecDepth 4000 in
theorem hsector_ok (b o c : Nat) (h : Nat → Hd) (k : Nat) (A : Ar) (w : World) (H : Arr w b o 3 h A) (hm : arMay A = true) (hk : k < many A) (ht : (tell A k).2.2 = 0) :
    Calls Tryz.prog 22 #[.agg #[.slice (some ⟨b, o, none⟩) 3 c], .int .i64 k] w (OutHe w (heal2 A k, healN A k, 0)) := by
  obtain ⟨W, hW⟩ : ∃ W, W = (w.alloc (.cells #[.slice (some ⟨b, o, none⟩) 3 c] 26)).alloc (.cells #[.slice none 0 0] 26) := ⟨_, rfl⟩
  have hB : Below w.heap.size w W := by rw [hW]; go_grown
  have hz : W.heap.size = w.heap.size + 2 := by rw [hW]; simp
  have rc : W.cell? ⟨w.heap.size + 1, 0, none⟩ = some (.slice none 0 0) := by rw [hW]; simp [go_sem]
  have rf : W.frozen? ⟨w.heap.size + 1, 0, none⟩ = false := by rw [hW]; simp [go_sem]
  have c0 : W.cell? ⟨w.heap.size, 0, none⟩ = some (.slice (some ⟨b, o, none⟩) 3 c) := by rw [hW]; simp [go_sem]
  have hmm := (arMay_iff A).1 hm
  have hk64 : k ≤ 64 := by omega
  have HA : ∀ wx, Below W.heap.size W wx → ArrAt wx (some ⟨b, o, none⟩) 3 A := fun wx g => .inr ⟨b, o, h, rfl, (H.below hB).below g⟩
  have HT := hid (aread_any (some ⟨b, o, none⟩) 3 c k A W (HA W (Below.refl _ _)))
  rw [arRead_tell A k hm hk, hW] at HT
  have CC := hid (fun wx (g : Below W.heap.size W wx) => arcopy_any (some ⟨b, o, none⟩) 3 c A wx (HA wx g) (may_fits A hm))
  have CN := hid (fun wx => hparitynumber_any k wx (by omega))
  have h1 := heal1_may A hm k hk ht
  have HS2 := hid (hstep_two A k)
  have HQ := hid (And.intro h1.2.1 (show k < many (heal1 A k) by rw [h1.2.2.1]; exact hk))
  have HX := hid (And.intro (heal2_eq A hm k hk ht) ((healN_eq A k).trans (by rw [← hcnt_two])))
  have HJ : Hid (hstep A k 0 = A ∧ hcnt A k 0 = 0 ∧ ∀ j, hstep A k (j + 1) = renA (hstep A k j) j k k (tell A k).1 ∧ hcnt A k (j + 1) = hcnt A k j + renN (hstep A k j) j k k (tell A k).1) := ⟨rfl, rfl, fun j => ⟨rfl, rfl⟩⟩
  have HC := hid (hcnt_bd A k)
  generalize heal2 A k = T at HX
  generalize healN A k = TN at HX
  generalize heal1 A k = A2 at HS2 HQ HX
  generalize hstep A k = st at HS2 HJ
  generalize hcnt A k = ct at HX HJ HC
  have ht' : ((tell A k).2.2 != 0) = false := bne_eq_false_iff_eq.2 ht
  generalize tell A k = r at HT HJ ht'
  have HP := hid (And.intro hB (And.intro hz (And.intro c0 (And.intro rc rf))))
  have HE := hid hW
  clear hB hz rc rf c0 H hW HA hm hk hmm ht h1
  go_enter Tryz.func22, Tryz.ntmps22
  go_wp2_with fail
  refine HT.out.mono ?_
  rintro _ w1 ⟨rfl, g1⟩
  rw [← HE.out] at g1
  have d0 := (g1.cell (p := ⟨w.heap.size, 0, none⟩) (by show w.heap.size < W.heap.size; rw [HP.out.2.1]; omega)).trans HP.out.2.2.1
  have G1 := hid g1
  clear g1 HT HE
  go_wp2_with fail
  clear ht'
  refine (CC.out _ G1.out).mono ?_
  rintro _ w3 ⟨a3, c3, rfl, h3, g3⟩
  rcases h3 with ⟨h30, _⟩ | ⟨b3, hd3, rfl, hb3, hf3⟩
  · omega
  have hst := wrI_start (pr := w.heap.size + 1) (cc := c3) HP.out.1 (by omega) (by rw [HP.out.2.1]; omega) HP.out.2.2.2.1 HP.out.2.2.2.2 (bel3 G1.out g3) (Nat.le_trans G1.out.size hb3) hf3
  have S3 := hid hst
  clear hst hf3 hb3 g3 d0 G1 CC
  go_upto_region 5 with fail
  obtain ⟨W3, hW3⟩ : ∃ W3, W3 = w3.alloc (.cells #[.slice (some ⟨b3, 0, none⟩) 3 c3] 26) := ⟨_, rfl⟩
  rw [← hW3] at S3 ⊢
  clear hW3
  generalize w3.heap.size = pc at S3 ⊢
  go_wp2_with fail
  go_loopw [11, 12] (fun s11 s12 wr => ∃ j : Nat, j ≤ 2 ∧ s11 = .int .i64 (ct j) ∧ s12 = .int .i64 j ∧ Hid (WrI w (w.heap.size + 1) pc b3 c3 (st j) wr)) (fun _ i _ => 2 - (intOf i).toNat)
  case atStart => exact ⟨0, by omega, by rw [HJ.out.2.1], rfl, by rw [HJ.out.1]; exact S3.out⟩
  case round =>
    obtain ⟨j, hj, rfl, rfl, S4⟩ := hrel
    clear S3
    have d1 := S4.out.cb
    have mb := HC.out j
    by_cases hlt : j < 2
    · have hlt' : (j : Int) ≤ 1 := by omega
      obtain ⟨h4, f4⟩ := S4.out.fr
      have CW := hid (hrenew_any b3 0 c3 h4 (st j) j k k r.1 wr (by omega) f4)
      have nb := renN_bd (st j) j k k r.1
      have HN := hid (HJ.out.2.2 j)
      generalize renN (st j) j k k r.1 = N1 at CW nb HN
      generalize renA (st j) j k k r.1 = A1 at CW HN
      generalize ct j = M at mb HN
      clear f4
      go_wp2_with fail
      refine CW.out.mono ?_
      rintro _ w5 ⟨rfl, g5, f5⟩
      have S5 := hid (S4.out.grown g5 f5)
      clear g5 f5 CW d1 S4
      go_wp2
      go_roundw
      case rel => exact ⟨j + 1, by omega, by rw [HN.out.2] <;> rfl, by go_num, by rw [HN.out.1]; exact S5.out⟩
      case measure => simp [intOf]; omega
    · obtain rfl : j = 2 := by omega
      have hnl : ¬ ((2 : Nat) : Int) ≤ 1 := by decide
      clear hlt hj
      rw [HS2.out] at S4
      obtain ⟨h4, f4⟩ := S4.out.fr
      have CP := hid (hparityof_any b3 0 c3 h4 A2 k wr f4.arr HQ.out.1 HQ.out.2)
      have HX2 : Hid (T = (if known A2 k = true then renA A2 2 ((k / 2 : Nat) : Int) ((512 + k / 2 : Nat) : Int) (parX A2 k) else A2) ∧ TN = ct 2 + (if known A2 k = true then renN A2 2 ((k / 2 : Nat) : Int) ((512 + k / 2 : Nat) : Int) (parX A2 k) else 0)) := by
        refine ⟨HX.out.1.trans ?_, HX.out.2.trans ?_⟩
        · unfold parX; split <;> rfl
        · unfold parX; split <;> rfl
      generalize parX A2 k = X at CP HX2
      generalize ct 2 = M at mb HX2
      clear HX f4
      cases hK : known A2 k with
      | false =>
        rw [hK] at CP HX2
        clear hK
        go_wp2_with fail
        refine CP.out.mono ?_
        rintro _ w5 ⟨rfl, g5⟩
        have S5 := hid (S4.out.to g5)
        clear g5 d1 S4 CP
        have d1 := S5.out.cb
        have rc := S5.out.rc
        have rf := S5.out.rf
        have y0 := World.cell?_setCell_same w5 ⟨w.heap.size + 1, 0, none⟩ (.slice (some ⟨b3, 0, none⟩) 3 c3) rc
        go_wp2
        refine bodyPost_ret (v := .tuple #[.agg #[.slice (some ⟨b3, 0, none⟩) 3 c3], .int .i64 M, .int .i64 0]) (by simp [results, Tryz.results22, go_sem, y0]) rfl ?_
        have e1 : T = A2 := HX2.out.1
        have e2 : TN = M := by have := HX2.out.2; simpa using this
        rw [e1, e2]
        exact S5.out.outHe M
      | true =>
        rw [hK, if_pos rfl, if_pos rfl] at HX2
        rw [hK] at CP
        clear hK
        go_wp2_with fail
        refine CP.out.mono ?_
        rintro _ w5 ⟨rfl, g5⟩
        have S5 := hid (S4.out.to g5)
        clear g5 d1 S4 CP
        have d1 := S5.out.cb
        obtain ⟨h5, f5⟩ := S5.out.fr
        have CW := hid (fun wx (g : Below w5.heap.size w5 wx) => hrenew_any b3 0 c3 h5 A2 2 ((k / 2 : Nat) : Int) ((512 + k / 2 : Nat) : Int) X wx (by omega) (f5.below g))
        have nb := renN_bd A2 2 ((k / 2 : Nat) : Int) ((512 + k / 2 : Nat) : Int) X
        have u1 : IntKind.i64.wrap ((k : Int) / 2) = ((k / 2 : Nat) : Int) := by rw [IntWalk.i64_in _ (by omega)]; omega
        generalize renN A2 2 ((k / 2 : Nat) : Int) ((512 + k / 2 : Nat) : Int) X = N1 at CW nb HX2
        generalize renA A2 2 ((k / 2 : Nat) : Int) ((512 + k / 2 : Nat) : Int) X = A3 at CW HX2
        generalize ((512 + k / 2 : Nat) : Int) = R at CW CN
        generalize ((k / 2 : Nat) : Int) = Q at CW u1
        have u2 : IntKind.i64.wrap (M + N1) = M + N1 := IntWalk.i64_in _ (by omega)
        clear f5
        go_wp2_with fail
        go_region_held3 (fun w' => w'.cell? ⟨pc, 0, none⟩ = some (.slice (some ⟨b3, 0, none⟩) 3 c3)) (go_keep)
          (first | (go_at_call 50; refine (CN.out _).mono ?_; rintro _ w9 ⟨rfl, h9⟩; (have h8 := h9.symm); subst h8) | (go_at_call 48; refine (CW.out _ ((Below.refl _ w5).drew)).mono ?_; rintro _ w9 ⟨rfl, g9, f9⟩; (have S9 := hid (S5.out.drew.grown g9 f9)); (have j0 := S9.out.cb); clear g9 f9))
        all_goals have rc := S9.out.rc
        all_goals have rf := S9.out.rf
        all_goals have y0 := World.cell?_setCell_same w9 ⟨w.heap.size + 1, 0, none⟩ (.slice (some ⟨b3, 0, none⟩) 3 c3) rc
        all_goals go_wp2
        all_goals refine bodyPost_ret (v := .tuple #[.agg #[.slice (some ⟨b3, 0, none⟩) 3 c3], .int .i64 (M + N1), .int .i64 0]) (by simp [results, Tryz.results22, go_sem, y0]) rfl ?_
        all_goals (rw [HX2.out.1, HX2.out.2]; exact S9.out.outHe (M + N1))
theorem hsector_any (a : Option Addr) (n c : Nat) (i : Int) (A : Ar) (w : World) (H : ArrAt w a n A) :
    Calls Tryz.prog 22 #[.agg #[.slice a n c], .int .i64 i] w (OutHe w (arHeal A i)) := by
  unfold arHeal
  by_cases ht : (arRead A i).2.2 = 0
  · rw [if_pos ht]
    have h0 : arTouch A i = 0 := by
      apply Classical.byContradiction
      intro h
      rw [arRead, if_neg h] at ht
      exact h ht
    obtain ⟨hm, h0, h1⟩ := arTouch_ok A i h0
    obtain ⟨k, rfl⟩ : ∃ k : Nat, i = k := ⟨i.toNat, by omega⟩
    obtain ⟨rfl, b, o, h, rfl, HX⟩ := may_three H hm
    rw [arRead_tell A k hm (by omega)] at ht
    rw [show (k : Int).toNat = k by omega]
    exact hsector_ok b o c h k A w HX hm (by omega) ht
  · rw [if_neg ht]
    exact hsector_no a n c i A w H ht
end Go.Proofs.YtpnmidkocmokeaaGreatDoor
