/- Joined texts: StreamRd, StreamRefRd. -/
import Derived.Test.YtkhjmfngeidlcaaGreatDoorStrA
import Derived.Test.YtkhjmfngeidlcaaGreatDoorBld
import Derived.Test.YtkhjmfngeidlcaaGreatDoorArrA
import Derived.Test.YtkhjmfngeidlcaaGreatDoorArrRefT
/- What the program's stream.Read answers. -/
namespace Go.Proofs.YtkhjmfngeidlcaaGreatDoor
open Go.RowKit

theorem stread_no (a : Option Addr) (n c : Nat) (x m : Int) (A : Ar) (w : World) (H : ArrAt w a n A) (ht : stChk A x m ≠ 0) :
    Calls Tryz.prog 27 #[.agg #[.slice a n c], .int .i64 x, .int .i64 m] w fun e w' => e = .returned (.tuple #[.string (str []), .int .i64 (stChk A x m)]) ∧ Below w.heap.size w w' := by
  obtain ⟨W, hW⟩ : ∃ W, W = w.alloc (.cells #[.slice a n c] 24) := ⟨_, rfl⟩
  have hB : Below w.heap.size w W := by rw [hW]; go_grown
  have HT := hid (stcheck_any a n c A x m W (H.below hB))
  generalize stChk A x m = t at HT ht
  have ht' : (t != 0) = true := bne_iff_ne.2 ht
  rw [hW] at HT
  have HP := hid (And.intro hB hW)
  clear ht hB H hW
  go_enter Tryz.func27, Tryz.ntmps27
  go_wp2_with fail
  refine HT.out.mono ?_
  rintro _ w1 ⟨rfl, g1⟩
  rw [← HP.out.2] at g1
  go_wp2
  go_ret2
  exact ⟨rfl, bel3 HP.out.1 g1⟩

theorem ext_take (l : List UInt8) (m : Nat) : (str l).extract 0 m = str (l.take m) := by rw [ext_str, str_list, cut, List.drop_zero]

set_option maxHeartbeats 1600000 in
set_option maxRecDepth 4000 in
theorem stread_ok (b o c : Nat) (h : Nat → Hd) (x M : Nat) (A : Ar) (w : World) (H : Arr w b o 3 h A) (ht : stChk A x M = 0) :
    Calls Tryz.prog 27 #[.agg #[.slice (some ⟨b, o, none⟩) 3 c], .int .i64 x, .int .i64 M] w fun e w' => e = .returned (.tuple #[.string (str ((rdN A x (secs M)).1.take M)), .int .i64 (rdN A x (secs M)).2]) ∧ Below w.heap.size w w' := by
  obtain ⟨hm, hs, hx0, hx1⟩ := stChk_ok A x M ht
  rw [secs_nat] at hx1
  have hmm := (arMay_iff A).1 hm
  obtain ⟨W, hW⟩ : ∃ W, W = w.alloc (.cells #[.slice (some ⟨b, o, none⟩) 3 c] 24) := ⟨_, rfl⟩
  have hB : Below w.heap.size w W := by rw [hW]; go_grown
  have hz : W.heap.size = w.heap.size + 1 := by rw [hW]; simp
  have c0 : W.cell? ⟨w.heap.size, 0, none⟩ = some (.slice (some ⟨b, o, none⟩) 3 c) := by rw [hW]; simp
  have HA : ∀ wx, Below W.heap.size W wx → ArrAt wx (some ⟨b, o, none⟩) 3 A := fun wx g => .inr ⟨b, o, h, rfl, (H.below hB).below g⟩
  have HT := hid (stcheck_any (some ⟨b, o, none⟩) 3 c A x M W (HA W (Below.refl _ _)))
  rw [ht, hW] at HT
  have CR := hid (fun (i : Int) wx (g : Below W.heap.size W wx) => aread_any (some ⟨b, o, none⟩) 3 c i A wx (HA wx g))
  have CS := hid (fun wx => sectors_ok M wx (by omega))
  have HP := hid (And.intro hB (And.intro hz c0))
  have HE := hid hW
  have hM : M ≤ 1536 := by omega
  have hS := secs_64 M hM
  have HM := hid (secs_le M)
  have hx64 : x ≤ 64 := by omega
  clear hB hz c0 H hW HA hm hmm ht hs hx0 hx1
  generalize secs M = K at hS HM CS
  go_enter Tryz.func27, Tryz.ntmps27
  go_wp2_with fail
  refine HT.out.mono ?_
  rintro _ w1 ⟨rfl, g1⟩
  rw [← HE.out] at g1
  have G1 := hid g1
  clear g1 HT HE
  go_upto_region 5 with fail
  obtain ⟨W1, hW1⟩ : ∃ W1, W1 = w1.alloc (.cells #[.pointer none, .slice none 0 0] 77) := ⟨_, rfl⟩
  have b1 : Below w1.heap.size w1 W1 := by rw [hW1]; exact (Below.refl _ w1).alloc (Nat.le_refl _) _
  have n1 : Bld w1.heap.size [] W1 := by rw [hW1]; exact bld_new w1
  rw [← hW1]
  have S1 := hid (And.intro n1 (And.intro (bel3 G1.out b1) G1.out.size))
  clear hW1 b1 n1 G1
  generalize w1.heap.size = pb at S1 ⊢
  go_wp2_with (go_at_call 44; refine (CS.out _).mono ?_; rintro _ w9 ⟨rfl, h9⟩; (have h8 := h9.symm); subst h8)
  go_loopw [23] (fun i wr => ∃ k : Nat, k ≤ K ∧ i = .int .i64 k ∧ Hid (((rdN A x k).2 = 0 ∧ Bld pb (rdN A x k).1 wr) ∧ Below W.heap.size W wr)) (fun i _ => K - (intOf i).toNat)
  case atStart => exact ⟨0, Nat.zero_le _, rfl, ⟨rfl, S1.out.1⟩, S1.out.2.1⟩
  case round =>
    obtain ⟨k, hk, rfl, HI⟩ := hrel
    have HB := hid S1.out.2.2
    clear S1
    obtain ⟨⟨r0, i0⟩, g0⟩ := HI.out
    have HL := hid (rd_len A x k r0)
    by_cases hlt : k < K
    · have hlt' : (k : Int) < K := by omega
      have d0 := (g0.cell (p := ⟨w.heap.size, 0, none⟩) (by show w.heap.size < W.heap.size; rw [HP.out.2.1]; omega)).trans HP.out.2.2
      have C2 := hid (CR.out ((x + k : Nat) : Int) wr g0)
      have R1 := hid (rd_succ A x k r0)
      have R2 := hid (rd_stop A x k r0)
      have R3 := hid (arRead_len A (x + k))
      have I0 := hid (And.intro i0 g0)
      clear i0 g0 HI r0
      generalize arRead A ((x + k : Nat) : Int) = R at C2 R1 R2 R3
      rw [show ((x + k : Nat) : Int) = (x : Int) + k by omega] at C2
      by_cases e : R.2.2 = 0
      · have e' : (R.2.2 != 0) = false := bne_eq_false_iff_eq.2 e
        have r1 := R1.out e
        have r3 := R3.out e
        have RN := hid (And.intro r1 r3)
        clear R1 R2 R3 r1 r3 e
        go_wp2_with fail
        refine C2.out.mono ?_
        rintro _ w3 ⟨rfl, g3⟩
        have I3 := hid (And.intro (I0.out.1.below g3) (bel3 I0.out.2 g3))
        clear g3 C2 I0 d0
        go_wp2_with fail
        refine (bwrite_any pb _ (str R.1) w3 I3.out.1 (by rw [HL.out, str_size, RN.out.2]; omega)).mono ?_
        rintro _ w4 ⟨rfl, h4, g4⟩
        rw [str_list] at h4
        have I4 := hid (And.intro (show (rdN A x (k + 1)).2 = 0 ∧ Bld pb (rdN A x (k + 1)).1 w4 by rw [RN.out.1]; exact ⟨rfl, h4⟩) (I3.out.2.trans (g4.mono HB.out)))
        clear h4 g4 I3
        go_wp2
        go_roundw
        case rel => exact ⟨k + 1, hlt, by go_num, I4.out⟩
        case measure => simp [intOf]; omega
      · have e' : (R.2.2 != 0) = true := bne_iff_ne.2 e
        have r2 := R2.out e K hlt
        have RN := hid r2
        clear R1 R2 R3 r2 e
        go_wp2_with fail
        refine C2.out.mono ?_
        rintro _ w3 ⟨rfl, g3⟩
        have G3 := hid (bel3 I0.out.2 g3)
        clear g3 C2 I0 d0
        go_wp2
        go_ret2
        refine ⟨?_, bel3 HP.out.1 G3.out⟩
        rw [RN.out]
        show _ = Ending.returned (.tuple #[.string (str (([] : List UInt8).take M)), .int .i64 R.2.2])
        rw [List.take_nil]
        rfl
    · have hlt' : ¬ (k : Int) < K := by omega
      obtain rfl : k = K := by omega
      have CT := hid (bstring_any pb _ wr i0)
      have I0 := hid (And.intro r0 g0)
      clear i0 g0 HI hlt hk r0
      obtain ⟨R, hR⟩ : ∃ R, rdN A x k = R := ⟨_, rfl⟩
      rw [hR] at CT HL I0
      have HR := hid hR
      clear hR
      obtain ⟨L, E⟩ := R
      have hl : L.length = 24 * k := HL.out
      have sz : (str L).size = 24 * k := by rw [str_size, hl]
      have hMk := HM.out
      have ET := hid (ext_take L M)
      have I1 := hid (And.intro (show E = 0 from I0.out.1) I0.out.2)
      change Hid (Calls Tryz.prog _ _ wr fun e w' => e = .returned (.string (str L)) ∧ Below pb wr w') at CT
      clear I0 hl HL
      generalize str L = Z at CT sz ET
      go_wp2_with fail
      refine CT.out.mono ?_
      rintro _ w5 ⟨rfl, g5⟩
      have G5 := hid (I1.out.2.trans (g5.mono HB.out))
      clear g5
      go_wp2
      go_ret2
      refine ⟨?_, bel3 HP.out.1 G5.out⟩
      rw [HR.out, I1.out.1]
      show _ = Ending.returned (.tuple #[.string (str (L.take M)), .int .i64 0])
      rw [← ET.out]
      rfl

theorem stread_any (a : Option Addr) (n c : Nat) (x m : Int) (A : Ar) (w : World) (H : ArrAt w a n A) :
    Calls Tryz.prog 27 #[.agg #[.slice a n c], .int .i64 x, .int .i64 m] w fun e w' => e = .returned (.tuple #[.string (str (stRead A x m).1), .int .i64 (stRead A x m).2]) ∧ Below w.heap.size w w' := by
  unfold stRead
  by_cases h : stChk A x m = 0
  · rw [if_pos h]
    obtain ⟨hm, h1, h0, _⟩ := stChk_ok A x m h
    obtain ⟨x', rfl⟩ : ∃ x' : Nat, x = x' := ⟨x.toNat, by omega⟩
    obtain ⟨m', rfl⟩ : ∃ m' : Nat, m = m' := ⟨m.toNat, by omega⟩
    obtain ⟨rfl, b, o, hd, rfl, HX⟩ := may_three H hm
    exact stread_ok b o c hd x' m' A w HX h
  · rw [if_neg h]
    exact stread_no a n c x m A w H h
end Go.Proofs.YtkhjmfngeidlcaaGreatDoor

/- What the document's own StreamRead answers. -/
namespace Go.Proofs.YtkhjmfngeidlcaaGreatDoor
open Go.RowKit

theorem streadof_no (a : Option Addr) (n c : Nat) (x m : Int) (A : Ar) (w : World) (H : ArrAt w a n A) (ht : stChk A x m ≠ 0) :
    Calls Tryz.prog 48 #[.agg #[.slice a n c], .int .i64 x, .int .i64 m] w fun e w' => e = .returned (.tuple #[.string (str []), .int .i64 (stChk A x m)]) ∧ Below w.heap.size w w' := by
  obtain ⟨W, hW⟩ : ∃ W, W = w.alloc (.cells #[.slice a n c] 24) := ⟨_, rfl⟩
  have hB : Below w.heap.size w W := by rw [hW]; go_grown
  have HT := hid (stfault_any a n c A x m W (H.below hB))
  generalize stChk A x m = t at HT ht
  have ht' : (t != 0) = true := bne_iff_ne.2 ht
  rw [hW] at HT
  have HP := hid (And.intro hB hW)
  clear ht hB H hW
  go_enter Tryz.func48, Tryz.ntmps48
  go_wp2_with fail
  refine HT.out.mono ?_
  rintro _ w1 ⟨rfl, g1⟩
  rw [← HP.out.2] at g1
  go_wp2
  go_ret2
  exact ⟨rfl, bel3 HP.out.1 g1⟩

set_option maxHeartbeats 1600000 in
set_option maxRecDepth 4000 in
theorem streadof_ok (b o c : Nat) (h : Nat → Hd) (x M : Nat) (A : Ar) (w : World) (H : Arr w b o 3 h A) (ht : stChk A x M = 0) :
    Calls Tryz.prog 48 #[.agg #[.slice (some ⟨b, o, none⟩) 3 c], .int .i64 x, .int .i64 M] w fun e w' => e = .returned (.tuple #[.string (str ((rdN A x (secs M)).1.take M)), .int .i64 (rdN A x (secs M)).2]) ∧ Below w.heap.size w w' := by
  obtain ⟨hm, hs, hx0, hx1⟩ := stChk_ok A x M ht
  rw [secs_nat] at hx1
  have hmm := (arMay_iff A).1 hm
  obtain ⟨W, hW⟩ : ∃ W, W = w.alloc (.cells #[.slice (some ⟨b, o, none⟩) 3 c] 24) := ⟨_, rfl⟩
  have hB : Below w.heap.size w W := by rw [hW]; go_grown
  have hz : W.heap.size = w.heap.size + 1 := by rw [hW]; simp
  have c0 : W.cell? ⟨w.heap.size, 0, none⟩ = some (.slice (some ⟨b, o, none⟩) 3 c) := by rw [hW]; simp
  have HA : ∀ wx, Below W.heap.size W wx → ArrAt wx (some ⟨b, o, none⟩) 3 A := fun wx g => .inr ⟨b, o, h, rfl, (H.below hB).below g⟩
  have HT := hid (stfault_any (some ⟨b, o, none⟩) 3 c A x M W (HA W (Below.refl _ _)))
  rw [ht, hW] at HT
  have CR := hid (fun (i : Int) wx (g : Below W.heap.size W wx) => refaread_any (some ⟨b, o, none⟩) 3 c i A wx (HA wx g))
  have CS := hid (fun wx => refsectors_ok M wx (by omega))
  have HP := hid (And.intro hB (And.intro hz c0))
  have HE := hid hW
  have hM : M ≤ 1536 := by omega
  have hS := secs_64 M hM
  have HM := hid (secs_le M)
  have hx64 : x ≤ 64 := by omega
  clear hB hz c0 H hW HA hm hmm ht hs hx0 hx1
  generalize secs M = K at hS HM CS
  go_enter Tryz.func48, Tryz.ntmps48
  go_wp2_with fail
  refine HT.out.mono ?_
  rintro _ w1 ⟨rfl, g1⟩
  rw [← HE.out] at g1
  have G1 := hid g1
  clear g1 HT HE
  go_wp2_with fail
  go_loopw [9, 10] (fun v i wr => ∃ (k : Nat) (t : ByteArray), k ≤ K ∧ v = .string t ∧ i = .int .i64 k ∧ Hid (((rdN A x k).2 = 0 ∧ t = str (rdN A x k).1) ∧ Below W.heap.size W wr)) (fun _ i _ => K - (intOf i).toNat)
  case atStart => exact ⟨0, _, Nat.zero_le _, rfl, rfl, ⟨rfl, rfl⟩, G1.out⟩
  case round =>
    obtain ⟨k, t, hk, rfl, rfl, HI⟩ := hrel
    clear G1
    obtain ⟨⟨r0, i0⟩, g0⟩ := HI.out
    have hl := rd_len A x k r0
    have ts : t.size = 24 * k := by rw [i0, str_size, hl]
    have I0 := hid (And.intro i0 g0)
    clear i0 HI hl
    by_cases hlt : k < K
    · have hlt' : (k : Int) < K := by omega
      have d0 := (g0.cell (p := ⟨w.heap.size, 0, none⟩) (by show w.heap.size < W.heap.size; rw [HP.out.2.1]; omega)).trans HP.out.2.2
      have C2 := hid (CR.out ((x + k : Nat) : Int) wr g0)
      have R1 := hid (rd_succ A x k r0)
      have R2 := hid (rd_stop A x k r0)
      have R3 := hid (arRead_len A (x + k))
      clear g0 r0
      generalize arRead A ((x + k : Nat) : Int) = R at C2 R1 R2 R3
      rw [show ((x + k : Nat) : Int) = (x : Int) + k by omega] at C2
      by_cases e : R.2.2 = 0
      · have e' : (R.2.2 != 0) = false := bne_eq_false_iff_eq.2 e
        have RN := hid (R1.out e)
        have r3 : (str R.1).size = 24 := by rw [str_size, R3.out e]
        obtain ⟨P, hP⟩ : ∃ P, str R.1 = P := ⟨_, rfl⟩
        rw [hP] at C2 r3
        have HPP := hid hP
        clear R1 R2 R3 e hP
        go_wp2_with (go_at_call 22; refine (CS.out _).mono ?_; rintro _ w9 ⟨rfl, h9⟩; (have h8 := h9.symm); subst h8)
        refine C2.out.mono ?_
        rintro _ w3 ⟨rfl, g3⟩
        have I3 := hid (And.intro (show (rdN A x (k + 1)).2 = 0 ∧ t ++ P = str (rdN A x (k + 1)).1 by rw [RN.out]; exact ⟨rfl, by rw [I0.out.1, ← HPP.out, str_app]⟩) (bel3 I0.out.2 g3))
        clear g3 C2 I0 d0
        go_wp2
        go_roundw
        case rel => exact ⟨k + 1, _, hlt, rfl, by go_num, I3.out⟩
        case measure => simp [intOf]; omega
      · have e' : (R.2.2 != 0) = true := bne_iff_ne.2 e
        have RN := hid (R2.out e K hlt)
        clear R1 R2 R3 e
        go_wp2_with (go_at_call 22; refine (CS.out _).mono ?_; rintro _ w9 ⟨rfl, h9⟩; (have h8 := h9.symm); subst h8)
        refine C2.out.mono ?_
        rintro _ w3 ⟨rfl, g3⟩
        have G3 := hid (bel3 I0.out.2 g3)
        clear g3 C2 I0 d0
        go_wp2
        go_ret2
        refine ⟨?_, bel3 HP.out.1 G3.out⟩
        rw [RN.out]
        show _ = Ending.returned (.tuple #[.string (str (([] : List UInt8).take M)), .int .i64 R.2.2])
        rw [List.take_nil]
        rfl
    · have hlt' : ¬ (k : Int) < K := by omega
      obtain rfl : k = K := by omega
      have hMk := HM.out
      have ET : Hid (t.extract 0 M = str ((rdN A x k).1.take M) ∧ (rdN A x k).2 = 0) := ⟨by rw [I0.out.1, ext_take], r0⟩
      have G5 := hid g0
      clear g0 I0 hlt hk r0
      go_wp2_with (go_at_call 22; refine (CS.out _).mono ?_; rintro _ w9 ⟨rfl, h9⟩; (have h8 := h9.symm); subst h8)
      go_ret2
      refine ⟨?_, bel3 HP.out.1 G5.out⟩
      rw [← ET.out.1, ET.out.2]
      rfl

theorem streadof_any (a : Option Addr) (n c : Nat) (x m : Int) (A : Ar) (w : World) (H : ArrAt w a n A) :
    Calls Tryz.prog 48 #[.agg #[.slice a n c], .int .i64 x, .int .i64 m] w fun e w' => e = .returned (.tuple #[.string (str (stRead A x m).1), .int .i64 (stRead A x m).2]) ∧ Below w.heap.size w w' := by
  unfold stRead
  by_cases h : stChk A x m = 0
  · rw [if_pos h]
    obtain ⟨hm, h1, h0, _⟩ := stChk_ok A x m h
    obtain ⟨x', rfl⟩ : ∃ x' : Nat, x = x' := ⟨x.toNat, by omega⟩
    obtain ⟨m', rfl⟩ : ∃ m' : Nat, m = m' := ⟨m.toNat, by omega⟩
    obtain ⟨rfl, b, o, hd, rfl, HX⟩ := may_three H hm
    exact streadof_ok b o c hd x' m' A w HX h
  · rw [if_neg h]
    exact streadof_no a n c x m A w H h
end Go.Proofs.YtkhjmfngeidlcaaGreatDoor
