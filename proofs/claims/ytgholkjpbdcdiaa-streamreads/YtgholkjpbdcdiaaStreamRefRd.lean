/- What the document's own StreamRead answers. -/
import Derived.Test.YtgholkjpbdcdiaaStreamRd
import Derived.Test.YtgholkjpbdcdiaaArrRefTouch
namespace Go.Proofs.Ytgholkjpbdcdiaa
open Go.RowKit

theorem streadof_no (a : Option Addr) (n c : Nat) (x m : Int) (A : Ar) (w : World) (H : ArrAt w a n A) (ht : stChk A x m ≠ 0) :
    Calls Try.prog 14 #[.agg #[.slice a n c], .int .i64 x, .int .i64 m] w fun e w' => e = .returned (.tuple #[.string (str []), .int .i64 (stChk A x m)]) ∧ Below w.heap.size w w' := by
  obtain ⟨W, hW⟩ : ∃ W, W = w.alloc (.cells #[.slice a n c] 27) := ⟨_, rfl⟩
  have hB : Below w.heap.size w W := by rw [hW]; go_grown
  have HT := hid (stfault_any a n c A x m W (H.below hB))
  generalize stChk A x m = t at HT ht
  have ht' : (t != 0) = true := bne_iff_ne.2 ht
  rw [hW] at HT
  have HP := hid (And.intro hB hW)
  clear ht hB H hW
  go_enter Try.func14, Try.ntmps14
  go_wp2_with fail
  refine HT.out.mono ?_
  rintro _ w1 ⟨rfl, g1⟩
  rw [← HP.out.2] at g1
  go_wp2
  go_ret2
  exact ⟨rfl, bel3 HP.out.1 g1⟩

set_option maxHeartbeats 1600000 in
set_option maxRecDepth 4000 in
theorem streadof_ok (b o c : Nat) (h : Nat → Hd) (x M : Nat) (A : Ar) (w : World) (H : Arr w b o 3 h A) (ht : stChk A x M = 0) :
    Calls Try.prog 14 #[.agg #[.slice (some ⟨b, o, none⟩) 3 c], .int .i64 x, .int .i64 M] w fun e w' => e = .returned (.tuple #[.string (str ((rdN A x (secs M)).1.take M)), .int .i64 (rdN A x (secs M)).2]) ∧ Below w.heap.size w w' := by
  obtain ⟨hm, hs, hx0, hx1⟩ := stChk_ok A x M ht
  rw [secs_nat] at hx1
  have hmm := (arMay_iff A).1 hm
  obtain ⟨W, hW⟩ : ∃ W, W = w.alloc (.cells #[.slice (some ⟨b, o, none⟩) 3 c] 27) := ⟨_, rfl⟩
  have hB : Below w.heap.size w W := by rw [hW]; go_grown
  have hz : W.heap.size = w.heap.size + 1 := by rw [hW]; simp
  have c0 : W.cell? ⟨w.heap.size, 0, none⟩ = some (.slice (some ⟨b, o, none⟩) 3 c) := by rw [hW]; simp
  have HA : ∀ wx, Below W.heap.size W wx → ArrAt wx (some ⟨b, o, none⟩) 3 A := fun wx g => .inr ⟨b, o, h, rfl, (H.below hB).below g⟩
  have HT := hid (stfault_any (some ⟨b, o, none⟩) 3 c A x M W (HA W (Below.refl _ _)))
  rw [ht, hW] at HT
  have CR := hid (fun (i : Int) wx (g : Below W.heap.size W wx) => refaread_any (some ⟨b, o, none⟩) 3 c i A wx (HA wx g))
  have CS := hid (fun wx => refsectors_ok M wx (by omega))
  have HP := hid (And.intro hB (And.intro hz c0))
  have HE := hid hW
  have hM : M ≤ 1536 := by omega
  have hS := secs_64 M hM
  have HM := hid (secs_le M)
  have hx64 : x ≤ 64 := by omega
  clear hB hz c0 H hW HA hm hmm ht hs hx0 hx1
  generalize secs M = K at hS HM CS
  go_enter Try.func14, Try.ntmps14
  go_wp2_with fail
  refine HT.out.mono ?_
  rintro _ w1 ⟨rfl, g1⟩
  rw [← HE.out] at g1
  have G1 := hid g1
  clear g1 HT HE
  go_wp2_with fail
  go_loopw [9, 10] (fun v i wr => ∃ (k : Nat) (t : ByteArray), k ≤ K ∧ v = .string t ∧ i = .int .i64 k ∧ Hid (((rdN A x k).2 = 0 ∧ t = str (rdN A x k).1) ∧ Below W.heap.size W wr)) (fun _ i _ => K - (intOf i).toNat)
  case atStart => exact ⟨0, _, Nat.zero_le _, rfl, rfl, ⟨rfl, rfl⟩, G1.out⟩
  case round =>
    obtain ⟨k, t, hk, rfl, rfl, HI⟩ := hrel
    clear G1
    obtain ⟨⟨r0, i0⟩, g0⟩ := HI.out
    have hl := rd_len A x k r0
    have ts : t.size = 24 * k := by rw [i0, str_size, hl]
    have I0 := hid (And.intro i0 g0)
    clear i0 HI hl
    by_cases hlt : k < K
    · have hlt' : (k : Int) < K := by omega
      have d0 := (g0.cell (p := ⟨w.heap.size, 0, none⟩) (by show w.heap.size < W.heap.size; rw [HP.out.2.1]; omega)).trans HP.out.2.2
      have C2 := hid (CR.out ((x + k : Nat) : Int) wr g0)
      have R1 := hid (rd_succ A x k r0)
      have R2 := hid (rd_stop A x k r0)
      have R3 := hid (arRead_len A (x + k))
      clear g0 r0
      generalize arRead A ((x + k : Nat) : Int) = R at C2 R1 R2 R3
      rw [show ((x + k : Nat) : Int) = (x : Int) + k by omega] at C2
      by_cases e : R.2.2 = 0
      · have e' : (R.2.2 != 0) = false := bne_eq_false_iff_eq.2 e
        have RN := hid (R1.out e)
        have r3 : (str R.1).size = 24 := by rw [str_size, R3.out e]
        obtain ⟨P, hP⟩ : ∃ P, str R.1 = P := ⟨_, rfl⟩
        rw [hP] at C2 r3
        have HPP := hid hP
        clear R1 R2 R3 e hP
        go_wp2_with (go_at_call 8; refine (CS.out _).mono ?_; rintro _ w9 ⟨rfl, h9⟩; (have h8 := h9.symm); subst h8)
        refine C2.out.mono ?_
        rintro _ w3 ⟨rfl, g3⟩
        have I3 := hid (And.intro (show (rdN A x (k + 1)).2 = 0 ∧ t ++ P = str (rdN A x (k + 1)).1 by rw [RN.out]; exact ⟨rfl, by rw [I0.out.1, ← HPP.out, str_app]⟩) (bel3 I0.out.2 g3))
        clear g3 C2 I0 d0
        go_wp2
        go_roundw
        case rel => exact ⟨k + 1, _, hlt, rfl, by go_num, I3.out⟩
        case measure => simp [intOf]; omega
      · have e' : (R.2.2 != 0) = true := bne_iff_ne.2 e
        have RN := hid (R2.out e K hlt)
        clear R1 R2 R3 e
        go_wp2_with (go_at_call 8; refine (CS.out _).mono ?_; rintro _ w9 ⟨rfl, h9⟩; (have h8 := h9.symm); subst h8)
        refine C2.out.mono ?_
        rintro _ w3 ⟨rfl, g3⟩
        have G3 := hid (bel3 I0.out.2 g3)
        clear g3 C2 I0 d0
        go_wp2
        go_ret2
        refine ⟨?_, bel3 HP.out.1 G3.out⟩
        rw [RN.out]
        show _ = Ending.returned (.tuple #[.string (str (([] : List UInt8).take M)), .int .i64 R.2.2])
        rw [List.take_nil]
        rfl
    · have hlt' : ¬ (k : Int) < K := by omega
      obtain rfl : k = K := by omega
      have hMk := HM.out
      have ET : Hid (t.extract 0 M = str ((rdN A x k).1.take M) ∧ (rdN A x k).2 = 0) := ⟨by rw [I0.out.1, ext_take], r0⟩
      have G5 := hid g0
      clear g0 I0 hlt hk r0
      go_wp2_with (go_at_call 8; refine (CS.out _).mono ?_; rintro _ w9 ⟨rfl, h9⟩; (have h8 := h9.symm); subst h8)
      go_ret2
      refine ⟨?_, bel3 HP.out.1 G5.out⟩
      rw [← ET.out.1, ET.out.2]
      rfl

theorem streadof_any (a : Option Addr) (n c : Nat) (x m : Int) (A : Ar) (w : World) (H : ArrAt w a n A) :
    Calls Try.prog 14 #[.agg #[.slice a n c], .int .i64 x, .int .i64 m] w fun e w' => e = .returned (.tuple #[.string (str (stRead A x m).1), .int .i64 (stRead A x m).2]) ∧ Below w.heap.size w w' := by
  unfold stRead
  by_cases h : stChk A x m = 0
  · rw [if_pos h]
    obtain ⟨hm, h1, h0, _⟩ := stChk_ok A x m h
    obtain ⟨x', rfl⟩ : ∃ x' : Nat, x = x' := ⟨x.toNat, by omega⟩
    obtain ⟨m', rfl⟩ : ∃ m' : Nat, m = m' := ⟨m.toNat, by omega⟩
    obtain ⟨rfl, b, o, hd, rfl, HX⟩ := may_three H hm
    exact streadof_ok b o c hd x' m' A w HX h
  · rw [if_neg h]
    exact streadof_no a n c x m A w H h
end Go.Proofs.Ytgholkjpbdcdiaa
