/- What the document's own StreamWritten answers. -/
import Derived.Test.YtgholkjpbdcdiaaStreamWrite
import Derived.Test.YtgholkjpbdcdiaaArrRefWrite
import Derived.Test.YtgholkjpbdcdiaaArrRefCopy
namespace Go.Proofs.Ytgholkjpbdcdiaa
open Go.RowKit Go.Lib

theorem cut_chunk (S : List UInt8) (k E : Nat) (h : E = min (24 * k + 24) S.length) : cut S (24 * k) E = chunk S k := by
  unfold cut chunk
  rw [List.drop_take]
  by_cases e : 24 * k + 24 ≤ S.length
  · rw [h, Nat.min_eq_left e, show 24 * k + 24 - 24 * k = 24 by omega]
  · rw [h, Nat.min_eq_right (by omega), List.take_of_length_le (by rw [List.length_drop]; omega), List.take_of_length_le (by rw [List.length_drop]; omega)]

theorem stwritten_no (a : Option Addr) (n c : Nat) (x : Int) (s : ByteArray) (A : Ar) (w : World) (H : ArrAt w a n A) (ht : stChk A x s.size ≠ 0) :
    Calls Try.prog 11 #[.agg #[.slice a n c], .int .i64 x, .string s] w (OutA w ([], stChk A x s.size)) := by
  obtain ⟨W, hW⟩ : ∃ W, W = (w.alloc (.cells #[.slice a n c] 27)).alloc (.cells #[.slice none 0 0] 27) := ⟨_, rfl⟩
  have hB : Below w.heap.size w W := by rw [hW]; go_grown
  have hz : W.heap.size = w.heap.size + 2 := by rw [hW]; simp
  have rc : W.cell? ⟨w.heap.size + 1, 0, none⟩ = some (.slice none 0 0) := by rw [hW]; simp [go_sem]
  have rf : W.frozen? ⟨w.heap.size + 1, 0, none⟩ = false := by rw [hW]; simp [go_sem]
  have HT := hid (stfault_any a n c A x s.size W (H.below hB))
  have HP := hid (And.intro hB (And.intro hz (And.intro rc rf)))
  have HK := hid (fun x w' (g : Below w.heap.size w w') => outA_none (x := x) g)
  generalize stChk A x s.size = t at HT ht
  have ht' : (t != 0) = true := bne_iff_ne.2 ht
  rw [hW] at HT
  have HE := hid hW
  clear ht hB hz rc rf H hW
  go_enter Try.func11, Try.ntmps11
  go_wp2_with fail
  refine HT.out.mono ?_
  rintro _ w1 ⟨rfl, g1⟩
  rw [← HE.out] at g1
  have r1 := (g1.cell (p := ⟨w.heap.size + 1, 0, none⟩) (by show w.heap.size + 1 < W.heap.size; rw [HP.out.2.1]; omega)).trans HP.out.2.2.1
  have r2 := (g1.frozen (p := ⟨w.heap.size + 1, 0, none⟩) (by show w.heap.size + 1 < W.heap.size; rw [HP.out.2.1]; omega)).trans HP.out.2.2.2
  have y0 := World.cell?_setCell_same w1 ⟨w.heap.size + 1, 0, none⟩ (.slice none 0 0) r1
  have G1 := hid ((bel3 HP.out.1 g1).setCell (p := ⟨w.heap.size + 1, 0, none⟩) (by show w.heap.size ≤ w.heap.size + 1; omega) (.slice none 0 0))
  clear g1
  go_wp2
  refine bodyPost_ret (v := .tuple #[.agg #[.slice none 0 0], .int .i64 t]) (by simp [results, Try.results11, go_sem, y0]) rfl ?_
  exact HK.out _ _ G1.out

set_option maxHeartbeats 1600000 in
set_option maxRecDepth 4000 in
theorem stwritten_ok (b o c : Nat) (h : Nat → Hd) (x : Nat) (s : ByteArray) (A : Ar) (w : World) (H : Arr w b o 3 h A) (ht : stChk A x s.size = 0) :
    Calls Try.prog 11 #[.agg #[.slice (some ⟨b, o, none⟩) 3 c], .int .i64 x, .string s] w (OutA w (stN A x s.data.toList (secs s.size), 0)) := by
  obtain ⟨hm, hs, hx0, hx1⟩ := stChk_ok A x s.size ht
  have hmm := (arMay_iff A).1 hm
  obtain ⟨W, hW⟩ : ∃ W, W = (w.alloc (.cells #[.slice (some ⟨b, o, none⟩) 3 c] 27)).alloc (.cells #[.slice none 0 0] 27) := ⟨_, rfl⟩
  have hB : Below w.heap.size w W := by rw [hW]; go_grown
  have hz : W.heap.size = w.heap.size + 2 := by rw [hW]; simp
  have rc : W.cell? ⟨w.heap.size + 1, 0, none⟩ = some (.slice none 0 0) := by rw [hW]; simp [go_sem]
  have rf : W.frozen? ⟨w.heap.size + 1, 0, none⟩ = false := by rw [hW]; simp [go_sem]
  have c0 : W.cell? ⟨w.heap.size, 0, none⟩ = some (.slice (some ⟨b, o, none⟩) 3 c) := by rw [hW]; simp [go_sem]
  have HA : ∀ wx, Below W.heap.size W wx → ArrAt wx (some ⟨b, o, none⟩) 3 A := fun wx g => .inr ⟨b, o, h, rfl, (H.below hB).below g⟩
  have HT := hid (stfault_any (some ⟨b, o, none⟩) 3 c A x s.size W (HA W (Below.refl _ _)))
  rw [ht, hW] at HT
  have CC := hid (fun wx (g : Below W.heap.size W wx) => acopy_any (some ⟨b, o, none⟩) 3 c A wx (HA wx g) (may_fits A hm))
  have HP := hid (And.intro hB (And.intro hz (And.intro c0 (And.intro rc rf))))
  have HE := hid hW
  have hS := secs_64 s.size (by omega)
  have hb : s.size ≤ 1536 := by omega
  have hx64 : x ≤ 64 := by omega
  have hl := ba_len s
  obtain ⟨S, hSS⟩ : ∃ S, S = s.data.toList := ⟨_, rfl⟩
  rw [← hSS]
  rw [← hSS] at hl
  have HN : Hid (∀ k, stN A x S (k + 1) = (arWrite (stN A x S k) ((x + k : Nat) : Int) (chunk S k)).1) := fun k => rfl
  have H0 : Hid (stN A x S 0 = A) := rfl
  have HS := hid (And.intro hSS hl)
  clear hB hz rc rf c0 H hW HA hm hmm ht hs hx0 hx1 hl hSS
  have hKK : secs s.size = secs S.length := by rw [HS.out.2]
  have CS := hid (fun wx => refsectors_ok s.size wx (by omega))
  generalize secs s.size = K at hS hKK CS
  have HK := hid hKK
  clear hKK
  go_enter Try.func11, Try.ntmps11
  go_wp2_with fail
  refine HT.out.mono ?_
  rintro _ w1 ⟨rfl, g1⟩
  rw [← HE.out] at g1
  have d0 := (g1.cell (p := ⟨w.heap.size, 0, none⟩) (by show w.heap.size < W.heap.size; rw [HP.out.2.1]; omega)).trans HP.out.2.2.1
  have G1 := hid g1
  clear g1 HT HE
  go_wp2_with fail
  refine (CC.out _ G1.out).mono ?_
  rintro _ w3 ⟨a3, c3, rfl, h3, g3⟩
  rcases h3 with ⟨h30, _⟩ | ⟨b3, hd3, rfl, hb3, hf3⟩
  · omega
  have hst := stI_start (pr := w.heap.size + 1) (cc := c3) HP.out.1 (by omega) (by rw [HP.out.2.1]; omega) HP.out.2.2.2.1 HP.out.2.2.2.2 (bel3 G1.out g3) (Nat.le_trans G1.out.size hb3) hf3
  have S3 := hid hst
  clear hst hf3 hb3 g3 d0 G1 CC
  go_upto_region 5 with fail
  obtain ⟨W3, hW3⟩ : ∃ W3, W3 = w3.alloc (.cells #[.slice (some ⟨b3, 0, none⟩) 3 c3] 27) := ⟨_, rfl⟩
  rw [← hW3] at S3 ⊢
  clear hW3
  generalize w3.heap.size = pc at S3 ⊢
  go_wp2_with fail
  go_loopw [10] (fun i wr => ∃ k : Nat, k ≤ K ∧ i = .int .i64 k ∧ Hid (StI w (w.heap.size + 1) pc (stN A x S k) wr)) (fun i _ => K - (intOf i).toNat)
  case atStart => exact ⟨0, Nat.zero_le _, rfl, S3.out⟩
  case round =>
    obtain ⟨k, hk, rfl, HI⟩ := hrel
    clear S3
    by_cases hlt : k < K
    · have hlt' : (k : Int) < K := by omega
      have h24 := secs_lt S.length k (by rw [← HK.out]; exact hlt)
      rw [HS.out.2] at h24
      obtain ⟨aa, nn, cc, k1, hA⟩ := HI.out.arr
      obtain ⟨E, e1, e2, e3⟩ : ∃ E : Nat, E = min (24 * k + 24) s.size ∧ 24 * k ≤ E ∧ E ≤ s.size := ⟨_, rfl, by omega, by omega⟩
      have hE : (s.extract (24 * k) E).data.toList = chunk S k := by rw [ext_list, ← HS.out.1, cut_chunk S k E (by rw [HS.out.2]; exact e1)]
      have CW := hid (fun wx (g : Below wr.heap.size wr wx) => arwritten_any aa nn cc ((x + k : Nat) : Int) (s.extract (24 * k) E) (stN A x S k) wx (hA.below g))
      rw [hE] at CW
      have HV := hid (HN.out k)
      have S4 := hid HI.out
      generalize arWrite (stN A x S k) ((x + k : Nat) : Int) (chunk S k) = r at CW HV
      have u1 : IntKind.i64.wrap ((x : Int) + k) = ((x + k : Nat) : Int) := by rw [IntWalk.i64_in _ (by omega)]; omega
      have u2 : IntKind.i64.wrap (24 * (k : Int)) = ((24 * k : Nat) : Int) := by rw [IntWalk.i64_in _ (by omega)]; omega
      have HE := hid e1
      clear hA HI hE e1
      generalize x + k = z at CW u1
      go_upto_if 36 with (go_at_call 8; refine (CS.out _).mono ?_; rintro _ w9 ⟨rfl, h9⟩; (have h8 := h9.symm); subst h8)
      go_cut [11] (fun s11 wx => s11 = .int .i64 (E : Int) ∧ wx = wr)
      case first =>
        by_cases e : s.size < 24 * k + 24
        · have e' : (s.size : Int) < 24 * (k : Int) + 24 := by omega
          have HF : Hid ((s.size : Int) = E) := by show _ = _; have := HE.out; omega
          go_wp2_with fail
          go_meet
          exact ⟨by rw [HF.out] <;> rfl, rfl⟩
        · have e' : ¬ (s.size : Int) < 24 * (k : Int) + 24 := by omega
          have HF : Hid ((24 : Int) * k + 24 = E) := by show _ = _; have := HE.out; omega
          go_wp2_with fail
          go_meet
          exact ⟨by rw [HF.out] <;> rfl, rfl⟩
      case rest =>
        obtain ⟨rfl, rfl⟩ := hcut
        generalize 24 * k = y at CW u2 e2
        go_upto_region 11 with fail
        go_region_with (go_at_call 20; refine (CW.out _ ((Below.refl _ _).drew)).mono ?_; rintro _ w9 ⟨⟨x9, n9, c9, rfl, hX⟩, g9⟩; (have S9 := S4.out.drew.to g9); (have S10 := hid (S9.set (c := c9) S4.out.drew.lt.1 S4.out.drew.lt.2 hX)); (have j0 : w9.cell? ⟨pc, 0, none⟩ = some (.slice aa nn cc) := (g9.cell (p := ⟨pc, 0, none⟩) S4.out.drew.lt.2).trans k1); (have j1 := S9.af); clear S9 hX g9)
        all_goals rw [← HV.out] at S10
        all_goals go_wp2
        all_goals go_roundw
        case rel => exact ⟨k + 1, hlt, by go_num, S10.out⟩
        case measure => simp [intOf]; omega
    · have hlt' : ¬ (k : Int) < K := by omega
      obtain rfl : k = K := by omega
      have rc := HI.out.rc
      have rf := HI.out.rf
      obtain ⟨aa, nn, cc, k1, KK⟩ := HI.out.out
      have HO := hid KK
      have y0 := World.cell?_setCell_same wr ⟨w.heap.size + 1, 0, none⟩ (.slice aa nn cc) rc
      clear KK hk hlt HI
      go_wp2_with (go_at_call 8; refine (CS.out _).mono ?_; rintro _ w9 ⟨rfl, h9⟩; (have h8 := h9.symm); subst h8)
      refine bodyPost_ret (v := .tuple #[.agg #[.slice aa nn cc], .int .i64 0]) (by simp [results, Try.results11, go_sem, y0]) rfl ?_
      exact HO.out

theorem stwritten_any (a : Option Addr) (n c : Nat) (x : Int) (s : ByteArray) (A : Ar) (w : World) (H : ArrAt w a n A) :
    Calls Try.prog 11 #[.agg #[.slice a n c], .int .i64 x, .string s] w (OutA w (stWrite A x s.data.toList)) := by
  unfold stWrite
  rw [ba_len]
  by_cases h : stChk A x s.size = 0
  · rw [if_pos h]
    obtain ⟨hm, _, h0, _⟩ := stChk_ok A x s.size h
    obtain ⟨x', rfl⟩ : ∃ x' : Nat, x = x' := ⟨x.toNat, by omega⟩
    obtain ⟨rfl, b, o, hd, rfl, HX⟩ := may_three H hm
    exact stwritten_ok b o c hd x' s A w HX h
  · rw [if_neg h]
    exact stwritten_no a n c x s A w H h
end Go.Proofs.Ytgholkjpbdcdiaa
