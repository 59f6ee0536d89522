/- Joined texts: StreamSmall, StreamWrite, StreamRefWrite. -/
import Derived.Test.YtkhjmfngeidlcaaDoorArrM
import Derived.Test.YtkhjmfngeidlcaaDoorStreamSecs
import Derived.Test.YtkhjmfngeidlcaaDoorArrA
import Derived.Test.YtkhjmfngeidlcaaDoorRefA
import Derived.Test.YtkhjmfngeidlcaaDoorSecA
import Derived.Deep.RegionHeld3
import Derived.Deep.RegionWith
import Derived.Deep.DeepCutAuto
import Derived.BigQuiet
import Derived.Test.YtkhjmfngeidlcaaDoorArrB
import Derived.Test.YtkhjmfngeidlcaaDoorArrRefT
import Derived.Test.YtkhjmfngeidlcaaDoorArrRefCopy
/- How many sectors so many bytes need; what is refused: the program's and the document's. -/
namespace Go.Proofs.YtkhjmfngeidlcaaDoor
open Go.RowKit Go.Lib

theorem secs_nat (m : Nat) : secs ((m : Int)).toNat = secs m := by rw [show ((m : Int)).toNat = m by omega]

set_option maxHeartbeats 1600000 in
set_option maxRecDepth 4000 in
theorem stcheck_any (a : Option Addr) (n c : Nat) (A : Ar) (x m : Int) (w : World) (H : ArrAt w a n A) :
    Calls Tryd.prog 22 #[.agg #[.slice a n c], .int .i64 x, .int .i64 m] w fun e w' => e = .returned (.int .i64 (stChk A x m)) ∧ Below w.heap.size w w' := by
  obtain ⟨W, hW⟩ : ∃ W, W = w.alloc (.cells #[.slice a n c] 24) := ⟨_, rfl⟩
  have hB : Below w.heap.size w W := by rw [hW]; go_grown
  have hz : W.heap.size = w.heap.size + 1 := by rw [hW]; simp
  have c0 : W.cell? ⟨w.heap.size, 0, none⟩ = some (.slice a n c) := by rw [hW]; simp
  have C1 := acheck_any a n c A W (H.below hB)
  rw [hW] at C1
  unfold stChk
  cases hm : arMay A with
  | false =>
    rw [arChk_no A hm] at C1
    have H1 := hid C1
    have HP := hid (And.intro hB hW)
    clear C1 hB hz c0 hW H hm
    go_enter Tryd.func22, Tryd.ntmps22
    go_wp2_with fail
    refine H1.out.mono ?_
    rintro _ w1 ⟨rfl, g1⟩
    rw [← HP.out.2] at g1
    go_wp2
    go_ret
    exact ⟨rfl, bel3 HP.out.1 g1⟩
  | true =>
    rw [arChk_yes A hm] at C1
    rw [if_pos rfl]
    have hmm := (arMay_iff A).1 hm
    have hN : many A ≤ 64 := hmm.2.2.2.1
    have H1 := hid C1
    by_cases m0 : m < 0
    · rw [if_neg (by omega)]
      have HP := hid (And.intro hB hW)
      clear C1 hB hz c0 hW H hm hmm
      go_enter Tryd.func22, Tryd.ntmps22
      go_wp2_with fail
      refine H1.out.mono ?_
      rintro _ w1 ⟨rfl, g1⟩
      rw [← HP.out.2] at g1
      go_wp2
      go_ret
      exact ⟨rfl, bel3 HP.out.1 g1⟩
    · by_cases m1 : 1536 < m
      · rw [if_neg (by omega)]
        have HP := hid (And.intro hB hW)
        clear C1 hB hz c0 hW H hm hmm
        go_enter Tryd.func22, Tryd.ntmps22
        go_wp2_with fail
        refine H1.out.mono ?_
        rintro _ w1 ⟨rfl, g1⟩
        rw [← HP.out.2] at g1
        go_wp2
        go_ret
        exact ⟨rfl, bel3 HP.out.1 g1⟩
      · rw [if_pos (by omega)]
        obtain ⟨M, rfl⟩ : ∃ M : Nat, m = M := ⟨m.toNat, by omega⟩
        rw [secs_nat]
        obtain ⟨rfl, b, o, h, rfl, HX⟩ := may_three H hm
        have hp : many A = (h 0).p := (HX.dv 0 (by omega)).sn.symm
        rw [hp] at hN
        rw [hp]
        have CS := hid (fun wx => sectors_ok M wx (by omega))
        have hS := secs_64 M (by omega)
        generalize secs M = K at CS hS
        have HP := hid (And.intro hB (And.intro hW (And.intro hz (And.intro c0 (And.intro (HX.below hB).lt ((HX.below hB).three.1.1))))))
        clear C1 hB hz c0 hW H hm hmm HX hp
        generalize (h 0).p = N at hN HP
        generalize (h 0).x = xx at HP
        generalize (h 0).c = cc at HP
        obtain ⟨T, hT⟩ : ∃ T : Int, T = if 0 ≤ x ∧ x + (K : Int) ≤ N then 0 else 2 := ⟨_, rfl⟩
        rw [← hT]
        have HT := hid hT
        clear hT
        go_enter Tryd.func22, Tryd.ntmps22
        go_wp2_with fail
        refine H1.out.mono ?_
        rintro _ w1 ⟨rfl, g1⟩
        rw [← HP.out.2.1] at g1
        have d0 := (g1.cell (p := ⟨w.heap.size, 0, none⟩) (by show w.heap.size < W.heap.size; rw [HP.out.2.2.1]; omega)).trans HP.out.2.2.2.1
        have t0 := (g1.cell (p := ⟨b, o, none⟩) HP.out.2.2.2.2.1).trans HP.out.2.2.2.2.2
        have G1 := hid g1
        clear g1 H1
        go_upto_region 6 with fail
        go_cut [8] (fun s8 wx => s8 = .int .i64 ((N : Int) - K) ∧ Below W.heap.size W wx)
        case first =>
          go_quiet ((go_at_call 23; exact Calls.quiet_of_same (CS.out _)))
          all_goals (go_wp2_with fail; go_meet)
          all_goals exact ⟨by go_num, below_drewN G1.out _⟩
        case rest =>
          obtain ⟨rfl, hB⟩ := hcut
          have G2 := hid hB
          clear hB G1 d0 t0
          by_cases x0 : x < 0
          · have HF : Hid (T = 2) := by show _ = _; rw [HT.out, if_neg (by omega)]
            go_wp2
            go_ret
            exact ⟨by rw [HF.out] <;> rfl, bel3 HP.out.1 G2.out⟩
          · by_cases x1 : (N : Int) - K < x
            · have HF : Hid (T = 2) := by show _ = _; rw [HT.out, if_neg (by omega)]
              go_wp2
              go_ret
              exact ⟨by rw [HF.out] <;> rfl, bel3 HP.out.1 G2.out⟩
            · have HF : Hid (T = 0) := by show _ = _; rw [HT.out, if_pos (by omega)]
              go_wp2
              go_ret
              exact ⟨by rw [HF.out] <;> rfl, bel3 HP.out.1 G2.out⟩

set_option maxHeartbeats 1600000 in
set_option maxRecDepth 4000 in
theorem stfault_any (a : Option Addr) (n c : Nat) (A : Ar) (x m : Int) (w : World) (H : ArrAt w a n A) :
    Calls Tryd.prog 31 #[.agg #[.slice a n c], .int .i64 x, .int .i64 m] w fun e w' => e = .returned (.int .i64 (stChk A x m)) ∧ Below w.heap.size w w' := by
  obtain ⟨W, hW⟩ : ∃ W, W = w.alloc (.cells #[.slice a n c] 24) := ⟨_, rfl⟩
  have hB : Below w.heap.size w W := by rw [hW]; go_grown
  have hz : W.heap.size = w.heap.size + 1 := by rw [hW]; simp
  have c0 : W.cell? ⟨w.heap.size, 0, none⟩ = some (.slice a n c) := by rw [hW]; simp
  have C1 := armay_any a n c A W (H.below hB)
  rw [hW] at C1
  unfold stChk
  cases hm : arMay A with
  | false =>
    rw [hm] at C1
    have H1 := hid C1
    have HP := hid (And.intro hB hW)
    clear C1 hB hz c0 hW H hm
    go_enter Tryd.func31, Tryd.ntmps31
    go_wp2_with fail
    refine H1.out.mono ?_
    rintro _ w1 ⟨rfl, g1⟩
    rw [← HP.out.2] at g1
    go_wp2
    go_ret
    exact ⟨rfl, bel3 HP.out.1 g1⟩
  | true =>
    rw [hm] at C1
    rw [if_pos rfl]
    have hmm := (arMay_iff A).1 hm
    have hN : many A ≤ 64 := hmm.2.2.2.1
    have H1 := hid C1
    have C2 := hid (fun wx => in_any m 0 1536 wx)
    by_cases m0 : 0 ≤ m ∧ m ≤ 1536
    · rw [if_pos m0]
      rw [decide_eq_true m0] at C2
      obtain ⟨M, rfl⟩ : ∃ M : Nat, m = M := ⟨m.toNat, by omega⟩
      rw [secs_nat]
      obtain ⟨rfl, b, o, h, rfl, HX⟩ := may_three H hm
      have hp : many A = (h 0).p := (HX.dv 0 (by omega)).sn.symm
      rw [hp] at hN
      rw [hp]
      have CS := hid (fun wx => refsectors_ok M wx (by omega))
      have hS := secs_64 M (by omega)
      generalize secs M = K at CS hS
      have HP := hid (And.intro hB (And.intro hW (And.intro hz (And.intro c0 (And.intro (HX.below hB).lt ((HX.below hB).three.1.1))))))
      clear C1 hB hz c0 hW H hm hmm HX hp m0
      generalize (h 0).p = N at hN HP
      generalize (h 0).x = xx at HP
      generalize (h 0).c = cc at HP
      have C3 := hid (fun wx => in_any x 0 N wx)
      obtain ⟨T, hT⟩ : ∃ T : Int, T = if 0 ≤ x ∧ x + (K : Int) ≤ N then 0 else 2 := ⟨_, rfl⟩
      rw [← hT]
      have HT := hid hT
      clear hT
      by_cases x0 : 0 ≤ x ∧ x ≤ N
      · rw [decide_eq_true x0] at C3
        by_cases x1 : (N : Int) < x + K
        · have HF : Hid (T = 2) := by show _ = _; rw [HT.out, if_neg (by omega)]
          go_enter Tryd.func31, Tryd.ntmps31
          go_wp2_with fail
          refine H1.out.mono ?_
          rintro _ w1 ⟨rfl, g1⟩
          rw [← HP.out.2.1] at g1
          have d0 := (g1.cell (p := ⟨w.heap.size, 0, none⟩) (by show w.heap.size < W.heap.size; rw [HP.out.2.2.1]; omega)).trans HP.out.2.2.2.1
          have t0 := (g1.cell (p := ⟨b, o, none⟩) HP.out.2.2.2.2.1).trans HP.out.2.2.2.2.2
          have G1 := hid g1
          clear g1 H1
          go_wp2_with (first | (go_at_call_of 58 (Value.int IntKind.i64 M); refine (C2.out _).mono ?_; rintro _ w9 ⟨rfl, h9⟩; (have h8 := h9.symm); subst h8) | (go_at_call_of 58 (Value.int IntKind.i64 x); refine (C3.out _).mono ?_; rintro _ w9 ⟨rfl, h9⟩; (have h8 := h9.symm); subst h8) | (go_at_call 32; refine (CS.out _).mono ?_; rintro _ w9 ⟨rfl, h9⟩; (have h8 := h9.symm); subst h8))
          go_ret
          exact ⟨by rw [HF.out] <;> rfl, bel3 HP.out.1 G1.out⟩
        · have HF : Hid (T = 0) := by show _ = _; rw [HT.out, if_pos (by omega)]
          go_enter Tryd.func31, Tryd.ntmps31
          go_wp2_with fail
          refine H1.out.mono ?_
          rintro _ w1 ⟨rfl, g1⟩
          rw [← HP.out.2.1] at g1
          have d0 := (g1.cell (p := ⟨w.heap.size, 0, none⟩) (by show w.heap.size < W.heap.size; rw [HP.out.2.2.1]; omega)).trans HP.out.2.2.2.1
          have t0 := (g1.cell (p := ⟨b, o, none⟩) HP.out.2.2.2.2.1).trans HP.out.2.2.2.2.2
          have G1 := hid g1
          clear g1 H1
          go_wp2_with (first | (go_at_call_of 58 (Value.int IntKind.i64 M); refine (C2.out _).mono ?_; rintro _ w9 ⟨rfl, h9⟩; (have h8 := h9.symm); subst h8) | (go_at_call_of 58 (Value.int IntKind.i64 x); refine (C3.out _).mono ?_; rintro _ w9 ⟨rfl, h9⟩; (have h8 := h9.symm); subst h8) | (go_at_call 32; refine (CS.out _).mono ?_; rintro _ w9 ⟨rfl, h9⟩; (have h8 := h9.symm); subst h8))
          go_ret
          exact ⟨by rw [HF.out] <;> rfl, bel3 HP.out.1 G1.out⟩
      · rw [decide_eq_false x0] at C3
        have HF : Hid (T = 2) := by show _ = _; rw [HT.out, if_neg (by omega)]
        clear x0
        go_enter Tryd.func31, Tryd.ntmps31
        go_wp2_with fail
        refine H1.out.mono ?_
        rintro _ w1 ⟨rfl, g1⟩
        rw [← HP.out.2.1] at g1
        have d0 := (g1.cell (p := ⟨w.heap.size, 0, none⟩) (by show w.heap.size < W.heap.size; rw [HP.out.2.2.1]; omega)).trans HP.out.2.2.2.1
        have t0 := (g1.cell (p := ⟨b, o, none⟩) HP.out.2.2.2.2.1).trans HP.out.2.2.2.2.2
        have G1 := hid g1
        clear g1 H1
        go_wp2_with (first | (go_at_call_of 58 (Value.int IntKind.i64 M); refine (C2.out _).mono ?_; rintro _ w9 ⟨rfl, h9⟩; (have h8 := h9.symm); subst h8) | (go_at_call_of 58 (Value.int IntKind.i64 x); refine (C3.out _).mono ?_; rintro _ w9 ⟨rfl, h9⟩; (have h8 := h9.symm); subst h8))
        go_ret
        exact ⟨by rw [HF.out] <;> rfl, bel3 HP.out.1 G1.out⟩
    · rw [if_neg m0]
      rw [decide_eq_false m0] at C2
      have HP := hid (And.intro hB hW)
      clear C1 hB hz c0 hW H hm hmm m0
      go_enter Tryd.func31, Tryd.ntmps31
      go_wp2_with fail
      refine H1.out.mono ?_
      rintro _ w1 ⟨rfl, g1⟩
      rw [← HP.out.2] at g1
      go_wp2_with (go_at_call 58; refine (C2.out _).mono ?_; rintro _ w9 ⟨rfl, h9⟩; (have h8 := h9.symm); subst h8)
      go_ret
      exact ⟨rfl, bel3 HP.out.1 g1⟩
end Go.Proofs.YtkhjmfngeidlcaaDoor

/- What the program's stream.Write answers. -/
namespace Go.Proofs.YtkhjmfngeidlcaaDoor
open Go.RowKit Go.Lib

/-- While sectors are written one behind the other: the result's box, the array's box, the array in new memory. -/
structure StI (w : World) (pr pc : Nat) (A : Ar) (W : World) : Prop where
  rc : W.cell? ⟨pr, 0, none⟩ = some (.slice none 0 0)
  rf : W.frozen? ⟨pr, 0, none⟩ = false
  ab : ∃ a n c, W.cell? ⟨pc, 0, none⟩ = some (.slice a n c) ∧ ((n = 0 ∧ A = [] ∧ a = none) ∨ ∃ b h, a = some ⟨b, 0, none⟩ ∧ w.heap.size ≤ b ∧ pr ≠ b ∧ pc ≠ b ∧ ArrFree W b 0 n h A)
  af : W.frozen? ⟨pc, 0, none⟩ = false
  ge : w.heap.size ≤ pr ∧ w.heap.size ≤ pc
  ne : pr ≠ pc
  lt : pr < W.heap.size ∧ pc < W.heap.size
  below : Below w.heap.size w W
section
variable {w W W' : World} {pr pc : Nat} {A A' : Ar}
theorem StI.to (H : StI w pr pc A W) (g : Below W.heap.size W W') : StI w pr pc A W' := by
  obtain ⟨a, n, c, h1, h2⟩ := H.ab
  refine ⟨(g.cell (p := ⟨pr, 0, none⟩) H.lt.1).trans H.rc, (g.frozen (p := ⟨pr, 0, none⟩) H.lt.1).trans H.rf, ⟨a, n, c, (g.cell (p := ⟨pc, 0, none⟩) H.lt.2).trans h1, ?_⟩,
    (g.frozen (p := ⟨pc, 0, none⟩) H.lt.2).trans H.af, H.ge, H.ne, ⟨Nat.lt_of_lt_of_le H.lt.1 g.size, Nat.lt_of_lt_of_le H.lt.2 g.size⟩, bel3 H.below g⟩
  rcases h2 with h2 | ⟨b, h, e, k1, k2, k3, k4⟩
  · exact .inl h2
  · exact .inr ⟨b, h, e, k1, k2, k3, k4.below g⟩
theorem StI.drew (H : StI w pr pc A W) : StI w pr pc A W.drew := H.to ((Below.refl _ W).drew)
theorem StI.arr (H : StI w pr pc A W) : ∃ a n c, W.cell? ⟨pc, 0, none⟩ = some (.slice a n c) ∧ ArrAt W a n A := by
  obtain ⟨a, n, c, h1, h2⟩ := H.ab
  refine ⟨a, n, c, h1, ?_⟩
  rcases h2 with ⟨e1, e2, _⟩ | ⟨b, h, e, _, _, _, k4⟩
  · exact .inl ⟨e1, e2⟩
  · exact .inr ⟨b, 0, h, e, k4.arr⟩
/-- Another array is stored into its box. -/
theorem StI.set (H : StI w pr pc A W) {a : Option Addr} {n c B : Nat} (h1 : pr < B) (h2 : pc < B) (hX : (n = 0 ∧ A' = [] ∧ a = none) ∨ ∃ b h, a = some ⟨b, 0, none⟩ ∧ B ≤ b ∧ ArrFree W b 0 n h A') :
    StI w pr pc A' (W.setCell ⟨pc, 0, none⟩ (.slice a n c)) := by
  obtain ⟨a0, n0, c0, k1, _⟩ := H.ab
  have ge := H.ge
  refine ⟨?_, ?_, ⟨a, n, c, World.cell?_setCell_same _ _ _ k1, ?_⟩, ?_, H.ge, H.ne, ?_, H.below.setCell (p := ⟨pc, 0, none⟩) H.ge.2 _⟩
  · rw [World.cell?_setCell_other _ _ _ _ (fun e => H.ne (congrArg Addr.block e).symm)]; exact H.rc
  · rw [World.frozen?_setCell]; exact H.rf
  · rcases hX with hX | ⟨b, h, e, k, hf⟩
    · exact .inl hX
    · exact .inr ⟨b, h, e, by omega, by omega, by omega, hf.box (by omega) k1 _⟩
  · rw [World.frozen?_setCell]; exact H.af
  · have := H.lt; simpa [World.setCell] using this
/-- The array's box is stored into the result's. -/
theorem StI.out (H : StI w pr pc A W) : ∃ a n c, W.cell? ⟨pc, 0, none⟩ = some (.slice a n c) ∧ OutA w (A, 0) (.returned (.tuple #[.agg #[.slice a n c], .int .i64 0])) (W.setCell ⟨pr, 0, none⟩ (.slice a n c)) := by
  obtain ⟨a, n, c, k1, k2⟩ := H.ab
  refine ⟨a, n, c, k1, ⟨a, n, c, rfl, ?_⟩, H.below.setCell (p := ⟨pr, 0, none⟩) H.ge.1 _⟩
  rcases k2 with k2 | ⟨b, h, e, k3, k4, _, hf⟩
  · exact .inl k2
  · exact .inr ⟨b, h, e, k3, hf.box k4 H.rc _⟩
end
theorem stI_start {w W w2 : World} {pr b cc : Nat} {h : Nat → Hd} {A : Ar} (hB : Below w.heap.size w W) (hp : w.heap.size ≤ pr) (hlt : pr < W.heap.size) (rc : W.cell? ⟨pr, 0, none⟩ = some (.slice none 0 0)) (rf : W.frozen? ⟨pr, 0, none⟩ = false) (g : Below W.heap.size W w2) (hb : W.heap.size ≤ b) (hf : ArrFree w2 b 0 3 h A) :
    StI w pr w2.heap.size A (w2.alloc (.cells #[.slice (some ⟨b, 0, none⟩) 3 cc] 24)) := by
  have ga : Below w2.heap.size w2 (w2.alloc (.cells #[.slice (some ⟨b, 0, none⟩) 3 cc] 24)) := (Below.refl _ w2).alloc (Nat.le_refl _) _
  have gg : Below W.heap.size W (w2.alloc (.cells #[.slice (some ⟨b, 0, none⟩) 3 cc] 24)) := bel3 g ga
  have l2 := hf.arr.lt
  have := g.size
  have := hB.size
  have := ga.size
  refine ⟨(gg.cell (p := ⟨pr, 0, none⟩) hlt).trans rc, (gg.frozen (p := ⟨pr, 0, none⟩) hlt).trans rf, ⟨_, 3, cc, by simp, .inr ⟨b, h, rfl, by omega, by omega, by omega, hf.below ga⟩⟩, by simp, ⟨hp, by omega⟩, by omega, ⟨by omega, by simp⟩, bel3 hB gg⟩

/-- The bytes that are left. -/
theorem left_step (S : List UInt8) (k m : Nat) (t : ByteArray) (h : t.data.toList = S.drop (24 * k)) (h0 : t.size ≠ 0) (hm : m = min t.size 24) :
    (t.extract 0 m).data.toList = chunk S k ∧ (t.extract m t.size).data.toList = S.drop (24 * (k + 1)) ∧ k < secs S.length := by
  have hl : t.size = S.length - 24 * k := by rw [← ba_len, h, List.length_drop]
  refine ⟨?_, ?_, ?_⟩
  · rw [ext_list, h, cut, chunk, List.drop_zero]
    by_cases e : t.size ≤ 24
    · rw [hm, Nat.min_eq_left e, List.take_of_length_le (by rw [List.length_drop]; omega), List.take_of_length_le (by rw [List.length_drop]; omega)]
    · rw [hm, Nat.min_eq_right (by omega)]
  · rw [ext_list, h, cut, List.take_of_length_le (by rw [List.length_drop]; omega), List.drop_drop]
    by_cases e : t.size ≤ 24
    · rw [hm, Nat.min_eq_left e, List.drop_eq_nil_of_le (by omega), List.drop_eq_nil_of_le (by omega)]
    · rw [hm, Nat.min_eq_right (by omega), show 24 * k + 24 = 24 * (k + 1) by omega]
  · unfold secs; omega
theorem left_end (S : List UInt8) (k : Nat) (t : ByteArray) (h : t.data.toList = S.drop (24 * k)) (h0 : t.size = 0) (hk : k ≤ secs S.length) : k = secs S.length := by
  have hl : t.size = S.length - 24 * k := by rw [← ba_len, h, List.length_drop]
  have := secs_ge S.length k (by omega)
  omega

end Go.Proofs.YtkhjmfngeidlcaaDoor

/- What the document's own StreamWritten answers. -/
namespace Go.Proofs.YtkhjmfngeidlcaaDoor
open Go.RowKit Go.Lib

theorem cut_chunk (S : List UInt8) (k E : Nat) (h : E = min (24 * k + 24) S.length) : cut S (24 * k) E = chunk S k := by
  unfold cut chunk
  rw [List.drop_take]
  by_cases e : 24 * k + 24 ≤ S.length
  · rw [h, Nat.min_eq_left e, show 24 * k + 24 - 24 * k = 24 by omega]
  · rw [h, Nat.min_eq_right (by omega), List.take_of_length_le (by rw [List.length_drop]; omega), List.take_of_length_le (by rw [List.length_drop]; omega)]

end Go.Proofs.YtkhjmfngeidlcaaDoor
