/- Joined texts: ArrRefTouch, ArrRefWrite. -/
import Derived.Test.YtkhjmfngeidlcaaGreatDoorRefA
import Derived.Test.YtkhjmfngeidlcaaGreatDoorLow
import Derived.Test.YtkhjmfngeidlcaaGreatDoorRefB
import Derived.Deep.RegionHeld3
import Derived.Deep.DeepCutAuto
import Derived.Test.YtkhjmfngeidlcaaGreatDoorArrRefCopy
import Derived.Test.YtkhjmfngeidlcaaGreatDoorArrM
/- What the document's own ArrayTouched and ArrayRead answer. -/
namespace Go.Proofs.YtkhjmfngeidlcaaGreatDoor
open Go.RowKit Go.Lib

set_option maxHeartbeats 400000 in
theorem artouched_any (a : Option Addr) (n c : Nat) (i : Int) (A : Ar) (w : World) (H : ArrAt w a n A) :
    Calls Tryz.prog 85 #[.agg #[.slice a n c], .int .i64 i] w fun e w' => e = .returned (.int .i64 (arTouch A i)) ∧ Below w.heap.size w w' := by
  obtain ⟨W, hW⟩ : ∃ W, W = w.alloc (.cells #[.slice a n c] 24) := ⟨_, rfl⟩
  have hB : Below w.heap.size w W := by rw [hW]; go_grown
  have hz : W.heap.size = w.heap.size + 1 := by rw [hW]; simp
  have c0 : W.cell? ⟨w.heap.size, 0, none⟩ = some (.slice a n c) := by rw [hW]; simp
  have hM := armay_any a n c A W (H.below hB)
  rw [hW] at hM
  unfold arTouch
  cases hm : arMay A with
  | false =>
    rw [hm] at hM
    rw [if_neg (by decide)]
    have HM := hid hM
    have HP := hid (And.intro hB hW)
    clear hM hB hz c0 H hm hW
    go_enter Tryz.func85, Tryz.ntmps85
    go_wp2_with fail
    refine HM.out.mono ?_
    rintro _ w1 ⟨rfl, g1⟩
    rw [← HP.out.2] at g1
    go_wp2
    go_ret
    exact ⟨rfl, HP.out.1.trans (g1.mono HP.out.1.size)⟩
  | true =>
    rw [hm] at hM
    rw [if_pos rfl]
    have hmm := (arMay_iff A).1 hm
    rcases H with ⟨h0, h1⟩ | ⟨b, o, h, rfl, H⟩
    · rw [h1] at hmm; cases hmm.1
    · obtain rfl : n = 3 := by rw [H.sn]; exact hmm.1
      have HA := H.below hB
      obtain ⟨⟨t0, _⟩, _⟩ := HA.three
      have s0 : many A = (h 0).p := (HA.dv 0 (by omega)).sn.symm
      have nb : (h 0).p ≤ 64 := by rw [← s0]; exact hmm.2.2.2.1
      have nb1 : 16 ≤ (h 0).p := by rw [← s0]; exact hmm.2.2.1
      rw [s0]
      have HM := hid hM
      have HP := hid (And.intro hB (And.intro hW (And.intro hz (And.intro c0 (And.intro t0 HA.lt)))))
      have hi := fun wx => in_any i 0 (((h 0).p : Int) - 1) wx
      have hdd : decide ((0 : Int) ≤ i ∧ i ≤ ((h 0).p : Int) - 1) = decide (0 ≤ i ∧ i < (h 0).p) := by rw [decide_eq_decide]; omega
      rw [hdd] at hi
      clear hM hB hz c0 H HA hm hW t0 s0 hmm hdd
      generalize (h 0).p = p at nb nb1 HP hi
      have HI := hid hi
      clear hi
      by_cases hin : 0 ≤ i ∧ i < p
      · rw [if_pos hin]
        rw [decide_eq_true hin] at HI
        clear hin
        go_enter Tryz.func85, Tryz.ntmps85
        go_wp2_with fail
        refine HM.out.mono ?_
        rintro _ w1 ⟨rfl, g1⟩
        rw [← HP.out.2.1] at g1
        have d0 := (g1.cell (p := ⟨w.heap.size, 0, none⟩) (by show w.heap.size < W.heap.size; rw [HP.out.2.2.1]; omega)).trans HP.out.2.2.2.1
        have d1 := (g1.cell (p := ⟨b, o, none⟩) HP.out.2.2.2.2.2).trans HP.out.2.2.2.2.1
        have HG := hid g1
        clear g1
        go_wp2_with (go_at_call 50; refine (HI.out _).mono ?_; rintro _ w9 ⟨rfl, h9⟩; (have h8 := h9.symm); subst h8)
        go_ret
        exact ⟨rfl, HP.out.1.trans (HG.out.mono HP.out.1.size)⟩
      · rw [if_neg hin]
        rw [decide_eq_false hin] at HI
        clear hin
        go_enter Tryz.func85, Tryz.ntmps85
        go_wp2_with fail
        refine HM.out.mono ?_
        rintro _ w1 ⟨rfl, g1⟩
        rw [← HP.out.2.1] at g1
        have d0 := (g1.cell (p := ⟨w.heap.size, 0, none⟩) (by show w.heap.size < W.heap.size; rw [HP.out.2.2.1]; omega)).trans HP.out.2.2.2.1
        have d1 := (g1.cell (p := ⟨b, o, none⟩) HP.out.2.2.2.2.2).trans HP.out.2.2.2.2.1
        have HG := hid g1
        clear g1
        go_wp2_with (go_at_call 50; refine (HI.out _).mono ?_; rintro _ w9 ⟨rfl, h9⟩; (have h8 := h9.symm); subst h8)
        go_ret
        exact ⟨rfl, HP.out.1.trans (HG.out.mono HP.out.1.size)⟩

set_option maxHeartbeats 1600000 in
set_option maxRecDepth 4000 in
theorem refaread_any (a : Option Addr) (n c : Nat) (i : Int) (A : Ar) (w : World) (H : ArrAt w a n A) :
    Calls Tryz.prog 82 #[.agg #[.slice a n c], .int .i64 i] w fun e w' => e = .returned (.tuple #[.string (str (arRead A i).1), .int .i64 (arRead A i).2.1, .int .i64 (arRead A i).2.2]) ∧ Below w.heap.size w w' := by
  obtain ⟨W, hW⟩ : ∃ W, W = w.alloc (.cells #[.slice a n c] 24) := ⟨_, rfl⟩
  have hB : Below w.heap.size w W := by rw [hW]; go_grown
  have hz : W.heap.size = w.heap.size + 1 := by rw [hW]; simp
  have c0 : W.cell? ⟨w.heap.size, 0, none⟩ = some (.slice a n c) := by rw [hW]; simp
  have hT := artouched_any a n c i A W (H.below hB)
  rw [hW] at hT
  by_cases ht : arTouch A i = 0
  · obtain ⟨hm, h0, h1⟩ := arTouch_ok A i ht
    have hmm := (arMay_iff A).1 hm
    obtain ⟨k, rfl⟩ : ∃ k : Nat, i = k := ⟨i.toNat, by omega⟩
    have hto : (k : Int).toNat = k := by omega
    rw [arRead, if_pos ht, hto]
    rw [ht] at hT
    rcases H with ⟨_, h1⟩ | ⟨b, o, h, rfl, H⟩
    · rw [h1] at hmm; cases hmm.1
    obtain rfl : n = 3 := by rw [H.sn]; exact hmm.1
    have HT := hid hT
    have HP := hid (And.intro hB (And.intro hW (And.intro hz (And.intro c0 (H.below hB)))))
    have hk64 : k ≤ 64 := by omega
    have C1 := hid (fun wx (g : Below W.heap.size W wx) => mirrored_any b o c h A k wx ((H.below hB).below g))
    clear hT hB hz c0 H hm hW ht h0 h1 hto hmm
    unfold tell
    by_cases e1 : 0 < (mirr A k).2
    · rw [if_pos e1]
      generalize mirr A k = r at C1 e1
      go_enter Tryz.func82, Tryz.ntmps82
      go_wp2_with fail
      refine HT.out.mono ?_
      rintro _ w1 ⟨rfl, g1⟩
      rw [← HP.out.2.1] at g1
      have d0 := (g1.cell (p := ⟨w.heap.size, 0, none⟩) (by show w.heap.size < W.heap.size; rw [HP.out.2.2.1]; omega)).trans HP.out.2.2.2.1
      have G1 := hid g1
      clear g1
      go_wp2_with fail
      refine (C1.out _ G1.out).mono ?_
      rintro _ w2 ⟨rfl, g2⟩
      go_wp2
      go_ret3
      exact ⟨rfl, HP.out.1.trans ((G1.out.trans (g2.mono G1.out.size)).mono HP.out.1.size)⟩
    · rw [if_neg e1]
      have e1' : (mirr A k).2 = 0 := by rcases mirr_bd A k with h | h; exact h; exact absurd h e1
      have e1'' : (mirr A k).2 ≤ 0 := by omega
      have C0 := hid (fun wx => partner_any k wx (by omega))
      have C2 := hid (fun wx (g : Below W.heap.size W wx) => mirrored_any b o c h A (part k) wx (HP.out.2.2.2.2.below g))
      have C3 := hid (fun wx (g : Below W.heap.size W wx) => refread_any (h 2).x (h 2).p (h 2).c (h 2).y (h 2).q (h 2).d ((k / 2 : Nat) : Int) ((512 + k / 2 : Nat) : Int) (dev A 2) wx ((HP.out.2.2.2.2.below g).dv 2 (by omega)))
      have hb := mirr_bd A (part k)
      have hl := mirr_len A (part k)
      have hp : (pari A k).2 = 0 → (pari A k).1.length = 24 := dvRead_len _ _ _
      change Hid (∀ wx, Below W.heap.size W wx → Calls Tryz.prog _ _ wx fun e w' => e = .returned (.tuple #[.string (str (pari A k).1), .int .i64 (pari A k).2]) ∧ Below wx.heap.size wx w') at C3
      generalize mirr A k = r0 at C1 e1 e1' e1''
      generalize mirr A (part k) = r1 at C2 hb hl
      generalize pari A k = r2 at C3 hp
      have q1 : ((k / 2 : Nat) : Int) = (k : Int) / 2 := by omega
      have q2 : ((512 + k / 2 : Nat) : Int) = 512 + (k : Int) / 2 := by omega
      rw [q1, q2] at C3
      have HL := hid (And.intro hb (And.intro hl hp))
      generalize hF : (if r1.2 = 0 ∨ r2.2 ≠ 0 then (([], 0, 11) : List UInt8 × Int × Int) else (xors r2.1 r1.1, 3, 0)) = F
      have HF := hid hF
      clear hF
      clear q1 q2 e1 hb hl hp
      go_enter Tryz.func82, Tryz.ntmps82
      go_wp2_with fail
      refine HT.out.mono ?_
      rintro _ w1 ⟨rfl, g1⟩
      rw [← HP.out.2.1] at g1
      have d0 := (g1.cell (p := ⟨w.heap.size, 0, none⟩) (by show w.heap.size < W.heap.size; rw [HP.out.2.2.1]; omega)).trans HP.out.2.2.2.1
      have G1 := hid g1
      clear g1 HT
      go_wp2_with fail
      refine (C1.out _ G1.out).mono ?_
      rintro _ w2 ⟨rfl, g2⟩
      have G2 := hid (G1.out.trans (g2.mono G1.out.size))
      clear g2 G1 C1 d0
      have d0 := (G2.out.cell (p := ⟨w.heap.size, 0, none⟩) (by show w.heap.size < W.heap.size; rw [HP.out.2.2.1]; omega)).trans HP.out.2.2.2.1
      go_upto_region 7 with fail
      go_cut [10, 11] (fun s10 s11 wx => s10 = .string (str r1.1) ∧ s11 = .int .i64 r1.2 ∧ Below W.heap.size W wx)
      case first =>
        go_region_held3 (fun w' => w'.cell? ⟨w.heap.size, 0, none⟩ = some (.slice (some ⟨b, o, none⟩) 3 c)) (go_keep)
          (first | (go_at_call 86; refine (C0.out _).mono ?_; rintro _ w9 ⟨rfl, h9⟩; (have h8 := h9.symm); subst h8) | (go_at_call 120; refine (C2.out _ G2.out.drew).mono ?_; rintro _ w9 ⟨rfl, g9⟩; (have G9 := hid (G2.out.drew.trans (g9.mono G2.out.drew.size))); (have j0 := (G9.out.cell (p := ⟨w.heap.size, 0, none⟩) (by show w.heap.size < W.heap.size; rw [HP.out.2.2.1]; omega)).trans HP.out.2.2.2.1); clear g9))
        all_goals (go_wp2_with fail; go_meet)
        all_goals exact ⟨rfl, rfl, G9.out⟩
      case rest =>
        obtain ⟨rfl, rfl, hB⟩ := hcut
        have G3 := hid hB
        clear hB G2 d0 C0 C2
        have d0 := (G3.out.cell (p := ⟨w.heap.size, 0, none⟩) (by show w.heap.size < W.heap.size; rw [HP.out.2.2.1]; omega)).trans HP.out.2.2.2.1
        obtain ⟨_, _, t4, t5⟩ := (HP.out.2.2.2.2.below G3.out).three
        go_wp2_with fail
        refine (C3.out _ G3.out).mono ?_
        rintro _ w4 ⟨rfl, g4⟩
        have G4 := hid (G3.out.trans (g4.mono G3.out.size))
        clear g4 G3 C3 d0 t4 t5
        by_cases f1 : r1.2 = 0
        · have f1' : (r1.2 == 0) = true := beq_iff_eq.2 f1
          have HG : Hid (F = ([], 0, 11)) := by show _ = _; rw [← HF.out, if_pos (.inl f1)]
          clear f1
          go_wp2
          go_ret3
          exact ⟨by rw [HG.out]; rfl, HP.out.1.trans (G4.out.mono HP.out.1.size)⟩
        · have f1' : (r1.2 == 0) = false := beq_eq_false_iff_ne.2 f1
          by_cases f2 : r2.2 = 0
          · have f2' : (r2.2 != 0) = false := bne_eq_false_iff_eq.2 f2
            have HG : Hid (F = (xors r2.1 r1.1, 3, 0)) := by show _ = _; rw [← HF.out, if_neg (by rintro (h | h); exact f1 h; exact h f2)]
            have l1 := HL.out.2.1 f1
            have l2 := HL.out.2.2 f2
            have CO := hid (fun wx => others_any (str r2.1) (str r1.1) wx (by rw [str_size, l2]; omega) (by rw [str_size, str_size, l1, l2]; exact Nat.le_refl _) (by rw [str_size, l1]; omega))
            rw [str_list, str_list] at CO
            clear f1 f2 l1 l2
            go_wp2_with fail
            refine (CO.out _).mono ?_
            rintro _ w5 ⟨rfl, g5⟩
            go_wp2
            go_ret3
            exact ⟨by rw [HG.out]; rfl, HP.out.1.trans ((G4.out.trans (g5.mono G4.out.size)).mono HP.out.1.size)⟩
          · have f2' : (r2.2 != 0) = true := bne_iff_ne.2 f2
            have HG : Hid (F = ([], 0, 11)) := by show _ = _; rw [← HF.out, if_pos (.inr f2)]
            clear f1 f2
            go_wp2
            go_ret3
            exact ⟨by rw [HG.out]; rfl, HP.out.1.trans (G4.out.mono HP.out.1.size)⟩
  · rw [arRead, if_neg ht]
    have HT := hid hT
    have HP := hid (And.intro hB hW)
    clear hT hB hz c0 H hW
    generalize arTouch A i = t at HT ht
    have ht' : (t != 0) = true := bne_iff_ne.2 ht
    clear ht
    go_enter Tryz.func82, Tryz.ntmps82
    go_wp2_with fail
    refine HT.out.mono ?_
    rintro _ w1 ⟨rfl, g1⟩
    rw [← HP.out.2] at g1
    go_wp2
    go_ret3
    exact ⟨rfl, HP.out.1.trans (g1.mono HP.out.1.size)⟩
end Go.Proofs.YtkhjmfngeidlcaaGreatDoor

/- What the document's own ArrayWritten answers. -/
namespace Go.Proofs.YtkhjmfngeidlcaaGreatDoor
open Go.RowKit Go.Lib

theorem arwritten_touch (a : Option Addr) (n c : Nat) (i : Int) (s : ByteArray) (A : Ar) (w : World) (H : ArrAt w a n A) (ht : arTouch A i ≠ 0) :
    Calls Tryz.prog 56 #[.agg #[.slice a n c], .int .i64 i, .string s] w (OutA w ([], arTouch A i)) := by
  obtain ⟨W, hW⟩ : ∃ W, W = (w.alloc (.cells #[.slice a n c] 24)).alloc (.cells #[.slice none 0 0] 24) := ⟨_, rfl⟩
  have hB : Below w.heap.size w W := by rw [hW]; go_grown
  have hz : W.heap.size = w.heap.size + 2 := by rw [hW]; simp
  have rc : W.cell? ⟨w.heap.size + 1, 0, none⟩ = some (.slice none 0 0) := by rw [hW]; simp [go_sem]
  have rf : W.frozen? ⟨w.heap.size + 1, 0, none⟩ = false := by rw [hW]; simp [go_sem]
  have HT := hid (artouched_any a n c i A W (H.below hB))
  have HP := hid (And.intro hB (And.intro hz (And.intro rc rf)))
  have HK := hid (fun x w' (g : Below w.heap.size w w') => outA_none (x := x) g)
  generalize arTouch A i = t at HT ht
  have ht' : (t != 0) = true := bne_iff_ne.2 ht
  have ht2 : (t == 0) = false := beq_eq_false_iff_ne.2 ht
  rw [hW] at HT
  have HE := hid hW
  clear ht hB hz rc rf H hW
  go_enter Tryz.func56, Tryz.ntmps56
  go_wp2_with fail
  refine HT.out.mono ?_
  rintro _ w1 ⟨rfl, g1⟩
  rw [← HE.out] at g1
  have r1 := (g1.cell (p := ⟨w.heap.size + 1, 0, none⟩) (by show w.heap.size + 1 < W.heap.size; rw [HP.out.2.1]; omega)).trans HP.out.2.2.1
  have r2 := (g1.frozen (p := ⟨w.heap.size + 1, 0, none⟩) (by show w.heap.size + 1 < W.heap.size; rw [HP.out.2.1]; omega)).trans HP.out.2.2.2
  have y0 := World.cell?_setCell_same w1 ⟨w.heap.size + 1, 0, none⟩ (.slice none 0 0) r1
  have G1 := hid ((bel3 HP.out.1 g1).setCell (p := ⟨w.heap.size + 1, 0, none⟩) (by show w.heap.size ≤ w.heap.size + 1; omega) (.slice none 0 0))
  clear g1
  go_wp2
  refine bodyPost_ret (v := .tuple #[.agg #[.slice none 0 0], .int .i64 t]) (by simp [results, Tryz.results56, go_sem, y0]) rfl ?_
  exact HK.out _ _ G1.out

theorem arwritten_size (a : Option Addr) (n c : Nat) (i : Int) (s : ByteArray) (A : Ar) (w : World) (H : ArrAt w a n A) (ht : arTouch A i = 0) (hs : 24 < s.size) :
    Calls Tryz.prog 56 #[.agg #[.slice a n c], .int .i64 i, .string s] w (OutA w ([], 1)) := by
  obtain ⟨W, hW⟩ : ∃ W, W = (w.alloc (.cells #[.slice a n c] 24)).alloc (.cells #[.slice none 0 0] 24) := ⟨_, rfl⟩
  have hB : Below w.heap.size w W := by rw [hW]; go_grown
  have hz : W.heap.size = w.heap.size + 2 := by rw [hW]; simp
  have rc : W.cell? ⟨w.heap.size + 1, 0, none⟩ = some (.slice none 0 0) := by rw [hW]; simp [go_sem]
  have rf : W.frozen? ⟨w.heap.size + 1, 0, none⟩ = false := by rw [hW]; simp [go_sem]
  have HT := hid (artouched_any a n c i A W (H.below hB))
  have HP := hid (And.intro hB (And.intro hz (And.intro rc rf)))
  have HK := hid (fun x w' (g : Below w.heap.size w w') => outA_none (x := x) g)
  rw [ht, hW] at HT
  have hs' : (24 : Int) < s.size := by omega
  have HE := hid hW
  clear ht hB hz rc rf H hW
  go_enter Tryz.func56, Tryz.ntmps56
  go_wp2_with fail
  refine HT.out.mono ?_
  rintro _ w1 ⟨rfl, g1⟩
  rw [← HE.out] at g1
  have r1 := (g1.cell (p := ⟨w.heap.size + 1, 0, none⟩) (by show w.heap.size + 1 < W.heap.size; rw [HP.out.2.1]; omega)).trans HP.out.2.2.1
  have r2 := (g1.frozen (p := ⟨w.heap.size + 1, 0, none⟩) (by show w.heap.size + 1 < W.heap.size; rw [HP.out.2.1]; omega)).trans HP.out.2.2.2
  have y0 := World.cell?_setCell_same w1 ⟨w.heap.size + 1, 0, none⟩ (.slice none 0 0) r1
  have G1 := hid ((bel3 HP.out.1 g1).setCell (p := ⟨w.heap.size + 1, 0, none⟩) (by show w.heap.size ≤ w.heap.size + 1; omega) (.slice none 0 0))
  clear g1
  go_wp2
  refine bodyPost_ret (v := .tuple #[.agg #[.slice none 0 0], .int .i64 1]) (by simp [results, Tryz.results56, go_sem, y0]) rfl ?_
  exact HK.out _ _ G1.out

/-- The load of the third device, under a name: the walk goes over its places in the order, and says nothing. -/
def load59 : Op := Op.load 35 (Operand.tmp 59)
@[go_sem] theorem load59_eq : load59 = Op.load 35 (Operand.tmp 59) := rfl
def load83 : Op := Op.load 35 (Operand.tmp 83)
@[go_sem] theorem load83_eq : load83 = Op.load 35 (Operand.tmp 83) := rfl

set_option maxHeartbeats 4000000 in
set_option maxRecDepth 4000 in
theorem arwritten_ok (b o c : Nat) (h : Nat → Hd) (k : Nat) (s : ByteArray) (A : Ar) (w : World) (H : Arr w b o 3 h A) (hm : arMay A = true) (hk : k < many A) (hs : s.size ≤ 24) :
    Calls Tryz.prog 56 #[.agg #[.slice (some ⟨b, o, none⟩) 3 c], .int .i64 k, .string s] w (OutA w (put A k s.data.toList, 0)) := by
  obtain ⟨W, hW⟩ : ∃ W, W = (w.alloc (.cells #[.slice (some ⟨b, o, none⟩) 3 c] 24)).alloc (.cells #[.slice none 0 0] 24) := ⟨_, rfl⟩
  have hB : Below w.heap.size w W := by rw [hW]; go_grown
  have hz : W.heap.size = w.heap.size + 2 := by rw [hW]; simp
  have rc : W.cell? ⟨w.heap.size + 1, 0, none⟩ = some (.slice none 0 0) := by rw [hW]; simp [go_sem]
  have rf : W.frozen? ⟨w.heap.size + 1, 0, none⟩ = false := by rw [hW]; simp [go_sem]
  have c0 : W.cell? ⟨w.heap.size, 0, none⟩ = some (.slice (some ⟨b, o, none⟩) 3 c) := by rw [hW]; simp [go_sem]
  have hmm := (arMay_iff A).1 hm
  have hk64 : k ≤ 64 := by omega
  have HA : ∀ wx, Below W.heap.size W wx → ArrAt wx (some ⟨b, o, none⟩) 3 A := fun wx g => .inr ⟨b, o, h, rfl, (H.below hB).below g⟩
  have HT := hid (artouched_any (some ⟨b, o, none⟩) 3 c k A W (HA W (Below.refl _ _)))
  have ht : arTouch A k = 0 := by rw [arTouch, if_pos hm, if_pos ⟨by omega, by omega⟩]
  rw [ht, hW] at HT
  have CR := hid (fun wx (g : Below W.heap.size W wx) => refaread_any (some ⟨b, o, none⟩) 3 c (part k) A wx (HA wx g))
  rw [arRead_tell A (part k) hm (part_lt k _ hk hmm.2.2.2.2.1)] at CR
  have CC := hid (fun wx (g : Below W.heap.size W wx) => acopy_any (some ⟨b, o, none⟩) 3 c A wx (HA wx g) (may_fits A hm))
  have CN := hid (fun wx => partner_any k wx (by omega))
  have HL := hid (tell_len A (part k))
  have H3 := hid (tell_three A (part k))
  have HPut := hid (put_mid A k s.data.toList)
  have HMid := hid (show mid A k = if (tell A (part k)).2.1 = 3 then both A (part k) (tell A (part k)).1 else A from rfl)
  generalize put A k s.data.toList = T at HPut
  generalize tell A (part k) = r at CR HL H3 HMid HPut
  generalize mid A k = A1 at HMid HPut
  have hs' : ¬ (24 : Int) < s.size := by omega
  have HS := hid hs
  have HP := hid (And.intro hB (And.intro hz (And.intro c0 (And.intro rc rf))))
  have HE := hid hW
  clear hB hz rc rf c0 H hW HA hm hk hmm ht hs
  go_enter Tryz.func56, Tryz.ntmps56
  go_wp2_with fail
  refine HT.out.mono ?_
  rintro _ w1 ⟨rfl, g1⟩
  rw [← HE.out] at g1
  have d0 := (g1.cell (p := ⟨w.heap.size, 0, none⟩) (by show w.heap.size < W.heap.size; rw [HP.out.2.1]; omega)).trans HP.out.2.2.1
  have G1 := hid g1
  clear g1 HT HE
  go_wp2_with fail
  clear hs'
  refine (CC.out _ G1.out).mono ?_
  rintro _ w3 ⟨a3, c3, rfl, h3, g3⟩
  rcases h3 with ⟨h30, _⟩ | ⟨b3, hd3, rfl, hb3, hf3⟩
  · omega
  have hst := wrI_start (pr := w.heap.size + 1) (cc := c3) HP.out.1 (by omega) (by rw [HP.out.2.1]; omega) HP.out.2.2.2.1 HP.out.2.2.2.2 (bel3 G1.out g3) (Nat.le_trans G1.out.size hb3) hf3
  have S3 := hid hst
  go_upto_region 7 with fail
  obtain ⟨W3, hW3⟩ : ∃ W3, W3 = w3.alloc (.cells #[.slice (some ⟨b3, 0, none⟩) 3 c3] 24) := ⟨_, rfl⟩
  have b3' : Below w3.heap.size w3 W3 := by rw [hW3]; exact (Below.refl _ w3).alloc (Nat.le_refl _) _
  have G3 := hid (bel3 (bel3 G1.out g3) b3')
  rw [← hW3] at S3 ⊢
  clear hW3 hst hf3 hb3 g3 d0 G1 CC b3'
  generalize w3.heap.size = pc at S3 ⊢
  have d0 := (G3.out.cell (p := ⟨w.heap.size, 0, none⟩) (by show w.heap.size < W.heap.size; rw [HP.out.2.1]; omega)).trans HP.out.2.2.1
  go_cut [10, 11, 12] (fun s10 s11 s12 wx => s10 = .string (str r.1) ∧ s11 = .int .i64 r.2.1 ∧ s12 = .int .i64 r.2.2 ∧ WrI w (w.heap.size + 1) pc b3 c3 A wx)
  case first =>
    go_region_held3 (fun w' => w'.cell? ⟨w.heap.size, 0, none⟩ = some (.slice (some ⟨b, o, none⟩) 3 c)) (go_keep)
      (first | (go_at_call 86; refine (CN.out _).mono ?_; rintro _ w9 ⟨rfl, h9⟩; (have h8 := h9.symm); subst h8) | (go_at_call 82; refine (CR.out _ G3.out.drew).mono ?_; rintro _ w9 ⟨rfl, g9⟩; (have G9 := hid (bel3 G3.out.drew g9)); (have S9 := hid (S3.out.to (undrew g9))); (have j0 := (G9.out.cell (p := ⟨w.heap.size, 0, none⟩) (by show w.heap.size < W.heap.size; rw [HP.out.2.1]; omega)).trans HP.out.2.2.1); clear g9))
    all_goals (go_wp2_with fail; go_meet)
    all_goals exact ⟨rfl, rfl, rfl, S9.out⟩
  case rest =>
    obtain ⟨rfl, rfl, rfl, hB⟩ := hcut
    clear S3 G3
    have S3 := hid hB
    clear hB d0 CR
    by_cases h3 : r.2.1 = 3
    · have h3' : (r.2.1 == 3) = true := beq_iff_eq.2 h3
      have h4' : (r.2.2 == 0) = true := beq_iff_eq.2 (H3.out h3)
      have HM : Hid (A1 = both A (part k) r.1) := by show _ = _; rw [HMid.out, if_pos h3]
      obtain ⟨h3d, f3⟩ := S3.out.fr
      have CW := hid (fun wx (g : Below wc.heap.size wc wx) => setboth_any b3 0 c3 h3d A (part k) (str r.1) wx (f3.below g))
      rw [str_list, ← HM.out] at CW
      have d1 := S3.out.cb
      have E0 := hid (H3.out h3)
      clear f3 h3 HMid HM
      go_upto_region 9 with fail
      clear h3' h4'
      go_cut [] (fun wx => WrI w (w.heap.size + 1) pc b3 c3 A1 wx)
      case first =>
        go_region_held3 (fun w' => w'.cell? ⟨pc, 0, none⟩ = some (.slice (some ⟨b3, 0, none⟩) 3 c3)) (go_keep)
          (first | (go_at_call 86; refine (CN.out _).mono ?_; rintro _ w9 ⟨rfl, h9⟩; (have h8 := h9.symm); subst h8) | (go_at_call 87; refine (CW.out _ ((Below.refl _ wc).drew)).mono ?_; rintro _ w9 ⟨rfl, g9, f9⟩; (have S9 := hid (S3.out.drew.grown g9 f9)); (have j0 := S9.out.cb); clear g9 f9))
        all_goals (go_wp2_with fail; go_meet)
        all_goals exact S9.out
      case rest =>
        have S4 := hid hcut
        clear hcut S3 CW d1
        obtain ⟨h4, f4⟩ := S4.out.fr
        have CW := hid (setboth_any b3 0 c3 h4 A1 k s _ f4)
        have d1 := S4.out.cb
        clear f4
        go_wp2_with fail
        refine CW.out.mono ?_
        rintro _ w5 ⟨rfl, g5, f5⟩
        have S5 := hid (S4.out.grown g5 f5)
        clear g5 f5 CW d1 S4
        generalize both A1 k s.data.toList = A2 at S5 HPut
        have e0 := E0.out
        have e0' : (r.2.2 == 0) = true := beq_iff_eq.2 e0
        have hl := HL.out e0
        have HPT := hid (HPut.out.trans (if_pos e0))
        obtain ⟨z, hz⟩ : ∃ z : Nat, z = 24 - s.size := ⟨_, rfl⟩
        have u3 : IntKind.i64.wrap (24 - (s.size : Int)) = (z : Int) := by have := HS.out; rw [IntWalk.i64_in _ (by omega)]; omega
        have CZ := hid (fun wx => noughts_any z wx (by omega))
        have epad : s ++ str (List.replicate z 0) = str (pad s.data.toList) := by
          rw [show s = str s.data.toList from (str_of s).symm, str_app, str_list, pad, ba_len, hz]
        have lp : (pad s.data.toList).length = 24 := pad_length _ (by rw [ba_len]; exact HS.out)
        have ha : ∀ wx, (Op.stringOp .add s (str (List.replicate z 0))).run Tryz.prog wx = .ok (.string (str (pad s.data.toList))) wx := fun wx => by
          rw [← epad]; exact run_string_add_sum wx _ _ (by rw [str_size]; have := HS.out; simp; omega)
        have CD := hid (fun wx => others_any (str (pad s.data.toList)) (str r.1) wx (by rw [str_size, lp]; omega) (by rw [str_size, str_size, lp, hl]; exact Nat.le_refl _) (by rw [str_size, hl]; omega))
        rw [str_list, str_list] at CD
        obtain ⟨h5, f5⟩ := S5.out.fr
        have u1 : IntKind.i64.wrap ((k : Int) / 2) = ((k / 2 : Nat) : Int) := by rw [IntWalk.i64_in _ (by omega)]; omega
        have u2 : IntKind.i64.wrap (512 + ((k / 2 : Nat) : Int)) = ((512 + k / 2 : Nat) : Int) := by rw [IntWalk.i64_in _ (by omega)]; omega
        have CP := hid (fun wx (g : Below w5.heap.size w5 wx) => refwritten_any (h5 2).x (h5 2).p (h5 2).c (h5 2).y (h5 2).q (h5 2).d ((k / 2 : Nat) : Int) ((512 + k / 2 : Nat) : Int) (str (xors (pad s.data.toList) r.1)) (dev A2 2) wx ((f5.below g).arr.dv 2 (by omega)))
        rw [str_list] at CP
        have d1 := S5.out.cb
        obtain ⟨_, _, t4, t5⟩ := f5.arr.three
        rw [Nat.zero_add] at t4 t5
        have F5 := hid f5
        have HN := hid (S5.out.lt.2.1)
        generalize dvWrite (dev A2 2) ((k / 2 : Nat) : Int) ((512 + k / 2 : Nat) : Int) (xors (pad s.data.toList) r.1) = r2 at CP HPT
        generalize ((512 + k / 2 : Nat) : Int) = R at CP u2
        generalize ((k / 2 : Nat) : Int) = Q at CP u1 u2
        generalize str (xors (pad s.data.toList) r.1) = X at CD CP
        generalize str (pad s.data.toList) = PP at CD ha
        generalize str (List.replicate z 0) = NN at CZ ha
        clear f5 e0 hl HPut HL epad lp hz
        go_wp2_with fail
        rw [← load59_eq]
        go_region_held3 (fun w' => w'.cell? ⟨pc, 0, none⟩ = some (.slice (some ⟨b3, 0, none⟩) 3 c3)) (go_keep)
          (first | (go_at_call 25; refine (CZ.out _).mono ?_; rintro _ w9 ⟨rfl, h9⟩; (have h8 := h9.symm); subst h8) | (go_at_call 89; refine (CD.out _).mono ?_; rintro _ w6 ⟨rfl, g6⟩; (have G6 := hid (undrew g6)); (have j0 := (S5.out.to G6.out).cb); (have j4 := (G6.out.cell (p := ⟨b3, 4, none⟩) F5.out.arr.lt).trans t4); (have j5 := (G6.out.cell (p := ⟨b3, 5, none⟩) F5.out.arr.lt).trans t5); clear g6) | (go_at_call 88; refine (CP.out _ G6.out).mono ?_; rintro _ w7 ⟨x, p, e, y, q, d, rfl, hD, hF, g7⟩; (have Z := stored (c := e) (d := d) (F5.out.below G6.out) (show 2 < 3 by omega) g7 hD); (have S7 := hid (((S5.out.to G6.out).grown Z.2.2) Z.2.1)); (have z0 : w7.cell? ⟨b3, 4, none⟩ = some (.slice (h5 2).x (h5 2).p (h5 2).c) := Z.1.1); (have z1 : w7.cell? ⟨b3, 5, none⟩ = some (.slice (h5 2).y (h5 2).q (h5 2).d) := Z.1.2.1); (have z2 : w7.frozen? ⟨b3, 4, none⟩ = false := Z.1.2.2.1); (have z3 : w7.frozen? ⟨b3, 5, none⟩ = false := Z.1.2.2.2); (have zb := ((S5.out.to G6.out).to g7).cb); (have zc := S7.out.cb); clear g7 hD hF Z))
        all_goals have rc := S7.out.rc
        all_goals have rf := S7.out.rf
        all_goals have y0 := World.cell?_setCell_same _ ⟨w.heap.size + 1, 0, none⟩ (.slice (some ⟨b3, 0, none⟩) 3 c3) rc
        all_goals go_wp2
        all_goals refine bodyPost_ret (v := .tuple #[.agg #[.slice (some ⟨b3, 0, none⟩) 3 c3], .int .i64 0]) (by simp [results, Tryz.results56, go_sem, y0]) rfl ?_
        all_goals (rw [HPT.out]; exact S7.out.out)
    · have h3' : (r.2.1 == 3) = false := beq_eq_false_iff_ne.2 h3
      have HM : Hid (A1 = A) := by show _ = _; rw [HMid.out, if_neg h3]
      have S4 := S3
      rw [← HM.out] at S4
      clear h3 HMid HM S3
      by_cases e0 : r.2.2 = 0
      · have e0'' : (r.2.2 == 0) = true := beq_iff_eq.2 e0
        obtain ⟨h4, f4⟩ := S4.out.fr
        have CW := hid (setboth_any b3 0 c3 h4 A1 k s _ f4)
        have d1 := S4.out.cb
        clear f4
        go_wp2_with fail
        refine CW.out.mono ?_
        rintro _ w5 ⟨rfl, g5, f5⟩
        have S5 := hid (S4.out.grown g5 f5)
        clear g5 f5 CW d1 S4
        generalize both A1 k s.data.toList = A2 at S5 HPut
        have e0' : (r.2.2 == 0) = true := beq_iff_eq.2 e0
        have hl := HL.out e0
        have HPT := hid (HPut.out.trans (if_pos e0))
        obtain ⟨z, hz⟩ : ∃ z : Nat, z = 24 - s.size := ⟨_, rfl⟩
        have u3 : IntKind.i64.wrap (24 - (s.size : Int)) = (z : Int) := by have := HS.out; rw [IntWalk.i64_in _ (by omega)]; omega
        have CZ := hid (fun wx => noughts_any z wx (by omega))
        have epad : s ++ str (List.replicate z 0) = str (pad s.data.toList) := by
          rw [show s = str s.data.toList from (str_of s).symm, str_app, str_list, pad, ba_len, hz]
        have lp : (pad s.data.toList).length = 24 := pad_length _ (by rw [ba_len]; exact HS.out)
        have ha : ∀ wx, (Op.stringOp .add s (str (List.replicate z 0))).run Tryz.prog wx = .ok (.string (str (pad s.data.toList))) wx := fun wx => by
          rw [← epad]; exact run_string_add_sum wx _ _ (by rw [str_size]; have := HS.out; simp; omega)
        have CD := hid (fun wx => others_any (str (pad s.data.toList)) (str r.1) wx (by rw [str_size, lp]; omega) (by rw [str_size, str_size, lp, hl]; exact Nat.le_refl _) (by rw [str_size, hl]; omega))
        rw [str_list, str_list] at CD
        obtain ⟨h5, f5⟩ := S5.out.fr
        have u1 : IntKind.i64.wrap ((k : Int) / 2) = ((k / 2 : Nat) : Int) := by rw [IntWalk.i64_in _ (by omega)]; omega
        have u2 : IntKind.i64.wrap (512 + ((k / 2 : Nat) : Int)) = ((512 + k / 2 : Nat) : Int) := by rw [IntWalk.i64_in _ (by omega)]; omega
        have CP := hid (fun wx (g : Below w5.heap.size w5 wx) => refwritten_any (h5 2).x (h5 2).p (h5 2).c (h5 2).y (h5 2).q (h5 2).d ((k / 2 : Nat) : Int) ((512 + k / 2 : Nat) : Int) (str (xors (pad s.data.toList) r.1)) (dev A2 2) wx ((f5.below g).arr.dv 2 (by omega)))
        rw [str_list] at CP
        have d1 := S5.out.cb
        obtain ⟨_, _, t4, t5⟩ := f5.arr.three
        rw [Nat.zero_add] at t4 t5
        have F5 := hid f5
        have HN := hid (S5.out.lt.2.1)
        generalize dvWrite (dev A2 2) ((k / 2 : Nat) : Int) ((512 + k / 2 : Nat) : Int) (xors (pad s.data.toList) r.1) = r2 at CP HPT
        generalize ((512 + k / 2 : Nat) : Int) = R at CP u2
        generalize ((k / 2 : Nat) : Int) = Q at CP u1 u2
        generalize str (xors (pad s.data.toList) r.1) = X at CD CP
        generalize str (pad s.data.toList) = PP at CD ha
        generalize str (List.replicate z 0) = NN at CZ ha
        clear f5 e0 hl HPut HL epad lp hz
        go_wp2_with fail
        rw [← load59_eq]
        go_region_held3 (fun w' => w'.cell? ⟨pc, 0, none⟩ = some (.slice (some ⟨b3, 0, none⟩) 3 c3)) (go_keep)
          (first | (go_at_call 25; refine (CZ.out _).mono ?_; rintro _ w9 ⟨rfl, h9⟩; (have h8 := h9.symm); subst h8) | (go_at_call 89; refine (CD.out _).mono ?_; rintro _ w6 ⟨rfl, g6⟩; (have G6 := hid (undrew g6)); (have j0 := (S5.out.to G6.out).cb); (have j4 := (G6.out.cell (p := ⟨b3, 4, none⟩) F5.out.arr.lt).trans t4); (have j5 := (G6.out.cell (p := ⟨b3, 5, none⟩) F5.out.arr.lt).trans t5); clear g6) | (go_at_call 88; refine (CP.out _ G6.out).mono ?_; rintro _ w7 ⟨x, p, e, y, q, d, rfl, hD, hF, g7⟩; (have Z := stored (c := e) (d := d) (F5.out.below G6.out) (show 2 < 3 by omega) g7 hD); (have S7 := hid (((S5.out.to G6.out).grown Z.2.2) Z.2.1)); (have z0 : w7.cell? ⟨b3, 4, none⟩ = some (.slice (h5 2).x (h5 2).p (h5 2).c) := Z.1.1); (have z1 : w7.cell? ⟨b3, 5, none⟩ = some (.slice (h5 2).y (h5 2).q (h5 2).d) := Z.1.2.1); (have z2 : w7.frozen? ⟨b3, 4, none⟩ = false := Z.1.2.2.1); (have z3 : w7.frozen? ⟨b3, 5, none⟩ = false := Z.1.2.2.2); (have zb := ((S5.out.to G6.out).to g7).cb); (have zc := S7.out.cb); clear g7 hD hF Z))
        all_goals have rc := S7.out.rc
        all_goals have rf := S7.out.rf
        all_goals have y0 := World.cell?_setCell_same _ ⟨w.heap.size + 1, 0, none⟩ (.slice (some ⟨b3, 0, none⟩) 3 c3) rc
        all_goals go_wp2
        all_goals refine bodyPost_ret (v := .tuple #[.agg #[.slice (some ⟨b3, 0, none⟩) 3 c3], .int .i64 0]) (by simp [results, Tryz.results56, go_sem, y0]) rfl ?_
        all_goals (rw [HPT.out]; exact S7.out.out)
      · have e0'' : (r.2.2 == 0) = false := beq_eq_false_iff_ne.2 e0
        obtain ⟨h4, f4⟩ := S4.out.fr
        have CW := hid (setboth_any b3 0 c3 h4 A1 k s _ f4)
        have d1 := S4.out.cb
        clear f4
        go_wp2_with fail
        refine CW.out.mono ?_
        rintro _ w5 ⟨rfl, g5, f5⟩
        have S5 := hid (S4.out.grown g5 f5)
        clear g5 f5 CW d1 S4
        generalize both A1 k s.data.toList = A2 at S5 HPut
        have e0' : (r.2.2 == 0) = false := beq_eq_false_iff_ne.2 e0
        have HPT := hid (HPut.out.trans (if_neg e0))
        obtain ⟨h5, f5⟩ := S5.out.fr
        have u1 : IntKind.i64.wrap ((k : Int) / 2) = ((k / 2 : Nat) : Int) := by rw [IntWalk.i64_in _ (by omega)]; omega
        have CP := hid (fun wx (g : Below w5.heap.size w5 wx) => reflost_any (h5 2).x (h5 2).p (h5 2).c (h5 2).y (h5 2).q (h5 2).d ((k / 2 : Nat) : Int) (dev A2 2) wx ((f5.below g).arr.dv 2 (by omega)))
        have d1 := S5.out.cb
        obtain ⟨_, _, t4, t5⟩ := f5.arr.three
        rw [Nat.zero_add] at t4 t5
        have F5 := hid f5
        generalize dvLose (dev A2 2) ((k / 2 : Nat) : Int) = r2 at CP HPT
        generalize ((k / 2 : Nat) : Int) = Q at CP u1
        clear f5 e0 HPut HL
        go_wp2_with fail
        rw [← load83_eq]
        go_region_held3 (fun w' => w'.cell? ⟨pc, 0, none⟩ = some (.slice (some ⟨b3, 0, none⟩) 3 c3)) (go_keep)
          (first | (go_at_call 90; refine (CP.out _ ((Below.refl _ w5).drew)).mono ?_; rintro _ w7 ⟨x, p, e, y, q, d, rfl, hD, hF, g4⟩; (have g7 := undrew g4); (have Z := stored (c := e) (d := d) F5.out (show 2 < 3 by omega) g7 hD); (have S7 := hid ((S5.out.grown Z.2.2) Z.2.1)); (have z0 : w7.cell? ⟨b3, 4, none⟩ = some (.slice (h5 2).x (h5 2).p (h5 2).c) := Z.1.1); (have z1 : w7.cell? ⟨b3, 5, none⟩ = some (.slice (h5 2).y (h5 2).q (h5 2).d) := Z.1.2.1); (have z2 : w7.frozen? ⟨b3, 4, none⟩ = false := Z.1.2.2.1); (have z3 : w7.frozen? ⟨b3, 5, none⟩ = false := Z.1.2.2.2); (have zb := (S5.out.to g7).cb); (have zc := S7.out.cb); clear g4 g7 hD hF Z))
        all_goals have rc := S7.out.rc
        all_goals have rf := S7.out.rf
        all_goals have y0 := World.cell?_setCell_same _ ⟨w.heap.size + 1, 0, none⟩ (.slice (some ⟨b3, 0, none⟩) 3 c3) rc
        all_goals go_wp2
        all_goals refine bodyPost_ret (v := .tuple #[.agg #[.slice (some ⟨b3, 0, none⟩) 3 c3], .int .i64 0]) (by simp [results, Tryz.results56, go_sem, y0]) rfl ?_
        all_goals (rw [HPT.out]; exact S7.out.out)
theorem arwritten_any (a : Option Addr) (n c : Nat) (i : Int) (s : ByteArray) (A : Ar) (w : World) (H : ArrAt w a n A) :
    Calls Tryz.prog 56 #[.agg #[.slice a n c], .int .i64 i, .string s] w (OutA w (arWrite A i s.data.toList)) := by
  unfold arWrite
  by_cases ht : arTouch A i = 0
  · rw [if_pos ht]
    by_cases hs : 24 < s.data.toList.length
    · rw [if_pos hs]
      exact arwritten_size a n c i s A w H ht (by rw [ba_len] at hs; exact hs)
    · rw [if_neg hs]
      obtain ⟨hm, h0, h1⟩ := arTouch_ok A i ht
      obtain ⟨k, rfl⟩ : ∃ k : Nat, i = k := ⟨i.toNat, by omega⟩
      obtain ⟨rfl, b, o, h, rfl, HX⟩ := may_three H hm
      rw [show (k : Int).toNat = k by omega]
      exact arwritten_ok b o c h k s A w HX hm (by omega) (by rw [ba_len] at hs; omega)
  · rw [if_neg ht]
    exact arwritten_touch a n c i s A w H ht
end Go.Proofs.YtkhjmfngeidlcaaGreatDoor
