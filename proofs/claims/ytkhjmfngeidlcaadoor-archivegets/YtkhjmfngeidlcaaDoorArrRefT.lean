/- Joined texts: ArrRefTouch, ArrRefWrite. -/
import Derived.Test.YtkhjmfngeidlcaaDoorRefA
import Derived.Test.YtkhjmfngeidlcaaDoorLow
import Derived.Test.YtkhjmfngeidlcaaDoorRefB
import Derived.Deep.RegionHeld3
import Derived.Deep.DeepCutAuto
import Derived.Test.YtkhjmfngeidlcaaDoorArrRefCopy
import Derived.Test.YtkhjmfngeidlcaaDoorArrM
/- What the document's own ArrayTouched and ArrayRead answer. -/
namespace Go.Proofs.YtkhjmfngeidlcaaDoor
open Go.RowKit Go.Lib

set_option maxHeartbeats 400000 in
theorem artouched_any (a : Option Addr) (n c : Nat) (i : Int) (A : Ar) (w : World) (H : ArrAt w a n A) :
    Calls Tryd.prog 59 #[.agg #[.slice a n c], .int .i64 i] w fun e w' => e = .returned (.int .i64 (arTouch A i)) ∧ Below w.heap.size w w' := by
  obtain ⟨W, hW⟩ : ∃ W, W = w.alloc (.cells #[.slice a n c] 24) := ⟨_, rfl⟩
  have hB : Below w.heap.size w W := by rw [hW]; go_grown
  have hz : W.heap.size = w.heap.size + 1 := by rw [hW]; simp
  have c0 : W.cell? ⟨w.heap.size, 0, none⟩ = some (.slice a n c) := by rw [hW]; simp
  have hM := armay_any a n c A W (H.below hB)
  rw [hW] at hM
  unfold arTouch
  cases hm : arMay A with
  | false =>
    rw [hm] at hM
    rw [if_neg (by decide)]
    have HM := hid hM
    have HP := hid (And.intro hB hW)
    clear hM hB hz c0 H hm hW
    go_enter Tryd.func59, Tryd.ntmps59
    go_wp2_with fail
    refine HM.out.mono ?_
    rintro _ w1 ⟨rfl, g1⟩
    rw [← HP.out.2] at g1
    go_wp2
    go_ret
    exact ⟨rfl, HP.out.1.trans (g1.mono HP.out.1.size)⟩
  | true =>
    rw [hm] at hM
    rw [if_pos rfl]
    have hmm := (arMay_iff A).1 hm
    rcases H with ⟨h0, h1⟩ | ⟨b, o, h, rfl, H⟩
    · rw [h1] at hmm; cases hmm.1
    · obtain rfl : n = 3 := by rw [H.sn]; exact hmm.1
      have HA := H.below hB
      obtain ⟨⟨t0, _⟩, _⟩ := HA.three
      have s0 : many A = (h 0).p := (HA.dv 0 (by omega)).sn.symm
      have nb : (h 0).p ≤ 64 := by rw [← s0]; exact hmm.2.2.2.1
      have nb1 : 16 ≤ (h 0).p := by rw [← s0]; exact hmm.2.2.1
      rw [s0]
      have HM := hid hM
      have HP := hid (And.intro hB (And.intro hW (And.intro hz (And.intro c0 (And.intro t0 HA.lt)))))
      have hi := fun wx => in_any i 0 (((h 0).p : Int) - 1) wx
      have hdd : decide ((0 : Int) ≤ i ∧ i ≤ ((h 0).p : Int) - 1) = decide (0 ≤ i ∧ i < (h 0).p) := by rw [decide_eq_decide]; omega
      rw [hdd] at hi
      clear hM hB hz c0 H HA hm hW t0 s0 hmm hdd
      generalize (h 0).p = p at nb nb1 HP hi
      have HI := hid hi
      clear hi
      by_cases hin : 0 ≤ i ∧ i < p
      · rw [if_pos hin]
        rw [decide_eq_true hin] at HI
        clear hin
        go_enter Tryd.func59, Tryd.ntmps59
        go_wp2_with fail
        refine HM.out.mono ?_
        rintro _ w1 ⟨rfl, g1⟩
        rw [← HP.out.2.1] at g1
        have d0 := (g1.cell (p := ⟨w.heap.size, 0, none⟩) (by show w.heap.size < W.heap.size; rw [HP.out.2.2.1]; omega)).trans HP.out.2.2.2.1
        have d1 := (g1.cell (p := ⟨b, o, none⟩) HP.out.2.2.2.2.2).trans HP.out.2.2.2.2.1
        have HG := hid g1
        clear g1
        go_wp2_with (go_at_call 58; refine (HI.out _).mono ?_; rintro _ w9 ⟨rfl, h9⟩; (have h8 := h9.symm); subst h8)
        go_ret
        exact ⟨rfl, HP.out.1.trans (HG.out.mono HP.out.1.size)⟩
      · rw [if_neg hin]
        rw [decide_eq_false hin] at HI
        clear hin
        go_enter Tryd.func59, Tryd.ntmps59
        go_wp2_with fail
        refine HM.out.mono ?_
        rintro _ w1 ⟨rfl, g1⟩
        rw [← HP.out.2.1] at g1
        have d0 := (g1.cell (p := ⟨w.heap.size, 0, none⟩) (by show w.heap.size < W.heap.size; rw [HP.out.2.2.1]; omega)).trans HP.out.2.2.2.1
        have d1 := (g1.cell (p := ⟨b, o, none⟩) HP.out.2.2.2.2.2).trans HP.out.2.2.2.2.1
        have HG := hid g1
        clear g1
        go_wp2_with (go_at_call 58; refine (HI.out _).mono ?_; rintro _ w9 ⟨rfl, h9⟩; (have h8 := h9.symm); subst h8)
        go_ret
        exact ⟨rfl, HP.out.1.trans (HG.out.mono HP.out.1.size)⟩

set_option maxHeartbeats 1600000 in
set_option maxRecDepth 4000 in
theorem refaread_any (a : Option Addr) (n c : Nat) (i : Int) (A : Ar) (w : World) (H : ArrAt w a n A) :
    Calls Tryd.prog 33 #[.agg #[.slice a n c], .int .i64 i] w fun e w' => e = .returned (.tuple #[.string (str (arRead A i).1), .int .i64 (arRead A i).2.1, .int .i64 (arRead A i).2.2]) ∧ Below w.heap.size w w' := by
  obtain ⟨W, hW⟩ : ∃ W, W = w.alloc (.cells #[.slice a n c] 24) := ⟨_, rfl⟩
  have hB : Below w.heap.size w W := by rw [hW]; go_grown
  have hz : W.heap.size = w.heap.size + 1 := by rw [hW]; simp
  have c0 : W.cell? ⟨w.heap.size, 0, none⟩ = some (.slice a n c) := by rw [hW]; simp
  have hT := artouched_any a n c i A W (H.below hB)
  rw [hW] at hT
  by_cases ht : arTouch A i = 0
  · obtain ⟨hm, h0, h1⟩ := arTouch_ok A i ht
    have hmm := (arMay_iff A).1 hm
    obtain ⟨k, rfl⟩ : ∃ k : Nat, i = k := ⟨i.toNat, by omega⟩
    have hto : (k : Int).toNat = k := by omega
    rw [arRead, if_pos ht, hto]
    rw [ht] at hT
    rcases H with ⟨_, h1⟩ | ⟨b, o, h, rfl, H⟩
    · rw [h1] at hmm; cases hmm.1
    obtain rfl : n = 3 := by rw [H.sn]; exact hmm.1
    have HT := hid hT
    have HP := hid (And.intro hB (And.intro hW (And.intro hz (And.intro c0 (H.below hB)))))
    have hk64 : k ≤ 64 := by omega
    have C1 := hid (fun wx (g : Below W.heap.size W wx) => mirrored_any b o c h A k wx ((H.below hB).below g))
    clear hT hB hz c0 H hm hW ht h0 h1 hto hmm
    unfold tell
    by_cases e1 : 0 < (mirr A k).2
    · rw [if_pos e1]
      generalize mirr A k = r at C1 e1
      go_enter Tryd.func33, Tryd.ntmps33
      go_wp2_with fail
      refine HT.out.mono ?_
      rintro _ w1 ⟨rfl, g1⟩
      rw [← HP.out.2.1] at g1
      have d0 := (g1.cell (p := ⟨w.heap.size, 0, none⟩) (by show w.heap.size < W.heap.size; rw [HP.out.2.2.1]; omega)).trans HP.out.2.2.2.1
      have G1 := hid g1
      clear g1
      go_wp2_with fail
      refine (C1.out _ G1.out).mono ?_
      rintro _ w2 ⟨rfl, g2⟩
      go_wp2
      go_ret3
      exact ⟨rfl, HP.out.1.trans ((G1.out.trans (g2.mono G1.out.size)).mono HP.out.1.size)⟩
    · rw [if_neg e1]
      have e1' : (mirr A k).2 = 0 := by rcases mirr_bd A k with h | h; exact h; exact absurd h e1
      have e1'' : (mirr A k).2 ≤ 0 := by omega
      have C0 := hid (fun wx => partner_any k wx (by omega))
      have C2 := hid (fun wx (g : Below W.heap.size W wx) => mirrored_any b o c h A (part k) wx (HP.out.2.2.2.2.below g))
      have C3 := hid (fun wx (g : Below W.heap.size W wx) => refread_any (h 2).x (h 2).p (h 2).c (h 2).y (h 2).q (h 2).d ((k / 2 : Nat) : Int) ((512 + k / 2 : Nat) : Int) (dev A 2) wx ((HP.out.2.2.2.2.below g).dv 2 (by omega)))
      have hb := mirr_bd A (part k)
      have hl := mirr_len A (part k)
      have hp : (pari A k).2 = 0 → (pari A k).1.length = 24 := dvRead_len _ _ _
      change Hid (∀ wx, Below W.heap.size W wx → Calls Tryd.prog _ _ wx fun e w' => e = .returned (.tuple #[.string (str (pari A k).1), .int .i64 (pari A k).2]) ∧ Below wx.heap.size wx w') at C3
      generalize mirr A k = r0 at C1 e1 e1' e1''
      generalize mirr A (part k) = r1 at C2 hb hl
      generalize pari A k = r2 at C3 hp
      have q1 : ((k / 2 : Nat) : Int) = (k : Int) / 2 := by omega
      have q2 : ((512 + k / 2 : Nat) : Int) = 512 + (k : Int) / 2 := by omega
      rw [q1, q2] at C3
      have HL := hid (And.intro hb (And.intro hl hp))
      generalize hF : (if r1.2 = 0 ∨ r2.2 ≠ 0 then (([], 0, 11) : List UInt8 × Int × Int) else (xors r2.1 r1.1, 3, 0)) = F
      have HF := hid hF
      clear hF
      clear q1 q2 e1 hb hl hp
      go_enter Tryd.func33, Tryd.ntmps33
      go_wp2_with fail
      refine HT.out.mono ?_
      rintro _ w1 ⟨rfl, g1⟩
      rw [← HP.out.2.1] at g1
      have d0 := (g1.cell (p := ⟨w.heap.size, 0, none⟩) (by show w.heap.size < W.heap.size; rw [HP.out.2.2.1]; omega)).trans HP.out.2.2.2.1
      have G1 := hid g1
      clear g1 HT
      go_wp2_with fail
      refine (C1.out _ G1.out).mono ?_
      rintro _ w2 ⟨rfl, g2⟩
      have G2 := hid (G1.out.trans (g2.mono G1.out.size))
      clear g2 G1 C1 d0
      have d0 := (G2.out.cell (p := ⟨w.heap.size, 0, none⟩) (by show w.heap.size < W.heap.size; rw [HP.out.2.2.1]; omega)).trans HP.out.2.2.2.1
      go_upto_region 7 with fail
      go_cut [10, 11] (fun s10 s11 wx => s10 = .string (str r1.1) ∧ s11 = .int .i64 r1.2 ∧ Below W.heap.size W wx)
      case first =>
        go_region_held3 (fun w' => w'.cell? ⟨w.heap.size, 0, none⟩ = some (.slice (some ⟨b, o, none⟩) 3 c)) (go_keep)
          (first | (go_at_call 61; refine (C0.out _).mono ?_; rintro _ w9 ⟨rfl, h9⟩; (have h8 := h9.symm); subst h8) | (go_at_call 60; refine (C2.out _ G2.out.drew).mono ?_; rintro _ w9 ⟨rfl, g9⟩; (have G9 := hid (G2.out.drew.trans (g9.mono G2.out.drew.size))); (have j0 := (G9.out.cell (p := ⟨w.heap.size, 0, none⟩) (by show w.heap.size < W.heap.size; rw [HP.out.2.2.1]; omega)).trans HP.out.2.2.2.1); clear g9))
        all_goals (go_wp2_with fail; go_meet)
        all_goals exact ⟨rfl, rfl, G9.out⟩
      case rest =>
        obtain ⟨rfl, rfl, hB⟩ := hcut
        have G3 := hid hB
        clear hB G2 d0 C0 C2
        have d0 := (G3.out.cell (p := ⟨w.heap.size, 0, none⟩) (by show w.heap.size < W.heap.size; rw [HP.out.2.2.1]; omega)).trans HP.out.2.2.2.1
        obtain ⟨_, _, t4, t5⟩ := (HP.out.2.2.2.2.below G3.out).three
        go_wp2_with fail
        refine (C3.out _ G3.out).mono ?_
        rintro _ w4 ⟨rfl, g4⟩
        have G4 := hid (G3.out.trans (g4.mono G3.out.size))
        clear g4 G3 C3 d0 t4 t5
        by_cases f1 : r1.2 = 0
        · have f1' : (r1.2 == 0) = true := beq_iff_eq.2 f1
          have HG : Hid (F = ([], 0, 11)) := by show _ = _; rw [← HF.out, if_pos (.inl f1)]
          clear f1
          go_wp2
          go_ret3
          exact ⟨by rw [HG.out]; rfl, HP.out.1.trans (G4.out.mono HP.out.1.size)⟩
        · have f1' : (r1.2 == 0) = false := beq_eq_false_iff_ne.2 f1
          by_cases f2 : r2.2 = 0
          · have f2' : (r2.2 != 0) = false := bne_eq_false_iff_eq.2 f2
            have HG : Hid (F = (xors r2.1 r1.1, 3, 0)) := by show _ = _; rw [← HF.out, if_neg (by rintro (h | h); exact f1 h; exact h f2)]
            have l1 := HL.out.2.1 f1
            have l2 := HL.out.2.2 f2
            have CO := hid (fun wx => others_any (str r2.1) (str r1.1) wx (by rw [str_size, l2]; omega) (by rw [str_size, str_size, l1, l2]; exact Nat.le_refl _) (by rw [str_size, l1]; omega))
            rw [str_list, str_list] at CO
            clear f1 f2 l1 l2
            go_wp2_with fail
            refine (CO.out _).mono ?_
            rintro _ w5 ⟨rfl, g5⟩
            go_wp2
            go_ret3
            exact ⟨by rw [HG.out]; rfl, HP.out.1.trans ((G4.out.trans (g5.mono G4.out.size)).mono HP.out.1.size)⟩
          · have f2' : (r2.2 != 0) = true := bne_iff_ne.2 f2
            have HG : Hid (F = ([], 0, 11)) := by show _ = _; rw [← HF.out, if_pos (.inr f2)]
            clear f1 f2
            go_wp2
            go_ret3
            exact ⟨by rw [HG.out]; rfl, HP.out.1.trans (G4.out.mono HP.out.1.size)⟩
  · rw [arRead, if_neg ht]
    have HT := hid hT
    have HP := hid (And.intro hB hW)
    clear hT hB hz c0 H hW
    generalize arTouch A i = t at HT ht
    have ht' : (t != 0) = true := bne_iff_ne.2 ht
    clear ht
    go_enter Tryd.func33, Tryd.ntmps33
    go_wp2_with fail
    refine HT.out.mono ?_
    rintro _ w1 ⟨rfl, g1⟩
    rw [← HP.out.2] at g1
    go_wp2
    go_ret3
    exact ⟨rfl, HP.out.1.trans (g1.mono HP.out.1.size)⟩
end Go.Proofs.YtkhjmfngeidlcaaDoor

/- What the document's own ArrayWritten answers. -/
namespace Go.Proofs.YtkhjmfngeidlcaaDoor
open Go.RowKit Go.Lib

/-- The load of the third device, under a name: the walk goes over its places in the order, and says nothing. -/
def load59 : Op := Op.load 77 (Operand.tmp 59)
@[go_sem] theorem load59_eq : load59 = Op.load 77 (Operand.tmp 59) := rfl
def load83 : Op := Op.load 77 (Operand.tmp 83)
@[go_sem] theorem load83_eq : load83 = Op.load 77 (Operand.tmp 83) := rfl

end Go.Proofs.YtkhjmfngeidlcaaDoor
