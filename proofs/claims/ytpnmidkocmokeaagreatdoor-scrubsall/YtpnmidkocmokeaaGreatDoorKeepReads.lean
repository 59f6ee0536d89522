/- What 'reads' answers of an array that tells these payloads: true. -/
import Derived.Test.YtpnmidkocmokeaaGreatDoorKeepFill
import Derived.Test.YtpnmidkocmokeaaGreatDoorArrRead
namespace Go.Proofs.YtpnmidkocmokeaaGreatDoor
open Go.RowKit Go.Lib

set_option maxHeartbeats 800000 in
set_option maxRecDepth 4000 in
theorem reads_any (a : Option Addr) (n c : Nat) (A : Ar) (g m cap : Nat) (all : List (List UInt8)) (w : World) (H : ArrAt w a n A) (hrow : RowAt w (some ⟨g, 0, none⟩) (textsV all)) (hm : m = all.length) (hl : m ≤ 64)
    (hr : ∀ i, i < m → (arRead A i).1 = pay all i ∧ (arRead A i).2.2 = 0) :
    Calls Tryz.prog 11 #[.agg #[.slice a n c], .slice (some ⟨g, 0, none⟩) m cap] w fun e w' => e = .returned (.bool true) ∧ Below w.heap.size w w' := by
  obtain ⟨W, hW⟩ : ∃ W, W = w.alloc (.cells #[.slice a n c] 26) := ⟨_, rfl⟩
  have hB : Below w.heap.size w W := by rw [hW]; exact (Below.refl _ w).alloc (Nat.le_refl _) _
  have hz : w.heap.size < W.heap.size := by rw [hW]; simp
  have c0 : W.cell? ⟨w.heap.size, 0, none⟩ = some (.slice a n c) := by rw [hW]; simp
  have HP := hid (And.intro hB (And.intro hz (And.intro c0 (And.intro (H.below hB) (And.intro (hrow.below hB) (And.intro hm hr))))))
  clear hB hz c0 H hrow hm hr
  go_enter Tryz.func11, Tryz.ntmps11
  go_wp2_with fail
  rw [← hW]
  clear hW
  go_loopw [12] (fun i wr => ∃ k : Nat, k ≤ m ∧ i = .int .i64 k ∧ Hid (Below W.heap.size W wr)) (fun i _ => m - (intOf i).toNat)
  case atStart => exact ⟨0, Nat.zero_le _, rfl, Below.refl _ _⟩
  case round =>
    obtain ⟨k, hk, rfl, HG⟩ := hrel
    by_cases hlt : k < m
    · have hlt' : (k : Int) < m := by omega
      obtain ⟨_, hz, c0, HA, hrow, hm, hr⟩ := HP.out
      have d0 := (HG.out.cell (p := ⟨w.heap.size, 0, none⟩) hz).trans c0
      obtain ⟨b, o, e, hb, hc⟩ := (hrow.below HG.out) k _ (textsV_at all k (by rw [← hm]; exact hlt))
      cases e
      rw [Nat.zero_add] at hc
      have C := hid (aread_any a n c k A wr (HA.below HG.out))
      obtain ⟨h1, h2⟩ := hr k hlt
      rw [h1, h2] at C
      generalize (arRead A k).2.1 = f at C
      generalize str (pay all k) = S at C hc
      clear c0 hrow hm hr HA h1 h2
      go_wp2_with fail
      refine C.out.mono ?_
      rintro _ w1 ⟨rfl, g1⟩
      have G1 := hid (bel3 HG.out g1)
      clear g1 C d0 hc
      go_wp2
      go_roundw
      case rel => exact ⟨k + 1, by omega, by go_num, G1.out⟩
      case measure => simp [intOf]; omega
    · have hlt' : ¬ (k : Int) < m := by omega
      go_wp2
      go_ret
      exact ⟨rfl, bel3 HP.out.1 HG.out⟩
end Go.Proofs.YtpnmidkocmokeaaGreatDoor
