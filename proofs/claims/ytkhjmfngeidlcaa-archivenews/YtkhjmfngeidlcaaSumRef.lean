/- What the document's own seal function answers: the same four bytes. -/
import Derived.Test.YtkhjmfngeidlcaaSumConv
namespace Go.Proofs.Ytkhjmfngeidlcaa
open Go.RowKit

set_option maxHeartbeats 400000 in
theorem ref_any (s : ByteArray) (w : World) (hs : s.size ≤ maxLen) :
    Calls Try.prog 27 #[.string s] w fun e w' => e = .returned (.string (str (sealOf s.data.toList))) ∧ Below w.heap.size w w' := by
  unfold maxLen at hs
  go_enter Try.func27, Try.ntmps27
  go_wp2
  go_loop [3, 4, 5] (fun x y i => ∃ k : Nat, k ≤ s.size ∧ i = .int .i64 k ∧ x = .int .i64 (adl (s.data.toList.take k)).1 ∧ y = .int .i64 (adl (s.data.toList.take k)).2) (fun _ _ i => s.size - (intOf i).toNat)
  case atStart => exact ⟨0, Nat.zero_le _, rfl, rfl, rfl⟩
  case round =>
    obtain ⟨k, hk, rfl, rfl, rfl⟩ := hrel
    obtain ⟨⟨b1, b2⟩, b3, b4⟩ := adl_bd (s.data.toList.take k)
    by_cases hlt : k < s.size
    · have HS : Hid (adl (s.data.toList.take (k + 1)) = step (adl (s.data.toList.take k)) s[k]) := by show _ = _; rw [take_snoc s k hlt, adl_snoc]
      have hb1 : (s[k].toNat : Int) ≤ 255 := by have := s[k].toNat_lt; omega
      have hb0 : 0 ≤ (s[k].toNat : Int) := by omega
      go_wp2
      go_round
      case rel => exact ⟨k + 1, by omega, by go_num, by rw [HS.out]; rfl, by rw [HS.out, Int.add_comm]; rfl⟩
      case measure => simp [intOf]; omega
    · have e : s.data.toList.take k = s.data.toList := List.take_of_length_le (by simp; omega)
      rw [e] at b1 b2 b3 b4 ⊢
      clear e
      have hc := conv_four ((adl s.data.toList).2 / 256) ((adl s.data.toList).2 % 256) ((adl s.data.toList).1 / 256) ((adl s.data.toList).1 % 256) (by omega) (by omega) (by omega) (by omega) (by omega) (by omega) (by omega) (by omega) w
      go_wp2
      go_ret
      exact ⟨rfl, (Below.refl _ _).alloc (Nat.le_refl _) _⟩
end Go.Proofs.Ytkhjmfngeidlcaa
