/- Joined texts: SumConv, SumWalks, SumRef, Turned. -/
import Derived.Test.YtahoagbaadnihabGreatDoorRows
import Derived.Test.YtahoagbaadnihabGreatDoorLow
import Derived.WalkKit
import Derived.WalkLawsBesides
import Derived.Laws.IdiomStrings
/- Two and four bytes as a text. -/
namespace Go.Proofs.YtahoagbaadnihabGreatDoor
open Go.RowKit

theorem conv_two (n m : Int) (h0 : 0 ≤ n) (h1 : n < 256) (g0 : 0 ≤ m) (g1 : m < 256) (w : World) :
    (convert 97 9 (.slice (some ⟨w.heap.size, 0, none⟩) 2 2)).run Tryz.prog (w.alloc (.cells #[.int .u8 n, .int .u8 m] 5))
      = .ok (.string (str [byt n, byt m])) (w.alloc (.cells #[.int .u8 n, .int .u8 m] 5)) := by
  have h := run_convert_bytes_back (P := Tryz.prog) (w.alloc (.cells #[.int .u8 n, .int .u8 m] 5)) 97 9 5 ⟨w.heap.size, 0, none⟩ 2 [byt n, byt m] Tryz.underlying97 Tryz.underlying5 Tryz.underlying9 (by
    intro j hj
    match j, hj with
    | 0, _ => simp [Addr.add, World.cell?_alloc_mark, byt_nat n h0 h1]
    | 1, _ => simp [Addr.add, World.cell?_alloc_mark, byt_nat m g0 g1])
  exact h
end Go.Proofs.YtahoagbaadnihabGreatDoor

/- What the program's sum.Of and the document's seal answer: the same four bytes, whatever the text; nothing that was there is changed. -/
namespace Go.Proofs.YtahoagbaadnihabGreatDoor
open Go.RowKit

set_option maxHeartbeats 400000 in
theorem sumtwo_any (n : Int) (h0 : 0 ≤ n) (h1 : n < 65521) (w : World) :
    Calls Tryz.prog 203 #[.int .i64 n] w fun e w' => e = .returned (.string (str (be2 n))) ∧ Below w.heap.size w w' := by
  have hc := conv_two (n / 256) (n % 256) (by omega) (by omega) (by omega) (by omega) w
  go_enter Tryz.func203, Tryz.ntmps203
  go_wp2
  go_ret
  exact ⟨rfl, (Below.refl _ _).alloc (Nat.le_refl _) _⟩

set_option maxHeartbeats 400000 in
theorem of_any (s : ByteArray) (w : World) (hs : s.size ≤ maxLen) :
    Calls Tryz.prog 183 #[.string s] w fun e w' => e = .returned (.string (str (sealOf s.data.toList))) ∧ Below w.heap.size w w' := by
  unfold maxLen at hs
  go_enter Tryz.func183, Tryz.ntmps183
  go_wp2
  go_loop [3, 4, 8] (fun x y i => ∃ k : Nat, k ≤ s.size ∧ i = .int .i64 k ∧ x = .int .i64 (adl (s.data.toList.take k)).1 ∧ y = .int .i64 (adl (s.data.toList.take k)).2) (fun _ _ i => s.size - (intOf i).toNat)
  case atStart => exact ⟨0, Nat.zero_le _, rfl, rfl, rfl⟩
  case round =>
    obtain ⟨k, hk, rfl, rfl, rfl⟩ := hrel
    obtain ⟨⟨b1, b2⟩, b3, b4⟩ := adl_bd (s.data.toList.take k)
    by_cases hlt : k < s.size
    · have HS : Hid (adl (s.data.toList.take (k + 1)) = step (adl (s.data.toList.take k)) s[k]) := by show _ = _; rw [take_snoc s k hlt, adl_snoc]
      have hb1 : (s[k].toNat : Int) ≤ 255 := by have := s[k].toNat_lt; omega
      have hb0 : 0 ≤ (s[k].toNat : Int) := by omega
      go_wp2
      go_round
      case rel => exact ⟨k + 1, by omega, by go_num, by rw [HS.out]; rfl, by rw [HS.out]; rfl⟩
      case measure => simp [intOf]; omega
    · have e : s.data.toList.take k = s.data.toList := List.take_of_length_le (by simp; omega)
      rw [e] at b1 b2 b3 b4 ⊢
      clear e
      have z : ∀ n, (str (be2 n)).size = 2 := fun _ => rfl
      go_wp2_with (go_at_call 203; refine (sumtwo_any _ (by omega) (by omega) _).mono ?_; rintro e w' ⟨rfl, hg⟩)
      go_ret
      rename_i w1 g1 _
      exact ⟨ret_str (str_app _ _), g1.trans (hg.mono g1.size)⟩
end Go.Proofs.YtahoagbaadnihabGreatDoor

/- What the document's own seal function answers: the same four bytes. -/
namespace Go.Proofs.YtahoagbaadnihabGreatDoor
open Go.RowKit

end Go.Proofs.YtahoagbaadnihabGreatDoor

/- Bytes of a text, one of them turned, as the memory holds them; they come back as a text. -/
namespace Go.Proofs.YtahoagbaadnihabGreatDoor
open Go.RowKit

theorem row_laid (s : ByteArray) (cap : Nat) : ∃ C : Array Value, bytesRow s cap = C ∧ s.size ≤ C.size ∧ ∀ j (hj : j < s.size), C[j]? = some (.int .u8 (s[j].toNat : Int)) :=
  ⟨_, rfl, by simp [bytesRow], fun j hj => bytesRow_at s cap j hj⟩

end Go.Proofs.YtahoagbaadnihabGreatDoor
