/- Joined texts: DevSame, CatSame. -/
import Derived.Test.YtkhjmfngeidlcaaGreatDoorMem
import Derived.Handy
import Derived.Deep.QuietTactic
import Derived.BigQuiet
import Derived.Test.YtkhjmfngeidlcaaGreatDoorMem2
/- sameDevice of two devices that hold the same answers true. -/
namespace Go.Proofs.YtkhjmfngeidlcaaGreatDoor
open Go.RowKit Go.Lib

set_option maxHeartbeats 1600000 in
set_option maxRecDepth 4000 in
theorem samedev_any (a : Option Addr) (n c : Nat) (a' : Option Addr) (m c' : Nat) (b : Option Addr) (d : Nat) (b' : Option Addr) (d' : Nat) (D : Dv) (w : World) (h : DevAt w a n a' m D) (h2 : DevAt w b n b' m D) :
    Calls Tryz.prog 26 #[.agg #[.slice a n c, .slice a' m c'], .agg #[.slice b n d, .slice b' m d']] w fun e w' => e = .returned (.bool true) ∧ Below w.heap.size w w' := by
  obtain ⟨W, hW⟩ : ∃ W, W = (w.alloc (.cells #[.slice a n c, .slice a' m c'] 35)).alloc (.cells #[.slice b n d, .slice b' m d'] 35) := ⟨_, rfl⟩
  have hB : Below w.heap.size w W := by rw [hW]; go_grown
  have c1 : W.cell? ⟨w.heap.size, 0, none⟩ = some (.slice a n c) := by rw [hW]; simp
  have c2 : W.cell? ⟨w.heap.size, 1, none⟩ = some (.slice a' m c') := by rw [hW]; simp
  have c3 : W.cell? ⟨w.heap.size + 1, 0, none⟩ = some (.slice b n d) := by rw [hW]; simp
  have c4 : W.cell? ⟨w.heap.size + 1, 1, none⟩ = some (.slice b' m d') := by rw [hW]; simp
  have H := hid (And.intro (h.below hB) (h2.below hB))
  have HC := hid (And.intro c1 (And.intro c2 (And.intro c3 c4)))
  have HB := hid hB
  have hn := h.nb
  have hm := h.mb
  unfold maxLen at hn hm
  have n1 : ((n : Int) != n) = false := bne_self_eq_false _
  have n2 : ((m : Int) != m) = false := bne_self_eq_false _
  clear h h2 hB c1 c2 c3 c4
  go_enter Tryz.func26, Tryz.ntmps26
  go_wp2_with fail
  rw [← hW]
  clear hW n1 n2
  go_loopw [5] (fun i wr => ∃ k q : Nat, k ≤ n ∧ i = .int .i64 k ∧ wr = W.drewN q) (fun i _ => n - (intOf i).toNat)
  case atStart => exact ⟨0, 0, Nat.zero_le _, rfl, rfl⟩
  case round =>
    obtain ⟨k, q, hk, rfl, rfl⟩ := hrel
    obtain ⟨c1, c2, c3, c4⟩ := HC.out
    by_cases hlt : k < n
    · have hlt' : (k : Int) < n := by omega
      obtain ⟨p, o, rfl, _, e1⟩ := H.out.1.sector k hlt
      obtain ⟨p2, o2, rfl, _, e2⟩ := H.out.2.sector k hlt
      generalize sec D k = s at e1 e2
      clear H HC c2 c4 HB
      go_wp2_with fail
      go_quiet (fail)
      go_wp2
      go_roundw
      case rel => exact ⟨k + 1, _, by omega, by go_num, rfl⟩
      case measure => simp [intOf]; omega
    · have hlt' : ¬ (k : Int) < n := by omega
      clear hlt hk
      go_wp2_with fail
      clear hlt' c1 c2 c3 c4
      go_loopw [6] (fun i wr => ∃ k q : Nat, k ≤ m ∧ i = .int .i64 k ∧ wr = W.drewN q) (fun i _ => m - (intOf i).toNat)
      case atStart => exact ⟨0, q, Nat.zero_le _, rfl, rfl⟩
      case round =>
        obtain ⟨k, q, hk, rfl, rfl⟩ := hrel
        obtain ⟨c1, c2, c3, c4⟩ := HC.out
        by_cases hlt : k < m
        · have hlt' : (k : Int) < m := by omega
          obtain ⟨p, o, rfl, _, e1⟩ := H.out.1.lost k hlt
          obtain ⟨p2, o2, rfl, _, e2⟩ := H.out.2.lost k hlt
          generalize los D k = s at e1 e2
          clear H HC c1 c3 HB
          go_wp2_with fail
          go_quiet (fail)
          go_wp2
          go_roundw
          case rel => exact ⟨k + 1, _, by omega, by go_num, rfl⟩
          case measure => simp [intOf]; omega
        · have hlt' : ¬ (k : Int) < m := by omega
          go_wp2
          go_ret
          exact ⟨rfl, below_drewN HB.out q⟩
end Go.Proofs.YtkhjmfngeidlcaaGreatDoor

/- sameCatalog of two catalogs that hold the same answers true. -/
namespace Go.Proofs.YtkhjmfngeidlcaaGreatDoor
open Go.RowKit Go.Lib

end Go.Proofs.YtkhjmfngeidlcaaGreatDoor
