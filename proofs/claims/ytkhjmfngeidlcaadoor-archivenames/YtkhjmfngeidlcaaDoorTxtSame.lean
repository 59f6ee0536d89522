/- sameTexts of two lists that hold the same answers true. -/
import Derived.Test.YtkhjmfngeidlcaaDoorMem2
import Derived.Handy
import Derived.Deep.QuietTactic
import Derived.BigQuiet
namespace Go.Proofs.YtkhjmfngeidlcaaDoor
open Go.RowKit Go.Lib

def txt (S : List ByteArray) (i : Nat) : ByteArray := S[i]?.getD ⟨#[]⟩
theorem row_txt {w : World} {a : Option Addr} {S : List ByteArray} (h : RowAt w a (S.map .string)) (k : Nat) (hk : k < S.length) : ∃ b o, a = some ⟨b, o, none⟩ ∧ b < w.heap.size ∧ w.cell? ⟨b, o + k, none⟩ = some (.string (txt S k)) :=
  h k _ (by simp [txt, hk])

set_option maxHeartbeats 1600000 in
set_option maxRecDepth 4000 in
theorem sametx_any (a : Option Addr) (n c : Nat) (b : Option Addr) (d : Nat) (S : List ByteArray) (w : World) (h : RowAt w a (S.map .string)) (h2 : RowAt w b (S.map .string)) (hn : n = S.length) (hb : n ≤ maxLen) :
    Calls Tryd.prog 13 #[.slice a n c, .slice b n d] w fun e w' => e = .returned (.bool true) ∧ Below w.heap.size w w' := by
  have H := hid (And.intro h h2)
  have HN := hid hn
  unfold maxLen at hb
  have n1 : ((n : Int) != n) = false := bne_self_eq_false _
  clear h h2 hn
  go_enter Tryd.func13, Tryd.ntmps13
  go_wp2_with fail
  clear n1
  go_loopw [5] (fun i wr => ∃ k q : Nat, k ≤ n ∧ i = .int .i64 k ∧ wr = w.drewN q) (fun i _ => n - (RowKit.intOf i).toNat)
  case atStart => exact ⟨0, 0, Nat.zero_le _, rfl, rfl⟩
  case round =>
    obtain ⟨k, q, hk, rfl, rfl⟩ := hrel
    by_cases hlt : k < n
    · have hlt' : (k : Int) < n := by omega
      obtain ⟨p, o, rfl, _, e1⟩ := row_txt H.out.1 k (by rw [← HN.out]; exact hlt)
      obtain ⟨p2, o2, rfl, _, e3⟩ := row_txt H.out.2 k (by rw [← HN.out]; exact hlt)
      generalize txt S k = s at e1 e3
      clear H HN
      go_wp2_with fail
      go_quiet (fail)
      go_wp2
      go_roundw
      case rel => exact ⟨k + 1, _, by omega, by go_num, rfl⟩
      case measure => simp [RowKit.intOf]; omega
    · have hlt' : ¬ (k : Int) < n := by omega
      go_wp2
      go_ret
      exact ⟨rfl, below_drewN (Below.refl _ _) _⟩
end Go.Proofs.YtkhjmfngeidlcaaDoor
