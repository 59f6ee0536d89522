/- The sector behind blocks: the program's answer. -/
import Derived.Test.YtkhjmfngeidlcaaDoorMem2
import Derived.Test.YtkhjmfngeidlcaaDoorStreamSecs
import Derived.Handy
import Derived.Deep.QuietTactic
import Derived.BigQuiet
namespace Go.Proofs.YtkhjmfngeidlcaaDoor
open Go.RowKit Go.Lib

theorem beh_last (L : List Bk) (k : Nat) (h : L.length = k + 1) : behB L = (bk L k).f + secs (bk L k).n.toNat := by
  have e2 : L.getLast? = some (bk L k) := by rw [List.getLast?_eq_getElem?, h, Nat.add_sub_cancel, bk_lt L k (by omega), List.getElem?_eq_getElem (by omega)]
  unfold behB
  rw [e2]

set_option maxHeartbeats 400000 in
theorem behind_any (a : Option Addr) (n c : Nat) (L : List Bk) (w : World) (H : BlkAt w a n L) (hl : ∀ k, n = k + 1 → (0 ≤ (bk L k).f ∧ (bk L k).f ≤ 1000000) ∧ 0 ≤ (bk L k).n ∧ (bk L k).n ≤ 1000000) :
    Calls Tryd.prog 49 #[.slice a n c] w fun e w' => e = .returned (.int .i64 (behB L)) ∧ Below w.heap.size w w' := by
  have hnb := H.nb
  unfold maxLen at hnb
  by_cases h0 : n = 0
  · subst h0
    have e : L = [] := List.eq_nil_of_length_eq_zero H.sn.symm
    have e2 : behB L = 8 := by rw [e]; rfl
    rw [e2]
    clear H hl e e2
    go_enter Tryd.func49, Tryd.ntmps49
    go_wp2
    go_ret
    exact ⟨rfl, Below.refl _ _⟩
  · obtain ⟨k, rfl⟩ : ∃ k, n = k + 1 := ⟨n - 1, by omega⟩
    obtain ⟨⟨f0, f1⟩, n0, n1⟩ := hl k rfl
    obtain ⟨b, o, rfl, hb, c0, c1⟩ := H.c k (by omega)
    rw [beh_last L k H.sn.symm]
    obtain ⟨m, hm⟩ : ∃ m : Nat, (bk L k).n = m := ⟨(bk L k).n.toNat, by omega⟩
    rw [hm] at c1 n1 ⊢
    rw [Int.toNat_natCast]
    generalize (bk L k).f = f at c0 f0 f1
    have CS := hid (fun wx => sectors_ok m wx (by omega))
    have hs : secs m ≤ 1000000 := by unfold secs; omega
    generalize secs m = S at CS hs
    clear H hl hm n0
    have hz : (((k + 1 : Nat) : Int) == 0) = false := by rw [beq_eq_false_iff_ne]; omega
    have u1 : IntKind.i64.wrap (f + (S : Int)) = f + (S : Int) := IntWalk.i64_in _ (by omega)
    go_enter Tryd.func49, Tryd.ntmps49
    go_wp2_with fail
    go_quiet ((go_at_call 23; exact Calls.quiet_of_same (CS.out _)))
    go_wp2
    go_ret
    exact ⟨rfl, below_drewN (by go_grown) _⟩
end Go.Proofs.YtkhjmfngeidlcaaDoor
