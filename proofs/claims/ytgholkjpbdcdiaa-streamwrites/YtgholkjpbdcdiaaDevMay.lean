/- What the document's own DeviceMay answers. -/
import Derived.Test.YtgholkjpbdcdiaaDevMem
import Derived.Test.YtgholkjpbdcdiaaSectorRef
import Derived.Handy
namespace Go.Proofs.Ytgholkjpbdcdiaa
open Go.RowKit Go.Lib

theorem may_no (D : Dv) (k : Nat) (hk : k < D.1.length) (h : (sec D k).size ≠ 30) : dvMay D = false := by
  rw [Bool.eq_false_iff]
  intro hm
  exact h (sec_size D k hm hk)
theorem may_all (D : Dv) (h : ∀ j, j < D.1.length → (sec D j).size = 30) : dvMay D = (decide (1 ≤ D.1.length ∧ D.1.length ≤ 64) && (D.2.length == D.1.length)) := by
  have e : (D.1.all fun s => s.size == 30) = true := by
    rw [List.all_eq_true]
    intro s hs
    obtain ⟨j, hj, rfl⟩ := List.mem_iff_getElem.1 hs
    have := h j hj
    rw [sec_lt D j hj] at this
    simp [this]
  unfold dvMay
  rw [e, Bool.and_true, Bool.eq_iff_iff]
  simp [and_assoc]

set_option maxHeartbeats 400000 in
theorem may_any (a : Option Addr) (n c : Nat) (a' : Option Addr) (m c' : Nat) (D : Dv) (w : World) (h : DevAt w a n a' m D) :
    Calls Try.prog 54 #[.agg #[.slice a n c, .slice a' m c']] w fun e w' => e = .returned (.bool (dvMay D)) ∧ Below w.heap.size w w' := by
  have H := hid (h.below ((Below.refl _ w).alloc (Nat.le_refl _) (.cells #[.slice a n c, .slice a' m c'] 40)))
  have hn := h.sn
  have hm := h.sm
  have hnb := h.nb
  have hmb := h.mb
  have HD := hid (And.intro hn hm)
  unfold maxLen at hnb hmb
  clear hn hm h
  go_enter Try.func54, Try.ntmps54
  go_wp2
  go_loop [3] (fun i => ∃ k : Nat, k ≤ n ∧ i = .int .i64 k ∧ Hid (∀ j, j < k → (sec D j).size = 30)) (fun i => n - (intOf i).toNat)
  case atStart => exact ⟨0, Nat.zero_le _, rfl, fun j hj => absurd hj (Nat.not_lt_zero _)⟩
  case round =>
    obtain ⟨k, hk, rfl, HR⟩ := hrel
    by_cases hlt : k < n
    · have hlt' : (k : Int) < n := by omega
      obtain ⟨b, o, rfl, hb, hc⟩ := H.out.sector k hlt
      by_cases h30 : (sec D k).size = 30
      · have R : Hid (∀ j, j < k + 1 → (sec D j).size = 30) := fun j hj => by
          by_cases e : j = k
          · rw [e]; exact h30
          · exact HR.out j (by omega)
        have hq : (((sec D k).size : Int) != 30) = false := by rw [bne_eq_false_iff_eq]; omega
        generalize sec D k = s at hc hq h30
        clear H HR HD
        go_wp2
        go_round
        case rel => exact ⟨k + 1, by omega, by go_num, R⟩
        case measure => simp [intOf]; omega
      · have hf := may_no D k (by rw [← HD.out.1]; exact hlt) h30
        have HF := hid hf
        clear hf
        have hq : (((sec D k).size : Int) != 30) = true := by rw [bne_iff_ne]; omega
        generalize sec D k = s at hc hq h30
        clear H HR HD
        go_wp2
        go_ret
        exact ⟨ret_bool HF.out.symm, by go_grown⟩
    · obtain rfl : k = n := by omega
      have hf := may_all D (by rw [← HD.out.1]; exact HR.out)
      rw [← HD.out.1, ← HD.out.2] at hf
      have HF := hid hf
      clear HR HD H hf
      have hnl : ¬ (k : Int) < k := by omega
      have hi := fun wx => in_any k 1 64 wx
      have he : ((m : Int) == k) = (m == k) := by rw [Bool.eq_iff_iff]; simp; omega
      have hdd : decide ((1 : Int) ≤ k ∧ (k : Int) ≤ 64) = decide (1 ≤ k ∧ k ≤ 64) := by rw [decide_eq_decide]; omega
      rw [hdd] at hi
      have HI := hid hi
      clear hi hdd
      generalize decide (1 ≤ k ∧ k ≤ 64) = r at HI HF
      generalize (m == k) = q at he HF
      cases r with
      | true =>
        go_wp2_with fail
        refine (HI.out _).mono ?_
        rintro _ _ ⟨rfl, rfl⟩
        go_wp2
        go_ret
        exact ⟨ret_bool HF.out.symm, by go_grown⟩
      | false =>
        go_wp2_with fail
        refine (HI.out _).mono ?_
        rintro _ _ ⟨rfl, rfl⟩
        go_wp2
        go_ret
        exact ⟨ret_bool HF.out.symm, by go_grown⟩

end Go.Proofs.Ytgholkjpbdcdiaa
