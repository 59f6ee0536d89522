/- What the program's device.Check answers. -/
import Derived.Test.YtgholkjpbdcdiaaDoorDevMem
import Derived.Test.YtgholkjpbdcdiaaDoorShelf
import Derived.Handy
namespace Go.Proofs.YtgholkjpbdcdiaaDoor
open Go.RowKit Go.Lib

theorem len_pred (w : World) : PredAt Tryd.prog 62 #[] Value.string (fun s => !(s.size == 30)) w := fun W x _ => by
  show Calls Tryd.prog 62 #[.string x] W _
  have hq : ((x.size : Int) != 30) = !(x.size == 30) := by
    rw [Bool.eq_iff_iff]; simp; omega
  go_enter Tryd.func62, Tryd.ntmps62
  go_wp2
  go_ret
  exact ⟨rfl, 0, rfl⟩

theorem ret_i {k : IntKind} {n m : Int} (h : n = m) : Ending.returned (.int k n) = .returned (.int k m) := by rw [h]

theorem check_state (a : Option Addr) (n c : Nat) (a' : Option Addr) (m c' : Nat) (w : World) (h : n < 1 ∨ 64 < n ∨ m ≠ n) :
    Calls Tryd.prog 50 #[.agg #[.slice a n c, .slice a' m c']] w fun e w' => e = .returned (.int .i64 9) ∧ Below w.heap.size w w' := by
  by_cases h1 : (n : Int) < 1
  · clear h
    go_enter Tryd.func50, Tryd.ntmps50
    go_wp2
    go_ret
    exact ⟨rfl, by go_grown⟩
  · by_cases h2 : (64 : Int) < n
    · clear h
      go_enter Tryd.func50, Tryd.ntmps50
      go_wp2
      go_ret
      exact ⟨rfl, by go_grown⟩
    · have h3 : ((m : Int) != n) = true := by
        rw [bne_iff_ne]; omega
      clear h
      go_enter Tryd.func50, Tryd.ntmps50
      go_wp2
      go_ret
      exact ⟨rfl, by go_grown⟩

theorem any_len (S : List ByteArray) : (S.any fun s => !(s.size == 30)) = !(S.all fun s => s.size == 30) := by
  rw [List.not_all_eq_any_not]

set_option maxHeartbeats 400000 in
theorem check_any (a : Option Addr) (n c : Nat) (a' : Option Addr) (m c' : Nat) (D : Dv) (w : World) (h : DevAt w a n a' m D) :
    Calls Tryd.prog 50 #[.agg #[.slice a n c, .slice a' m c']] w fun e w' => e = .returned (.int .i64 (dvChk D)) ∧ Below w.heap.size w w' := by
  by_cases hs : n < 1 ∨ 64 < n ∨ m ≠ n
  · have e : dvChk D = 9 := by
      unfold dvChk
      rw [if_neg]
      intro hm
      have := ((dvMay_iff D).1 hm).1
      rw [← h.sn, ← h.sm] at this
      omega
    rw [e]
    exact check_state a n c a' m c' w hs
  · have h1 : ¬ (n : Int) < 1 := by omega
    have h2 : ¬ (64 : Int) < n := by omega
    have h3 : ((m : Int) != n) = false := by rw [bne_eq_false_iff_eq]; omega
    obtain ⟨b, o, rfl, hb, _⟩ := h.sector 0 (by omega)
    have hW : ∀ wx, Below w.heap.size w wx → Calls Tryd.prog 61 #[.slice (some ⟨b, o, none⟩) n c, .func (.func 62) #[] #[]] wx fun e w' => e = .returned (.bool (!(D.1.all fun s => s.size == 30))) ∧ ∃ q, w' = wx.drewN q := fun wx hx => by
      have hh := h.below hx
      have := Tryd.slices_ContainsFunc Value.string (fun s => !(s.size == 30)) 62 #[] (enters_of Tryd.func62 (by kernel_rfl) rfl) b o n c D.1 wx (len_pred wx) (by rw [h.sn]; exact Nat.le_refl _) (by omega) (fun j hj => by
        obtain ⟨b2, o2, e2, _, hc⟩ := hh.sector j (by rw [h.sn]; exact hj)
        cases e2
        rw [hc, sec_lt D j hj]
        simp [hj])
      rw [h.sn, List.take_length, any_len, ← h.sn] at this
      exact this
    have hl : (1 ≤ D.1.length ∧ D.1.length ≤ 64 ∧ D.2.length = D.1.length) := by rw [← h.sn, ← h.sm]; omega
    have e : dvChk D = if (D.1.all fun s => s.size == 30) = true then 0 else 9 := by
      unfold dvChk dvMay
      rw [decide_eq_true hl, Bool.true_and]
    rw [e]
    generalize (D.1.all fun s => s.size == 30) = r at hW
    clear hs h hl e
    have HW := hid hW
    clear hW
    cases r with
    | true =>
      go_enter Tryd.func50, Tryd.ntmps50
      go_wp2_with fail
      refine (HW.out _ (by go_grown)).mono ?_
      rintro _ _ ⟨rfl, q, rfl⟩
      go_wp2
      go_ret
      exact ⟨rfl, below_drewN ((Below.refl _ _).alloc (Nat.le_refl _) _) q⟩
    | false =>
      go_enter Tryd.func50, Tryd.ntmps50
      go_wp2_with fail
      refine (HW.out _ (by go_grown)).mono ?_
      rintro _ _ ⟨rfl, q, rfl⟩
      go_wp2
      go_ret
      exact ⟨rfl, below_drewN ((Below.refl _ _).alloc (Nat.le_refl _) _) q⟩
end Go.Proofs.YtgholkjpbdcdiaaDoor
