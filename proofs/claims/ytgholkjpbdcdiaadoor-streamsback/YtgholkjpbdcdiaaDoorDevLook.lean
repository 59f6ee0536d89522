/- What the program's device.look answers, whatever the closure is. -/
import Derived.Test.YtgholkjpbdcdiaaDoorDevCheck
import Derived.Deep.RegionWith
import Derived.BigRegion
namespace Go.Proofs.YtgholkjpbdcdiaaDoor
open Go.RowKit Go.Lib

/-- The device's box, laid first. -/
theorem dev_box (w : World) (d1 d2 : Value) : Below w.heap.size w (w.alloc (.cells #[d1, d2] 62)) ∧ (w.alloc (.cells #[d1, d2] 62)).heap.size = w.heap.size + 1 ∧
    (w.alloc (.cells #[d1, d2] 62)).cell? ⟨w.heap.size, 0, none⟩ = some d1 ∧ (w.alloc (.cells #[d1, d2] 62)).cell? ⟨w.heap.size, 1, none⟩ = some d2 :=
  ⟨(Below.refl _ w).alloc (Nat.le_refl _) _, by simp, by simp, by simp⟩

set_option maxHeartbeats 400000 in
theorem look_bad (a : Option Addr) (n c : Nat) (a' : Option Addr) (m c' : Nat) (i : Int) (fv : Value) (D : Dv) (w : World) (h : DevAt w a n a' m D) (ht : dvTouch D i ≠ 0) :
    Calls Tryd.prog 38 #[.agg #[.slice a n c, .slice a' m c'], .int .i64 i, fv] w fun e w' => e = .returned (.int .i64 (dvTouch D i)) ∧ Below w.heap.size w w' := by
  obtain ⟨hB, hz, c0, c1⟩ := dev_box w (.slice a n c) (.slice a' m c')
  have hC := check_any a n c a' m c' D _ (h.below hB)
  have HB := hid (And.intro hB (And.intro hz c0))
  clear hB hz c0 c1
  unfold dvTouch at ht ⊢
  unfold dvChk at hC
  rw [← h.sn] at ht ⊢
  clear h
  generalize dvMay D = r at hC ht
  cases r with
  | false =>
    rw [if_neg (by decide)] at hC ⊢
    have HC := hid hC
    clear hC ht
    go_enter Tryd.func38, Tryd.ntmps38
    go_wp2_with fail
    refine HC.out.mono ?_
    rintro _ w1 ⟨rfl, g1⟩
    go_wp2
    go_ret
    exact ⟨rfl, HB.out.1.trans (g1.mono HB.out.1.size)⟩
  | true =>
    rw [if_pos rfl] at hC ht ⊢
    have hin : ¬ (0 ≤ i ∧ i < n) := fun hh => by rw [if_pos hh] at ht; exact ht rfl
    rw [if_neg hin]
    have HC := hid hC
    clear hC ht
    by_cases h0 : i < 0
    · clear hin
      go_enter Tryd.func38, Tryd.ntmps38
      go_wp2_with fail
      refine HC.out.mono ?_
      rintro _ w1 ⟨rfl, g1⟩
      go_wp2
      go_ret
      exact ⟨rfl, HB.out.1.trans (g1.mono HB.out.1.size)⟩
    · have h1 : (n : Int) ≤ i := by omega
      clear hin
      go_enter Tryd.func38, Tryd.ntmps38
      go_wp2_with fail
      refine HC.out.mono ?_
      rintro _ w1 ⟨rfl, g1⟩
      have hc1 : w1.cell? ⟨w.heap.size, 0, none⟩ = some (.slice a n c) := (g1.cell (p := ⟨w.heap.size, 0, none⟩) (by rw [HB.out.2.1]; exact Nat.lt_succ_self _)).trans HB.out.2.2
      go_wp2
      go_ret
      exact ⟨rfl, HB.out.1.trans (g1.mono HB.out.1.size)⟩

set_option maxHeartbeats 1600000 in
theorem look_ok (a : Option Addr) (n c : Nat) (a' : Option Addr) (m c' : Nat) (k : Nat) (g : Nat) (lb : Array Value) (D : Dv) (w : World) (h : DevAt w a n a' m D) (ht : dvTouch D k = 0) (eg : ∀ args w, (callFunc g args).run Tryd.prog w = .ok (.enter g args) w)
    (R : Int → World → Prop) (hc : ∀ w1, Below w.heap.size w w1 → Calls Tryd.prog g (#[.string (sec D k), .bool (los D k)] ++ lb) w1 fun e w' => ∃ x, e = .returned (.int .i64 x) ∧ R x w') :
    Calls Tryd.prog 38 #[.agg #[.slice a n c, .slice a' m c'], .int .i64 k, .func (.func g) #[] lb] w fun e w' => ∃ x, e = .returned (.int .i64 x) ∧ R x w' := by
  obtain ⟨hB, hz, c0, c1⟩ := dev_box w (.slice a n c) (.slice a' m c')
  obtain ⟨hm, _, hk, hm2, _⟩ := touch_ok D k ht
  rw [← h.sn] at hk
  rw [← h.sn, ← h.sm] at hm2
  have hD := h.below hB
  have hC := check_any a n c a' m c' D _ hD
  rw [dvChk, if_pos hm] at hC
  obtain ⟨p, o, rfl, hp, e1⟩ := h.sector k (by omega)
  obtain ⟨p', o', rfl, hp', e2⟩ := h.lost k (by omega)
  have hk' : (k : Int) < m := by omega
  have HB := hid (And.intro hB (And.intro hz (And.intro c0 (And.intro c1 (And.intro (And.intro hp e1) (And.intro hp' e2))))))
  have HC := hid hC
  have HF := hid hc
  clear hB hz c0 c1 hD hC hc h ht hm hp hp' e1 e2 hm2
  generalize sec D k = s at HB HF
  generalize los D k = l at HB HF
  go_enter Tryd.func38, Tryd.ntmps38
  go_wp2_with fail
  refine HC.out.mono ?_
  rintro _ w1 ⟨rfl, g1⟩
  have gw := HB.out.1.trans (g1.mono HB.out.1.size)
  have b0 : w1.cell? ⟨w.heap.size, 0, none⟩ = some (.slice (some ⟨p, o, none⟩) n c) := (g1.cell (p := ⟨w.heap.size, 0, none⟩) (by rw [HB.out.2.1]; exact Nat.lt_succ_self _)).trans HB.out.2.2.1
  have b1 : w1.cell? ⟨w.heap.size, 1, none⟩ = some (.slice (some ⟨p', o', none⟩) m c') := (g1.cell (p := ⟨w.heap.size, 1, none⟩) (by rw [HB.out.2.1]; exact Nat.lt_succ_self _)).trans HB.out.2.2.2.1
  have e1 : w1.cell? ⟨p, o + k, none⟩ = some (.string s) := (gw.cell (p := ⟨p, o + k, none⟩) HB.out.2.2.2.2.1.1).trans HB.out.2.2.2.2.1.2
  have e2 : w1.cell? ⟨p', o' + k, none⟩ = some (.bool l) := (gw.cell (p := ⟨p', o' + k, none⟩) HB.out.2.2.2.2.2.1).trans HB.out.2.2.2.2.2.2
  clear g1 HC
  have HG := hid gw
  clear gw HB
  go_wp2_with fail
  go_region_with (go_at_fn g; refine (HF.out _ HG.out.drew).mono ?_; rintro _ w2 ⟨x, rfl, hR⟩)
  all_goals go_wp2
  all_goals go_ret
  all_goals exact ⟨x, rfl, hR⟩
end Go.Proofs.YtgholkjpbdcdiaaDoor
