/- What the program's archive.look answers, whatever the closure is. -/
import Derived.Test.YtkhjmfngeidlcaaFilHas
import Derived.Deep.DeepCutAuto
import Derived.BigQuiet
namespace Go.Proofs.Ytkhjmfngeidlcaa
open Go.RowKit Go.Lib

set_option maxHeartbeats 1600000 in
set_option maxRecDepth 4000 in
theorem flook_gen (a : Option Addr) (n c : Nat) (F : List Fi) (g : Nat) (lb : Array Value) (w : World) (I : Nat → World → Prop) (Out : Int → World → Prop) (hnc : n ≤ c) (eg : ∀ args w, (callFunc g args).run Try.prog w = .ok (.enter g args) w)
    (hI : ∀ k wx, I k wx → FilAt wx a n F) (hg : ∀ k wx w', I k wx → Below wx.heap.size wx w' → I k w')
    (hcall : ∀ k wx, k < n → I k wx → Calls Try.prog g (#[.slice a k c, .agg #[.string (fi F k).s, .string (fi F k).d]] ++ lb) wx fun e w' => ∃ x : Int, e = .returned (.int .i64 x) ∧ (x = 0 → I (k + 1) w') ∧ (x ≠ 0 → Out x w'))
    (h0 : I 0 w) :
    Calls Try.prog 14 #[.slice a n c, .func (.func g) #[] lb] w fun e w' => ∃ x : Int, e = .returned (.int .i64 x) ∧ (x = 0 → I n w') ∧ (x ≠ 0 → Out x w') := by
  have hnb := (hI 0 w h0).nb
  unfold maxLen at hnb
  have CT := hid hcall
  have HI := hid hI
  have HG := hid hg
  have H0 := hid h0
  clear hI hg hcall h0
  go_enter Try.func14, Try.ntmps14
  go_wp2_with fail
  go_loopw [10] (fun i wr => ∃ k : Nat, k ≤ n ∧ i = .int .i64 k ∧ Hid (I k wr)) (fun i _ => n - (RowKit.intOf i).toNat)
  case atStart => exact ⟨0, Nat.zero_le _, rfl, H0⟩
  case round =>
    obtain ⟨k, hk, rfl, G⟩ := hrel
    clear H0
    by_cases hlt : k < n
    · have hlt' : (k : Int) < n := by omega
      have hkc : (k : Int) ≤ c := by omega
      have hk0 : (0 : Int) ≤ k := by omega
      obtain ⟨b, o, rfl, hb, x0, x1⟩ := (HI.out k wr G.out).c k hlt
      have C1 := hid (fun wx (g : Below wr.heap.size wr wx) => CT.out k wx hlt (HG.out k wr wx G.out g))
      clear CT HI HG G
      generalize (fi F k).s = s at x0 C1
      generalize (fi F k).d = d at x1 C1
      go_wp2_with fail
      go_region_with (go_at_fn g; refine (C1.out _ (by go_grown)).mono ?_; rintro _ w5 ⟨x, rfl, h1, h2⟩)
      all_goals
        have K1 := hid h1
        have K2 := hid h2
        clear h1 h2 C1
        by_cases hx : x = 0
        · subst hx
          have e0 : ((0 : Int) != 0) = false := rfl
          go_wp2
          go_roundw
          case rel => exact ⟨k + 1, by omega, by go_num, hid (K1.out rfl)⟩
          case measure => simp [RowKit.intOf]; omega
        · have e0 : (x != 0) = true := by rw [bne_iff_ne]; exact hx
          have HX := hid hx
          clear hx
          go_wp2
          go_ret
          exact ⟨x, rfl, fun q => absurd q HX.out, fun _ => K2.out HX.out⟩
    · obtain rfl : k = n := by omega
      have hlt' : ¬ (k : Int) < k := by omega
      go_wp2
      go_ret
      exact ⟨0, rfl, fun _ => G.out, fun q => absurd rfl q⟩
end Go.Proofs.Ytkhjmfngeidlcaa
