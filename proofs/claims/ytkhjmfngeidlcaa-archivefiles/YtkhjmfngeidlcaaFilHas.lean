/- Is there a file that a closure names? slices.ContainsFunc at files, whatever the closure. -/
import Derived.Test.YtkhjmfngeidlcaaFilMem
import Derived.Handy
import Derived.Deep.RegionWith
import Derived.Shelf.Abstract
namespace Go.Proofs.Ytkhjmfngeidlcaa
open Go.RowKit Go.Lib

/-- The first of k files of which p holds, or -1. -/
def idxF (F : List Fi) (p : Fi → Bool) : Nat → Int
  | 0 => -1
  | k + 1 => if 0 ≤ idxF F p k then idxF F p k else if p (fi F k) = true then (k : Int) else -1
def anyF (F : List Fi) (p : Fi → Bool) : Nat → Bool
  | 0 => false
  | k + 1 => anyF F p k || p (fi F k)
theorem idxF_any (F : List Fi) (p : Fi → Bool) (k : Nat) : decide (0 ≤ idxF F p k) = anyF F p k ∧ (idxF F p k < 0 → idxF F p k = -1) := by
  induction k with
  | zero => exact ⟨rfl, fun _ => rfl⟩
  | succ k ih =>
    rw [idxF, anyF, ← ih.1]
    by_cases h : 0 ≤ idxF F p k
    · rw [if_pos h, decide_eq_true h]
      exact ⟨rfl, fun q => absurd q (by omega)⟩
    · rw [if_neg h, decide_eq_false h]
      cases hp : p (fi F k) with
      | true => rw [if_pos rfl]; exact ⟨by simp, fun q => absurd q (by omega)⟩
      | false => rw [if_neg (by decide)]; exact ⟨rfl, fun _ => rfl⟩
theorem idxF_stop (F : List Fi) (p : Fi → Bool) (k m : Nat) (h : 0 ≤ idxF F p k) (hm : k ≤ m) : idxF F p m = idxF F p k := by
  induction m with
  | zero => obtain rfl : k = 0 := by omega
            rfl
  | succ m ih =>
    by_cases e : k = m + 1
    · rw [e]
    · rw [idxF, ih (by omega), if_pos h]
theorem idxF_hit (F : List Fi) (p : Fi → Bool) (k : Nat) (h : idxF F p k = -1) (hp : p (fi F k) = true) (m : Nat) (hm : k < m) : idxF F p m = k := by
  have e : idxF F p (k + 1) = k := by rw [idxF, h, if_neg (by omega), if_pos hp]
  rw [idxF_stop F p (k + 1) m (by rw [e]; omega) hm, e]
theorem idxF_miss (F : List Fi) (p : Fi → Bool) (k : Nat) (h : idxF F p k = -1) (hp : p (fi F k) = false) : idxF F p (k + 1) = -1 := by rw [idxF, h, if_neg (by omega), hp]; rfl
theorem hasF_any (F : List Fi) (s : ByteArray) (k : Nat) : anyF F (fun x => x.s.toList == s.toList) k = hasF F s k := by
  induction k with
  | zero => rfl
  | succ k ih => rw [anyF, hasF, ih]

set_option maxHeartbeats 1000000 in
set_option maxRecDepth 4000 in
theorem findex_gen (a : Option Addr) (n c : Nat) (F : List Fi) (p : Fi → Bool) (g : Nat) (lb : Array Value) (w : World) (H : FilAt w a n F) (eg : ∀ args w, (callFunc g args).run Try.prog w = .ok (.enter g args) w)
    (hc : ∀ (x : Fi) wx, (x.s.size ≤ maxLen ∧ x.d.size ≤ maxLen) → Below w.heap.size w wx → Calls Try.prog g (#[.agg #[.string x.s, .string x.d]] ++ lb) wx fun e w' => e = .returned (.bool (p x)) ∧ Below wx.heap.size wx w') :
    Calls Try.prog 29 #[.slice a n c, .func (.func g) #[] lb] w fun e w' => e = .returned (.int .i64 (idxF F p n)) ∧ Below w.heap.size w w' := by
  have hnb := H.nb
  unfold maxLen at hnb
  have CT := hid hc
  have HH := hid H
  clear H hc
  go_enter Try.func29, Try.ntmps29
  go_wp2_with fail
  go_loopw [8] (fun i wr => ∃ k : Nat, k ≤ n ∧ i = .int .i64 k ∧ Hid (idxF F p k = -1) ∧ Hid (Below w.heap.size w wr)) (fun i _ => n - (RowKit.intOf i).toNat)
  case atStart => exact ⟨0, Nat.zero_le _, rfl, rfl, Below.refl _ _⟩
  case round =>
    obtain ⟨k, hk, rfl, h0, G⟩ := hrel
    by_cases hlt : k < n
    · have hlt' : (k : Int) < n := by omega
      obtain ⟨b, o, rfl, hb, x0, x1⟩ := (HH.out.below G.out).c k hlt
      have C1 := hid (CT.out (fi F k) wr (HH.out.nm k hlt) G.out)
      have HIT := hid (fun he => idxF_hit F p k h0.out he n hlt)
      have MISS := hid (fun he => idxF_miss F p k h0.out he)
      generalize p (fi F k) = r at C1 HIT MISS
      cases r with
      | true =>
        have R := hid (HIT.out rfl)
        clear HIT MISS CT HH
        go_wp2_with fail
        go_at_fn g
        refine C1.out.mono ?_
        rintro _ w5 ⟨rfl, g5⟩
        go_wp2
        go_ret
        exact ⟨ret_int (by rw [R.out]), G.out.trans (g5.mono G.out.size)⟩
      | false =>
        have R := hid (MISS.out rfl)
        clear HIT MISS CT HH
        go_wp2_with fail
        go_at_fn g
        refine C1.out.mono ?_
        rintro _ w5 ⟨rfl, g5⟩
        go_wp2
        go_roundw
        case rel => exact ⟨k + 1, by omega, by go_num, R, hid (G.out.trans (g5.mono G.out.size))⟩
        case measure => simp [RowKit.intOf]; omega
    · obtain rfl : k = n := by omega
      have hlt' : ¬ (k : Int) < k := by omega
      go_wp2
      go_ret
      exact ⟨ret_int (by rw [h0.out]), G.out⟩

set_option maxHeartbeats 400000 in
theorem fcontains_gen (a : Option Addr) (n c : Nat) (F : List Fi) (p : Fi → Bool) (g : Nat) (lb : Array Value) (w : World) (H : FilAt w a n F) (eg : ∀ args w, (callFunc g args).run Try.prog w = .ok (.enter g args) w)
    (hc : ∀ (x : Fi) wx, (x.s.size ≤ maxLen ∧ x.d.size ≤ maxLen) → Below w.heap.size w wx → Calls Try.prog g (#[.agg #[.string x.s, .string x.d]] ++ lb) wx fun e w' => e = .returned (.bool (p x)) ∧ Below wx.heap.size wx w') :
    Calls Try.prog 22 #[.slice a n c, .func (.func g) #[] lb] w fun e w' => e = .returned (.bool (anyF F p n)) ∧ Below w.heap.size w w' := by
  have C1 := hid (findex_gen a n c F p g lb w H eg hc)
  have HR := hid (idxF_any F p n).1
  clear hc H
  generalize idxF F p n = r at C1 HR
  generalize anyF F p n = t at HR
  go_enter Try.func22, Try.ntmps22
  go_wp2_with fail
  refine C1.out.mono ?_
  rintro _ w5 ⟨rfl, g5⟩
  go_wp2
  go_ret
  exact ⟨by rw [← HR.out]; rfl, g5⟩
end Go.Proofs.Ytkhjmfngeidlcaa
