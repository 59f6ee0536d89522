/- What the program's array.mayHave, sectorsOf, newDevice, partner and parityNumber answer. -/
import Derived.Test.YtkhjmfngeidlcaaArrMem
import Derived.Test.YtkhjmfngeidlcaaDevNew
import Derived.Laws.BitsAllLaws
import Derived.Deep.QuietTactic
import Derived.BigQuiet
namespace Go.Proofs.Ytkhjmfngeidlcaa
open Go.RowKit Go.Lib

theorem mayhave_any (n : Int) (w : World) : Calls Try.prog 18 #[.int .i64 n] w fun e w' => e = .returned (.bool (decide (16 ≤ n ∧ n ≤ 64 ∧ n % 2 = 0))) ∧ w' = w := by
  by_cases h1 : 16 ≤ n
  · by_cases h2 : n ≤ 64
    · have e : decide (16 ≤ n ∧ n ≤ 64 ∧ n % 2 = 0) = (n % 2 == 0) := by rw [Bool.eq_iff_iff, decide_eq_true_eq, beq_iff_eq]; omega
      rw [e]
      obtain ⟨N, rfl⟩ : ∃ N : Nat, n = N := ⟨n.toNat, by omega⟩
      have e2 : ((N : Int) % 2 == 0) = ((N : Int).tmod 2 == 0) := by rw [Int.tmod_eq_emod_of_nonneg (by omega)]
      clear e
      go_enter Try.func18, Try.ntmps18
      go_wp2
      go_ret
      first | exact ⟨rfl, rfl⟩ | exact ⟨ret_bool e2.symm, rfl⟩
    · have e : decide (16 ≤ n ∧ n ≤ 64 ∧ n % 2 = 0) = false := decide_eq_false (by omega)
      rw [e]
      clear e
      have h3 : 64 < n := by omega
      go_enter Try.func18, Try.ntmps18
      go_wp2
      go_ret
      exact ⟨rfl, rfl⟩
  · have e : decide (16 ≤ n ∧ n ≤ 64 ∧ n % 2 = 0) = false := decide_eq_false (by omega)
    rw [e]
    clear e
    have h3 : n < 16 := by omega
    go_enter Try.func18, Try.ntmps18
    go_wp2
    go_ret
    exact ⟨rfl, rfl⟩

/-- How many sectors a device has. -/
def secOf (d many : Nat) : Nat := if d = 2 then many / 2 else many
theorem sectorsof_any (d many : Nat) (w : World) (hm : many ≤ 4611686018427387904) : Calls Try.prog 25 #[.int .i64 d, .int .i64 many] w fun e w' => e = .returned (.int .i64 (secOf d many)) ∧ w' = w := by
  unfold secOf
  by_cases h : d = 2
  · subst h
    rw [if_pos rfl]
    go_enter Try.func25, Try.ntmps25
    go_wp2
    go_ret
    exact ⟨ret_int (by omega), rfl⟩
  · rw [if_neg h]
    have h' : ((d : Int) == 2) = false := by rw [beq_eq_false_iff_ne]; omega
    go_enter Try.func25, Try.ntmps25
    go_wp2
    go_ret
    exact ⟨rfl, rfl⟩

theorem xor_one (n : Nat) (h : n ≤ 1000) : bits .xor .i64 (n : Int) 1 = (part n : Int) := by
  have e : n ^^^ 1 = part n := by
    unfold part
    by_cases h2 : n % 2 = 0
    · rw [if_pos h2]
      apply Nat.eq_of_testBit_eq
      intro i
      rw [Nat.testBit_xor]
      cases i with
      | zero =>
        have a1 : (n + 1) % 2 = 1 := by omega
        simp [Nat.testBit_zero, h2, a1]
      | succ i =>
        rw [Nat.testBit_succ, Nat.testBit_succ, Nat.testBit_succ]
        have e1 : n / 2 = (n + 1) / 2 := by omega
        rw [e1]; simp
    · rw [if_neg h2]
      apply Nat.eq_of_testBit_eq
      intro i
      rw [Nat.testBit_xor]
      cases i with
      | zero =>
        have a1 : n % 2 = 1 := by omega
        have a2 : (n - 1) % 2 = 0 := by omega
        simp [Nat.testBit_zero, a1, a2]
      | succ i =>
        rw [Nat.testBit_succ, Nat.testBit_succ, Nat.testBit_succ]
        have e1 : n / 2 = (n - 1) / 2 := by omega
        rw [e1]; simp
  have hp : part n ≤ 1001 := by unfold part; split <;> omega
  show IntKind.i64.wrap ((BitVec.ofInt 64 (n : Int) ^^^ BitVec.ofInt 64 ((1 : Nat) : Int)).toNat : Int) = _
  rw [BitVec.toNat_xor, ofInt_u64 _ (by omega), ofInt_u64 _ (by omega), e, IntKind.wrap_i64]
  omega
/-- A new device of an array. -/
def devNew (d many : Nat) : Dv := (dvNew (secOf d many) (if d = 2 then 512 else 0)).1
/-- A device that comes out of a call alone, in new memory that may be written. -/
def OutD (w : World) (D : Dv) (e : Ending) (w' : World) : Prop := ∃ a n c a' m c', e = .returned (.agg #[.slice a n c, .slice a' m c']) ∧ DevNew w.heap.size w' a a' D ∧ (n = D.1.length ∧ m = D.2.length ∧ n ≤ maxLen ∧ m ≤ maxLen) ∧ Below w.heap.size w w'

theorem outD_store {w W w1 : World} {a a' : Option Addr} {n c m c' : Nat} {D : Dv} (hN : DevNew W.heap.size w1 a a' D) (g : Below w.heap.size w w1) (hz : W.heap.size = w.heap.size + 1) (o : Obj) :
    DevNew w.heap.size (((w1.alloc o).setCell ⟨w.heap.size, 0, none⟩ (.slice a n c)).setCell ⟨w.heap.size, 1, none⟩ (.slice a' m c')) a a' D ∧ Below w.heap.size w (((w1.alloc o).setCell ⟨w.heap.size, 0, none⟩ (.slice a n c)).setCell ⟨w.heap.size, 1, none⟩ (.slice a' m c')) := by
  refine ⟨((((hN.below' ((Below.refl _ w1).alloc (Nat.le_refl _) o)).other (p := ⟨w.heap.size, 0, none⟩) (by show w.heap.size < _; omega) _).other (p := ⟨w.heap.size, 1, none⟩) (by show w.heap.size < _; omega) _).less (by omega)), ?_⟩
  exact ((g.alloc g.size o).setCell (p := ⟨w.heap.size, 0, none⟩) (Nat.le_refl _) _).setCell (p := ⟨w.heap.size, 1, none⟩) (Nat.le_refl _) _

set_option maxHeartbeats 800000 in
theorem newdevice_any (d many : Nat) (w : World) (hm : many ≤ 64) : Calls Try.prog 19 #[.int .i64 d, .int .i64 many] w (OutD w (devNew d many)) := by
  obtain ⟨W, hW⟩ : ∃ W, W = w.alloc (.cells #[.slice none 0 0, .slice none 0 0] 37) := ⟨_, rfl⟩
  have bd : Box2 W w.heap.size (.slice none 0 0) (.slice none 0 0) := by rw [hW]; exact box2_of (Own.made w 37 [.slice none 0 0, .slice none 0 0])
  have hB : Below w.heap.size w W := by rw [hW]; exact (Below.refl _ w).alloc (Nat.le_refl _) _
  have hz : W.heap.size = w.heap.size + 1 := by rw [hW]; simp
  have C0 := hid (fun wx => sectorsof_any d many wx (by omega))
  have HP := hid (And.intro hB (And.intro hz bd))
  unfold devNew
  clear hB hz bd
  by_cases h : d = 2
  · rw [if_pos h]
    have h' : ((d : Int) == 2) = true := by rw [beq_iff_eq]; omega
    have C1 := hid (fun wx => new_own (secOf d many) 512 wx)
    generalize dvNew (secOf d many) 512 = r at C1
    generalize secOf d many = q at C0 C1
    clear h
    go_enter Try.func19, Try.ntmps19
    go_upto_region 1 with fail
    rw [← hW]
    clear hW
    go_wp2_with (first | (go_at_call 25; refine (C0.out _).mono ?_; rintro _ w9 ⟨rfl, h9⟩; (have h8 := h9.symm); subst h8) | (go_at_call 24; refine (C1.out _).mono ?_; rintro _ w1 ⟨a, n, c, a', m, c', rfl, hN, hl, hF, g1⟩; (have rb := HP.out.2.2.below g1); (have rb2 := rb.below ((Below.refl _ w1).alloc (Nat.le_refl _) (.cells #[.slice a n c, .slice a' m c'] 37))); (have v0 := rb2.c0); (have v1 := rb2.c1); (have x0 := rb2.f0); (have x1 := rb2.f1); (have y := ret_box (.slice a n c) (.slice a' m c') v0 v1); (have y0 := y.1); (have y1 := y.2); (have K := hid (And.intro (outD_store (n := n) (c := c) (m := m) (c' := c') hN (HP.out.1.trans (g1.mono HP.out.1.size)) HP.out.2.1 (.cells #[.slice a n c, .slice a' m c'] 37)) hl)); clear hN hl hF g1 rb rb2 y))
    refine bodyPost_ret (v := .agg #[.slice a n c, .slice a' m c']) (by simp [results, Try.results19, go_sem, y0, y1]) rfl ?_
    exact ⟨_, _, _, _, _, _, rfl, K.out.1.1, K.out.2, K.out.1.2⟩
  · rw [if_neg h]
    have h' : ((d : Int) == 2) = false := by rw [beq_eq_false_iff_ne]; omega
    have C1 := hid (fun wx => new_own (secOf d many) 0 wx)
    generalize dvNew (secOf d many) 0 = r at C1
    generalize secOf d many = q at C0 C1
    clear h
    go_enter Try.func19, Try.ntmps19
    go_upto_region 1 with fail
    rw [← hW]
    clear hW
    go_wp2_with (first | (go_at_call 25; refine (C0.out _).mono ?_; rintro _ w9 ⟨rfl, h9⟩; (have h8 := h9.symm); subst h8) | (go_at_call 24; refine (C1.out _).mono ?_; rintro _ w1 ⟨a, n, c, a', m, c', rfl, hN, hl, hF, g1⟩; (have rb := HP.out.2.2.below g1); (have rb2 := rb.below ((Below.refl _ w1).alloc (Nat.le_refl _) (.cells #[.slice a n c, .slice a' m c'] 37))); (have v0 := rb2.c0); (have v1 := rb2.c1); (have x0 := rb2.f0); (have x1 := rb2.f1); (have y := ret_box (.slice a n c) (.slice a' m c') v0 v1); (have y0 := y.1); (have y1 := y.2); (have K := hid (And.intro (outD_store (n := n) (c := c) (m := m) (c' := c') hN (HP.out.1.trans (g1.mono HP.out.1.size)) HP.out.2.1 (.cells #[.slice a n c, .slice a' m c'] 37)) hl)); clear hN hl hF g1 rb rb2 y))
    refine bodyPost_ret (v := .agg #[.slice a n c, .slice a' m c']) (by simp [results, Try.results19, go_sem, y0, y1]) rfl ?_
    exact ⟨_, _, _, _, _, _, rfl, K.out.1.1, K.out.2, K.out.1.2⟩
end Go.Proofs.Ytkhjmfngeidlcaa
