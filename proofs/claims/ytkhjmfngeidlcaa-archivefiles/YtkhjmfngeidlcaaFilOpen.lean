/- Files that come in as an argument: where they stand, and how many there can be. -/
import Derived.Test.YtkhjmfngeidlcaaFilMem
import Derived.Test.YtkhjmfngeidlcaaDevOpen
import Derived.Deep.SlicePairs
namespace Go.Proofs.Ytkhjmfngeidlcaa
open Go.RowKit Go.Lib Go.Deep Go.ChangeShapes Go.WideShapes

section
variable {H : Type} {enc : TypeId × Value → H} {W : World}

set_option maxRecDepth 20000 in
theorem open_fils {base : Nat} {v : Value} {d : DataW H} {p : List MemPlace} (hval : Value.okWide Try.prog W .any base 30 v) (h : DataW.Trod enc Try.prog W 0 (fun _ => true) true 30 v d p) :
    ∃ (a : Option Addr) (n c : Nat) (F : List Fi), v = .slice a n c ∧ (n ≤ c ∧ FilAt W a n F) ∧ ((∀ x ∈ d.weights Try.prog 30, x ≤ reachBytes) → n * 32 ≤ reachBytes) := by
  obtain ⟨a, n, c, rfl⟩ := okWide_slice Try.underlying30 hval
  obtain ⟨fuel, hf⟩ := h
  rcases open_slice_pairs Try.underlying30 Try.underlying43 (by kernel_rfl) (by kernel_rfl) (by kernel_rfl) (by kernel_rfl) (by kernel_rfl) hf with ⟨hc, _⟩ | ⟨a, len, cap, m, k, V0, V1, D0, D1, P0, P1, hc, _, hl, hm, hmm, hd, hx⟩
  · simp [Value.cells] at hc
    obtain ⟨rfl, rfl, rfl⟩ := hc
    exact ⟨none, 0, 0, [], rfl, ⟨Nat.le_refl _, filAt_none W none⟩, fun _ => Nat.zero_le _⟩
  · simp [Value.cells] at hc
    obtain ⟨rfl, rfl, rfl⟩ := hc
    simp only [if_true] at hmm
    subst hmm
    have each : ∀ i, i < n → ∃ q : Fi, (V0 i = .string q.s ∧ V1 i = .string q.d) ∧ q.s.size ≤ maxLen ∧ q.d.size ≤ maxLen := by
      intro i hi
      obtain ⟨_, _, t0, t1⟩ := hx i (by omega)
      have t0' : DataW.trod enc Try.prog W 0 (fun _ => true) true k 9 [V0 i] = some (D0 i, P0 i) := t0
      have t1' : DataW.trod enc Try.prog W 0 (fun _ => true) true k 9 [V1 i] = some (D1 i, P1 i) := t1
      obtain ⟨s0, q0, _, w0⟩ := DataW.trod_string Try.underlying9 t0'
      obtain ⟨s1, q1, _, w1⟩ := DataW.trod_string Try.underlying9 t1'
      exact ⟨⟨s0, s1⟩, ⟨by simpa using q0, by simpa using q1⟩, w0, w1⟩
    have : Inhabited Fi := ⟨nilF⟩
    obtain ⟨q, hq⟩ := choose_lt each
    have hA : ∀ i, i < n → fi ((List.range n).map q) i = q i := fun i hi => by simp [fi, hi]
    refine ⟨some a, n, m, (List.range n).map q, rfl, ⟨hl, ⟨by simp, by omega, fun i hi => by rw [hA i hi]; exact (hq i hi).2, fun i hi => ?_⟩⟩, fun hw => ?_⟩
    · obtain ⟨g0, g1, _, _⟩ := hx i (by omega)
      have g00 := (hx 0 (by omega)).1
      obtain ⟨hs, hb⟩ := cell_plain g00
      obtain ⟨b, o, s⟩ := a
      cases hs
      rw [Addr.add_lit, (hq i hi).1.1] at g0
      rw [Addr.add_lit, (hq i hi).1.2] at g1
      exact ⟨b, o, rfl, hb, by rw [hA i hi]; exact g0, by rw [hA i hi]; exact g1⟩
    · simp only [Prod.mk.injEq] at hd
      obtain ⟨rfl, _⟩ := hd
      have := hw ((n + (m - n)) * Try.prog.bytesOf 43) (by simp [DataW.weights, Try.underlying30])
      rw [show Try.prog.bytesOf 43 = 32 by kernel_rfl] at this
      omega
end
end Go.Proofs.Ytkhjmfngeidlcaa
