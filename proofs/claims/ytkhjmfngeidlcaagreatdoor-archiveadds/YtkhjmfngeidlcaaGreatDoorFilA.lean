/- Joined texts: FilMem, FilOpen. -/
import Derived.Test.YtkhjmfngeidlcaaGreatDoorArcM
import Derived.Test.YtkhjmfngeidlcaaGreatDoorMem2
import Derived.Test.YtkhjmfngeidlcaaGreatDoorOpens
import Derived.Deep.SlicePairs
/- Files in memory: where their cells stand. -/
namespace Go.Proofs.YtkhjmfngeidlcaaGreatDoor
open Go.RowKit Go.Lib

/-- The files stand there. -/
structure FilAt (w : World) (a : Option Addr) (n : Nat) (F : List Fi) : Prop where
  sn : n = F.length
  nb : n ≤ maxLen
  nm : ∀ i, i < n → (fi F i).s.size ≤ maxLen ∧ (fi F i).d.size ≤ maxLen
  c : ∀ i, i < n → ∃ b o, a = some ⟨b, o, none⟩ ∧ b < w.heap.size ∧ w.cell? ⟨b, o + i * 2, none⟩ = some (.string (fi F i).s) ∧ w.cell? ⟨b, o + i * 2 + 1, none⟩ = some (.string (fi F i).d)
section
variable {w w' : World} {a : Option Addr} {n : Nat} {F : List Fi}
theorem FilAt.below (h : FilAt w a n F) (g : Below w.heap.size w w') : FilAt w' a n F := by
  refine ⟨h.sn, h.nb, h.nm, fun i hi => ?_⟩
  obtain ⟨b, o, e, hb, c0, c1⟩ := h.c i hi
  exact ⟨b, o, e, Nat.lt_of_lt_of_le hb g.size, (g.cell (p := ⟨b, o + i * 2, none⟩) hb).trans c0, (g.cell (p := ⟨b, o + i * 2 + 1, none⟩) hb).trans c1⟩
theorem fi_take (F : List Fi) (k i : Nat) (h : i < k) : fi (F.take k) i = fi F i := by simp [fi, h]
theorem FilAt.take (h : FilAt w a n F) (k : Nat) (hk : k ≤ n) : FilAt w a k (F.take k) := by
  refine ⟨by rw [List.length_take, ← h.sn]; omega, Nat.le_trans hk h.nb, fun i hi => ?_, fun i hi => ?_⟩
  · rw [fi_take F k i hi]; exact h.nm i (by omega)
  · rw [fi_take F k i hi]; exact h.c i (by omega)
theorem filAt_none (w : World) (a : Option Addr) : FilAt w a 0 [] := ⟨rfl, Nat.zero_le _, fun _ hi => absurd hi (Nat.not_lt_zero _), fun _ hi => absurd hi (Nat.not_lt_zero _)⟩
end
theorem hasF_take (F : List Fi) (s : ByteArray) (k j : Nat) (h : j ≤ k) : hasF (F.take k) s j = hasF F s j := by
  induction j with
  | zero => rfl
  | succ j ih => rw [hasF, hasF, ih (by omega), fi_take F k j (by omega)]
end Go.Proofs.YtkhjmfngeidlcaaGreatDoor

/- Files that come in as an argument: where they stand, and how many there can be. -/
namespace Go.Proofs.YtkhjmfngeidlcaaGreatDoor
open Go.RowKit Go.Lib Go.Deep Go.ChangeShapes Go.WideShapes

section
variable {H : Type} {enc : TypeId × Value → H} {W : World}

set_option maxRecDepth 20000 in
theorem open_fils {base : Nat} {v : Value} {d : DataW H} {p : List MemPlace} (hval : Value.okWide Tryz.prog W .any base 25 v) (h : DataW.Trod enc Tryz.prog W 0 (fun _ => true) true 25 v d p) :
    ∃ (a : Option Addr) (n c : Nat) (F : List Fi), v = .slice a n c ∧ (n ≤ c ∧ FilAt W a n F) ∧ ((∀ x ∈ d.weights Tryz.prog 25, x ≤ reachBytes) → n * 32 ≤ reachBytes) := by
  obtain ⟨a, n, c, rfl⟩ := okWide_slice Tryz.underlying25 hval
  obtain ⟨fuel, hf⟩ := h
  rcases open_slice_pairs Tryz.underlying25 Tryz.underlying54 (by kernel_rfl) (by kernel_rfl) (by kernel_rfl) (by kernel_rfl) (by kernel_rfl) hf with ⟨hc, _⟩ | ⟨a, len, cap, m, k, V0, V1, D0, D1, P0, P1, hc, _, hl, hm, hmm, hd, hx⟩
  · simp [Value.cells] at hc
    obtain ⟨rfl, rfl, rfl⟩ := hc
    exact ⟨none, 0, 0, [], rfl, ⟨Nat.le_refl _, filAt_none W none⟩, fun _ => Nat.zero_le _⟩
  · simp [Value.cells] at hc
    obtain ⟨rfl, rfl, rfl⟩ := hc
    simp only [if_true] at hmm
    subst hmm
    have each : ∀ i, i < n → ∃ q : Fi, (V0 i = .string q.s ∧ V1 i = .string q.d) ∧ q.s.size ≤ maxLen ∧ q.d.size ≤ maxLen := by
      intro i hi
      obtain ⟨_, _, t0, t1⟩ := hx i (by omega)
      have t0' : DataW.trod enc Tryz.prog W 0 (fun _ => true) true k 9 [V0 i] = some (D0 i, P0 i) := t0
      have t1' : DataW.trod enc Tryz.prog W 0 (fun _ => true) true k 9 [V1 i] = some (D1 i, P1 i) := t1
      obtain ⟨s0, q0, _, w0⟩ := DataW.trod_string Tryz.underlying9 t0'
      obtain ⟨s1, q1, _, w1⟩ := DataW.trod_string Tryz.underlying9 t1'
      exact ⟨⟨s0, s1⟩, ⟨by simpa using q0, by simpa using q1⟩, w0, w1⟩
    have : Inhabited Fi := ⟨nilF⟩
    obtain ⟨q, hq⟩ := choose_lt each
    have hA : ∀ i, i < n → fi ((List.range n).map q) i = q i := fun i hi => by simp [fi, hi]
    refine ⟨some a, n, m, (List.range n).map q, rfl, ⟨hl, ⟨by simp, by omega, fun i hi => by rw [hA i hi]; exact (hq i hi).2, fun i hi => ?_⟩⟩, fun hw => ?_⟩
    · obtain ⟨g0, g1, _, _⟩ := hx i (by omega)
      have g00 := (hx 0 (by omega)).1
      obtain ⟨hs, hb⟩ := cell_plain g00
      obtain ⟨b, o, s⟩ := a
      cases hs
      rw [Addr.add_lit, (hq i hi).1.1] at g0
      rw [Addr.add_lit, (hq i hi).1.2] at g1
      exact ⟨b, o, rfl, hb, by rw [hA i hi]; exact g0, by rw [hA i hi]; exact g1⟩
    · simp only [Prod.mk.injEq] at hd
      obtain ⟨rfl, _⟩ := hd
      have := hw ((n + (m - n)) * Tryz.prog.bytesOf 54) (by simp [DataW.weights, Tryz.underlying25])
      rw [show Tryz.prog.bytesOf 54 = 32 by kernel_rfl] at this
      omega
end
end Go.Proofs.YtkhjmfngeidlcaaGreatDoor
