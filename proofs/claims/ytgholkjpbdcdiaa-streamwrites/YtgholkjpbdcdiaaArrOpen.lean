/- An array that comes in as an argument: where its devices stand, and how long their lists can be. -/
import Derived.Test.YtgholkjpbdcdiaaArrStore
import Derived.Test.YtgholkjpbdcdiaaDevOpen
import Derived.Deep.SlicePairs
namespace Go.Proofs.Ytgholkjpbdcdiaa
open Go.RowKit Go.Lib Go.Deep Go.ChangeShapes Go.WideShapes

section
variable {H : Type} {enc : TypeId × Value → H} {W : World}

set_option maxRecDepth 20000 in
/-- The field with devices. -/
theorem open_devs {fuel : Nat} {cv : Value} {y : DataW H × List MemPlace} (h : DataW.trod enc Try.prog W 0 (fun _ => true) true fuel 25 [cv] = some y) :
    ∃ (a : Option Addr) (n c : Nat) (A : Ar), cv = .slice a n c ∧ ArrAt W a n A ∧ ((∀ x ∈ y.1.weights Try.prog 25, x ≤ reachBytes) → ArrFits n A) := by
  rcases open_slice_pairs Try.underlying25 Try.underlying40 (by kernel_rfl) (by kernel_rfl) (by kernel_rfl) (by kernel_rfl) (by kernel_rfl) h with ⟨hc, rfl⟩ | ⟨a, len, cap, m, k, V0, V1, D0, D1, P0, P1, hc, _, hl, hm, hmm, rfl, hx⟩
  · cases hc
    exact ⟨none, 0, 0, [], rfl, .inl ⟨rfl, rfl⟩, fun _ => ⟨by omega, fun i hi => by omega, fun i hi => by omega⟩⟩
  · cases hc
    simp only [if_true] at hmm
    subst hmm
    have each : ∀ i, i < len → ∃ q : Hd × Dv, V0 i = .slice q.1.x q.1.p q.1.c ∧ V1 i = .slice q.1.y q.1.q q.1.d ∧ DevAt W q.1.x q.1.p q.1.y q.1.q q.2 ∧
        ((∀ x ∈ (D0 i).weights Try.prog 37, x ≤ reachBytes) → q.1.p * 16 ≤ reachBytes ∧ ∀ s ∈ q.2.1, s.size ≤ reachBytes) ∧ ((∀ x ∈ (D1 i).weights Try.prog 38, x ≤ reachBytes) → q.1.q ≤ reachBytes) := by
      intro i hi
      obtain ⟨_, _, t0, t1⟩ := hx i (by omega)
      have t0' : DataW.trod enc Try.prog W 0 (fun _ => true) true k 37 [V0 i] = some (D0 i, P0 i) := t0
      have t1' : DataW.trod enc Try.prog W 0 (fun _ => true) true k 38 [V1 i] = some (D1 i, P1 i) := t1
      obtain ⟨x, p, c, S, e0, s1, s2, s3, s4⟩ := open_strsD t0'
      obtain ⟨y, q, d, L, e1, l1, l2, l3, l4⟩ := open_boolsD t1'
      exact ⟨(⟨x, p, c, y, q, d⟩, (S, L)), e0, e1, ⟨s1, l1, s3, l3, s2, l2⟩, s4, l4⟩
    have : Inhabited (Hd × Dv) := ⟨(nilH, nil2)⟩
    obtain ⟨q, hq⟩ := choose_lt each
    have hA : ∀ i, i < len → dev ((List.range len).map fun i => (q i).2) i = (q i).2 := fun i hi => by simp [dev, hi]
    refine ⟨some a, len, m, (List.range len).map fun i => (q i).2, rfl, ?_, fun hw => ?_⟩
    · by_cases h0 : len = 0
      · exact .inl ⟨h0, by simp [h0]⟩
      · obtain ⟨g0, _⟩ := hx 0 (by omega)
        obtain ⟨hs, hb⟩ := cell_plain g0
        obtain ⟨b, o, s⟩ := a
        cases hs
        refine .inr ⟨b, o, fun i => (q i).1, rfl, by simp, by omega, hb, fun i hi => ?_, fun i hi => ?_, fun i hi => ?_⟩
        · have := (hx i (by omega)).1
          rw [Addr.add_lit, (hq i hi).1] at this
          exact this
        · have := (hx i (by omega)).2.1
          rw [Addr.add_lit, (hq i hi).2.1] at this
          exact this
        · rw [hA i hi]; exact (hq i hi).2.2.1
    · have hel : ∀ i, i < len → (∀ x ∈ (D0 i).weights Try.prog 37, x ≤ reachBytes) ∧ (∀ x ∈ (D1 i).weights Try.prog 38, x ≤ reachBytes) := by
        intro i hi
        have hm : ∀ x ∈ (DataW.agg [D0 i, D1 i]).weights Try.prog 40, x ≤ reachBytes := by
          intro x hx
          refine hw x ?_
          simp only [DataW.weights, Try.underlying25, List.mem_cons, List.mem_append]
          exact Or.inr (Or.inl (mem_weightsAll (List.mem_map.2 ⟨i, List.mem_range.2 hi, rfl⟩) _ hx))
        constructor
        · intro x hx
          exact hm x (by simp only [DataW.weights, Try.underlying40]; simp [DataW.weightsEach, hx])
        · intro x hx
          exact hm x (by simp only [DataW.weights, Try.underlying40]; simp [DataW.weightsEach, hx])
      refine ⟨?_, fun i hi => ?_, fun i hi s hs => ?_⟩
      · have := hw ((len + (m - len)) * Try.prog.bytesOf 40) (by simp [DataW.weights, Try.underlying25])
        rw [show Try.prog.bytesOf 40 = 48 by kernel_rfl] at this
        unfold reachBytes at this
        omega
      · have h1 := ((hq i hi).2.2.2.1 (hel i hi).1).1
        have h2 := (hq i hi).2.2.2.2 (hel i hi).2
        rw [(hq i hi).2.2.1.sn] at h1
        rw [(hq i hi).2.2.1.sm] at h2
        unfold reachBytes at h1 h2
        rw [hA i hi]
        omega
      · rw [hA i hi] at hs
        have := ((hq i hi).2.2.2.1 (hel i hi).1).2 s hs
        unfold reachBytes at this
        omega

set_option maxRecDepth 20000 in
theorem open_arr {base : Nat} {v : Value} {d : DataW H} {p : List MemPlace} (hval : Value.okWide Try.prog W .any base 27 v) (h : DataW.Trod enc Try.prog W 0 (fun _ => true) true 27 v d p) :
    ∃ (a : Option Addr) (n c : Nat) (A : Ar), v = .agg #[.slice a n c] ∧ ArrAt W a n A ∧ ((∀ x ∈ d.weights Try.prog 27, x ≤ reachBytes) → ArrFits n A) := by
  obtain ⟨cs, rfl, hcs⟩ := okWide_struct Try.underlying27 hval
  rw [show Try.prog.cellsOf 27 = 1 by kernel_rfl] at hcs
  obtain ⟨fuel, hf⟩ := h
  obtain ⟨y0, k, hx, _, t0⟩ := trod_struct1 Try.underlying27 hf
  obtain ⟨u0, rfl⟩ : ∃ u0, cs = #[u0] := by
    obtain ⟨l⟩ := cs
    match l, hcs with
    | [u0], _ => exact ⟨u0, rfl⟩
  simp only [Prod.mk.injEq] at hx
  obtain ⟨rfl, rfl⟩ := hx
  have t0' : DataW.trod enc Try.prog W 0 (fun _ => true) true k 25 [u0] = some y0 := t0
  obtain ⟨a, n, c, A, rfl, h1, h2⟩ := open_devs t0'
  refine ⟨a, n, c, A, rfl, h1, fun hw => h2 fun x hx => hw x ?_⟩
  simp only [DataW.weights, Try.underlying27]
  simp [DataW.weightsEach, hx]
end
end Go.Proofs.Ytgholkjpbdcdiaa
