/- A catalog that comes in as an argument: where its two lists stand, and how long they can be. -/
import Derived.Test.YtelgpiedchnncaaCatMem
import Derived.Test.YtelgpiedchnncaaDevOpen
import Derived.Deep.SlicePairs
namespace Go.Proofs.Ytelgpiedchnncaa
open Go.RowKit Go.Lib Go.Deep Go.ChangeShapes Go.WideShapes

/-- How long a catalog's lists and names can be. -/
structure CatFits (n m : Nat) (C : Ct) : Prop where
  fn : n * 16 ≤ reachBytes
  fm : m * 40 ≤ reachBytes
  fs : ∀ i, i < m → (en C.2 i).s.size ≤ reachBytes

section
variable {H : Type} {enc : TypeId × Value → H} {W : World}

set_option maxRecDepth 20000 in
theorem open_blks {fuel : Nat} {cv : Value} {y : DataW H × List MemPlace} (h : DataW.trod enc Try.prog W 0 (fun _ => true) true fuel 23 [cv] = some y) :
    ∃ (a : Option Addr) (n c : Nat) (L : List Bk), cv = .slice a n c ∧ n ≤ c ∧ BlkAt W a n L ∧ ((∀ x ∈ y.1.weights Try.prog 23, x ≤ reachBytes) → n * 16 ≤ reachBytes) := by
  rcases open_slice_pairs Try.underlying23 Try.underlying46 (by kernel_rfl) (by kernel_rfl) (by kernel_rfl) (by kernel_rfl) (by kernel_rfl) h with ⟨hc, rfl⟩ | ⟨a, len, cap, m, k, V0, V1, D0, D1, P0, P1, hc, _, hl, hm, hmm, rfl, hx⟩
  · cases hc
    exact ⟨none, 0, 0, [], rfl, Nat.le_refl _, blkAt_none W none, fun _ => Nat.zero_le _⟩
  · cases hc
    simp only [if_true] at hmm
    subst hmm
    have each : ∀ i, i < len → ∃ q : Bk, V0 i = .int .i64 q.f ∧ V1 i = .int .i64 q.n := by
      intro i hi
      obtain ⟨_, _, t0, t1⟩ := hx i (by omega)
      have t0' : DataW.trod enc Try.prog W 0 (fun _ => true) true k 3 [V0 i] = some (D0 i, P0 i) := t0
      have t1' : DataW.trod enc Try.prog W 0 (fun _ => true) true k 3 [V1 i] = some (D1 i, P1 i) := t1
      obtain ⟨n0, q0, _, _⟩ := DataW.trod_int Try.underlying3 t0'
      obtain ⟨n1, q1, _, _⟩ := DataW.trod_int Try.underlying3 t1'
      exact ⟨⟨n0, n1⟩, by simpa using q0, by simpa using q1⟩
    have : Inhabited Bk := ⟨nilB⟩
    obtain ⟨q, hq⟩ := choose_lt each
    have hA : ∀ i, i < len → bk ((List.range len).map q) i = q i := fun i hi => by simp [bk, hi]
    refine ⟨some a, len, m, (List.range len).map q, rfl, hl, ⟨by simp, by omega, fun i hi => ?_⟩, fun hw => ?_⟩
    · obtain ⟨g0, g1, _, _⟩ := hx i (by omega)
      have g00 := (hx 0 (by omega)).1
      obtain ⟨hs, hb⟩ := cell_plain g00
      obtain ⟨b, o, s⟩ := a
      cases hs
      rw [Addr.add_lit, (hq i hi).1] at g0
      rw [Addr.add_lit, (hq i hi).2] at g1
      exact ⟨b, o, rfl, hb, by rw [hA i hi]; exact g0, by rw [hA i hi]; exact g1⟩
    · have := hw ((len + (m - len)) * Try.prog.bytesOf 46) (by simp [DataW.weights, Try.underlying23])
      rw [show Try.prog.bytesOf 46 = 16 by kernel_rfl] at this
      omega

set_option maxRecDepth 40000 in
theorem open_ents {fuel : Nat} {cv : Value} {y : DataW H × List MemPlace} (h : DataW.trod enc Try.prog W 0 (fun _ => true) true fuel 24 [cv] = some y) :
    ∃ (a : Option Addr) (n c : Nat) (E : List En), cv = .slice a n c ∧ EntAt W a n E ∧ ((∀ x ∈ y.1.weights Try.prog 24, x ≤ reachBytes) → n * 40 ≤ reachBytes ∧ ∀ i, i < n → (en E i).s.size ≤ reachBytes) := by
  rcases open_slice Try.underlying24 h with ⟨hc, rfl⟩ | ⟨a, len, cap, m, k, D, Pl, hc, _, hl, hm, hmm, rfl, hx⟩
  · cases hc
    exact ⟨none, 0, 0, [], rfl, entAt_none W none, fun _ => ⟨Nat.zero_le _, fun _ hi => absurd hi (Nat.not_lt_zero _)⟩⟩
  · cases hc
    simp only [if_true] at hmm
    subst hmm
    have each : ∀ i, i < len → ∃ q : En, (W.cell? (a.add (i * 4)) = some (.string q.s) ∧ W.cell? (a.add (i * 4 + 1)) = some (.int .i64 q.b) ∧ W.cell? (a.add (i * 4 + 2)) = some (.int .i64 q.a) ∧ W.cell? (a.add (i * 4 + 3)) = some (.int .i64 q.n)) ∧ q.s.size ≤ maxLen ∧ q.s.data.toList.length ∈ (D i).weights Try.prog 35 := by
      intro i hi
      obtain ⟨cs, h1, h2⟩ := hx i (by omega)
      rw [show Try.prog.cellsOf 35 = 4 by kernel_rfl] at h1
      obtain ⟨_, hlen, hcell⟩ := World.cells?_some h1
      obtain ⟨xs, k2, hk, hxy, _, hxl, hf⟩ := DataW.trod_struct Try.underlying35 h2
      match cs, hlen, xs, hxl with
      | [v0, v1, v2, v3], _, [y0, y1, y2, y3], _ =>
        have e0 := hcell 0 (by omega)
        have e1 := hcell 1 (by omega)
        have e2 := hcell 2 (by omega)
        have e3 := hcell 3 (by omega)
        rw [add_add] at e0 e1 e2 e3
        have g0 : DataW.trod enc Try.prog W 0 (fun _ => true) true k2 9 [v0] = some y0 := hf 0 _ rfl
        have g1 : DataW.trod enc Try.prog W 0 (fun _ => true) true k2 3 [v1] = some y1 := hf 1 _ rfl
        have g2 : DataW.trod enc Try.prog W 0 (fun _ => true) true k2 3 [v2] = some y2 := hf 2 _ rfl
        have g3 : DataW.trod enc Try.prog W 0 (fun _ => true) true k2 3 [v3] = some y3 := hf 3 _ rfl
        obtain ⟨s0, q0, u0, w0⟩ := DataW.trod_string Try.underlying9 g0
        obtain ⟨n1, q1, _, _⟩ := DataW.trod_int Try.underlying3 g1
        obtain ⟨n2, q2, _, _⟩ := DataW.trod_int Try.underlying3 g2
        obtain ⟨n3, q3, _, _⟩ := DataW.trod_int Try.underlying3 g3
        cases q0; cases q1; cases q2; cases q3
        refine ⟨⟨s0, n1, n2, n3⟩, ⟨by simpa using e0, by simpa using e1, by simpa using e2, by simpa using e3⟩, w0, ?_⟩
        have hD : D i = .agg [y0.1, y1.1, y2.1, y3.1] := by
          have := congrArg Prod.fst hxy
          simpa using this
        rw [hD, u0]
        simp only [DataW.weights, Try.underlying35]
        simp [DataW.weightsEach, DataW.weights]
    have : Inhabited En := ⟨nilE⟩
    obtain ⟨q, hq⟩ := choose_lt each
    have hA : ∀ i, i < len → en ((List.range len).map q) i = q i := fun i hi => by simp [en, hi]
    refine ⟨some a, len, m, (List.range len).map q, rfl, ⟨by simp, by omega, fun i hi => by rw [hA i hi]; exact (hq i hi).2.1, fun i hi => ?_⟩, fun hw => ⟨?_, fun i hi => ?_⟩⟩
    · obtain ⟨⟨g0, g1, g2, g3⟩, _, _⟩ := hq i hi
      have g00 := (hq 0 (by omega)).1.1
      have hsb := cell_plain g00
      obtain ⟨b, o, s⟩ := a
      obtain ⟨hs, hb⟩ := hsb
      cases hs
      rw [Addr.add_lit] at g0 g1 g2 g3
      exact ⟨b, o, rfl, hb, by rw [hA i hi]; exact g0, by rw [hA i hi]; exact g1, by rw [hA i hi]; exact g2, by rw [hA i hi]; exact g3⟩
    · have := hw ((len + (m - len)) * Try.prog.bytesOf 35) (by simp [DataW.weights, Try.underlying24])
      rw [show Try.prog.bytesOf 35 = 40 by kernel_rfl] at this
      omega
    · rw [hA i hi]
      have := hw _ (by
        simp only [DataW.weights, Try.underlying24, List.mem_cons, List.mem_append]
        exact Or.inr (Or.inl (mem_weightsAll (List.mem_map.2 ⟨i, List.mem_range.2 hi, rfl⟩) _ (hq i hi).2.2)))
      rw [ba_len] at this
      exact this

set_option maxRecDepth 20000 in
theorem open_cat {base : Nat} {v : Value} {d : DataW H} {p : List MemPlace} (hval : Value.okWide Try.prog W .any base 26 v) (h : DataW.Trod enc Try.prog W 0 (fun _ => true) true 26 v d p) :
    ∃ (a : Option Addr) (n c : Nat) (a' : Option Addr) (m c' : Nat) (C : Ct), v = .agg #[.slice a n c, .slice a' m c'] ∧ CatAt W a n c a' m C ∧ ((∀ x ∈ d.weights Try.prog 26, x ≤ reachBytes) → CatFits n m C) := by
  obtain ⟨cs, rfl, hcs⟩ := okWide_struct Try.underlying26 hval
  rw [show Try.prog.cellsOf 26 = 2 by kernel_rfl] at hcs
  obtain ⟨fuel, hf⟩ := h
  obtain ⟨y0, y1, k, hx, _, t0, t1⟩ := trod_struct2 Try.underlying26 hf
  obtain ⟨u0, u1, rfl⟩ : ∃ u0 u1, cs = #[u0, u1] := by
    obtain ⟨l⟩ := cs
    match l, hcs with
    | [u0, u1], _ => exact ⟨u0, u1, rfl⟩
  simp only [Prod.mk.injEq] at hx
  obtain ⟨rfl, rfl⟩ := hx
  have t0' : DataW.trod enc Try.prog W 0 (fun _ => true) true k 23 [u0] = some y0 := t0
  have t1' : DataW.trod enc Try.prog W 0 (fun _ => true) true k 24 [u1] = some y1 := t1
  obtain ⟨a, n, c, L, rfl, s1, s2, s3⟩ := open_blks t0'
  obtain ⟨a', m, c', E, rfl, l1, l2⟩ := open_ents t1'
  refine ⟨a, n, c, a', m, c', (L, E), rfl, ⟨s1, s2, l1⟩, fun hw => ?_⟩
  have hw' : (∀ x ∈ y0.1.weights Try.prog 23, x ≤ reachBytes) ∧ (∀ x ∈ y1.1.weights Try.prog 24, x ≤ reachBytes) := by
    constructor
    · intro x hx
      exact hw x (by simp only [DataW.weights, Try.underlying26]; simp [DataW.weightsEach, hx])
    · intro x hx
      exact hw x (by simp only [DataW.weights, Try.underlying26]; simp [DataW.weightsEach, hx])
  exact ⟨s3 hw'.1, (l2 hw'.2).1, (l2 hw'.2).2⟩
end
end Go.Proofs.Ytelgpiedchnncaa
