/- Joined texts: DevOpen, ArrOpen, CatOpen. -/
import Derived.Test.YtkhjmfngeidlcaaGreatDoorMem
import Derived.Deep.Strs
import Derived.Deep.Grids
import Derived.SizedLaws
import Derived.ProofKit
import Derived.Test.YtkhjmfngeidlcaaGreatDoorMem2
import Derived.Deep.SlicePairs
/- A device that comes in as an argument: where its two lists stand, and how long they can be. -/
namespace Go.Proofs.YtkhjmfngeidlcaaGreatDoor
open Go.RowKit Go.Lib Go.Deep Go.ChangeShapes Go.WideShapes

theorem cell_plain {w : World} {a : Addr} {v : Value} (h : w.cell? a = some v) : a.spot = none ∧ a.block < w.heap.size := by
  unfold World.cell? at h
  split at h
  · rename_i c t f hc
    refine ⟨?_, lt_of_block hc⟩
    by_cases hs : a.spot.isSome = true
    · rw [if_pos hs] at h; cases h
    · simpa using hs
  · cases h

theorem row_of_cells {w : World} {a : Addr} {V : List Value} (h : ∀ i v, V[i]? = some v → w.cell? (a.add i) = some v) : RowAt w (some a) V := by
  intro i v hv
  have hi : i < V.length := by
    rcases Nat.lt_or_ge i V.length with h1 | h1
    · exact h1
    · rw [List.getElem?_eq_none h1] at hv; cases hv
  have h0 := h 0 (V[0]'(by omega)) (List.getElem?_eq_getElem (by omega))
  have h00 : a.add 0 = a := rfl
  rw [h00] at h0
  obtain ⟨hs, hb⟩ := cell_plain h0
  have hc := h i v hv
  obtain ⟨b, o, s⟩ := a
  cases hs
  exact ⟨b, o, rfl, hb, by rw [← Addr.add_lit]; exact hc⟩

theorem weights_in {H : Type} {ts : List TypeId} {ds : List (DataW H)} (h : (DataW.weightsEach Tryz.prog ts ds).all (· ≤ reachBytes) = true) {j : Nat} {t : TypeId} {d : DataW H} (ht : ts[j]? = some t) (hd : ds[j]? = some d) {n : Nat} (hn : n ∈ d.weights Tryz.prog t) : n ≤ reachBytes := by
  simpa using List.all_eq_true.1 h _ (DataW.weights_mem_each ht hd n hn)

theorem mem_weightsAll {H : Type} {e : TypeId} : ∀ {l : List (DataW H)} {d : DataW H}, d ∈ l → ∀ n ∈ d.weights Tryz.prog e, n ∈ DataW.weightsAll Tryz.prog e l
  | d' :: r, d, hd, n, hn => by
    simp only [DataW.weightsAll, List.mem_append]
    rcases List.mem_cons.1 hd with rfl | h
    · exact Or.inl hn
    · exact Or.inr (mem_weightsAll h n hn)

/-- How long a device's lists can be. -/
structure DevFits (n m : Nat) (D : Dv) : Prop where
  n : n * 16 ≤ reachBytes
  m : m ≤ reachBytes
  s : ∀ s ∈ D.1, s.size ≤ reachBytes

section
variable {H : Type} {enc : TypeId × Value → H} {W : World}

/-- The field with texts. -/
theorem open_strsD {fuel : Nat} {cv : Value} {y : DataW H × List MemPlace} (h : DataW.trod enc Tryz.prog W 0 (fun _ => true) true fuel 32 [cv] = some y) :
    ∃ (a : Option Addr) (n c : Nat) (S : List ByteArray), cv = .slice a n c ∧ n = S.length ∧ n ≤ maxLen ∧ RowAt W a (S.map .string) ∧ ((∀ x ∈ y.1.weights Tryz.prog 32, x ≤ reachBytes) → n * 16 ≤ reachBytes ∧ ∀ s ∈ S, s.size ≤ reachBytes) := by
  rcases open_strs Tryz.underlying32 Tryz.underlying9 (by kernel_rfl) h with ⟨hc, rfl⟩ | ⟨a, len, cap, k, Sx, hc, _, hl, hm, hk, rfl, hx⟩
  · cases hc
    exact ⟨none, 0, 0, [], rfl, rfl, Nat.zero_le _, RowAt.nil, fun _ => ⟨Nat.zero_le _, fun _ h => by cases h⟩⟩
  · cases hc
    simp only [if_true] at hk
    subst hk
    refine ⟨some a, len, k, (List.range len).map Sx, rfl, by simp, by omega, row_of_cells (fun i v hv => ?_), fun hw => ⟨?_, fun s hs => ?_⟩⟩
    · rw [List.map_map, List.getElem?_map] at hv
      obtain ⟨j, hj, rfl⟩ := Option.map_eq_some_iff.1 hv
      obtain ⟨hi, he⟩ := List.getElem?_eq_some_iff.1 hj
      simp only [List.length_range] at hi
      simp only [List.getElem_range] at he
      subst he
      exact (hx i (by omega)).1
    · have := hw ((len + (k - len)) * Tryz.prog.bytesOf 9) (by simp [DataW.weights, Tryz.underlying32])
      rw [show Tryz.prog.bytesOf 9 = 16 by kernel_rfl] at this
      omega
    · obtain ⟨j, hj, rfl⟩ := List.mem_map.1 hs
      have := hw (Sx j).data.toList.length (by
        simp only [DataW.weights, Tryz.underlying32, List.mem_cons, List.mem_append]
        refine Or.inr (Or.inl (mem_weightsAll (List.mem_map.2 ⟨j, hj, rfl⟩) _ (by simp [DataW.weights])))
        )
      rw [ba_len] at this
      exact this

/-- The field with bools. -/
theorem open_boolsD {fuel : Nat} {cv : Value} {y : DataW H × List MemPlace} (h : DataW.trod enc Tryz.prog W 0 (fun _ => true) true fuel 33 [cv] = some y) :
    ∃ (a : Option Addr) (n c : Nat) (L : List Bool), cv = .slice a n c ∧ n = L.length ∧ n ≤ maxLen ∧ RowAt W a (L.map .bool) ∧ ((∀ x ∈ y.1.weights Tryz.prog 33, x ≤ reachBytes) → n ≤ reachBytes) := by
  rcases open_bools Tryz.underlying33 Tryz.underlying4 (by kernel_rfl) h with ⟨hc, rfl⟩ | ⟨a, len, cap, B, hc, _, hl, hm, rfl, hx⟩
  · cases hc
    exact ⟨none, 0, 0, [], rfl, rfl, Nat.zero_le _, RowAt.nil, fun _ => Nat.zero_le _⟩
  · cases hc
    refine ⟨some a, len, cap, (List.range len).map B, rfl, by simp, by omega, row_of_cells (fun i v hv => ?_), fun hw => ?_⟩
    · rw [List.map_map, List.getElem?_map] at hv
      obtain ⟨j, hj, rfl⟩ := Option.map_eq_some_iff.1 hv
      obtain ⟨hi, he⟩ := List.getElem?_eq_some_iff.1 hj
      simp only [List.length_range] at hi
      simp only [List.getElem_range] at he
      subst he
      exact hx i (by omega)
    · have := hw ((len + (cap - len)) * Tryz.prog.bytesOf 4) (by simp [boolRow, DataW.weights, Tryz.underlying33])
      rw [show Tryz.prog.bytesOf 4 = 1 by kernel_rfl] at this
      omega

set_option maxRecDepth 20000 in
theorem open_dev {base : Nat} {v : Value} {d : DataW H} {p : List MemPlace} (hval : Value.okWide Tryz.prog W .any base 35 v) (h : DataW.Trod enc Tryz.prog W 0 (fun _ => true) true 35 v d p) :
    ∃ (a : Option Addr) (n c : Nat) (a' : Option Addr) (m c' : Nat) (D : Dv), v = .agg #[.slice a n c, .slice a' m c'] ∧ DevAt W a n a' m D ∧ ((∀ x ∈ d.weights Tryz.prog 35, x ≤ reachBytes) → DevFits n m D) := by
  obtain ⟨cs, rfl, hcs⟩ := okWide_struct Tryz.underlying35 hval
  rw [show Tryz.prog.cellsOf 35 = 2 by kernel_rfl] at hcs
  obtain ⟨fuel, hf⟩ := h
  obtain ⟨y0, y1, k, hx, _, t0, t1⟩ := trod_struct2 Tryz.underlying35 hf
  obtain ⟨u0, u1, rfl⟩ : ∃ u0 u1, cs = #[u0, u1] := by
    obtain ⟨l⟩ := cs
    match l, hcs with
    | [u0, u1], _ => exact ⟨u0, u1, rfl⟩
  simp only [Prod.mk.injEq] at hx
  obtain ⟨rfl, rfl⟩ := hx
  have t0' : DataW.trod enc Tryz.prog W 0 (fun _ => true) true k 32 [u0] = some y0 := t0
  have t1' : DataW.trod enc Tryz.prog W 0 (fun _ => true) true k 33 [u1] = some y1 := t1
  obtain ⟨a, n, c, S, rfl, s1, s2, s3, s4⟩ := open_strsD t0'
  obtain ⟨a', m, c', L, rfl, l1, l2, l3, l4⟩ := open_boolsD t1'
  refine ⟨a, n, c, a', m, c', (S, L), rfl, ⟨s1, l1, s3, l3, s2, l2⟩, fun hw => ?_⟩
  have hw' : (∀ x ∈ y0.1.weights Tryz.prog 32, x ≤ reachBytes) ∧ (∀ x ∈ y1.1.weights Tryz.prog 33, x ≤ reachBytes) := by
    constructor
    · intro x hx
      exact hw x (by simp only [DataW.weights, Tryz.underlying35]; simp [DataW.weightsEach, hx])
    · intro x hx
      exact hw x (by simp only [DataW.weights, Tryz.underlying35]; simp [DataW.weightsEach, hx])
  obtain ⟨q1, q2⟩ := s4 hw'.1
  exact ⟨q1, l4 hw'.2, q2⟩
end
end Go.Proofs.YtkhjmfngeidlcaaGreatDoor

/- An array that comes in as an argument: where its devices stand, and how long their lists can be. -/
namespace Go.Proofs.YtkhjmfngeidlcaaGreatDoor
open Go.RowKit Go.Lib Go.Deep Go.ChangeShapes Go.WideShapes

section
variable {H : Type} {enc : TypeId × Value → H} {W : World}

set_option maxRecDepth 20000 in
/-- The field with devices. -/
theorem open_devs {fuel : Nat} {cv : Value} {y : DataW H × List MemPlace} (h : DataW.trod enc Tryz.prog W 0 (fun _ => true) true fuel 22 [cv] = some y) :
    ∃ (a : Option Addr) (n c : Nat) (A : Ar), cv = .slice a n c ∧ ArrAt W a n A ∧ ((∀ x ∈ y.1.weights Tryz.prog 22, x ≤ reachBytes) → ArrFits n A) := by
  rcases open_slice_pairs Tryz.underlying22 Tryz.underlying35 (by kernel_rfl) (by kernel_rfl) (by kernel_rfl) (by kernel_rfl) (by kernel_rfl) h with ⟨hc, rfl⟩ | ⟨a, len, cap, m, k, V0, V1, D0, D1, P0, P1, hc, _, hl, hm, hmm, rfl, hx⟩
  · cases hc
    exact ⟨none, 0, 0, [], rfl, .inl ⟨rfl, rfl⟩, fun _ => ⟨by omega, fun i hi => by omega, fun i hi => by omega⟩⟩
  · cases hc
    simp only [if_true] at hmm
    subst hmm
    have each : ∀ i, i < len → ∃ q : Hd × Dv, V0 i = .slice q.1.x q.1.p q.1.c ∧ V1 i = .slice q.1.y q.1.q q.1.d ∧ DevAt W q.1.x q.1.p q.1.y q.1.q q.2 ∧
        ((∀ x ∈ (D0 i).weights Tryz.prog 32, x ≤ reachBytes) → q.1.p * 16 ≤ reachBytes ∧ ∀ s ∈ q.2.1, s.size ≤ reachBytes) ∧ ((∀ x ∈ (D1 i).weights Tryz.prog 33, x ≤ reachBytes) → q.1.q ≤ reachBytes) := by
      intro i hi
      obtain ⟨_, _, t0, t1⟩ := hx i (by omega)
      have t0' : DataW.trod enc Tryz.prog W 0 (fun _ => true) true k 32 [V0 i] = some (D0 i, P0 i) := t0
      have t1' : DataW.trod enc Tryz.prog W 0 (fun _ => true) true k 33 [V1 i] = some (D1 i, P1 i) := t1
      obtain ⟨x, p, c, S, e0, s1, s2, s3, s4⟩ := open_strsD t0'
      obtain ⟨y, q, d, L, e1, l1, l2, l3, l4⟩ := open_boolsD t1'
      exact ⟨(⟨x, p, c, y, q, d⟩, (S, L)), e0, e1, ⟨s1, l1, s3, l3, s2, l2⟩, s4, l4⟩
    have : Inhabited (Hd × Dv) := ⟨(nilH, nil2)⟩
    obtain ⟨q, hq⟩ := choose_lt each
    have hA : ∀ i, i < len → dev ((List.range len).map fun i => (q i).2) i = (q i).2 := fun i hi => by simp [dev, hi]
    refine ⟨some a, len, m, (List.range len).map fun i => (q i).2, rfl, ?_, fun hw => ?_⟩
    · by_cases h0 : len = 0
      · exact .inl ⟨h0, by simp [h0]⟩
      · obtain ⟨g0, _⟩ := hx 0 (by omega)
        obtain ⟨hs, hb⟩ := cell_plain g0
        obtain ⟨b, o, s⟩ := a
        cases hs
        refine .inr ⟨b, o, fun i => (q i).1, rfl, by simp, by omega, hb, fun i hi => ?_, fun i hi => ?_, fun i hi => ?_⟩
        · have := (hx i (by omega)).1
          rw [Addr.add_lit, (hq i hi).1] at this
          exact this
        · have := (hx i (by omega)).2.1
          rw [Addr.add_lit, (hq i hi).2.1] at this
          exact this
        · rw [hA i hi]; exact (hq i hi).2.2.1
    · have hel : ∀ i, i < len → (∀ x ∈ (D0 i).weights Tryz.prog 32, x ≤ reachBytes) ∧ (∀ x ∈ (D1 i).weights Tryz.prog 33, x ≤ reachBytes) := by
        intro i hi
        have hm : ∀ x ∈ (DataW.agg [D0 i, D1 i]).weights Tryz.prog 35, x ≤ reachBytes := by
          intro x hx
          refine hw x ?_
          simp only [DataW.weights, Tryz.underlying22, List.mem_cons, List.mem_append]
          exact Or.inr (Or.inl (mem_weightsAll (List.mem_map.2 ⟨i, List.mem_range.2 hi, rfl⟩) _ hx))
        constructor
        · intro x hx
          exact hm x (by simp only [DataW.weights, Tryz.underlying35]; simp [DataW.weightsEach, hx])
        · intro x hx
          exact hm x (by simp only [DataW.weights, Tryz.underlying35]; simp [DataW.weightsEach, hx])
      refine ⟨?_, fun i hi => ?_, fun i hi s hs => ?_⟩
      · have := hw ((len + (m - len)) * Tryz.prog.bytesOf 35) (by simp [DataW.weights, Tryz.underlying22])
        rw [show Tryz.prog.bytesOf 35 = 48 by kernel_rfl] at this
        unfold reachBytes at this
        omega
      · have h1 := ((hq i hi).2.2.2.1 (hel i hi).1).1
        have h2 := (hq i hi).2.2.2.2 (hel i hi).2
        rw [(hq i hi).2.2.1.sn] at h1
        rw [(hq i hi).2.2.1.sm] at h2
        unfold reachBytes at h1 h2
        rw [hA i hi]
        omega
      · rw [hA i hi] at hs
        have := ((hq i hi).2.2.2.1 (hel i hi).1).2 s hs
        unfold reachBytes at this
        omega

set_option maxRecDepth 20000 in
theorem open_arr {base : Nat} {v : Value} {d : DataW H} {p : List MemPlace} (hval : Value.okWide Tryz.prog W .any base 24 v) (h : DataW.Trod enc Tryz.prog W 0 (fun _ => true) true 24 v d p) :
    ∃ (a : Option Addr) (n c : Nat) (A : Ar), v = .agg #[.slice a n c] ∧ ArrAt W a n A ∧ ((∀ x ∈ d.weights Tryz.prog 24, x ≤ reachBytes) → ArrFits n A) := by
  obtain ⟨cs, rfl, hcs⟩ := okWide_struct Tryz.underlying24 hval
  rw [show Tryz.prog.cellsOf 24 = 1 by kernel_rfl] at hcs
  obtain ⟨fuel, hf⟩ := h
  obtain ⟨y0, k, hx, _, t0⟩ := trod_struct1 Tryz.underlying24 hf
  obtain ⟨u0, rfl⟩ : ∃ u0, cs = #[u0] := by
    obtain ⟨l⟩ := cs
    match l, hcs with
    | [u0], _ => exact ⟨u0, rfl⟩
  simp only [Prod.mk.injEq] at hx
  obtain ⟨rfl, rfl⟩ := hx
  have t0' : DataW.trod enc Tryz.prog W 0 (fun _ => true) true k 22 [u0] = some y0 := t0
  obtain ⟨a, n, c, A, rfl, h1, h2⟩ := open_devs t0'
  refine ⟨a, n, c, A, rfl, h1, fun hw => h2 fun x hx => hw x ?_⟩
  simp only [DataW.weights, Tryz.underlying24]
  simp [DataW.weightsEach, hx]
end
end Go.Proofs.YtkhjmfngeidlcaaGreatDoor

/- A catalog that comes in as an argument: where its two lists stand, and how long they can be. -/
namespace Go.Proofs.YtkhjmfngeidlcaaGreatDoor
open Go.RowKit Go.Lib Go.Deep Go.ChangeShapes Go.WideShapes

/-- How long a catalog's lists and names can be. -/
structure CatFits (n m : Nat) (C : Ct) : Prop where
  fn : n * 16 ≤ reachBytes
  fm : m * 40 ≤ reachBytes
  fs : ∀ i, i < m → (en C.2 i).s.size ≤ reachBytes

section
variable {H : Type} {enc : TypeId × Value → H} {W : World}

set_option maxRecDepth 20000 in
theorem open_blks {fuel : Nat} {cv : Value} {y : DataW H × List MemPlace} (h : DataW.trod enc Tryz.prog W 0 (fun _ => true) true fuel 37 [cv] = some y) :
    ∃ (a : Option Addr) (n c : Nat) (L : List Bk), cv = .slice a n c ∧ n ≤ c ∧ BlkAt W a n L ∧ ((∀ x ∈ y.1.weights Tryz.prog 37, x ≤ reachBytes) → n * 16 ≤ reachBytes) := by
  rcases open_slice_pairs Tryz.underlying37 Tryz.underlying61 (by kernel_rfl) (by kernel_rfl) (by kernel_rfl) (by kernel_rfl) (by kernel_rfl) h with ⟨hc, rfl⟩ | ⟨a, len, cap, m, k, V0, V1, D0, D1, P0, P1, hc, _, hl, hm, hmm, rfl, hx⟩
  · cases hc
    exact ⟨none, 0, 0, [], rfl, Nat.le_refl _, blkAt_none W none, fun _ => Nat.zero_le _⟩
  · cases hc
    simp only [if_true] at hmm
    subst hmm
    have each : ∀ i, i < len → ∃ q : Bk, V0 i = .int .i64 q.f ∧ V1 i = .int .i64 q.n := by
      intro i hi
      obtain ⟨_, _, t0, t1⟩ := hx i (by omega)
      have t0' : DataW.trod enc Tryz.prog W 0 (fun _ => true) true k 3 [V0 i] = some (D0 i, P0 i) := t0
      have t1' : DataW.trod enc Tryz.prog W 0 (fun _ => true) true k 3 [V1 i] = some (D1 i, P1 i) := t1
      obtain ⟨n0, q0, _, _⟩ := DataW.trod_int Tryz.underlying3 t0'
      obtain ⟨n1, q1, _, _⟩ := DataW.trod_int Tryz.underlying3 t1'
      exact ⟨⟨n0, n1⟩, by simpa using q0, by simpa using q1⟩
    have : Inhabited Bk := ⟨nilB⟩
    obtain ⟨q, hq⟩ := choose_lt each
    have hA : ∀ i, i < len → bk ((List.range len).map q) i = q i := fun i hi => by simp [bk, hi]
    refine ⟨some a, len, m, (List.range len).map q, rfl, hl, ⟨by simp, by omega, fun i hi => ?_⟩, fun hw => ?_⟩
    · obtain ⟨g0, g1, _, _⟩ := hx i (by omega)
      have g00 := (hx 0 (by omega)).1
      obtain ⟨hs, hb⟩ := cell_plain g00
      obtain ⟨b, o, s⟩ := a
      cases hs
      rw [Addr.add_lit, (hq i hi).1] at g0
      rw [Addr.add_lit, (hq i hi).2] at g1
      exact ⟨b, o, rfl, hb, by rw [hA i hi]; exact g0, by rw [hA i hi]; exact g1⟩
    · have := hw ((len + (m - len)) * Tryz.prog.bytesOf 61) (by simp [DataW.weights, Tryz.underlying37])
      rw [show Tryz.prog.bytesOf 61 = 16 by kernel_rfl] at this
      omega

set_option maxRecDepth 40000 in
theorem open_ents {fuel : Nat} {cv : Value} {y : DataW H × List MemPlace} (h : DataW.trod enc Tryz.prog W 0 (fun _ => true) true fuel 38 [cv] = some y) :
    ∃ (a : Option Addr) (n c : Nat) (E : List En), cv = .slice a n c ∧ EntAt W a n E ∧ ((∀ x ∈ y.1.weights Tryz.prog 38, x ≤ reachBytes) → n * 40 ≤ reachBytes ∧ ∀ i, i < n → (en E i).s.size ≤ reachBytes) := by
  rcases open_slice Tryz.underlying38 h with ⟨hc, rfl⟩ | ⟨a, len, cap, m, k, D, Pl, hc, _, hl, hm, hmm, rfl, hx⟩
  · cases hc
    exact ⟨none, 0, 0, [], rfl, entAt_none W none, fun _ => ⟨Nat.zero_le _, fun _ hi => absurd hi (Nat.not_lt_zero _)⟩⟩
  · cases hc
    simp only [if_true] at hmm
    subst hmm
    have each : ∀ i, i < len → ∃ q : En, (W.cell? (a.add (i * 4)) = some (.string q.s) ∧ W.cell? (a.add (i * 4 + 1)) = some (.int .i64 q.b) ∧ W.cell? (a.add (i * 4 + 2)) = some (.int .i64 q.a) ∧ W.cell? (a.add (i * 4 + 3)) = some (.int .i64 q.n)) ∧ q.s.size ≤ maxLen ∧ q.s.data.toList.length ∈ (D i).weights Tryz.prog 56 := by
      intro i hi
      obtain ⟨cs, h1, h2⟩ := hx i (by omega)
      rw [show Tryz.prog.cellsOf 56 = 4 by kernel_rfl] at h1
      obtain ⟨_, hlen, hcell⟩ := World.cells?_some h1
      obtain ⟨xs, k2, hk, hxy, _, hxl, hf⟩ := DataW.trod_struct Tryz.underlying56 h2
      match cs, hlen, xs, hxl with
      | [v0, v1, v2, v3], _, [y0, y1, y2, y3], _ =>
        have e0 := hcell 0 (by omega)
        have e1 := hcell 1 (by omega)
        have e2 := hcell 2 (by omega)
        have e3 := hcell 3 (by omega)
        rw [add_add] at e0 e1 e2 e3
        have g0 : DataW.trod enc Tryz.prog W 0 (fun _ => true) true k2 9 [v0] = some y0 := hf 0 _ rfl
        have g1 : DataW.trod enc Tryz.prog W 0 (fun _ => true) true k2 3 [v1] = some y1 := hf 1 _ rfl
        have g2 : DataW.trod enc Tryz.prog W 0 (fun _ => true) true k2 3 [v2] = some y2 := hf 2 _ rfl
        have g3 : DataW.trod enc Tryz.prog W 0 (fun _ => true) true k2 3 [v3] = some y3 := hf 3 _ rfl
        obtain ⟨s0, q0, u0, w0⟩ := DataW.trod_string Tryz.underlying9 g0
        obtain ⟨n1, q1, _, _⟩ := DataW.trod_int Tryz.underlying3 g1
        obtain ⟨n2, q2, _, _⟩ := DataW.trod_int Tryz.underlying3 g2
        obtain ⟨n3, q3, _, _⟩ := DataW.trod_int Tryz.underlying3 g3
        cases q0; cases q1; cases q2; cases q3
        refine ⟨⟨s0, n1, n2, n3⟩, ⟨by simpa using e0, by simpa using e1, by simpa using e2, by simpa using e3⟩, w0, ?_⟩
        have hD : D i = .agg [y0.1, y1.1, y2.1, y3.1] := by
          have := congrArg Prod.fst hxy
          simpa using this
        rw [hD, u0]
        simp only [DataW.weights, Tryz.underlying56]
        simp [DataW.weightsEach, DataW.weights]
    have : Inhabited En := ⟨nilE⟩
    obtain ⟨q, hq⟩ := choose_lt each
    have hA : ∀ i, i < len → en ((List.range len).map q) i = q i := fun i hi => by simp [en, hi]
    refine ⟨some a, len, m, (List.range len).map q, rfl, ⟨by simp, by omega, fun i hi => by rw [hA i hi]; exact (hq i hi).2.1, fun i hi => ?_⟩, fun hw => ⟨?_, fun i hi => ?_⟩⟩
    · obtain ⟨⟨g0, g1, g2, g3⟩, _, _⟩ := hq i hi
      have g00 := (hq 0 (by omega)).1.1
      have hsb := cell_plain g00
      obtain ⟨b, o, s⟩ := a
      obtain ⟨hs, hb⟩ := hsb
      cases hs
      rw [Addr.add_lit] at g0 g1 g2 g3
      exact ⟨b, o, rfl, hb, by rw [hA i hi]; exact g0, by rw [hA i hi]; exact g1, by rw [hA i hi]; exact g2, by rw [hA i hi]; exact g3⟩
    · have := hw ((len + (m - len)) * Tryz.prog.bytesOf 56) (by simp [DataW.weights, Tryz.underlying38])
      rw [show Tryz.prog.bytesOf 56 = 40 by kernel_rfl] at this
      omega
    · rw [hA i hi]
      have := hw _ (by
        simp only [DataW.weights, Tryz.underlying38, List.mem_cons, List.mem_append]
        exact Or.inr (Or.inl (mem_weightsAll (List.mem_map.2 ⟨i, List.mem_range.2 hi, rfl⟩) _ (hq i hi).2.2)))
      rw [ba_len] at this
      exact this

set_option maxRecDepth 20000 in
theorem open_cat {base : Nat} {v : Value} {d : DataW H} {p : List MemPlace} (hval : Value.okWide Tryz.prog W .any base 40 v) (h : DataW.Trod enc Tryz.prog W 0 (fun _ => true) true 40 v d p) :
    ∃ (a : Option Addr) (n c : Nat) (a' : Option Addr) (m c' : Nat) (C : Ct), v = .agg #[.slice a n c, .slice a' m c'] ∧ CatAt W a n c a' m C ∧ ((∀ x ∈ d.weights Tryz.prog 40, x ≤ reachBytes) → CatFits n m C) := by
  obtain ⟨cs, rfl, hcs⟩ := okWide_struct Tryz.underlying40 hval
  rw [show Tryz.prog.cellsOf 40 = 2 by kernel_rfl] at hcs
  obtain ⟨fuel, hf⟩ := h
  obtain ⟨y0, y1, k, hx, _, t0, t1⟩ := trod_struct2 Tryz.underlying40 hf
  obtain ⟨u0, u1, rfl⟩ : ∃ u0 u1, cs = #[u0, u1] := by
    obtain ⟨l⟩ := cs
    match l, hcs with
    | [u0, u1], _ => exact ⟨u0, u1, rfl⟩
  simp only [Prod.mk.injEq] at hx
  obtain ⟨rfl, rfl⟩ := hx
  have t0' : DataW.trod enc Tryz.prog W 0 (fun _ => true) true k 37 [u0] = some y0 := t0
  have t1' : DataW.trod enc Tryz.prog W 0 (fun _ => true) true k 38 [u1] = some y1 := t1
  obtain ⟨a, n, c, L, rfl, s1, s2, s3⟩ := open_blks t0'
  obtain ⟨a', m, c', E, rfl, l1, l2⟩ := open_ents t1'
  refine ⟨a, n, c, a', m, c', (L, E), rfl, ⟨s1, s2, l1⟩, fun hw => ?_⟩
  have hw' : (∀ x ∈ y0.1.weights Tryz.prog 37, x ≤ reachBytes) ∧ (∀ x ∈ y1.1.weights Tryz.prog 38, x ≤ reachBytes) := by
    constructor
    · intro x hx
      exact hw x (by simp only [DataW.weights, Tryz.underlying40]; simp [DataW.weightsEach, hx])
    · intro x hx
      exact hw x (by simp only [DataW.weights, Tryz.underlying40]; simp [DataW.weightsEach, hx])
  exact ⟨s3 hw'.1, (l2 hw'.2).1, (l2 hw'.2).2⟩
end
end Go.Proofs.YtkhjmfngeidlcaaGreatDoor
