/- A device that comes in as an argument: where its two lists stand, and how long they can be. -/
import Derived.Test.YtkhjmfngeidlcaaDevMem
import Derived.Deep.Strs
import Derived.Deep.Grids
import Derived.SizedLaws
import Derived.ProofKit
namespace Go.Proofs.Ytkhjmfngeidlcaa
open Go.RowKit Go.Lib Go.Deep Go.ChangeShapes Go.WideShapes

theorem cell_plain {w : World} {a : Addr} {v : Value} (h : w.cell? a = some v) : a.spot = none ∧ a.block < w.heap.size := by
  unfold World.cell? at h
  split at h
  · rename_i c t f hc
    refine ⟨?_, lt_of_block hc⟩
    by_cases hs : a.spot.isSome = true
    · rw [if_pos hs] at h; cases h
    · simpa using hs
  · cases h

theorem row_of_cells {w : World} {a : Addr} {V : List Value} (h : ∀ i v, V[i]? = some v → w.cell? (a.add i) = some v) : RowAt w (some a) V := by
  intro i v hv
  have hi : i < V.length := by
    rcases Nat.lt_or_ge i V.length with h1 | h1
    · exact h1
    · rw [List.getElem?_eq_none h1] at hv; cases hv
  have h0 := h 0 (V[0]'(by omega)) (List.getElem?_eq_getElem (by omega))
  have h00 : a.add 0 = a := rfl
  rw [h00] at h0
  obtain ⟨hs, hb⟩ := cell_plain h0
  have hc := h i v hv
  obtain ⟨b, o, s⟩ := a
  cases hs
  exact ⟨b, o, rfl, hb, by rw [← Addr.add_lit]; exact hc⟩

theorem weights_in {H : Type} {ts : List TypeId} {ds : List (DataW H)} (h : (DataW.weightsEach Try.prog ts ds).all (· ≤ reachBytes) = true) {j : Nat} {t : TypeId} {d : DataW H} (ht : ts[j]? = some t) (hd : ds[j]? = some d) {n : Nat} (hn : n ∈ d.weights Try.prog t) : n ≤ reachBytes := by
  simpa using List.all_eq_true.1 h _ (DataW.weights_mem_each ht hd n hn)

theorem mem_weightsAll {H : Type} {e : TypeId} : ∀ {l : List (DataW H)} {d : DataW H}, d ∈ l → ∀ n ∈ d.weights Try.prog e, n ∈ DataW.weightsAll Try.prog e l
  | d' :: r, d, hd, n, hn => by
    simp only [DataW.weightsAll, List.mem_append]
    rcases List.mem_cons.1 hd with rfl | h
    · exact Or.inl hn
    · exact Or.inr (mem_weightsAll h n hn)

/-- How long a device's lists can be. -/
structure DevFits (n m : Nat) (D : Dv) : Prop where
  n : n * 16 ≤ reachBytes
  m : m ≤ reachBytes
  s : ∀ s ∈ D.1, s.size ≤ reachBytes

section
variable {H : Type} {enc : TypeId × Value → H} {W : World}

/-- The field with texts. -/
theorem open_strsD {fuel : Nat} {cv : Value} {y : DataW H × List MemPlace} (h : DataW.trod enc Try.prog W 0 (fun _ => true) true fuel 34 [cv] = some y) :
    ∃ (a : Option Addr) (n c : Nat) (S : List ByteArray), cv = .slice a n c ∧ n = S.length ∧ n ≤ maxLen ∧ RowAt W a (S.map .string) ∧ ((∀ x ∈ y.1.weights Try.prog 34, x ≤ reachBytes) → n * 16 ≤ reachBytes ∧ ∀ s ∈ S, s.size ≤ reachBytes) := by
  rcases open_strs Try.underlying34 Try.underlying9 (by kernel_rfl) h with ⟨hc, rfl⟩ | ⟨a, len, cap, k, Sx, hc, _, hl, hm, hk, rfl, hx⟩
  · cases hc
    exact ⟨none, 0, 0, [], rfl, rfl, Nat.zero_le _, RowAt.nil, fun _ => ⟨Nat.zero_le _, fun _ h => by cases h⟩⟩
  · cases hc
    simp only [if_true] at hk
    subst hk
    refine ⟨some a, len, k, (List.range len).map Sx, rfl, by simp, by omega, row_of_cells (fun i v hv => ?_), fun hw => ⟨?_, fun s hs => ?_⟩⟩
    · rw [List.map_map, List.getElem?_map] at hv
      obtain ⟨j, hj, rfl⟩ := Option.map_eq_some_iff.1 hv
      obtain ⟨hi, he⟩ := List.getElem?_eq_some_iff.1 hj
      simp only [List.length_range] at hi
      simp only [List.getElem_range] at he
      subst he
      exact (hx i (by omega)).1
    · have := hw ((len + (k - len)) * Try.prog.bytesOf 9) (by simp [DataW.weights, Try.underlying34])
      rw [show Try.prog.bytesOf 9 = 16 by kernel_rfl] at this
      omega
    · obtain ⟨j, hj, rfl⟩ := List.mem_map.1 hs
      have := hw (Sx j).data.toList.length (by
        simp only [DataW.weights, Try.underlying34, List.mem_cons, List.mem_append]
        refine Or.inr (Or.inl (mem_weightsAll (List.mem_map.2 ⟨j, hj, rfl⟩) _ (by simp [DataW.weights])))
        )
      rw [ba_len] at this
      exact this

/-- The field with bools. -/
theorem open_boolsD {fuel : Nat} {cv : Value} {y : DataW H × List MemPlace} (h : DataW.trod enc Try.prog W 0 (fun _ => true) true fuel 35 [cv] = some y) :
    ∃ (a : Option Addr) (n c : Nat) (L : List Bool), cv = .slice a n c ∧ n = L.length ∧ n ≤ maxLen ∧ RowAt W a (L.map .bool) ∧ ((∀ x ∈ y.1.weights Try.prog 35, x ≤ reachBytes) → n ≤ reachBytes) := by
  rcases open_bools Try.underlying35 Try.underlying4 (by kernel_rfl) h with ⟨hc, rfl⟩ | ⟨a, len, cap, B, hc, _, hl, hm, rfl, hx⟩
  · cases hc
    exact ⟨none, 0, 0, [], rfl, rfl, Nat.zero_le _, RowAt.nil, fun _ => Nat.zero_le _⟩
  · cases hc
    refine ⟨some a, len, cap, (List.range len).map B, rfl, by simp, by omega, row_of_cells (fun i v hv => ?_), fun hw => ?_⟩
    · rw [List.map_map, List.getElem?_map] at hv
      obtain ⟨j, hj, rfl⟩ := Option.map_eq_some_iff.1 hv
      obtain ⟨hi, he⟩ := List.getElem?_eq_some_iff.1 hj
      simp only [List.length_range] at hi
      simp only [List.getElem_range] at he
      subst he
      exact hx i (by omega)
    · have := hw ((len + (cap - len)) * Try.prog.bytesOf 4) (by simp [boolRow, DataW.weights, Try.underlying35])
      rw [show Try.prog.bytesOf 4 = 1 by kernel_rfl] at this
      omega

set_option maxRecDepth 20000 in
theorem open_dev {base : Nat} {v : Value} {d : DataW H} {p : List MemPlace} (hval : Value.okWide Try.prog W .any base 37 v) (h : DataW.Trod enc Try.prog W 0 (fun _ => true) true 37 v d p) :
    ∃ (a : Option Addr) (n c : Nat) (a' : Option Addr) (m c' : Nat) (D : Dv), v = .agg #[.slice a n c, .slice a' m c'] ∧ DevAt W a n a' m D ∧ ((∀ x ∈ d.weights Try.prog 37, x ≤ reachBytes) → DevFits n m D) := by
  obtain ⟨cs, rfl, hcs⟩ := okWide_struct Try.underlying37 hval
  rw [show Try.prog.cellsOf 37 = 2 by kernel_rfl] at hcs
  obtain ⟨fuel, hf⟩ := h
  obtain ⟨y0, y1, k, hx, _, t0, t1⟩ := trod_struct2 Try.underlying37 hf
  obtain ⟨u0, u1, rfl⟩ : ∃ u0 u1, cs = #[u0, u1] := by
    obtain ⟨l⟩ := cs
    match l, hcs with
    | [u0, u1], _ => exact ⟨u0, u1, rfl⟩
  simp only [Prod.mk.injEq] at hx
  obtain ⟨rfl, rfl⟩ := hx
  have t0' : DataW.trod enc Try.prog W 0 (fun _ => true) true k 34 [u0] = some y0 := t0
  have t1' : DataW.trod enc Try.prog W 0 (fun _ => true) true k 35 [u1] = some y1 := t1
  obtain ⟨a, n, c, S, rfl, s1, s2, s3, s4⟩ := open_strsD t0'
  obtain ⟨a', m, c', L, rfl, l1, l2, l3, l4⟩ := open_boolsD t1'
  refine ⟨a, n, c, a', m, c', (S, L), rfl, ⟨s1, l1, s3, l3, s2, l2⟩, fun hw => ?_⟩
  have hw' : (∀ x ∈ y0.1.weights Try.prog 34, x ≤ reachBytes) ∧ (∀ x ∈ y1.1.weights Try.prog 35, x ≤ reachBytes) := by
    constructor
    · intro x hx
      exact hw x (by simp only [DataW.weights, Try.underlying37]; simp [DataW.weightsEach, hx])
    · intro x hx
      exact hw x (by simp only [DataW.weights, Try.underlying37]; simp [DataW.weightsEach, hx])
  obtain ⟨q1, q2⟩ := s4 hw'.1
  exact ⟨q1, l4 hw'.2, q2⟩
end
end Go.Proofs.Ytkhjmfngeidlcaa
