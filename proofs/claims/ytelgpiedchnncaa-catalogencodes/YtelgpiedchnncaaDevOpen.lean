/- A device that comes in as an argument: where its two lists stand, and how long they can be. -/
import Derived.Test.YtelgpiedchnncaaDevMem
import Derived.Deep.Strs
import Derived.Deep.Grids
import Derived.SizedLaws
import Derived.ProofKit
namespace Go.Proofs.Ytelgpiedchnncaa
open Go.RowKit Go.Lib Go.Deep Go.ChangeShapes Go.WideShapes

theorem cell_plain {w : World} {a : Addr} {v : Value} (h : w.cell? a = some v) : a.spot = none ∧ a.block < w.heap.size := by
  unfold World.cell? at h
  split at h
  · rename_i c t f hc
    refine ⟨?_, lt_of_block hc⟩
    by_cases hs : a.spot.isSome = true
    · rw [if_pos hs] at h; cases h
    · simpa using hs
  · cases h

theorem row_of_cells {w : World} {a : Addr} {V : List Value} (h : ∀ i v, V[i]? = some v → w.cell? (a.add i) = some v) : RowAt w (some a) V := by
  intro i v hv
  have hi : i < V.length := by
    rcases Nat.lt_or_ge i V.length with h1 | h1
    · exact h1
    · rw [List.getElem?_eq_none h1] at hv; cases hv
  have h0 := h 0 (V[0]'(by omega)) (List.getElem?_eq_getElem (by omega))
  have h00 : a.add 0 = a := rfl
  rw [h00] at h0
  obtain ⟨hs, hb⟩ := cell_plain h0
  have hc := h i v hv
  obtain ⟨b, o, s⟩ := a
  cases hs
  exact ⟨b, o, rfl, hb, by rw [← Addr.add_lit]; exact hc⟩

theorem weights_in {H : Type} {ts : List TypeId} {ds : List (DataW H)} (h : (DataW.weightsEach Try.prog ts ds).all (· ≤ reachBytes) = true) {j : Nat} {t : TypeId} {d : DataW H} (ht : ts[j]? = some t) (hd : ds[j]? = some d) {n : Nat} (hn : n ∈ d.weights Try.prog t) : n ≤ reachBytes := by
  simpa using List.all_eq_true.1 h _ (DataW.weights_mem_each ht hd n hn)

theorem mem_weightsAll {H : Type} {e : TypeId} : ∀ {l : List (DataW H)} {d : DataW H}, d ∈ l → ∀ n ∈ d.weights Try.prog e, n ∈ DataW.weightsAll Try.prog e l
  | d' :: r, d, hd, n, hn => by
    simp only [DataW.weightsAll, List.mem_append]
    rcases List.mem_cons.1 hd with rfl | h
    · exact Or.inl hn
    · exact Or.inr (mem_weightsAll h n hn)

/-- How long a device's lists can be. -/
structure DevFits (n m : Nat) (D : Dv) : Prop where
  n : n * 16 ≤ reachBytes
  m : m ≤ reachBytes
  s : ∀ s ∈ D.1, s.size ≤ reachBytes

section
variable {H : Type} {enc : TypeId × Value → H} {W : World}

end
end Go.Proofs.Ytelgpiedchnncaa
