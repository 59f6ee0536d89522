/- Joined texts: KeepPow, KeepMap. -/
import Derived.Test.YtgholkjpbdcdiaaDoorKeepHurt
import Derived.MapKept
import Derived.WideMake
import Derived.Deep.RegionLaw
/- From the listed variables to the table; acts that a call lays. -/
namespace Go.Proofs.YtgholkjpbdcdiaaDoor
open Go.RowKit Go.Lib

theorem tab_data : (Rows.laid_internal_strconv_uint64pow10 : DataW Unit) = tabData .u64 pow10Tab := by kernel_rfl
theorem pow_tab {W : World} {g : Nat} {t : TypeId} {cs : Array Value} {fuel : Nat} {p : List MemPlace} (hg : Tryd.prog.globalNamed "internal/strconv.uint64pow10" = some g) (ht : (Tryd.prog.globals[g]?).map (·.type) = some t) (hv : W.var? Tryd.prog "internal/strconv.uint64pow10" = some cs)
    (hd : DataW.trod (H := Unit) (fun _ => ()) Tryd.prog W 0 (fun _ => true) false fuel t cs.toList = some (Rows.laid_internal_strconv_uint64pow10, p)) : Pow W := by
  rw [tab_data] at hd
  have e1 : Tryd.prog.globalNamed "internal/strconv.uint64pow10" = some 1 := by kernel_rfl
  obtain rfl := Option.some.inj (hg.symm.trans e1)
  have e2 : (Tryd.prog.globals[1]?).map (·.type) = some 110 := by kernel_rfl
  obtain rfl := Option.some.inj (ht.symm.trans e2)
  have := cells_of_tab Tryd.underlying110 Tryd.underlying86 (by kernel_rfl) (by kernel_rfl) hd
  unfold Pow TabIs
  rw [hv, ← this]
theorem pow_laid {W : World} {x1 x2 : String × DataW Unit} (h : laidMet Tryd.prog [x1, x2, ("internal/strconv.uint64pow10", Rows.laid_internal_strconv_uint64pow10)] W) : Pow W := by
  obtain ⟨ps, h0, _⟩ := h
  obtain ⟨n1, d1⟩ := x1
  obtain ⟨n2, d2⟩ := x2
  obtain ⟨_, _, _, _, _, _, _, _, _, _, h1, _⟩ := h0
  obtain ⟨_, _, _, _, _, _, _, _, _, _, h2, _⟩ := h1
  obtain ⟨g, t, cs, fuel, p, q, hg, ht, hv, hd, _, _⟩ := h2
  exact pow_tab hg ht hv hd

/-- An act's seven cells. -/
def actV (x : Hact) : List Value := [.int .i64 x.kind, .slice none 0 0, .string ⟨#[]⟩, .int .i64 x.d, .int .i64 x.n, .int .i64 x.at_, .int .i64 x.by_]
def actsV (L : List Hact) : List Value := L.flatMap actV
theorem actsV_at (L : List Hact) : ∀ (i : Nat), i < L.length → ∀ j, j < 7 → (actsV L)[i * 7 + j]? = (actV (act L i))[j]? := by
  induction L with
  | nil => intro i hi; exact absurd hi (Nat.not_lt_zero _)
  | cons x L ih =>
    intro i hi j hj
    have e : actsV (x :: L) = actV x ++ actsV L := rfl
    rw [e]
    cases i with
    | zero =>
      rw [Nat.zero_mul, Nat.zero_add, List.getElem?_append_left (by show j < 7; exact hj)]
      rfl
    | succ i =>
      have := ih i (by simpa using hi) j hj
      rw [List.getElem?_append_right (by show 7 ≤ _; omega), show (i + 1) * 7 + j - (actV x).length = i * 7 + j by show (i + 1) * 7 + j - 7 = _; omega, this]
      simp [act]
/-- Acts that stand at the head of a block. -/
theorem acts_cells {w : World} {b : Nat} {L : List Hact} (h : ∀ j u, (actsV L)[j]? = some u → w.cell? ⟨b, j, none⟩ = some u) (hlt : b < w.heap.size) (hL : L.length ≤ maxLen) : Acts w b 0 L.length L := by
  have at_ : ∀ i, i < L.length → ∀ j v, j < 7 → (actV (act L i))[j]? = some v → w.cell? ⟨b, 0 + i * 7 + j, none⟩ = some v := fun i hi j v hj hv => by
    rw [Nat.zero_add]
    exact h _ _ ((actsV_at L i hi j hj).trans hv)
  exact ⟨rfl, hL, hlt, fun i hi => at_ i hi 0 _ (by omega) rfl, fun i hi => at_ i hi 1 _ (by omega) rfl, fun i hi => at_ i hi 2 _ (by omega) rfl, fun i hi => at_ i hi 3 _ (by omega) rfl, fun i hi => at_ i hi 4 _ (by omega) rfl, fun i hi => at_ i hi 5 _ (by omega) rfl, fun i hi => at_ i hi 6 _ (by omega) rfl⟩
theorem acts_own {w : World} {b : Nat} {t : TypeId} {L : List Hact} (h : Own w b t (actsV L)) (hL : L.length ≤ maxLen) : Acts w b 0 L.length L := acts_cells (fun _ _ hj => h.cell hj) h.lt hL
end Go.Proofs.YtgholkjpbdcdiaaDoor

/- A set of numbers as a map; a row of acts that grows. -/
namespace Go.Proofs.YtgholkjpbdcdiaaDoor
open Go.RowKit Go.Lib Go.MapKept

/-- The map's keys are these numbers, each with true. -/
def SetIs (w : World) (r : Nat) (T : List Int) : Prop :=
  ∃ es clock, w.heap[r]? = some (.map es clock) ∧ (∀ x ∈ es.toList, ∃ n, x.key = .int .i64 n ∧ x.val = .bool true ∧ n ∈ T) ∧ ∀ n ∈ T, ∃ x ∈ es.toList, x.key = .int .i64 n
theorem SetIs.of_block {w w' : World} {r : Nat} {T : List Int} (h : SetIs w r T) (e : w'.heap[r]? = w.heap[r]?) : SetIs w' r T := by
  obtain ⟨es, c, h1, h2⟩ := h
  exact ⟨es, c, e.trans h1, h2⟩
theorem SetIs.lt {w : World} {r : Nat} {T : List Int} (h : SetIs w r T) : r < w.heap.size := by
  obtain ⟨es, c, h1, _⟩ := h
  exact lt_of_block h1
theorem set_new (w : World) : SetIs (w.alloc (.map #[] 0)) w.heap.size [] := ⟨#[], 0, heap_alloc_new w _, fun x hx => by simp at hx, fun n hn => by cases hn⟩
theorem set_keys {es : Array MapEntry} {T : List Int} (h : ∀ x ∈ es.toList, ∃ n, x.key = .int .i64 n ∧ x.val = .bool true ∧ n ∈ T) : ∀ x ∈ es.toList, IsKey (.int .i64) x.key := fun x hx => by
  obtain ⟨n, h1, _⟩ := h x hx
  rw [h1]; exact rfl
theorem actV_one (X : Hact) : ∀ u ∈ actV X, u.oneCell' = true := by
  intro u hu
  simp only [actV, List.mem_cons, List.not_mem_nil, or_false] at hu
  rcases hu with rfl | rfl | rfl | rfl | rfl | rfl | rfl <;> rfl
theorem actsV_snoc (L : List Hact) (X : Hact) : actsV (L ++ [X]) = actsV L ++ actV X := by simp [actsV]
section
variable {w W W' : World} {T : List Int} {v : Value} {L : List Hact}
end
end Go.Proofs.YtgholkjpbdcdiaaDoor
