/- Blocks and entries as rows of cells. -/
import Derived.Test.YtelgpiedchnncabDoorCatMem
import Derived.Laws.CopyRow
import Derived.Laws.IdiomCopy
import Derived.Laws.MakeOwn
namespace Go.Proofs.YtelgpiedchnncabDoor
open Go.RowKit Go.Lib

def blkC (b : Bk) : List Value := [.int .i64 b.f, .int .i64 b.n]
def entC (x : En) : List Value := [.string x.s, .int .i64 x.b, .int .i64 x.a, .int .i64 x.n]
def blkV (L : List Bk) : List Value := L.flatMap blkC
def entV (E : List En) : List Value := E.flatMap entC
theorem blkV_cons (b : Bk) (L : List Bk) : blkV (b :: L) = .int .i64 b.f :: .int .i64 b.n :: blkV L := rfl
theorem entV_cons (x : En) (E : List En) : entV (x :: E) = .string x.s :: .int .i64 x.b :: .int .i64 x.a :: .int .i64 x.n :: entV E := rfl
theorem blkV_app (L M : List Bk) : blkV (L ++ M) = blkV L ++ blkV M := List.flatMap_append
theorem entV_app (L M : List En) : entV (L ++ M) = entV L ++ entV M := List.flatMap_append
theorem blkV_len (L : List Bk) : (blkV L).length = L.length * 2 := by
  induction L with
  | nil => rfl
  | cons b L ih => rw [blkV_cons]; simp only [List.length_cons, ih]; omega
theorem entV_len (E : List En) : (entV E).length = E.length * 4 := by
  induction E with
  | nil => rfl
  | cons b L ih => rw [entV_cons]; simp only [List.length_cons, ih]; omega
theorem bk_succ (b : Bk) (L : List Bk) (i : Nat) : bk (b :: L) (i + 1) = bk L i := by simp [bk]
theorem en_succ (b : En) (L : List En) (i : Nat) : en (b :: L) (i + 1) = en L i := by simp [en]
theorem blkV_at (L : List Bk) (i : Nat) (h : i < L.length) : (blkV L)[i * 2]? = some (.int .i64 (bk L i).f) ∧ (blkV L)[i * 2 + 1]? = some (.int .i64 (bk L i).n) := by
  induction L generalizing i with
  | nil => simp at h
  | cons b L ih =>
    rw [blkV_cons]
    cases i with
    | zero => exact ⟨rfl, rfl⟩
    | succ i =>
      rw [bk_succ, show (i + 1) * 2 = i * 2 + 1 + 1 by omega]
      simp only [List.getElem?_cons_succ]
      exact ih i (by simpa using h)
theorem entV_at (E : List En) (i : Nat) (h : i < E.length) : (entV E)[i * 4]? = some (.string (en E i).s) ∧ (entV E)[i * 4 + 1]? = some (.int .i64 (en E i).b) ∧ (entV E)[i * 4 + 2]? = some (.int .i64 (en E i).a) ∧ (entV E)[i * 4 + 3]? = some (.int .i64 (en E i).n) := by
  induction E generalizing i with
  | nil => simp at h
  | cons b L ih =>
    rw [entV_cons]
    cases i with
    | zero => exact ⟨rfl, rfl, rfl, rfl⟩
    | succ i =>
      rw [en_succ, show (i + 1) * 4 = i * 4 + 1 + 1 + 1 + 1 by omega]
      have := ih i (by simpa using h)
      exact this
/-- Each place of the row is one of an element's. -/
theorem blkV_inv (L : List Bk) (j : Nat) (v : Value) (h : (blkV L)[j]? = some v) : ∃ i, i < L.length ∧ ((j = i * 2 ∧ v = .int .i64 (bk L i).f) ∨ (j = i * 2 + 1 ∧ v = .int .i64 (bk L i).n)) := by
  have hj : j < L.length * 2 := by
    rcases Nat.lt_or_ge j (L.length * 2) with h1 | h1
    · exact h1
    · rw [List.getElem?_eq_none (by rw [blkV_len]; exact h1)] at h; cases h
  obtain ⟨a0, a1⟩ := blkV_at L (j / 2) (by omega)
  refine ⟨j / 2, by omega, ?_⟩
  rcases Nat.mod_two_eq_zero_or_one j with e | e
  · left
    have e2 : j = j / 2 * 2 := by omega
    rw [← e2, h] at a0
    exact ⟨e2, Option.some.inj a0⟩
  · right
    have e2 : j = j / 2 * 2 + 1 := by omega
    rw [← e2, h] at a1
    exact ⟨e2, Option.some.inj a1⟩
theorem oneCell_blk (L : List Bk) : ∀ v ∈ blkV L, v.oneCell' = true := by
  intro v hv
  obtain ⟨j, hj⟩ := List.getElem?_of_mem hv
  obtain ⟨i, _, ⟨_, rfl⟩ | ⟨_, rfl⟩⟩ := blkV_inv L j v hj <;> rfl
theorem oneCell_ent (x : En) : ∀ v ∈ entC x, v.oneCell' = true := by
  intro v hv
  simp only [entC, List.mem_cons, List.not_mem_nil, or_false] at hv
  rcases hv with rfl | rfl | rfl | rfl <;> rfl

section
variable {w : World} {b : Nat} {t : TypeId} {a : Option Addr} {n : Nat}
theorem Own.blkAt {L : List Bk} (h : Own w b t (blkV L)) (hn : L.length ≤ maxLen) : BlkAt w (some ⟨b, 0, none⟩) L.length L := by
  refine ⟨rfl, hn, fun i hi => ⟨b, 0, rfl, h.lt, ?_, ?_⟩⟩
  · rw [Nat.zero_add]; exact h.cell (blkV_at L i hi).1
  · rw [Nat.zero_add]; exact h.cell (blkV_at L i hi).2
theorem Own.entAt {E : List En} (h : Own w b t (entV E)) (hn : E.length ≤ maxLen) (hs : ∀ i, i < E.length → (en E i).s.size ≤ maxLen) : EntAt w (some ⟨b, 0, none⟩) E.length E := by
  refine ⟨rfl, hn, hs, fun i hi => ⟨b, 0, rfl, h.lt, ?_, ?_, ?_, ?_⟩⟩
  · rw [Nat.zero_add]; exact h.cell (entV_at E i hi).1
  · rw [Nat.zero_add]; exact h.cell (entV_at E i hi).2.1
  · rw [Nat.zero_add]; exact h.cell (entV_at E i hi).2.2.1
  · rw [Nat.zero_add]; exact h.cell (entV_at E i hi).2.2.2
theorem BlkAt.row {L : List Bk} {o : Nat} (h : BlkAt w (some ⟨b, o, none⟩) n L) : ∀ j v, (blkV L)[j]? = some v → w.cell? ((⟨b, o, none⟩ : Addr).add j) = some v := by
  intro j v hv
  obtain ⟨i, hi, q⟩ := blkV_inv L j v hv
  obtain ⟨b2, o2, e, _, c0, c1⟩ := h.c i (by rw [h.sn]; exact hi)
  cases e
  rw [Addr.add_lit]
  rcases q with ⟨rfl, rfl⟩ | ⟨rfl, rfl⟩
  · exact c0
  · rw [← Nat.add_assoc]; exact c1
end

theorem info_blk : (Tryd.prog.info? 41).map (fun i => (i.zero, i.size, i.bytes)) = some (some (.agg #[.int .i64 0, .int .i64 0]), 2, 16) := by kernel_rfl
theorem info_ent : (Tryd.prog.info? 44).map (fun i => (i.zero, i.size, i.bytes)) = some (some (.agg #[.string ⟨#[]⟩, .int .i64 0, .int .i64 0, .int .i64 0]), 4, 40) := by kernel_rfl

/-- A copy of elements of more than one cell. -/
theorem run_copy_rows {P : Program} (w : World) (dT sT ty elem : TypeId) (size : Nat) (g dLen dCap : Nat) (a : Addr) (sCap : Nat) (cur : Array Value) (t : TypeId) (cs : List Value)
    (hu : P.underlying dT = some (.slice elem)) (hs : (P.info? elem).map (·.size) = some size)
    (hg : w.heap[g]? = some (.cells cur t (0, 0))) (hn : cs.length = dLen * size)
    (hsrc : ∀ j v, cs[j]? = some v → w.cell? (a.add j) = some v) (hfit : cs.length ≤ cur.size) (h1 : ∀ v ∈ cs, v.oneCell' = true) :
    (Builtin.copy_ #[dT, sT] ty #[.slice (some ⟨g, 0, none⟩) dLen dCap, .slice (some a) dLen sCap]).run P w =
      .ok (goInt dLen) (w.setRow g (cs ++ cur.toList.drop cs.length).toArray) := by
  have hl := run_loadCells_list (P := P) w a cs hsrc
  have hst := run_storeCells_at P g 0 t cs 0 cur w hg (by simpa using hfit) h1
  cases hq : P.info? elem with
  | none => simp [hq] at hs
  | some i =>
    have hi : i.size = size := by simpa [hq] using hs
    simp [Builtin.copy_, run_underlying hu, Builtin.lenOf, Builtin.firstCells, sizeOf, typeInfo, hq, hi, ← hn, hl, hst]
end Go.Proofs.YtelgpiedchnncabDoor
