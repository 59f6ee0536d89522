/- Joined texts: ArcRefCopy, ArcIns, ArcFilCp. -/
import Derived.Test.YtkhjmfngeidlcabGreatDoorArcAX
import Derived.Handy
import Derived.Deep.RegionLaw
import Derived.BigRegion
import Derived.Deep.Onto
import Derived.Test.YtkhjmfngeidlcabGreatDoorFilA
/- What the document's own CatalogCopy answers: the same catalog in rows of its own. -/
namespace Go.Proofs.YtkhjmfngeidlcabGreatDoor
open Go.RowKit Go.Lib

end Go.Proofs.YtkhjmfngeidlcabGreatDoor

/- While entries are put into a copy of a catalog: what stands where; what the next list has. -/
namespace Go.Proofs.YtkhjmfngeidlcabGreatDoor
open Go.RowKit Go.Lib

section
variable {w w' : World}
theorem row_to {base e s n : Nat} {v : Value} {xs : List Value} (h : w.ownsRow base e s v n xs) (g : Below w.heap.size w w') : w'.ownsRow base e s v n xs := (chg_below (fun _ => False) g).row h (fun _ _ q => q)

variable {wc : World} {p8 : Nat} {vK vE : Value} {K : List Bk} {E : List En}
variable {p11 : Nat} {x : En} {v v' : Value} {N N' : List En}
end
end Go.Proofs.YtkhjmfngeidlcabGreatDoor

/- A list of files, put behind nothing by append: where the copy stands. -/
namespace Go.Proofs.YtkhjmfngeidlcabGreatDoor
open Go.RowKit Go.Lib

theorem info_fil : (Tryz.prog.info? 39).map (fun i => (i.zero, i.size, i.bytes)) = some (some (.agg #[.string ⟨#[]⟩, .string ⟨#[]⟩]), 2, 32) := by kernel_rfl
def filC (x : Fi) : List Value := [.string x.s, .string x.d]
def filV (F : List Fi) : List Value := F.flatMap filC
theorem filV_cons (x : Fi) (F : List Fi) : filV (x :: F) = .string x.s :: .string x.d :: filV F := rfl
theorem filV_len (F : List Fi) : (filV F).length = F.length * 2 := by
  induction F with
  | nil => rfl
  | cons x F ih => rw [filV_cons]; simp only [List.length_cons, ih]; omega
theorem fi_succ (x : Fi) (F : List Fi) (i : Nat) : fi (x :: F) (i + 1) = fi F i := by simp [fi]
theorem filV_at (F : List Fi) (i : Nat) (h : i < F.length) : (filV F)[i * 2]? = some (.string (fi F i).s) ∧ (filV F)[i * 2 + 1]? = some (.string (fi F i).d) := by
  induction F generalizing i with
  | nil => simp at h
  | cons x F ih =>
    rw [filV_cons]
    cases i with
    | zero => exact ⟨rfl, rfl⟩
    | succ i =>
      rw [fi_succ, show (i + 1) * 2 = i * 2 + 1 + 1 by omega]
      simp only [List.getElem?_cons_succ]
      exact ih i (by simpa using h)
theorem filV_inv (F : List Fi) (j : Nat) (v : Value) (h : (filV F)[j]? = some v) : ∃ i, i < F.length ∧ ((j = i * 2 ∧ v = .string (fi F i).s) ∨ (j = i * 2 + 1 ∧ v = .string (fi F i).d)) := by
  have hj : j < F.length * 2 := by
    rcases Nat.lt_or_ge j (F.length * 2) with h1 | h1
    · exact h1
    · rw [List.getElem?_eq_none (by rw [filV_len]; exact h1)] at h; cases h
  obtain ⟨a0, a1⟩ := filV_at F (j / 2) (by omega)
  refine ⟨j / 2, by omega, ?_⟩
  rcases Nat.mod_two_eq_zero_or_one j with e | e
  · left
    have e2 : j = j / 2 * 2 := by omega
    rw [← e2, h] at a0
    exact ⟨e2, Option.some.inj a0⟩
  · right
    have e2 : j = j / 2 * 2 + 1 := by omega
    rw [← e2, h] at a1
    exact ⟨e2, Option.some.inj a1⟩
theorem oneCell_fils (F : List Fi) : ∀ v ∈ filV F, v.oneCell' = true := by
  intro v hv
  obtain ⟨j, hj⟩ := List.getElem?_of_mem hv
  obtain ⟨i, _, ⟨_, rfl⟩ | ⟨_, rfl⟩⟩ := filV_inv F j v hj <;> rfl
end Go.Proofs.YtkhjmfngeidlcabGreatDoor
