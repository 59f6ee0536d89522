/- Bytes of a text, one of them turned, as the memory holds them; they come back as a text. -/
import Derived.Test.YtkhjmfngeidlcaaRows
import Derived.Test.YtkhjmfngeidlcaaLow
import Derived.WalkKit
import Derived.WalkLawsBesides
import Derived.Laws.IdiomStrings
namespace Go.Proofs.Ytkhjmfngeidlcaa
open Go.RowKit

theorem row_laid (s : ByteArray) (cap : Nat) : ∃ C : Array Value, bytesRow s cap = C ∧ s.size ≤ C.size ∧ ∀ j (hj : j < s.size), C[j]? = some (.int .u8 (s[j].toNat : Int)) :=
  ⟨_, rfl, by simp [bytesRow], fun j hj => bytesRow_at s cap j hj⟩

/-- The bytes with one of them turned, as the memory holds them, come back as a text. -/
theorem conv_back (w : World) (s : ByteArray) (cap : Nat) (C : Array Value) (k : Nat) (hk : k < s.size) (v : Int) (v0 : 0 ≤ v) (v1 : v < 256) (hcell : ∀ j (hj : j < s.size), C[j]? = some (.int .u8 (s[j].toNat : Int))) :
    (convert 52 9 (.slice (some ⟨w.heap.size, 0, none⟩) s.size cap)).run Try.prog ((w.alloc (.cells C 5 (C.size, C.size + 1))).setCell ⟨w.heap.size, k, none⟩ (.int .u8 v)).drew
      = .ok (.string (str (s.data.toList.set k (byt v)))) ((w.alloc (.cells C 5 (C.size, C.size + 1))).setCell ⟨w.heap.size, k, none⟩ (.int .u8 v)).drew := by
  have hlen : (s.data.toList.set k (byt v)).length = s.size := by rw [List.length_set, Array.length_toList]; rfl
  have h := run_convert_bytes_back (P := Try.prog) ((w.alloc (.cells C 5 (C.size, C.size + 1))).setCell ⟨w.heap.size, k, none⟩ (.int .u8 v)).drew 52 9 5 ⟨w.heap.size, 0, none⟩ cap (s.data.toList.set k (byt v)) Try.underlying52 Try.underlying5 Try.underlying9 (by
    intro j hj
    have hj' : j < s.size := by rw [hlen] at hj; exact hj
    show ((w.alloc (.cells C 5 (C.size, C.size + 1))).setCell ⟨w.heap.size, k, none⟩ (.int .u8 v)).cell? _ = _
    have ha : (Addr.add ⟨w.heap.size, 0, none⟩ j) = ⟨w.heap.size, j, none⟩ := by
      simp only [Addr.add, Nat.zero_add]
      split <;> simp_all
    rw [ha, List.getElem_set]
    by_cases e : k = j
    · subst e
      rw [World.cell?_setCell_same _ _ _ (u := .int .u8 (s[k].toNat : Int)) (by rw [World.cell?_alloc_mark]; exact hcell k hk)]
      simp [byt_nat v v0 v1]
    · rw [World.cell?_setCell_other _ _ _ _ (fun x => e (congrArg Addr.off x)), World.cell?_alloc_mark, hcell j hj', if_neg e]
      rfl)
  rw [hlen] at h
  exact h

/-- The turned byte is another one. -/
theorem byte_other (x : UInt8) (c : Int) (h0 : 0 < c) (h1 : c < 256) : byt ((x.toNat + c) % 256) ≠ x := by
  intro e
  have h := byt_nat (((x.toNat : Int) + c) % 256) (by omega) (by omega)
  rw [e] at h
  have := x.toNat_lt
  omega
end Go.Proofs.Ytkhjmfngeidlcaa
