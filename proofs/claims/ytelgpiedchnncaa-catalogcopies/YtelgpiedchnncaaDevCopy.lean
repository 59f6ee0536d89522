/- What the program's device.Copy answers: the same device in memory of its own. -/
import Derived.Test.YtelgpiedchnncaaDevMem
import Derived.Test.YtelgpiedchnncaaSectorDec
import Derived.Handy
import Derived.Deep.RegionWith
import Derived.Deep.DeepCutAuto
import Derived.Laws.CopyRow
import Derived.Laws.IdiomCopy
namespace Go.Proofs.Ytelgpiedchnncaa
open Go.RowKit Go.Lib

theorem info_str : (Try.prog.info? 9).map (fun i => (i.zero, i.size, i.bytes)) = some (some (.string ⟨#[]⟩), 1, 16) := by kernel_rfl
theorem info_bool : (Try.prog.info? 4).map (fun i => (i.zero, i.size, i.bytes)) = some (some (.bool false), 1, 1) := by kernel_rfl

/-- Nothing but one block is another one. -/
structure But (b : Nat) (w w' : World) : Prop where
  os : w'.os = w.os
  tape : w'.tape = w.tape
  output : w'.output = w.output
  size : w'.heap.size = w.heap.size
  block : ∀ k, k ≠ b → w'.heap[k]? = w.heap[k]?
theorem But.below {b B : Nat} {w w' : World} (h : But b w w') (hb : B ≤ b) : Below B w w' := ⟨h.os, h.tape, h.output, by rw [h.size]; exact Nat.le_refl _, fun k hk => h.block k (by omega)⟩

theorem made_one (z : Value) (n : Nat) : madeCells #[z] n = (List.replicate n z).toArray := by
  apply Array.ext'
  apply List.ext_getElem
  · simp [madeCells]
  · intro i h1 h2
    simp [madeCells, Nat.mod_one]

section
variable {w0 w w' : World} {B p b b' n m : Nat} {d1 d2 : Value} {V V' : List Value}
end

/-- How far the texts are copied. -/
def half (S : List ByteArray) (k : Nat) : List Value := (S.take k).map .string ++ List.replicate (S.length - k) (.string ⟨#[]⟩)
theorem half_len (S : List ByteArray) (k : Nat) (h : k ≤ S.length) : (half S k).length = S.length := by simp [half]; omega
theorem half_step (S : List ByteArray) (k : Nat) (h : k < S.length) : (half S k).set k (.string S[k]) = half S (k + 1) := by
  unfold half
  rw [List.set_append_right _ _ (by simp; omega), show S.length - k = (S.length - (k + 1)) + 1 by omega, List.replicate_succ]
  have e : k - (List.map Value.string (List.take k S)).length = 0 := by simp; omega
  rw [e, List.set_cons_zero, List.take_succ_eq_append_getElem h, List.map_append, List.append_assoc]
  rfl
theorem half_at (S : List ByteArray) (k : Nat) (h : k < S.length) : ∃ v, (half S k)[k]? = some v := by
  exact ⟨_, List.getElem?_eq_getElem (by rw [half_len S k (by omega)]; exact h)⟩
theorem half_all (S : List ByteArray) : half S S.length = S.map .string := by simp [half]
theorem half_none (S : List ByteArray) : half S 0 = List.replicate S.length (.string ⟨#[]⟩) := by simp [half]

theorem three (W : World) (B : Nat) (hs : W.heap.size = B + 2) (o1 o2 o3 : Obj) : (((W.alloc o1).alloc o2).alloc o3).drew.heap[B + 1 + 1]? = some o1 ∧ (((W.alloc o1).alloc o2).alloc o3).drew.heap[B + 1 + 1 + 1]? = some o2 ∧ (((W.alloc o1).alloc o2).alloc o3).drew.heap[B + 1 + 1 + 1 + 1]? = some o3 ∧ Below (B + 2) W (((W.alloc o1).alloc o2).alloc o3).drew := by
  have z1 : (W.alloc o1).heap.size = B + 3 := by simp [hs]
  have z2 : ((W.alloc o1).alloc o2).heap.size = B + 4 := by simp [hs]
  show (((W.alloc o1).alloc o2).alloc o3).heap[B + 2]? = some o1 ∧ (((W.alloc o1).alloc o2).alloc o3).heap[B + 3]? = some o2 ∧ (((W.alloc o1).alloc o2).alloc o3).heap[B + 4]? = some o3 ∧ _
  refine ⟨?_, ?_, ?_, ((((Below.refl _ W).alloc (by omega) o1).alloc (by omega) o2).alloc (by omega) o3).drew⟩
  · rw [Below.heap_alloc _ _ _ (by omega), Below.heap_alloc _ _ _ (by omega), ← hs]; exact heap_alloc_new W _
  · rw [Below.heap_alloc _ _ _ (by omega), ← z1]; exact heap_alloc_new _ _
  · rw [← z2]; exact heap_alloc_new _ _

end Go.Proofs.Ytelgpiedchnncaa
