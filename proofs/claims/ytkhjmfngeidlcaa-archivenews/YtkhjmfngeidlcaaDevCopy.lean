/- What the program's device.Copy answers: the same device in memory of its own. -/
import Derived.Test.YtkhjmfngeidlcaaDevMem
import Derived.Test.YtkhjmfngeidlcaaSectorDec
import Derived.Handy
import Derived.Deep.RegionWith
import Derived.Deep.DeepCutAuto
import Derived.Laws.CopyRow
import Derived.Laws.IdiomCopy
namespace Go.Proofs.Ytkhjmfngeidlcaa
open Go.RowKit Go.Lib

theorem info_str : (Try.prog.info? 9).map (fun i => (i.zero, i.size, i.bytes)) = some (some (.string ⟨#[]⟩), 1, 16) := by kernel_rfl
theorem info_bool : (Try.prog.info? 4).map (fun i => (i.zero, i.size, i.bytes)) = some (some (.bool false), 1, 1) := by kernel_rfl

/-- Nothing but one block is another one. -/
structure But (b : Nat) (w w' : World) : Prop where
  os : w'.os = w.os
  tape : w'.tape = w.tape
  output : w'.output = w.output
  size : w'.heap.size = w.heap.size
  block : ∀ k, k ≠ b → w'.heap[k]? = w.heap[k]?
theorem But.below {b B : Nat} {w w' : World} (h : But b w w') (hb : B ≤ b) : Below B w w' := ⟨h.os, h.tape, h.output, by rw [h.size]; exact Nat.le_refl _, fun k hk => h.block k (by omega)⟩

theorem made_one (z : Value) (n : Nat) : madeCells #[z] n = (List.replicate n z).toArray := by
  apply Array.ext'
  apply List.ext_getElem
  · simp [madeCells]
  · intro i h1 h2
    simp [madeCells, Nat.mod_one]

theorem copy_all (w : World) (b m c' ty : Nat) (a' : Option Addr) (V cs : List Value) (ho : Own w b 4 V) (hV : V.length = m) (hc : cs.length = m) (hr : RowAt w a' cs) (h1 : ∀ v ∈ cs, v.oneCell' = true) :
    ∃ w', (Builtin.copy_ #[35, 35] ty #[.slice (some ⟨b, 0, none⟩) m m, .slice a' m c']).run Try.prog w = .ok (goInt m) w' ∧ Own w' b 4 cs ∧ But b w w' := by
  by_cases h0 : m = 0
  · subst h0
    obtain rfl : cs = [] := List.eq_nil_of_length_eq_zero hc
    obtain rfl : V = [] := List.eq_nil_of_length_eq_zero hV
    exact ⟨w, run_copy_none w _ _ _ 4 _ _ _ _ _ _ Try.underlying35 (by kernel_rfl) rfl, ho, ⟨rfl, rfl, rfl, rfl, fun _ _ => rfl⟩⟩
  · obtain ⟨p, o, rfl, hp, _⟩ := hr 0 (cs[0]'(by omega)) (List.getElem?_eq_getElem (by omega))
    obtain ⟨R, hR⟩ := ho
    have := run_copy_row (P := Try.prog) w 35 35 ty 4 b 0 m m ⟨p, o, none⟩ m c' (V ++ R).toArray 4 cs Try.underlying35 (by kernel_rfl) hR (by rw [hc]; exact (Nat.min_self m).symm) (fun j v hj => by
      obtain ⟨p2, o2, e, _, hcell⟩ := hr j v hj
      cases e
      rw [Addr.add_lit]; exact hcell) (by simp; omega) h1
    rw [hc] at this
    refine ⟨_, this, ⟨R, ?_⟩, ⟨rfl, rfl, rfl, by simp [World.setRow], fun k hk => setRow_other _ _ _ _ hk⟩⟩
    rw [setRow_heap w b _ _ 4 (0, 0) hR]
    simp [← hV]

/-- While it copies: the boxes of both devices, the two new rows. -/
structure CopyI (w0 : World) (B : Nat) (d1 d2 : Value) (p b b' n m : Nat) (V V' : List Value) (w : World) : Prop where
  box : Own w B 37 [d1, d2]
  res : Own w (B + 1) 37 [.slice none 0 0, .slice none 0 0]
  cbox : Own w p 37 [.slice (some ⟨b, 0, none⟩) n n, .slice (some ⟨b', 0, none⟩) m m]
  s : Own w b 9 V
  l : Own w b' 4 V'
  ge : B + 2 ≤ p ∧ B + 2 ≤ b ∧ B + 2 ≤ b'
  ne : p ≠ b ∧ p ≠ b' ∧ b ≠ b'
  below : Below B w0 w
section
variable {w0 w w' : World} {B p b b' n m : Nat} {d1 d2 : Value} {V V' : List Value}
theorem CopyI.drew (h : CopyI w0 B d1 d2 p b b' n m V V' w) : CopyI w0 B d1 d2 p b b' n m V V' w.drew := ⟨h.box.drew, h.res.drew, h.cbox.drew, h.s.drew, h.l.drew, h.ge, h.ne, h.below.drew⟩
theorem CopyI.to (h : CopyI w0 B d1 d2 p b b' n m V V' w) (g : Below w.heap.size w w') : CopyI w0 B d1 d2 p b b' n m V V' w' :=
  ⟨h.box.below' g, h.res.below' g, h.cbox.below' g, h.s.below' g, h.l.below' g, h.ge, h.ne, h.below.trans (g.mono (Nat.le_of_lt h.box.lt))⟩
theorem CopyI.step (h : CopyI w0 B d1 d2 p b b' n m V V' w) {k : Nat} (hk : k < V.length) (v : Value) : CopyI w0 B d1 d2 p b b' n m (V.set k v) V' (w.setCell ⟨b, k, none⟩ v) := by
  obtain ⟨g1, g2, g3⟩ := h.ge
  obtain ⟨n1, n2, n3⟩ := h.ne
  exact ⟨h.box.other (by show B ≠ b; omega) v, h.res.other (by show B + 1 ≠ b; omega) v, h.cbox.other (by show p ≠ b; omega) v, h.s.set hk v, h.l.other (by show b' ≠ b; omega) v, h.ge, h.ne, h.below.setCell (by show B ≤ b; omega) v⟩
theorem CopyI.but (h : CopyI w0 B d1 d2 p b b' n m V V' w) {U : List Value} (ho : Own w' b' 4 U) (hb : But b' w w') : CopyI w0 B d1 d2 p b b' n m V U w' := by
  obtain ⟨g1, g2, g3⟩ := h.ge
  obtain ⟨n1, n2, n3⟩ := h.ne
  exact ⟨h.box.of_block (hb.block _ (by omega)), h.res.of_block (hb.block _ (by omega)), h.cbox.of_block (hb.block _ (by omega)), h.s.of_block (hb.block _ (by omega)), ho, h.ge, h.ne, h.below.trans (hb.below (by omega))⟩
end

/-- How far the texts are copied. -/
def half (S : List ByteArray) (k : Nat) : List Value := (S.take k).map .string ++ List.replicate (S.length - k) (.string ⟨#[]⟩)
theorem half_len (S : List ByteArray) (k : Nat) (h : k ≤ S.length) : (half S k).length = S.length := by simp [half]; omega
theorem half_step (S : List ByteArray) (k : Nat) (h : k < S.length) : (half S k).set k (.string S[k]) = half S (k + 1) := by
  unfold half
  rw [List.set_append_right _ _ (by simp; omega), show S.length - k = (S.length - (k + 1)) + 1 by omega, List.replicate_succ]
  have e : k - (List.map Value.string (List.take k S)).length = 0 := by simp; omega
  rw [e, List.set_cons_zero, List.take_succ_eq_append_getElem h, List.map_append, List.append_assoc]
  rfl
theorem half_at (S : List ByteArray) (k : Nat) (h : k < S.length) : ∃ v, (half S k)[k]? = some v := by
  exact ⟨_, List.getElem?_eq_getElem (by rw [half_len S k (by omega)]; exact h)⟩
theorem half_all (S : List ByteArray) : half S S.length = S.map .string := by simp [half]
theorem half_none (S : List ByteArray) : half S 0 = List.replicate S.length (.string ⟨#[]⟩) := by simp [half]

/-- In whatever order the three blocks are laid. -/
theorem copyI_start {W : World} {w0 : World} {B n m p b b' : Nat} {d1 d2 : Value} {S : List ByteArray} (hn : n = S.length) (hB : Below B w0 W) (_hs : W.heap.size = B + 2) (h1 : Own W B 37 [d1, d2]) (h2 : Own W (B + 1) 37 [.slice none 0 0, .slice none 0 0])
    {w' : World} (hb : Below (B + 2) W w') (hg : B + 2 ≤ p ∧ B + 2 ≤ b ∧ B + 2 ≤ b') (hne : p ≠ b ∧ p ≠ b' ∧ b ≠ b')
    (hp : w'.heap[p]? = some (.cells #[.slice (some ⟨b, 0, none⟩) n n, .slice (some ⟨b', 0, none⟩) m m] 37 (0, 0)))
    (hbs : w'.heap[b]? = some (.cells (Array.replicate n (.string ⟨#[]⟩)) 9 (0, 0))) (hbl : w'.heap[b']? = some (.cells (Array.replicate m (.bool false)) 4 (0, 0))) :
    CopyI w0 B d1 d2 p b b' n m (half S 0) (List.replicate m (.bool false)) w' := by
  refine ⟨h1.below hb (by omega), h2.below hb (by omega), ⟨[], hp⟩, ⟨[], ?_⟩, ⟨[], ?_⟩, hg, hne, hB.trans (hb.mono (by omega))⟩
  · rw [half_none, ← hn, List.append_nil, List.toArray_replicate]; exact hbs
  · rw [List.append_nil, List.toArray_replicate]; exact hbl
theorem three (W : World) (B : Nat) (hs : W.heap.size = B + 2) (o1 o2 o3 : Obj) : (((W.alloc o1).alloc o2).alloc o3).drew.heap[B + 1 + 1]? = some o1 ∧ (((W.alloc o1).alloc o2).alloc o3).drew.heap[B + 1 + 1 + 1]? = some o2 ∧ (((W.alloc o1).alloc o2).alloc o3).drew.heap[B + 1 + 1 + 1 + 1]? = some o3 ∧ Below (B + 2) W (((W.alloc o1).alloc o2).alloc o3).drew := by
  have z1 : (W.alloc o1).heap.size = B + 3 := by simp [hs]
  have z2 : ((W.alloc o1).alloc o2).heap.size = B + 4 := by simp [hs]
  show (((W.alloc o1).alloc o2).alloc o3).heap[B + 2]? = some o1 ∧ (((W.alloc o1).alloc o2).alloc o3).heap[B + 3]? = some o2 ∧ (((W.alloc o1).alloc o2).alloc o3).heap[B + 4]? = some o3 ∧ _
  refine ⟨?_, ?_, ?_, ((((Below.refl _ W).alloc (by omega) o1).alloc (by omega) o2).alloc (by omega) o3).drew⟩
  · rw [Below.heap_alloc _ _ _ (by omega), Below.heap_alloc _ _ _ (by omega), ← hs]; exact heap_alloc_new W _
  · rw [Below.heap_alloc _ _ _ (by omega), ← z1]; exact heap_alloc_new _ _
  · rw [← z2]; exact heap_alloc_new _ _

end Go.Proofs.Ytkhjmfngeidlcaa
