/- What the program's array.difference answers: where two payloads differ; behind the second one the first one's bytes. -/
import Derived.Test.YtkhjmfngeidlcaaLow
import Derived.Test.YtkhjmfngeidlcaaTurned
import Derived.Test.YtkhjmfngeidlcaaBytes
import Derived.Laws.BitsAllLaws
namespace Go.Proofs.Ytkhjmfngeidlcaa
open Go.RowKit Go.Lib

def diffs (s t : List UInt8) : List UInt8 := xors s t ++ s.drop t.length
theorem diffs_nil (s : List UInt8) : diffs s [] = s := by simp [diffs, xors]
theorem diffs_len (s t : List UInt8) (h : t.length ≤ s.length) : (diffs s t).length = s.length := by simp [diffs, xors]; omega
theorem diffs_at (s t : List UInt8) (k : Nat) (hk : t.length ≤ k) (hs : k < s.length) (h : t.length ≤ s.length) : (diffs s t)[k]'(by rw [diffs_len s t h]; exact hs) = s[k] := by
  unfold diffs
  rw [List.getElem_append_right (by simp [xors]; omega)]
  simp only [xors, List.length_zipWith, List.getElem_drop]
  congr 1
  omega
theorem diffs_step (s t : List UInt8) (k : Nat) (hk : k < t.length) (hs : t.length ≤ s.length) : (diffs s (t.take k)).set k (s[k] ^^^ t[k]) = diffs s (t.take (k + 1)) := by
  have e0 : ∀ m, m ≤ t.length → xors s (t.take m) = xors (s.take m) (t.take m) := by
    intro m hm
    unfold xors
    rw [List.zipWith_eq_zipWith_take_min]
    simp
    rw [Nat.min_eq_left hm, Nat.min_eq_right (by omega), List.take_take, Nat.min_self]
  unfold diffs
  rw [e0 k (by omega), e0 (k + 1) (by omega), xors_snoc s t k (by omega) hk]
  rw [List.set_append_right _ _ (by simp [xors]; omega)]
  have e1 : k - (xors (s.take k) (t.take k)).length = 0 := by simp [xors]; omega
  have e2 : (t.take k).length = k := by simp; omega
  have e3 : (t.take (k + 1)).length = k + 1 := by simp; omega
  rw [e1, e2, e3, List.drop_eq_getElem_cons (i := k) (by omega), List.set_cons_zero, List.append_assoc]
  rfl
theorem diffs_same (s t : List UInt8) (h : s.length = t.length) : diffs s t = xors s t := by
  unfold diffs
  rw [← h, List.drop_length, List.append_nil]

/-- These bytes lie in a block, none of them frozen. -/
structure BytesAt (w : World) (b : Nat) (l : List UInt8) : Prop where
  at_ : ∀ j (hj : j < l.length), w.cell? ⟨b, j, none⟩ = some (.int .u8 (l[j].toNat : Int)) ∧ w.frozen? ⟨b, j, none⟩ = false
theorem BytesAt.drew {w : World} {b : Nat} {l : List UInt8} (h : BytesAt w b l) : BytesAt w.drew b l := ⟨h.at_⟩
theorem BytesAt.set {w : World} {b : Nat} {l : List UInt8} (h : BytesAt w b l) (k : Nat) (hk : k < l.length) (v : UInt8) : BytesAt (w.setCell ⟨b, k, none⟩ (.int .u8 (v.toNat : Int))) b (l.set k v) := by
  refine ⟨fun j hj => ⟨?_, ?_⟩⟩
  · rw [List.getElem_set]
    by_cases e : k = j
    · subst e
      rw [World.cell?_setCell_same _ _ _ (h.at_ k hk).1, if_pos rfl]
    · rw [World.cell?_setCell_other _ _ _ _ (fun x => e (congrArg Addr.off x)), if_neg e]
      exact (h.at_ j (by simpa using hj)).1
  · rw [World.frozen?_setCell]
    exact (h.at_ j (by simpa using hj)).2
theorem bytesAt_made (w : World) (s : ByteArray) (C : Array Value) (hsz : s.size ≤ C.size) (hcell : ∀ j (hj : j < s.size), C[j]? = some (.int .u8 (s[j].toNat : Int))) : BytesAt (w.alloc (.cells C 5 (C.size, C.size + 1))) w.heap.size s.data.toList := by
  refine ⟨fun j hj => ⟨?_, ?_⟩⟩
  · rw [World.cell?_alloc_mark]
    exact hcell j (by rw [ba_len] at hj; exact hj)
  · rw [ba_len] at hj
    rw [World.frozen?_alloc_mark]; simp; omega
theorem bytesAt_back {w : World} {b cap n : Nat} {l : List UInt8} (h : BytesAt w b l) (hn : n = l.length) : (convert 52 9 (.slice (some ⟨b, 0, none⟩) n cap)).run Try.prog w = .ok (.string (str l)) w := by
  have h' := run_convert_bytes_back (P := Try.prog) w 52 9 5 ⟨b, 0, none⟩ cap l Try.underlying52 Try.underlying5 Try.underlying9 (by
    intro j hj
    rw [Addr.add_lit, Nat.zero_add]
    exact (h.at_ j hj).1)
  rw [hn]
  exact h'

end Go.Proofs.Ytkhjmfngeidlcaa
