/- What the program's array.difference answers: where two payloads differ; behind the second one the first one's bytes. -/
import Derived.Test.YtgholkjpbdcdiaaDoorLow
import Derived.Test.YtgholkjpbdcdiaaDoorTurned
import Derived.Test.YtgholkjpbdcdiaaDoorBytes
import Derived.Laws.BitsAllLaws
namespace Go.Proofs.YtgholkjpbdcdiaaDoor
open Go.RowKit Go.Lib

def diffs (s t : List UInt8) : List UInt8 := xors s t ++ s.drop t.length
theorem diffs_nil (s : List UInt8) : diffs s [] = s := by simp [diffs, xors]
theorem diffs_len (s t : List UInt8) (h : t.length ≤ s.length) : (diffs s t).length = s.length := by simp [diffs, xors]; omega
theorem diffs_at (s t : List UInt8) (k : Nat) (hk : t.length ≤ k) (hs : k < s.length) (h : t.length ≤ s.length) : (diffs s t)[k]'(by rw [diffs_len s t h]; exact hs) = s[k] := by
  unfold diffs
  rw [List.getElem_append_right (by simp [xors]; omega)]
  simp only [xors, List.length_zipWith, List.getElem_drop]
  congr 1
  omega
theorem diffs_step (s t : List UInt8) (k : Nat) (hk : k < t.length) (hs : t.length ≤ s.length) : (diffs s (t.take k)).set k (s[k] ^^^ t[k]) = diffs s (t.take (k + 1)) := by
  have e0 : ∀ m, m ≤ t.length → xors s (t.take m) = xors (s.take m) (t.take m) := by
    intro m hm
    unfold xors
    rw [List.zipWith_eq_zipWith_take_min]
    simp
    rw [Nat.min_eq_left hm, Nat.min_eq_right (by omega), List.take_take, Nat.min_self]
  unfold diffs
  rw [e0 k (by omega), e0 (k + 1) (by omega), xors_snoc s t k (by omega) hk]
  rw [List.set_append_right _ _ (by simp [xors]; omega)]
  have e1 : k - (xors (s.take k) (t.take k)).length = 0 := by simp [xors]; omega
  have e2 : (t.take k).length = k := by simp; omega
  have e3 : (t.take (k + 1)).length = k + 1 := by simp; omega
  rw [e1, e2, e3, List.drop_eq_getElem_cons (i := k) (by omega), List.set_cons_zero, List.append_assoc]
  rfl
theorem diffs_same (s t : List UInt8) (h : s.length = t.length) : diffs s t = xors s t := by
  unfold diffs
  rw [← h, List.drop_length, List.append_nil]

/-- These bytes lie in a block, none of them frozen. -/
structure BytesAt (w : World) (b : Nat) (l : List UInt8) : Prop where
  at_ : ∀ j (hj : j < l.length), w.cell? ⟨b, j, none⟩ = some (.int .u8 (l[j].toNat : Int)) ∧ w.frozen? ⟨b, j, none⟩ = false
theorem BytesAt.drew {w : World} {b : Nat} {l : List UInt8} (h : BytesAt w b l) : BytesAt w.drew b l := ⟨h.at_⟩
theorem BytesAt.set {w : World} {b : Nat} {l : List UInt8} (h : BytesAt w b l) (k : Nat) (hk : k < l.length) (v : UInt8) : BytesAt (w.setCell ⟨b, k, none⟩ (.int .u8 (v.toNat : Int))) b (l.set k v) := by
  refine ⟨fun j hj => ⟨?_, ?_⟩⟩
  · rw [List.getElem_set]
    by_cases e : k = j
    · subst e
      rw [World.cell?_setCell_same _ _ _ (h.at_ k hk).1, if_pos rfl]
    · rw [World.cell?_setCell_other _ _ _ _ (fun x => e (congrArg Addr.off x)), if_neg e]
      exact (h.at_ j (by simpa using hj)).1
  · rw [World.frozen?_setCell]
    exact (h.at_ j (by simpa using hj)).2
theorem bytesAt_made (w : World) (s : ByteArray) (C : Array Value) (hsz : s.size ≤ C.size) (hcell : ∀ j (hj : j < s.size), C[j]? = some (.int .u8 (s[j].toNat : Int))) : BytesAt (w.alloc (.cells C 5 (C.size, C.size + 1))) w.heap.size s.data.toList := by
  refine ⟨fun j hj => ⟨?_, ?_⟩⟩
  · rw [World.cell?_alloc_mark]
    exact hcell j (by rw [ba_len] at hj; exact hj)
  · rw [ba_len] at hj
    rw [World.frozen?_alloc_mark]; simp; omega
theorem bytesAt_back {w : World} {b cap n : Nat} {l : List UInt8} (h : BytesAt w b l) (hn : n = l.length) : (convert 48 9 (.slice (some ⟨b, 0, none⟩) n cap)).run Tryd.prog w = .ok (.string (str l)) w := by
  have h' := run_convert_bytes_back (P := Tryd.prog) w 48 9 5 ⟨b, 0, none⟩ cap l Tryd.underlying48 Tryd.underlying5 Tryd.underlying9 (by
    intro j hj
    rw [Addr.add_lit, Nat.zero_add]
    exact (h.at_ j hj).1)
  rw [hn]
  exact h'

set_option maxHeartbeats 800000 in
theorem difference_any (s t : ByteArray) (w : World) (hs : s.size ≤ 1000) (hst : t.size ≤ s.size) :
    Calls Tryd.prog 24 #[.string s, .string t] w fun e w' => e = .returned (.string (str (diffs s.data.toList t.data.toList))) ∧ Below w.heap.size w w' := by
  have hconv := run_bytes_of_string (P := Tryd.prog) w 9 48 5 s Tryd.underlying9 Tryd.underlying48 Tryd.underlying5
  generalize grownCap w s.size 0 5 = cap at hconv
  obtain ⟨C, hC, hsz, hcell⟩ := row_laid s cap
  rw [hC] at hconv
  clear hC
  have H0 := hid (And.intro (bytesAt_made w s C hsz hcell) ((Below.refl _ w).alloc (Nat.le_refl _) (.cells C 5 (C.size, C.size + 1))))
  clear hsz hcell
  go_enter Tryd.func24, Tryd.ntmps24
  go_wp2_with fail
  clear hconv
  go_loopw [11] (fun i wr => ∃ I : Nat, i = .int .i64 I ∧ I ≤ t.size ∧ Hid (BytesAt wr w.heap.size (diffs s.data.toList (t.data.toList.take I)) ∧ Below w.heap.size w wr)) (fun i _ => t.size - (intOf i).toNat)
  case atStart => exact ⟨0, rfl, Nat.zero_le _, by rw [List.take_zero, diffs_nil]; exact hid (And.intro H0.out.1.drew H0.out.2.drew)⟩
  case round =>
    obtain ⟨I, rfl, hI, HO⟩ := hrel
    clear H0
    by_cases hlt : I < t.size
    · have hlt' : (I : Int) < t.size := by omega
      have hlt2 : (I : Int) < s.size := by omega
      have bs := s[I].toNat_lt
      have bt := t[I].toNat_lt
      have ux : bits .xor .u8 (s[I].toNat : Int) (t[I].toNat : Int) = ((s[I] ^^^ t[I]).toNat : Int) := by rw [u8_xor_nat _ _ bs bt, UInt8.toNat_xor]
      have hl : t.data.toList.length ≤ s.data.toList.length := by rw [ba_len, ba_len]; exact hst
      have hl2 : (t.data.toList.take I).length ≤ s.data.toList.length := by rw [List.length_take]; omega
      have hk : I < (diffs s.data.toList (t.data.toList.take I)).length := by rw [diffs_len _ _ hl2, ba_len]; omega
      have hc := HO.out.1.at_ I hk
      rw [diffs_at _ _ I (by rw [List.length_take]; omega) (by rw [ba_len]; omega) hl2] at hc
      obtain ⟨c1, c2⟩ := hc
      change wr.cell? _ = some (.int .u8 (s[I].toNat : Int)) at c1
      have hst' := HO.out.1.drew.set I hk (s[I] ^^^ t[I])
      have hstep : (diffs s.data.toList (t.data.toList.take I)).set I (s[I] ^^^ t[I]) = diffs s.data.toList (t.data.toList.take (I + 1)) := diffs_step s.data.toList t.data.toList I (by rw [ba_len]; omega) hl
      rw [hstep] at hst'
      have HK := hid (And.intro hst' (HO.out.2.drew.setCell (p := ⟨w.heap.size, I, none⟩) (Nat.le_refl _) (.int .u8 ((s[I] ^^^ t[I]).toNat : Int))))
      clear hst' hstep hk hl hl2 HO
      generalize s[I] ^^^ t[I] = z at ux HK
      go_wp2_with fail
      go_region
      all_goals go_wp2
      all_goals go_roundw
      all_goals (first | (case rel => exact ⟨I + 1, by go_num, by omega, HK.out⟩) | skip)
      all_goals (simp [intOf]; omega)
    · obtain rfl : I = t.size := by omega
      have hnl : ¬ (t.size : Int) < t.size := by omega
      have ht : t.data.toList.take t.size = t.data.toList := by rw [← ba_len, List.take_length]
      rw [ht] at HO
      have hcv := fun cap => bytesAt_back (cap := cap) (n := s.size) HO.out.1 (by rw [diffs_len _ _ (by rw [ba_len, ba_len]; exact hst), ba_len])
      go_wp2
      go_ret
      exact ⟨rfl, HO.out.2⟩
end Go.Proofs.YtgholkjpbdcdiaaDoor
