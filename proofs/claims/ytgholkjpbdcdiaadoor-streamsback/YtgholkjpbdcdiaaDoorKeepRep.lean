/- What Go's slices.Repeat answers for one text. -/
import Derived.Test.YtgholkjpbdcdiaaDoorDevCopy
import Derived.Test.YtgholkjpbdcdiaaDoorShelf
import Derived.Deep.RegionLaw
namespace Go.Proofs.YtgholkjpbdcdiaaDoor
open Go.RowKit Go.Lib

/-- So many texts are there already. -/
def repRow (s : ByteArray) (N k : Nat) : List Value := List.replicate k (.string s) ++ List.replicate (N - k) (.string ⟨#[]⟩)
theorem repRow_len (s : ByteArray) (N k : Nat) (h : k ≤ N) : (repRow s N k).length = N := by simp [repRow]; omega
theorem repRow_all (s : ByteArray) (N : Nat) : repRow s N N = List.replicate N (.string s) := by simp [repRow]
theorem repRow_step (s : ByteArray) (N k m : Nat) : (repRow s N k).take k ++ List.replicate m (.string s) ++ (repRow s N k).drop (k + m) = repRow s N (k + m) := by
  unfold repRow
  rw [List.take_append_of_le_length (by simp), List.drop_append, List.length_replicate]
  simp only [List.take_replicate, List.drop_replicate, Nat.min_self]
  rw [show k - (k + m) = 0 by omega, show k + m - k = m by omega, show N - k - m = N - (k + m) by omega]
  simp [← List.replicate_append_replicate]

theorem rep_make (N : Nat) (hN : N ≤ 64) (w : World) : (Instr.makeSlice 26 (.int .i64 (N : Int)) (.int .i64 (N : Int))).run Tryd.prog w = .ok (.slice (some ⟨w.heap.size, 0, none⟩) N N) (w.alloc (.cells (List.replicate N (.string ⟨#[]⟩)).toArray 9)) := by
  obtain ⟨i, hi, hzz⟩ := Option.map_eq_some_iff.1 info_str
  simp only [Prod.mk.injEq] at hzz
  obtain ⟨hz, hs, hb⟩ := hzz
  have hr := run_make (P := Tryd.prog) w 26 9 i _ Tryd.underlying26 hi hz .i64 .i64 N N (by omega) (Int.le_refl _) (by rw [hb]; omega) (by omega)
  simp only [Int.toNat_natCast, hs, Nat.mul_one] at hr
  rw [hr, show (Value.string ⟨#[]⟩).cells = #[.string ⟨#[]⟩] from rfl, made_one]

set_option maxRecDepth 20000 in
/-- A copy into the row from the place k on. -/
theorem rep_copy (w : World) (g N k m sl sc ty : Nat) (a : Addr) (s : ByteArray) (hg : Own w g 9 (repRow s N k)) (hk : k ≤ N) (hm : m = Nat.min sl (N - k)) (hsrc : ∀ j, j < m → w.cell? (a.add j) = some (.string s)) :
    ∃ w', (Builtin.copy_ #[26, 26] ty #[.slice (some ⟨g, k, none⟩) (N - k) (N - k), .slice (some a) sl sc]).run Tryd.prog w = .ok (goInt m) w' ∧ Own w' g 9 (repRow s N (k + m)) ∧ But g w w' := by
  obtain ⟨R, hR⟩ := hg
  have hmle : k + m ≤ N := by rw [hm]; have : Nat.min sl (N - k) ≤ N - k := Nat.min_le_right _ _; omega
  have := run_copy_row (P := Tryd.prog) w 26 26 ty 9 g k (N - k) (N - k) a sl sc (repRow s N k ++ R).toArray 9 (List.replicate m (.string s)) Tryd.underlying26 (by kernel_rfl) hR (by rw [List.length_replicate]; exact hm) (fun j v hj => by
      rw [List.getElem?_replicate] at hj
      split at hj
      · rename_i h; cases hj; exact hsrc j h
      · cases hj) (by simp [repRow_len s N k hk]; omega) (by
      intro v hv
      rw [List.eq_of_mem_replicate hv]; rfl)
  rw [List.length_replicate] at this
  refine ⟨_, this, ⟨R, ?_⟩, ⟨rfl, rfl, rfl, by simp [World.setRow], fun k hk => setRow_other _ _ _ _ hk⟩⟩
  rw [setRow_heap w g _ _ 9 (0, 0) hR]
  congr 2
  rw [← repRow_step s N k m, List.take_append_of_le_length (by rw [repRow_len s N k hk]; exact hk), List.drop_append_of_le_length (by rw [repRow_len s N k hk]; exact hmle)]
  simp

set_option maxHeartbeats 800000 in
set_option maxRecDepth 4000 in
theorem rep_any (b c : Nat) (s : ByteArray) (N : Nat) (w : World) (h1 : 1 ≤ N) (hN : N ≤ 64) (hc : w.cell? ⟨b, 0, none⟩ = some (.string s)) (hb : b < w.heap.size) :
    Calls Tryd.prog 11 #[.slice (some ⟨b, 0, none⟩) 1 c, .int .i64 N] w fun e w' => ∃ g, e = .returned (.slice (some ⟨g, 0, none⟩) N N) ∧ w.heap.size ≤ g ∧ Own w' g 9 (List.replicate N (.string s)) ∧ Below w.heap.size w w' := by
  have CM := hid (fun wx => Tryd.bits_Mul 1 N (by omega) (by omega) wx)
  rw [show 1 * N / 18446744073709551616 = 0 by omega, show 1 * N % 18446744073709551616 = N by omega] at CM
  have mk := rep_make N hN w
  obtain ⟨W, hW⟩ : ∃ W, W = w.alloc (.cells (List.replicate N (.string ⟨#[]⟩)).toArray 9) := ⟨_, rfl⟩
  have o0 : Own W w.heap.size 9 (repRow s N 0) := by
    have : repRow s N 0 = List.replicate N (.string ⟨#[]⟩) := by simp [repRow]
    rw [this, hW]; exact Own.made _ _ _
  have hB : Below w.heap.size w W := by rw [hW]; exact (Below.refl _ w).alloc (Nat.le_refl _) _
  obtain ⟨W1, hcp, o1, b1⟩ := rep_copy W w.heap.size N 0 1 1 c 3 ⟨b, 0, none⟩ s o0 (Nat.zero_le _) (by show 1 = Nat.min 1 (N - 0); have : Nat.min 1 (N - 0) = 1 := Nat.min_eq_left (by omega); omega) (fun j hj => by
    obtain rfl : j = 0 := by omega
    exact (hB.cell (p := ⟨b, 0, none⟩) hb).trans hc)
  rw [Nat.sub_zero] at hcp
  have H1 := hid (And.intro (show Own W1 w.heap.size 9 (repRow s N 1) from o1) (hB.trans (b1.below (Nat.le_refl _))))
  rw [← hW] at mk
  have n1 : (1 : Int) ≤ N := by omega
  have n2 : (N : Int) ≤ 64 := by omega
  clear o0 o1 b1 hB hW
  go_enter Tryd.func11, Tryd.ntmps11
  go_wp2_with (go_at_call 27; refine (CM.out _).mono ?_; rintro _ w9 ⟨rfl, h9⟩; (have h8 := h9.symm); subst h8)
  clear mk hcp CM
  go_loopw [8] (fun i wr => ∃ k : Nat, 1 ≤ k ∧ k ≤ N ∧ i = .int .i64 k ∧ Hid (Own wr w.heap.size 9 (repRow s N k) ∧ Below w.heap.size w wr)) (fun i _ => N - (intOf i).toNat)
  case atStart => exact ⟨1, Nat.le_refl _, h1, rfl, H1.out⟩
  case round =>
    obtain ⟨k, hk1, hkN, rfl, HK⟩ := hrel
    clear H1
    by_cases hlt : k < N
    · have hlt' : (k : Int) < N := by omega
      obtain ⟨m, hm⟩ : ∃ m, m = Nat.min k (N - k) := ⟨_, rfl⟩
      have hm1 : 1 ≤ m := by rw [hm]; exact Nat.le_min.2 ⟨hk1, by omega⟩
      have hm2 : m ≤ N - k := by rw [hm]; exact Nat.min_le_right _ _
      have hm3 : m ≤ k := by rw [hm]; exact Nat.min_le_left _ _
      obtain ⟨W2, hcp, o2, b2⟩ := rep_copy wr.drew w.heap.size N k m k N 3 ⟨w.heap.size, 0, none⟩ s HK.out.1.drew hkN hm (fun j hj => by
        rw [Addr.add_lit, Nat.zero_add]
        exact HK.out.1.drew.cell (by unfold repRow; rw [List.getElem?_append_left (by simp; omega), List.getElem?_replicate, if_pos (by omega)]))
      have H2 := hid (And.intro o2 (HK.out.2.drew.trans (b2.below (Nat.le_refl _))))
      clear o2 b2 HK hm
      go_wp2_with fail
      go_region
      all_goals go_wp2
      all_goals go_roundw
      all_goals (first | (case rel => exact ⟨k + m, by omega, by omega, by go_num, H2.out⟩) | skip)
      all_goals (simp [intOf]; omega)
    · obtain rfl : k = N := by omega
      have hnl : ¬ (k : Int) < k := by omega
      rw [repRow_all] at HK
      go_wp2
      go_ret
      exact ⟨_, rfl, Nat.le_refl _, HK.out⟩
end Go.Proofs.YtgholkjpbdcdiaaDoor
