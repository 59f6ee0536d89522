/- What the program's Pack answers. -/
import Derived.Test.YtlndioefemdpjaaPressClosure
namespace Go.Proofs.Ytlndioefemdpjaa
open Go.RowKit Go.Lib

set_option maxHeartbeats 400000 in
theorem pack_big (s : ByteArray) (w : World) (h : 600 < s.size) :
    Calls Try.prog 12 #[.string s] w fun e w' => e = .returned (.tuple #[.string (str []), .int .i64 1]) ∧ Below w.heap.size w w' := by
  have h' : (600 : Int) < s.size := by omega
  go_enter Try.func12, Try.ntmps12
  go_wp2_with fail
  go_ret2
  exact ⟨rfl, (Below.refl _ _).alloc (Nat.le_refl _) _⟩

theorem pinv_start (s : ByteArray) (w : World) : PInv w.heap.size s (.slice none 0 0) [] 0 (((w.alloc (.cells #[.string s] 9)).alloc (.cells #[.slice none 0 0] 24)).alloc (.cells #[.int .i64 0] 3)) := by
  have z1 : (w.alloc (.cells #[.string s] 9)).heap.size = w.heap.size + 1 := by simp
  have z2 : ((w.alloc (.cells #[.string s] 9)).alloc (.cells #[.slice none 0 0] 24)).heap.size = w.heap.size + 2 := by simp
  refine ⟨?_, ?_, ?_, World.ownsRow_nil _ _ _ _⟩
  · rw [Below.heap_alloc _ _ _ (by omega), Below.heap_alloc _ _ _ (by omega)]; exact heap_alloc_new w _
  · rw [Below.heap_alloc _ _ _ (by omega), ← z1]; exact heap_alloc_new _ _
  · rw [← z2]; exact heap_alloc_new _ _

set_option maxHeartbeats 1600000 in
set_option maxRecDepth 4000 in
theorem pack_any (s : ByteArray) (w : World) (h : s.size ≤ 600) :
    Calls Try.prog 12 #[.string s] w fun e w' => e = .returned (.tuple #[.string (str (packed s.data.toList)), .int .i64 0]) ∧ Below w.heap.size w w' := by
  have h' : ¬ (600 : Int) < s.size := by omega
  have hp : (packed s.data.toList).length ≤ 1300 := by have := packed_length s.data.toList; rw [ba_len] at this; omega
  have HP := hid hp
  have hst := pinv_start s w
  have hbl : Below w.heap.size w (((w.alloc (.cells #[.string s] 9)).alloc (.cells #[.slice none 0 0] 24)).alloc (.cells #[.int .i64 0] 3)) := (((Below.refl _ _).alloc (Nat.le_refl _) _).alloc (by simp) _).alloc (by simp; omega) _
  have HS := hid (And.intro hst hbl)
  clear hp hst hbl
  go_enter Try.func12, Try.ntmps12
  go_wp2_with fail
  go_loopw [7] (fun i wr => ∃ (v : Value) (O : List UInt8) (F I : Nat), i = .int .i64 I ∧ F ≤ I ∧ I ≤ s.size ∧ PInv w.heap.size s v O F wr ∧ Below w.heap.size w wr ∧ Hid (O ++ rest s.data.toList F I = packed s.data.toList)) (fun i _ => s.size - (intOf i).toNat)
  case atStart => exact ⟨_, [], 0, 0, rfl, Nat.le_refl _, Nat.zero_le _, HS.out.1, HS.out.2, rfl⟩
  case round =>
    obtain ⟨v, O, F, I, rfl, hFI, hIs, hP, hB, HR⟩ := hrel
    clear HS
    have hO : O.length ≤ 2000 := by have := app_len HR.out; have := HP.out; omega
    have cT := cell_of_one hP.txt
    have HV := hid hP
    by_cases hlt : I < s.size
    · have hlt' : (I : Int) < s.size := by omega
      have hbd := best_bd s.data.toList I (by rw [ba_len]; omega)
      rw [ba_len] at hbd
      have hc := fun wx => longest_any s I wx (by unfold maxLen; omega) hIs
      by_cases h4 : (best s.data.toList I).1 < 4
      · have R := hid (rel_skip HR.out (by rw [ba_len]; exact hlt) h4)
        generalize best s.data.toList I = bb at h4 hc
        have h4' : (bb.1 : Int) < 4 := by omega
        have HC := hid hc
        clear hc hbd HR hP
        go_wp2_with fail
        refine (HC.out _).mono ?_
        rintro _ _ ⟨rfl, q, rfl⟩
        clear HC
        go_wp2
        go_roundw
        case rel => exact ⟨v, O, F, I + 1, by go_num, by omega, by omega, HV.out.drewN q, below_drewN hB q, R⟩
        case measure => simp [intOf]; omega
      · have R := hid (rel_take HR.out (by rw [ba_len]; exact hlt) (by omega))
        have hl2 : (O ++ plainly (cut s.data.toList F I)).length ≤ 2000 := by have := HP.out; rw [← R.out] at this; simp only [List.length_append] at this ⊢; omega
        generalize best s.data.toList I = bb at h4 hc hbd R
        obtain ⟨b1, b2, b3, b4, b5⟩ := hbd
        clear b5 HR
        have h4' : ¬ (bb.1 : Int) < 4 := by omega
        have u2 : IntKind.u8.wrap (124 + (bb.1 : Int)) = 124 + bb.1 := by rw [IntKind.wrap_u8]; omega
        have u3 : IntKind.u8.wrap (bb.2 : Int) = bb.2 := by rw [IntKind.wrap_u8]; omega
        have HC := hid hc
        clear hc hP
        go_wp2_with fail
        refine (HC.out _).mono ?_
        rintro _ _ ⟨rfl, q, rfl⟩
        clear HC
        go_wp2_with fail
        refine (closure_any w.heap.size s v O F I (wr.drewN q) h (HV.out.drewN q) hFI hIs hO).mono ?_
        rintro _ w2 ⟨rfl, hB2, v2, hP2⟩
        have hB3 := (below_drewN hB q).trans hB2
        generalize O ++ plainly (cut s.data.toList F I) = O2 at hP2 hl2 R
        clear hB2 hB HV cT
        have cT := cell_of_one hP2.txt
        have cO := cell_of_one hP2.out
        have fO := free_of_one hP2.out
        have cF := cell_of_one hP2.far
        have fF := free_of_one hP2.far
        have hP3 := hP2.alloc (.cells #[.int .u8 (124 + (bb.1 : Int)), .int .u8 (bb.2 : Int)] 5)
        have hB4 := hB3.alloc (by have := hP2.size; omega) (.cells #[.int .u8 (124 + (bb.1 : Int)), .int .u8 (bb.2 : Int)] 5)
        have hnew := new_two w2 (124 + (bb.1 : Int)) bb.2 (by omega) (by omega) (by omega) (by omega) 5
        have HH := hid (And.intro hP3 (And.intro hB4 hnew))
        clear hP3 hB4 hnew hP2 hB3
        go_wp2_with (at_builtin; (refine wpList_appendB _ rfl (.tmp 31) (.tmp 37) rfl (w.heap.size + 3) v2 O2 rfl HH.out.1.own ⟨w2.heap.size, 0, none⟩ 2 [byt (124 + (bb.1 : Int)), byt (bb.2 : Int)] rfl HH.out.2.2 (by simp) (by simp; omega) HH.out.1.size ?_; intro g5 m5 cap5 w5 hm5 hg5 hown5 hgrow5; obtain ⟨cO5, fO5⟩ := HH.out.1.later hgrow5; obtain ⟨cF5, fF5⟩ := HH.out.1.later2 hgrow5; have H5 := hid (And.intro hown5 hgrow5); clear hown5 hgrow5))
        go_roundw
        case rel =>
          have k1 := (HH.out.1.store H5.out.2 H5.out.1).go (I + bb.1)
          have k2 := (HH.out.1.below (v' := .slice (some ⟨g5, 0, none⟩) m5 cap5) HH.out.2.1 H5.out.2).setCell (p := ⟨w.heap.size + 2, 0, none⟩) (by show w.heap.size ≤ w.heap.size + 2; omega) (.int .i64 ((I + bb.1 : Nat) : Int))
          rw [Int.natCast_add] at k1 k2
          exact ⟨_, _, _, I + bb.1, by go_num, Nat.le_refl _, by omega, k1, k2, R⟩
        case measure => simp [intOf]; omega
    · obtain rfl : I = s.size := by omega
      have R := rel_end HR.out (by rw [ba_len]; omega)
      rw [ba_len] at R
      have HR' := hid R
      clear R HR hP hlt
      have hnl : ¬ (s.size : Int) < s.size := by omega
      go_wp2_with fail
      refine (closure_any w.heap.size s v O F s.size wr h HV.out hFI (Nat.le_refl _) hO).mono ?_
      rintro _ w2 ⟨rfl, hB2, v2, hP2⟩
      have cO := cell_of_one hP2.out
      have hcv := conv_own hP2.own
      have HH := hid (hB.trans hB2)
      clear cT hP2 hB hB2 HV
      go_wp2
      go_ret2
      exact ⟨ret_si (by rw [HR'.out]), HH.out⟩
end Go.Proofs.Ytlndioefemdpjaa
