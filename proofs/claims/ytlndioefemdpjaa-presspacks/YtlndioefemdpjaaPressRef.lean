/- What the document's own packing answers: PackedOf. -/
import Derived.Test.YtlndioefemdpjaaPressPlain
import Derived.WalkSmall
namespace Go.Proofs.Ytlndioefemdpjaa
open Go.RowKit

set_option maxHeartbeats 400000 in
theorem packedof_big (s : ByteArray) (w : World) (h : 600 < s.size) :
    Calls Try.prog 13 #[.string s] w fun e w' => e = .returned (.tuple #[.string (str []), .int .i64 1]) ∧ Below w.heap.size w w' := by
  have h' : (600 : Int) < s.size := by omega
  go_enter Try.func13, Try.ntmps13
  go_wp2_with fail
  go_ret2
  exact ⟨rfl, Below.refl _ _⟩

set_option maxHeartbeats 1600000 in
set_option maxRecDepth 4000 in
theorem packedof_any (s : ByteArray) (w : World) (h : s.size ≤ 600) :
    Calls Try.prog 13 #[.string s] w fun e w' => e = .returned (.tuple #[.string (str (packed s.data.toList)), .int .i64 0]) ∧ Below w.heap.size w w' := by
  have h' : ¬ (600 : Int) < s.size := by omega
  have hlen := ba_len s
  have HL := hid hlen
  have hp : (packed s.data.toList).length ≤ 1300 := by have := packed_length s.data.toList; omega
  have HP := hid hp
  clear hlen hp
  go_enter Try.func13, Try.ntmps13
  go_wp2_with fail
  go_loopw [4, 5, 6] (fun o f i wr => ∃ (O : List UInt8) (F I : Nat), o = .string (str O) ∧ f = .int .i64 F ∧ i = .int .i64 I ∧ F ≤ I ∧ I ≤ s.size ∧ Hid (O ++ rest s.data.toList F I = packed s.data.toList) ∧ Below w.heap.size w wr) (fun _ _ i _ => s.size - (intOf i).toNat)
  case atStart => exact ⟨[], 0, 0, rfl, rfl, rfl, Nat.le_refl _, Nat.zero_le _, rfl, Below.refl _ _⟩
  case round =>
    obtain ⟨O, F, I, rfl, rfl, rfl, hFI, hIs, HR, hB⟩ := hrel
    by_cases hlt : I < s.size
    · go_wp2_with fail
      go_loopw [7, 8, 9] (fun a b d wx => ∃ m q : Nat, d = .int .i64 (m + 1 : Nat) ∧ m ≤ min I 255 ∧ wx = wr.drewN q ∧ a = .int .i64 (bestGo s.data.toList I m).1 ∧ b = .int .i64 (bestGo s.data.toList I m).2) (fun _ _ d _ => I + 1 - (intOf d).toNat)
      case atStart => exact ⟨0, 0, rfl, by omega, rfl, rfl, rfl⟩
      case round =>
        obtain ⟨m, q, rfl, hmi, rfl, rfl, rfl⟩ := hrel
        have e : ((m + 1 : Nat) : Int) = (m : Int) + 1 := by omega
        by_cases hm : m < min I 255
        · have G := bestGo.eq_2 s.data.toList I m
          have HG := hid G
          have hc := fun wx => alike_any s (I - (m + 1)) I wx (by unfold maxLen; omega) (by omega) (by omega)
          generalize alike s.data.toList (I - (m + 1)) I = n at hc HG
          rw [show ((I - (m + 1) : Nat) : Int) = (I : Int) - (m + 1) by omega] at hc
          rw [e]
          have HC := hid hc
          have g1 : (m : Int) + 1 ≤ 255 := by omega
          have g2 : (m : Int) + 1 ≤ I := by omega
          clear hc e G
          by_cases hlt2 : (bestGo s.data.toList I m).1 < n
          · have gl : ((bestGo s.data.toList I m).1 : Int) < n := by omega
            have E : Hid (bestGo s.data.toList I (m + 1) = (n, m + 1)) := by show _ = _; rw [HG.out, if_pos hlt2]
            clear hlt2 HG
            go_wp2_with fail
            refine (HC.out _).mono ?_
            rintro _ _ ⟨rfl, q', rfl⟩
            clear HC
            go_wp2
            go_roundw
            case rel => exact ⟨m + 1, _, by go_num, by omega, rfl, by rw [E.out], by rw [E.out]; go_num⟩
            case measure => simp [intOf]; omega
          · have gl : ¬ ((bestGo s.data.toList I m).1 : Int) < n := by omega
            have E : Hid (bestGo s.data.toList I (m + 1) = bestGo s.data.toList I m) := by show _ = _; rw [HG.out, if_neg hlt2]
            clear hlt2 HG
            go_wp2_with fail
            refine (HC.out _).mono ?_
            rintro _ _ ⟨rfl, q', rfl⟩
            clear HC
            go_wp2
            go_roundw
            case rel => exact ⟨m + 1, _, by go_num, by omega, rfl, by rw [E.out], by rw [E.out]⟩
            case measure => simp [intOf]; omega
        · have eb : bestGo s.data.toList I m = best s.data.toList I := by rw [best, show min I 255 = m by omega]
          have hbd := best_bd s.data.toList I (by rw [ba_len]; omega)
          rw [ba_len] at hbd
          have hB' := below_drewN hB q
          rw [eb, e]
          generalize wr.drewN q = wq at hB'
          clear eb e hB
          by_cases h4 : (best s.data.toList I).1 < 4
          · have R := hid (rel_skip HR.out (by rw [ba_len]; exact hlt) h4)
            generalize (best s.data.toList I) = bb at h4
            clear hbd
            have h4' : (bb.1 : Int) < 4 := by omega
            by_cases g : (m : Int) + 1 ≤ 255
            · have g2 : ¬ (m : Int) + 1 ≤ I := by omega
              clear hm hmi
              go_wp2
              go_roundw
              case rel => exact ⟨O, F, I + 1, rfl, rfl, by go_num, by omega, by omega, R, hB'⟩
              case measure => simp [intOf]; omega
            · clear hm hmi
              go_wp2
              go_roundw
              case rel => exact ⟨O, F, I + 1, rfl, rfl, by go_num, by omega, by omega, R, hB'⟩
              case measure => simp [intOf]; omega
          · have R := hid (rel_take HR.out (by rw [ba_len]; exact hlt) (by omega))
            have hP := HP.out
            rw [← R.out] at hP
            generalize (best s.data.toList I) = bb at h4 hbd R hP
            obtain ⟨b1, b2, b3, b4, b5⟩ := hbd
            clear b5 HR
            have hx := fun wx => plainly_any 600 (s.extract F I) wx (by rw [ext_size _ _ _ (by omega)]; omega) (by rw [ext_size _ _ _ (by omega)]; omega)
            rw [ext_list] at hx
            generalize plainly (cut s.data.toList F I) = pp at hx hP R
            simp only [List.length_append] at hP
            have ha1 : ∀ wx, (Op.stringOp .add (str O) (str pp)).run Try.prog wx = .ok (.string (str (O ++ pp))) wx := fun wx => by rw [← str_app]; exact run_string_add_sum wx _ _ (by rw [str_size, str_size]; omega)
            have ha2 : ∀ wx, (Op.stringOp .add (str (O ++ pp)) (str [byt (124 + bb.1), byt bb.2])).run Try.prog wx = .ok (.string (str (O ++ pp ++ [byt (124 + bb.1), byt bb.2]))) wx := fun wx => by rw [← str_app]; exact run_string_add_sum wx _ _ (by rw [str_app, str_size, str_size, List.length_append]; simp; omega)
            have hcv := conv_at2 (124 + bb.1) bb.2 (by omega) (by omega) (by omega) (by omega)
            have u1 : IntKind.i64.wrap (124 + (bb.1 : Int)) = 124 + bb.1 := IntWalk.i64_in _ (by omega)
            have u2 : IntKind.u8.wrap (124 + (bb.1 : Int)) = 124 + bb.1 := by rw [IntKind.wrap_u8]; omega
            have u3 : IntKind.u8.wrap (bb.2 : Int) = bb.2 := by rw [IntKind.wrap_u8]; omega
            have f1 : (F : Int) ≤ I := by omega
            have f2 : (I : Int) ≤ s.size := by omega
            have HX := hid hx
            clear hx hP
            have h4' : ¬ (bb.1 : Int) < 4 := by omega
            by_cases g : (m : Int) + 1 ≤ 255
            · have g2 : ¬ (m : Int) + 1 ≤ I := by omega
              clear hm hmi h4
              go_wp2_with fail
              go_region_with (go_at_call 21; refine (HX.out _).mono ?_; rintro _ _ ⟨rfl, hb⟩; obtain ⟨hc, hf⟩ := bcell hb)
              all_goals
                go_wp2
                go_roundw
                case rel =>
                  refine ⟨O ++ pp ++ [byt (124 + bb.1), byt bb.2], I + bb.1, I + bb.1, by rw [List.append_assoc], by go_num, by go_num, Nat.le_refl _, by omega, R, ?_⟩
                  first
                    | exact ((hB'.alloc hB'.size _).drew).trans (hb.mono (by have := hB'.size; simp; omega))
                    | exact ((hB'.drew).trans (hb.mono hB'.size)).alloc (by have := hb.size; have := hB'.size; simp at *; omega) _
                case measure => simp [intOf]; omega
            · clear hm hmi h4
              go_wp2_with fail
              go_region_with (go_at_call 21; refine (HX.out _).mono ?_; rintro _ _ ⟨rfl, hb⟩; obtain ⟨hc, hf⟩ := bcell hb)
              all_goals
                go_wp2
                go_roundw
                case rel =>
                  refine ⟨O ++ pp ++ [byt (124 + bb.1), byt bb.2], I + bb.1, I + bb.1, by rw [List.append_assoc], by go_num, by go_num, Nat.le_refl _, by omega, R, ?_⟩
                  first
                    | exact ((hB'.alloc hB'.size _).drew).trans (hb.mono (by have := hB'.size; simp; omega))
                    | exact ((hB'.drew).trans (hb.mono hB'.size)).alloc (by have := hb.size; have := hB'.size; simp at *; omega) _
                case measure => simp [intOf]; omega
    · have R := rel_end HR.out (by rw [ba_len]; omega)
      have hx := plainly_any 600 (s.extract F s.size) wr (by rw [ext_size _ _ _ (Nat.le_refl _)]; omega) (by rw [ext_size _ _ _ (Nat.le_refl _)]; omega)
      rw [ext_list] at hx
      rw [HL.out] at R
      have hP := HP.out
      rw [← R] at hP
      have R' := hid R
      generalize plainly (cut s.data.toList F s.size) = pp at hx hP R'
      have ha : ∀ wx, (Op.stringOp .add (str O) (str pp)).run Try.prog wx = .ok (.string (str O ++ str pp)) wx := fun wx => run_string_add_sum wx _ _ (by rw [str_size, str_size]; simp at hP; omega)
      have HX := hid hx
      clear hx R hP
      go_wp2_with fail
      refine HX.out.mono ?_
      rintro _ w1 ⟨rfl, hb⟩
      clear HX
      go_wp2
      go_ret2
      exact ⟨ret_si (by rw [str_app, R'.out]), hB.trans (hb.mono hB.size)⟩
end Go.Proofs.Ytlndioefemdpjaa
