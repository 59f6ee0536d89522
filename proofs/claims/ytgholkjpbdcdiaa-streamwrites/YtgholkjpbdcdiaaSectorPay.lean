/- What the document's own PayloadOf answers: the very bytes and the very error of 'decd'. -/
import Derived.Test.YtgholkjpbdcdiaaLow
import Derived.Test.YtgholkjpbdcdiaaSumRef
import Derived.Deep.RegionWith
import Derived.Deep.QuietTactic
import Derived.BigQuiet
namespace Go.Proofs.Ytgholkjpbdcdiaa
open Go.RowKit Go.Lib

theorem payload_size (no : Int) (s : ByteArray) (w : World) (h : s.size ≠ 30) :
    Calls Try.prog 61 #[.int .i64 no, .string s] w fun e w' => e = .returned (.tuple #[.string (str []), .int .i64 1]) ∧ Below w.heap.size w w' := by
  have h' : ((s.size : Int) == 30) = false := beq_eq_false_iff_ne.2 (by omega)
  go_enter Try.func61, Try.ntmps61
  go_wp2
  go_ret2
  exact ⟨rfl, Below.refl _ _⟩
theorem seal_test (s : ByteArray) (h : s.size = 30) : ((str (sealOf (s.extract 0 26).data.toList)).toList == (s.extract 26 30).toList) = decide (s.data.toList.drop 26 = sealOf (s.data.toList.take 26)) := by
  have e1 : (s.extract 0 26).data.toList = s.data.toList.take 26 := by rw [ext_list, cut, List.drop_zero]
  have e2 : (s.extract 26 30).data.toList = s.data.toList.drop 26 := by rw [ext_list, cut, List.take_of_length_le (by rw [ba_len]; omega)]
  rw [ByteArray.toList_eq, ByteArray.toList_eq, str_list, e1, e2, Bool.eq_iff_iff]
  simp only [beq_iff_eq, decide_eq_true_eq]
  exact eq_comm
theorem numb_ba (s : ByteArray) (h : s.size = 30) : numb s.data.toList = (256 : Int) * (s[0].toNat : Int) + (s[1].toNat : Int) := by
  rw [numb, bat_ba s 0 (by omega), bat_ba s 1 (by omega)]

set_option maxHeartbeats 1600000 in
set_option maxRecDepth 4000 in
theorem payload_sum (no : Int) (s : ByteArray) (w : World) (h : s.size = 30) (hd : s.data.toList.drop 26 ≠ sealOf (s.data.toList.take 26)) :
    Calls Try.prog 61 #[.int .i64 no, .string s] w fun e w' => e = .returned (.tuple #[.string (str []), .int .i64 10]) ∧ Below w.heap.size w w' := by
  have h' : ((s.size : Int) == 30) = true := beq_iff_eq.2 (by omega)
  have ho := fun wx => ref_any (s.extract 0 26) wx (by rw [ext_size _ _ _ (by omega)]; unfold maxLen; omega)
  have ht := seal_test s h
  rw [decide_eq_false hd] at ht
  generalize str (sealOf (s.extract 0 26).data.toList) = SS at ho ht
  have HO := hid ho
  clear ho hd
  go_enter Try.func61, Try.ntmps61
  go_wp2_with fail
  go_region_with (go_at_call 69; refine (HO.out _).mono ?_; rintro _ _ ⟨rfl, hb⟩)
  all_goals go_wp2
  all_goals go_ret2
  all_goals exact ⟨rfl, ((Below.refl _ _).drew).trans hb⟩

set_option maxHeartbeats 1600000 in
set_option maxRecDepth 4000 in
theorem payload_form (no : Int) (s : ByteArray) (w : World) (h : s.size = 30) (hd : s.data.toList.drop 26 = sealOf (s.data.toList.take 26)) (hn : numb s.data.toList ≠ no) :
    Calls Try.prog 61 #[.int .i64 no, .string s] w fun e w' => e = .returned (.tuple #[.string (str []), .int .i64 4]) ∧ Below w.heap.size w w' := by
  have h' : ((s.size : Int) == 30) = true := beq_iff_eq.2 (by omega)
  have ho := fun wx => ref_any (s.extract 0 26) wx (by rw [ext_size _ _ _ (by omega)]; unfold maxLen; omega)
  have ht := seal_test s h
  rw [decide_eq_true hd] at ht
  generalize str (sealOf (s.extract 0 26).data.toList) = SS at ho ht
  rw [numb_ba s h] at hn
  have b0 := s[0].toNat_lt
  have b1 := s[1].toNat_lt
  have u1 : IntKind.i64.wrap (s[0].toNat : Int) = (s[0].toNat : Int) := IntWalk.i64_in _ (by omega)
  have u2 : IntKind.i64.wrap (s[1].toNat : Int) = (s[1].toNat : Int) := IntWalk.i64_in _ (by omega)
  have u3 : IntKind.i64.wrap ((256 : Int) * (s[0].toNat : Int)) = (256 : Int) * (s[0].toNat : Int) := IntWalk.i64_in _ (by omega)
  have u4 : IntKind.i64.wrap ((256 : Int) * (s[0].toNat : Int) + (s[1].toNat : Int)) = (256 : Int) * (s[0].toNat : Int) + (s[1].toNat : Int) := IntWalk.i64_in _ (by omega)
  have HO := hid ho
  have hx : ((256 : Int) * (s[0].toNat : Int) + (s[1].toNat : Int) != no) = true := by simpa using hn
  clear ho hd hn
  go_enter Try.func61, Try.ntmps61
  go_wp2_with fail
  go_region_with (go_at_call 69; refine (HO.out _).mono ?_; rintro _ _ ⟨rfl, hb⟩)
  all_goals go_wp2_with fail
  all_goals go_quiet (fail)
  all_goals go_wp2
  all_goals go_ret2
  all_goals exact ⟨rfl, below_drewN (((Below.refl _ _).drew).trans hb) _⟩
set_option maxHeartbeats 1600000 in
set_option maxRecDepth 4000 in
theorem payload_ok (no : Int) (s : ByteArray) (w : World) (h : s.size = 30) (hd : s.data.toList.drop 26 = sealOf (s.data.toList.take 26)) (hn : numb s.data.toList = no) :
    Calls Try.prog 61 #[.int .i64 no, .string s] w fun e w' => e = .returned (.tuple #[.string (str (cut s.data.toList 2 26)), .int .i64 0]) ∧ Below w.heap.size w w' := by
  rw [← ext_str]
  have h' : ((s.size : Int) == 30) = true := beq_iff_eq.2 (by omega)
  have ho := fun wx => ref_any (s.extract 0 26) wx (by rw [ext_size _ _ _ (by omega)]; unfold maxLen; omega)
  have ht := seal_test s h
  rw [decide_eq_true hd] at ht
  generalize str (sealOf (s.extract 0 26).data.toList) = SS at ho ht
  rw [numb_ba s h] at hn
  have b0 := s[0].toNat_lt
  have b1 := s[1].toNat_lt
  have u1 : IntKind.i64.wrap (s[0].toNat : Int) = (s[0].toNat : Int) := IntWalk.i64_in _ (by omega)
  have u2 : IntKind.i64.wrap (s[1].toNat : Int) = (s[1].toNat : Int) := IntWalk.i64_in _ (by omega)
  have u3 : IntKind.i64.wrap ((256 : Int) * (s[0].toNat : Int)) = (256 : Int) * (s[0].toNat : Int) := IntWalk.i64_in _ (by omega)
  have u4 : IntKind.i64.wrap ((256 : Int) * (s[0].toNat : Int) + (s[1].toNat : Int)) = (256 : Int) * (s[0].toNat : Int) + (s[1].toNat : Int) := IntWalk.i64_in _ (by omega)
  have HO := hid ho
  have hx : ((256 : Int) * (s[0].toNat : Int) + (s[1].toNat : Int) != no) = false := by simpa using hn
  clear ho hd hn
  go_enter Try.func61, Try.ntmps61
  go_wp2_with fail
  go_region_with (go_at_call 69; refine (HO.out _).mono ?_; rintro _ _ ⟨rfl, hb⟩)
  all_goals go_wp2_with fail
  all_goals go_quiet (fail)
  all_goals go_wp2
  all_goals go_ret2
  all_goals exact ⟨rfl, below_drewN (((Below.refl _ _).drew).trans hb) _⟩

theorem payload_any (no : Int) (s : ByteArray) (w : World) :
    Calls Try.prog 61 #[.int .i64 no, .string s] w fun e w' => e = .returned (.tuple #[.string (str (decd no s.data.toList).1), .int .i64 (decd no s.data.toList).2]) ∧ Below w.heap.size w w' := by
  unfold decd
  by_cases h : s.data.toList.length ≠ 30
  · rw [if_pos h]
    exact payload_size no s w (by rw [ba_len] at h; exact h)
  · rw [if_neg h]
    have h' : s.size = 30 := by rw [ba_len] at h; omega
    by_cases h2 : s.data.toList.drop 26 ≠ sealOf (s.data.toList.take 26)
    · rw [if_pos h2]
      exact payload_sum no s w h' h2
    · rw [if_neg h2]
      have h2' : s.data.toList.drop 26 = sealOf (s.data.toList.take 26) := Decidable.not_not.1 h2
      by_cases h3 : numb s.data.toList ≠ no
      · rw [if_pos h3]
        exact payload_form no s w h' h2' h3
      · rw [if_neg h3]
        exact payload_ok no s w h' h2' (Decidable.not_not.1 h3)
end Go.Proofs.Ytgholkjpbdcdiaa
