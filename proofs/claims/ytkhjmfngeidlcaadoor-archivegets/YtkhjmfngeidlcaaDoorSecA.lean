/- Joined texts: SectorEnc, SectorRef, SectorPay. -/
import Derived.Test.YtkhjmfngeidlcaaDoorLow
import Derived.Test.YtkhjmfngeidlcaaDoorSumAll
import Derived.Test.YtkhjmfngeidlcaaDoorMem
import Derived.Lib.BufferWrite
import Derived.Laws.MakeOwn
import Derived.Deep.RegionWith
import Derived.Deep.QuietTactic
import Derived.BigQuiet
/- What the program's sector.Encode answers: the very bytes and the very error of 'encd'; nothing that was there is changed. -/
namespace Go.Proofs.YtkhjmfngeidlcaaDoor
open Go.RowKit Go.Lib

theorem ret_sie {a b : ByteArray} {k : IntKind} {n m : Int} (h : a = b) (h' : n = m) : Ending.returned (.tuple #[.string a, .int k n]) = .returned (.tuple #[.string b, .int k m]) := by rw [h, h']

/-- A row of 0s, as 'make' lays it. -/
theorem made_u8 (n : Nat) : (madeCells (Value.int .u8 0).cells (n * 1)).toList = List.replicate n (.int .u8 0) := by
  apply List.ext_getElem
  · simp [madeCells]
  · intro i h1 h2
    simp [madeCells, Value.cells, Nat.mod_one]
theorem run_make_u8 (w : World) (n : Nat) (hn : n ≤ 281474976710656) : ∃ M : Array Value, M.toList = List.replicate n (.int .u8 0) ∧
    (Instr.makeSlice 53 (.int .i64 (n : Int)) (.int .i64 (n : Int))).run Tryd.prog w = .ok (.slice (some ⟨w.heap.size, 0, none⟩) n n) (w.alloc (.cells M 5)) := by
  obtain ⟨i0, hi, hz0, hz1, hz2⟩ := info_parts info_u8
  have h := run_make (P := Tryd.prog) w 53 5 i0 (.int .u8 0) Tryd.underlying53 hi hz0 .i64 .i64 (n : Int) (n : Int) (by omega) (by omega) (by rw [hz2]; omega) (by omega)
  rw [hz1] at h
  simp only [Int.toNat_natCast] at h
  exact ⟨_, made_u8 n, h⟩

/-- The row behind the two stores and the copy. -/
theorem row_body (no : Int) (h0 : 0 ≤ no) (h1 : no ≤ 65535) (s : ByteArray) (X : List Value) (hX : X = ((List.replicate 26 (Value.int .u8 0)).set 0 (.int .u8 (no / 256))).set 1 (.int .u8 (no % 256))) :
    X.take 2 ++ byteCells s.data.toList ++ X.drop (2 + s.size) = bytesV (body no s.data.toList) := by
  subst hX
  have e1 : bytesV (be2 no) = [.int .u8 (no / 256), .int .u8 (no % 256)] := bytesV_byt2 _ _ (by omega) (by omega) (by omega) (by omega)
  have e2 : ((List.replicate 26 (Value.int .u8 0)).set 0 (.int .u8 (no / 256))).set 1 (.int .u8 (no % 256)) = [.int .u8 (no / 256), .int .u8 (no % 256)] ++ List.replicate 24 (.int .u8 0) := rfl
  rw [body, bytesV_app, e1, e2, pad, bytesV_app, List.append_assoc]
  congr 1
  have e3 : ([Value.int .u8 (no / 256), Value.int .u8 (no % 256)] ++ List.replicate 24 (Value.int .u8 0)).drop (2 + s.size) = List.replicate (24 - s.size) (.int .u8 0) := by
    rw [← List.drop_drop, List.drop_left' (by rfl), List.drop_replicate]
  rw [e3]
  congr 1
  simp [bytesV]

end Go.Proofs.YtkhjmfngeidlcaaDoor

/- What the document's own SectorBytes answers: the very bytes and the very error of 'encd'. -/
namespace Go.Proofs.YtkhjmfngeidlcaaDoor
open Go.RowKit Go.Lib

theorem in_any (n a b : Int) (w : World) :
    Calls Tryd.prog 58 #[.int .i64 n, .int .i64 a, .int .i64 b] w fun e w' => e = .returned (.bool (decide (a ≤ n ∧ n ≤ b))) ∧ w' = w := by
  by_cases h : a ≤ n
  · by_cases h2 : n ≤ b
    · go_enter Tryd.func58, Tryd.ntmps58
      go_wp2
      go_ret
      exact ⟨ret_bool (by simp [h, h2]), rfl⟩
    · go_enter Tryd.func58, Tryd.ntmps58
      go_wp2
      go_ret
      exact ⟨ret_bool (by simp; omega), rfl⟩
  · go_enter Tryd.func58, Tryd.ntmps58
    go_wp2
    go_ret
    exact ⟨ret_bool (by simp; omega), rfl⟩

end Go.Proofs.YtkhjmfngeidlcaaDoor

/- What the document's own PayloadOf answers: the very bytes and the very error of 'decd'. -/
namespace Go.Proofs.YtkhjmfngeidlcaaDoor
open Go.RowKit Go.Lib

theorem payload_size (no : Int) (s : ByteArray) (w : World) (h : s.size ≠ 30) :
    Calls Tryd.prog 82 #[.int .i64 no, .string s] w fun e w' => e = .returned (.tuple #[.string (str []), .int .i64 1]) ∧ Below w.heap.size w w' := by
  have h' : ((s.size : Int) == 30) = false := beq_eq_false_iff_ne.2 (by omega)
  go_enter Tryd.func82, Tryd.ntmps82
  go_wp2
  go_ret2
  exact ⟨rfl, Below.refl _ _⟩
theorem seal_test (s : ByteArray) (h : s.size = 30) : ((str (sealOf (s.extract 0 26).data.toList)).toList == (s.extract 26 30).toList) = decide (s.data.toList.drop 26 = sealOf (s.data.toList.take 26)) := by
  have e1 : (s.extract 0 26).data.toList = s.data.toList.take 26 := by rw [ext_list, cut, List.drop_zero]
  have e2 : (s.extract 26 30).data.toList = s.data.toList.drop 26 := by rw [ext_list, cut, List.take_of_length_le (by rw [ba_len]; omega)]
  rw [ByteArray.toList_eq, ByteArray.toList_eq, str_list, e1, e2, Bool.eq_iff_iff]
  simp only [beq_iff_eq, decide_eq_true_eq]
  exact eq_comm
theorem numb_ba (s : ByteArray) (h : s.size = 30) : numb s.data.toList = (256 : Int) * (s[0].toNat : Int) + (s[1].toNat : Int) := by
  rw [numb, bat_ba s 0 (by omega), bat_ba s 1 (by omega)]

set_option maxHeartbeats 1600000 in
set_option maxRecDepth 4000 in
theorem payload_sum (no : Int) (s : ByteArray) (w : World) (h : s.size = 30) (hd : s.data.toList.drop 26 ≠ sealOf (s.data.toList.take 26)) :
    Calls Tryd.prog 82 #[.int .i64 no, .string s] w fun e w' => e = .returned (.tuple #[.string (str []), .int .i64 10]) ∧ Below w.heap.size w w' := by
  have h' : ((s.size : Int) == 30) = true := beq_iff_eq.2 (by omega)
  have ho := fun wx => ref_any (s.extract 0 26) wx (by rw [ext_size _ _ _ (by omega)]; unfold maxLen; omega)
  have ht := seal_test s h
  rw [decide_eq_false hd] at ht
  generalize str (sealOf (s.extract 0 26).data.toList) = SS at ho ht
  have HO := hid ho
  clear ho hd
  go_enter Tryd.func82, Tryd.ntmps82
  go_wp2_with fail
  go_region_with (go_at_call 92; refine (HO.out _).mono ?_; rintro _ _ ⟨rfl, hb⟩)
  all_goals go_wp2
  all_goals go_ret2
  all_goals exact ⟨rfl, ((Below.refl _ _).drew).trans hb⟩

set_option maxHeartbeats 1600000 in
set_option maxRecDepth 4000 in
theorem payload_form (no : Int) (s : ByteArray) (w : World) (h : s.size = 30) (hd : s.data.toList.drop 26 = sealOf (s.data.toList.take 26)) (hn : numb s.data.toList ≠ no) :
    Calls Tryd.prog 82 #[.int .i64 no, .string s] w fun e w' => e = .returned (.tuple #[.string (str []), .int .i64 4]) ∧ Below w.heap.size w w' := by
  have h' : ((s.size : Int) == 30) = true := beq_iff_eq.2 (by omega)
  have ho := fun wx => ref_any (s.extract 0 26) wx (by rw [ext_size _ _ _ (by omega)]; unfold maxLen; omega)
  have ht := seal_test s h
  rw [decide_eq_true hd] at ht
  generalize str (sealOf (s.extract 0 26).data.toList) = SS at ho ht
  rw [numb_ba s h] at hn
  have b0 := s[0].toNat_lt
  have b1 := s[1].toNat_lt
  have u1 : IntKind.i64.wrap (s[0].toNat : Int) = (s[0].toNat : Int) := IntWalk.i64_in _ (by omega)
  have u2 : IntKind.i64.wrap (s[1].toNat : Int) = (s[1].toNat : Int) := IntWalk.i64_in _ (by omega)
  have u3 : IntKind.i64.wrap ((256 : Int) * (s[0].toNat : Int)) = (256 : Int) * (s[0].toNat : Int) := IntWalk.i64_in _ (by omega)
  have u4 : IntKind.i64.wrap ((256 : Int) * (s[0].toNat : Int) + (s[1].toNat : Int)) = (256 : Int) * (s[0].toNat : Int) + (s[1].toNat : Int) := IntWalk.i64_in _ (by omega)
  have HO := hid ho
  have hx : ((256 : Int) * (s[0].toNat : Int) + (s[1].toNat : Int) != no) = true := by simpa using hn
  clear ho hd hn
  go_enter Tryd.func82, Tryd.ntmps82
  go_wp2_with fail
  go_region_with (go_at_call 92; refine (HO.out _).mono ?_; rintro _ _ ⟨rfl, hb⟩)
  all_goals go_wp2_with fail
  all_goals go_quiet (fail)
  all_goals go_wp2
  all_goals go_ret2
  all_goals exact ⟨rfl, below_drewN (((Below.refl _ _).drew).trans hb) _⟩
set_option maxHeartbeats 1600000 in
set_option maxRecDepth 4000 in
theorem payload_ok (no : Int) (s : ByteArray) (w : World) (h : s.size = 30) (hd : s.data.toList.drop 26 = sealOf (s.data.toList.take 26)) (hn : numb s.data.toList = no) :
    Calls Tryd.prog 82 #[.int .i64 no, .string s] w fun e w' => e = .returned (.tuple #[.string (str (cut s.data.toList 2 26)), .int .i64 0]) ∧ Below w.heap.size w w' := by
  rw [← ext_str]
  have h' : ((s.size : Int) == 30) = true := beq_iff_eq.2 (by omega)
  have ho := fun wx => ref_any (s.extract 0 26) wx (by rw [ext_size _ _ _ (by omega)]; unfold maxLen; omega)
  have ht := seal_test s h
  rw [decide_eq_true hd] at ht
  generalize str (sealOf (s.extract 0 26).data.toList) = SS at ho ht
  rw [numb_ba s h] at hn
  have b0 := s[0].toNat_lt
  have b1 := s[1].toNat_lt
  have u1 : IntKind.i64.wrap (s[0].toNat : Int) = (s[0].toNat : Int) := IntWalk.i64_in _ (by omega)
  have u2 : IntKind.i64.wrap (s[1].toNat : Int) = (s[1].toNat : Int) := IntWalk.i64_in _ (by omega)
  have u3 : IntKind.i64.wrap ((256 : Int) * (s[0].toNat : Int)) = (256 : Int) * (s[0].toNat : Int) := IntWalk.i64_in _ (by omega)
  have u4 : IntKind.i64.wrap ((256 : Int) * (s[0].toNat : Int) + (s[1].toNat : Int)) = (256 : Int) * (s[0].toNat : Int) + (s[1].toNat : Int) := IntWalk.i64_in _ (by omega)
  have HO := hid ho
  have hx : ((256 : Int) * (s[0].toNat : Int) + (s[1].toNat : Int) != no) = false := by simpa using hn
  clear ho hd hn
  go_enter Tryd.func82, Tryd.ntmps82
  go_wp2_with fail
  go_region_with (go_at_call 92; refine (HO.out _).mono ?_; rintro _ _ ⟨rfl, hb⟩)
  all_goals go_wp2_with fail
  all_goals go_quiet (fail)
  all_goals go_wp2
  all_goals go_ret2
  all_goals exact ⟨rfl, below_drewN (((Below.refl _ _).drew).trans hb) _⟩

theorem payload_any (no : Int) (s : ByteArray) (w : World) :
    Calls Tryd.prog 82 #[.int .i64 no, .string s] w fun e w' => e = .returned (.tuple #[.string (str (decd no s.data.toList).1), .int .i64 (decd no s.data.toList).2]) ∧ Below w.heap.size w w' := by
  unfold decd
  by_cases h : s.data.toList.length ≠ 30
  · rw [if_pos h]
    exact payload_size no s w (by rw [ba_len] at h; exact h)
  · rw [if_neg h]
    have h' : s.size = 30 := by rw [ba_len] at h; omega
    by_cases h2 : s.data.toList.drop 26 ≠ sealOf (s.data.toList.take 26)
    · rw [if_pos h2]
      exact payload_sum no s w h' h2
    · rw [if_neg h2]
      have h2' : s.data.toList.drop 26 = sealOf (s.data.toList.take 26) := Decidable.not_not.1 h2
      by_cases h3 : numb s.data.toList ≠ no
      · rw [if_pos h3]
        exact payload_form no s w h' h2' h3
      · rw [if_neg h3]
        exact payload_ok no s w h' h2' (Decidable.not_not.1 h3)
end Go.Proofs.YtkhjmfngeidlcaaDoor
