/- What the document's own SectorBytes answers: the very bytes and the very error of 'encd'. -/
import Derived.Test.YtkhjmfngeidlcaaLow
import Derived.Test.YtkhjmfngeidlcaaSumRef
import Derived.Test.YtkhjmfngeidlcaaBytes
import Derived.Deep.RegionWith
namespace Go.Proofs.Ytkhjmfngeidlcaa
open Go.RowKit Go.Lib

theorem in_any (n a b : Int) (w : World) :
    Calls Try.prog 11 #[.int .i64 n, .int .i64 a, .int .i64 b] w fun e w' => e = .returned (.bool (decide (a ≤ n ∧ n ≤ b))) ∧ w' = w := by
  by_cases h : a ≤ n
  · by_cases h2 : n ≤ b
    · go_enter Try.func11, Try.ntmps11
      go_wp2
      go_ret
      exact ⟨ret_bool (by simp [h, h2]), rfl⟩
    · go_enter Try.func11, Try.ntmps11
      go_wp2
      go_ret
      exact ⟨ret_bool (by simp; omega), rfl⟩
  · go_enter Try.func11, Try.ntmps11
    go_wp2
    go_ret
    exact ⟨ret_bool (by simp; omega), rfl⟩

set_option maxHeartbeats 400000 in
theorem noughts_any (N : Nat) (w : World) (hN : N ≤ 1000) :
    Calls Try.prog 26 #[.int .i64 N] w fun e w' => e = .returned (.string (str (List.replicate N 0))) ∧ w' = w := by
  go_enter Try.func26, Try.ntmps26
  go_wp2
  go_loop [0, 3] (fun n s => ∃ k m : Nat, k + m = N ∧ n = .int .i64 m ∧ s = .string (str (List.replicate k 0))) (fun n _ => (intOf n).toNat)
  case atStart => exact ⟨0, N, by omega, rfl, rfl⟩
  case round =>
    obtain ⟨k, m, hk, rfl, rfl⟩ := hrel
    have hz : (str (List.replicate k 0)).size = k := by rw [str_size, List.length_replicate]
    by_cases h0 : 0 < m
    · have h0' : (0 : Int) < m := by omega
      have E : Hid (str (List.replicate k 0) ++ ⟨#[0]⟩ = str (List.replicate (k + 1) 0)) := by
        show _ = _
        rw [List.replicate_succ', ← str_app]; rfl
      generalize str (List.replicate k 0) = S at hz E ⊢
      go_wp2
      go_round
      case rel => exact ⟨k + 1, m - 1, by omega, by go_num, by rw [E.out]⟩
      case measure => simp [intOf]; omega
    · obtain rfl : m = 0 := by omega
      obtain rfl : k = N := by omega
      go_wp2
      go_ret
      exact ⟨rfl, rfl⟩

theorem bytes_range (no : Int) (s : ByteArray) (w : World) (h : no < 0 ∨ 65535 < no) :
    Calls Try.prog 20 #[.int .i64 no, .string s] w fun e w' => e = .returned (.tuple #[.string (str []), .int .i64 2]) ∧ Below w.heap.size w w' := by
  have hi := fun wx => in_any no 0 65535 wx
  rw [show decide (0 ≤ no ∧ no ≤ 65535) = false from decide_eq_false (by omega)] at hi
  have HI := hid hi
  clear hi h
  go_enter Try.func20, Try.ntmps20
  go_wp2_with fail
  refine (HI.out _).mono ?_
  rintro _ _ ⟨rfl, rfl⟩
  go_wp2
  go_ret2
  exact ⟨rfl, Below.refl _ _⟩
theorem bytes_size (no : Int) (s : ByteArray) (w : World) (h0 : 0 ≤ no) (h1 : no ≤ 65535) (h : 24 < s.size) :
    Calls Try.prog 20 #[.int .i64 no, .string s] w fun e w' => e = .returned (.tuple #[.string (str []), .int .i64 1]) ∧ Below w.heap.size w w' := by
  have h' : (24 : Int) < s.size := by omega
  have hi := fun wx => in_any no 0 65535 wx
  rw [show decide (0 ≤ no ∧ no ≤ 65535) = true from decide_eq_true (by omega)] at hi
  have HI := hid hi
  clear hi h
  go_enter Try.func20, Try.ntmps20
  go_wp2_with fail
  refine (HI.out _).mono ?_
  rintro _ _ ⟨rfl, rfl⟩
  go_wp2
  go_ret2
  exact ⟨rfl, Below.refl _ _⟩

set_option maxHeartbeats 1600000 in
set_option maxRecDepth 4000 in
theorem bytes_ok (no : Int) (s : ByteArray) (w : World) (h0 : 0 ≤ no) (h1 : no ≤ 65535) (hs : s.size ≤ 24) :
    Calls Try.prog 20 #[.int .i64 no, .string s] w fun e w' => e = .returned (.tuple #[.string (str (sealed (body no s.data.toList))), .int .i64 0]) ∧ Below w.heap.size w w' := by
  have hs' : (s.size : Int) ≤ 24 := by omega
  have hi := fun wx => in_any no 0 65535 wx
  rw [show decide (0 ≤ no ∧ no ≤ 65535) = true from decide_eq_true (by omega)] at hi
  obtain ⟨k, hk⟩ : ∃ k : Nat, k + s.size = 24 := ⟨24 - s.size, by omega⟩
  have hn := fun wx => noughts_any k wx (by omega)
  have hw : IntKind.i64.wrap (24 - (s.size : Int)) = k := by rw [IntKind.wrap_i64]; omega
  have hN := conv_at2 (no / 256) (no % 256) (by omega) (by omega) (by omega) (by omega)
  have u1 : IntKind.i64.wrap (no.tdiv 256) = no / 256 := by rw [Int.tdiv_eq_ediv_of_nonneg h0]; exact IntWalk.i64_in _ (by omega)
  have u2 : IntKind.u8.wrap (no / 256) = no / 256 := by rw [IntKind.wrap_u8]; omega
  have u4 : IntKind.u8.wrap (no.tmod 256) = no % 256 := by rw [Int.tmod_eq_emod_of_nonneg h0, IntKind.wrap_u8]; omega
  have hz : (str (List.replicate k 0)).size = k := by rw [str_size, List.length_replicate]
  have e2 : str [byt (no / 256), byt (no % 256)] ++ s ++ str (List.replicate k 0) = str (body no s.data.toList) := by
    rw [show s = str s.data.toList from (str_of s).symm, str_app, str_app, str_list, body, pad, ba_len, show 24 - s.size = k by omega, be2]; simp
  have hl := body_length no s.data.toList (by rw [ba_len]; exact hs)
  have ha1 : ∀ wx, (Op.stringOp .add (str [byt (no / 256), byt (no % 256)]) s).run Try.prog wx = .ok (.string (str [byt (no / 256), byt (no % 256)] ++ s)) wx := fun wx => run_string_add_sum wx _ _ (by rw [str_size]; simp; omega)
  have ha2 : ∀ wx, (Op.stringOp .add (str [byt (no / 256), byt (no % 256)] ++ s) (str (List.replicate k 0))).run Try.prog wx = .ok (.string (str (body no s.data.toList))) wx := fun wx => by
    rw [← e2]; exact run_string_add_sum wx _ _ (by rw [ByteArray.size_append, str_size, hz]; simp; omega)
  have ho := fun wx => ref_any (str (body no s.data.toList)) wx (by rw [str_size, hl]; unfold maxLen; omega)
  rw [str_list] at ho
  have hsz : (str (body no s.data.toList)).size = 26 := by rw [str_size, hl]
  have hz4 : (str (sealOf (body no s.data.toList))).size = 4 := rfl
  have hadd : str (body no s.data.toList) ++ str (sealOf (body no s.data.toList)) = str (sealed (body no s.data.toList)) := str_app _ _
  generalize sealed (body no s.data.toList) = SB at hadd ⊢
  generalize str (sealOf (body no s.data.toList)) = SS at hadd hz4 ho
  generalize str (body no s.data.toList) = BB at hadd hsz ho ha2
  generalize str (List.replicate k 0) = NN at hn ha2
  have HA := hid hadd
  have HI := hid hi
  have HN := hid hn
  have HO := hid ho
  clear hadd hi hn ho hl e2 hz
  go_enter Try.func20, Try.ntmps20
  go_wp2_with fail
  refine (HI.out _).mono ?_
  rintro _ _ ⟨rfl, rfl⟩
  go_wp2_with fail
  go_region_with (go_at_call 26; refine (HN.out _).mono ?_; rintro _ _ ⟨rfl, rfl⟩)
  all_goals go_wp2_with fail
  all_goals (refine (HO.out _).mono ?_; rintro _ w5 ⟨rfl, g1⟩; go_wp2; go_ret2; refine ⟨ret_si HA.out, ?_⟩)
  all_goals exact (((Below.refl _ _).alloc (Nat.le_refl _) _).drew).trans (g1.mono (by simp))

theorem bytes_any (no : Int) (s : ByteArray) (w : World) :
    Calls Try.prog 20 #[.int .i64 no, .string s] w fun e w' => e = .returned (.tuple #[.string (str (encd no s.data.toList).1), .int .i64 (encd no s.data.toList).2]) ∧ Below w.heap.size w w' := by
  unfold encd
  by_cases h : no < 0 ∨ 65535 < no
  · rw [if_pos h]
    exact bytes_range no s w h
  · rw [if_neg h]
    by_cases h2 : 24 < s.data.toList.length
    · rw [if_pos h2]
      rw [ba_len] at h2
      exact bytes_size no s w (by omega) (by omega) h2
    · rw [if_neg h2]
      rw [ba_len] at h2
      exact bytes_ok no s w (by omega) (by omega) (by omega)
end Go.Proofs.Ytkhjmfngeidlcaa
