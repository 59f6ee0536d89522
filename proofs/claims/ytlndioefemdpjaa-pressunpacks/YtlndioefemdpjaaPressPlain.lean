/- What the document's own packing answers: plainly, PackedOf. -/
import Derived.Test.YtlndioefemdpjaaPressAlike
import Derived.Deep.RegionWith
namespace Go.Proofs.Ytlndioefemdpjaa
open Go.RowKit

theorem ext_list (s : ByteArray) (a b : Nat) : (s.extract a b).data.toList = cut s.data.toList a b := by
  rw [cut, ByteArray.data_extract, Array.toList_extract, List.extract_eq_drop_take', List.drop_take]
theorem str_of (s : ByteArray) : str s.data.toList = s := by simp [str]
theorem ext_str (s : ByteArray) (a b : Nat) : s.extract a b = str (cut s.data.toList a b) := by rw [← ext_list, str_of]
theorem ext_size (s : ByteArray) (a b : Nat) (h : b ≤ s.size) : (s.extract a b).size = b - a := by
  rw [ByteArray.size_extract]; omega

theorem bcell {W w1 : World} (hb : Below W.heap.size W w1) : (∀ b o, b < W.heap.size → w1.cell? ⟨b, o, none⟩ = W.cell? ⟨b, o, none⟩) ∧ (∀ b o, b < W.heap.size → w1.frozen? ⟨b, o, none⟩ = W.frozen? ⟨b, o, none⟩) :=
  ⟨fun b o h => hb.cell (p := ⟨b, o, none⟩) h, fun b o h => hb.frozen (p := ⟨b, o, none⟩) h⟩

/-- One byte's slice as a text, wherever it lies. -/
theorem conv_at1 (n : Int) (h0 : 0 ≤ n) (h1 : n < 256) (w : World) (b : Nat) (hc : w.cell? ⟨b, 0, none⟩ = some (.int .u8 n)) :
    (convert 24 9 (.slice (some ⟨b, 0, none⟩) 1 1)).run Try.prog w = .ok (.string (str [byt n])) w := by
  have h := run_convert_bytes_back (P := Try.prog) w 24 9 5 ⟨b, 0, none⟩ 1 [byt n] Try.underlying24 Try.underlying5 Try.underlying9 (by
    intro j hj
    match j, hj with
    | 0, _ => simp [Addr.add, hc, byt_nat n h0 h1])
  exact h
theorem conv_at2 (n m : Int) (h0 : 0 ≤ n) (h1 : n < 256) (g0 : 0 ≤ m) (g1 : m < 256) (w : World) (b : Nat) (hc : w.cell? ⟨b, 0, none⟩ = some (.int .u8 n)) (hd : w.cell? ⟨b, 1, none⟩ = some (.int .u8 m)) :
    (convert 24 9 (.slice (some ⟨b, 0, none⟩) 2 2)).run Try.prog w = .ok (.string (str [byt n, byt m])) w := by
  have h := run_convert_bytes_back (P := Try.prog) w 24 9 5 ⟨b, 0, none⟩ 2 [byt n, byt m] Try.underlying24 Try.underlying5 Try.underlying9 (by
    intro j hj
    match j, hj with
    | 0, _ => simp [Addr.add, hc, byt_nat n h0 h1]
    | 1, _ => simp [Addr.add, hd, byt_nat m g0 g1])
  exact h

set_option maxHeartbeats 1600000 in
set_option maxRecDepth 4000 in
theorem plainly_any (k : Nat) : ∀ (s : ByteArray) (w : World), s.size ≤ k → s.size ≤ 600 →
    Calls Try.prog 21 #[.string s] w fun e w' => e = .returned (.string (str (plainly s.data.toList))) ∧ Below w.heap.size w w' := by
  induction k with
  | zero =>
    intro s w hk h6
    have h0 : ((s.size : Int) == 0) = true := beq_iff_eq.2 (by omega)
    have E : Hid (plainly s.data.toList = []) := by show _ = _; rw [plainly_eq, if_pos (by rw [ba_len]; omega)]
    clear hk h6
    go_enter Try.func21, Try.ntmps21
    go_wp2_with fail
    go_ret
    exact ⟨ret_str (by rw [E.out]; rfl), Below.refl _ _⟩
  | succ k ih =>
    intro s w hk h6
    by_cases h0 : s.size = 0
    · have h0 : ((s.size : Int) == 0) = true := beq_iff_eq.2 (by omega)
      have E : Hid (plainly s.data.toList = []) := by show _ = _; rw [plainly_eq, if_pos (by rw [ba_len]; omega)]
      clear hk h6
      go_enter Try.func21, Try.ntmps21
      go_wp2_with fail
      go_ret
      exact ⟨ret_str (by rw [E.out]; rfl), Below.refl _ _⟩
    · have h0' : ((s.size : Int) == 0) = false := beq_eq_false_iff_ne.2 (by omega)
      obtain ⟨n, hn⟩ : ∃ n, n = min s.size 128 := ⟨_, rfl⟩
      have hN := conv_at1 ((n : Int) - 1) (by omega) (by omega)
      have E : Hid (str (plainly s.data.toList) = str [byt ((n : Int) - 1)] ++ s.extract 0 n ++ str (plainly (s.extract n s.size).data.toList)) := by
        show _ = _
        rw [ext_str s 0 n, str_app, str_app, ext_list, plainly_eq, if_neg (by rw [ba_len]; exact h0), ba_len, ← hn]
        have e1 : s.data.toList.take 128 = cut s.data.toList 0 n := by rw [cut, List.drop_zero, hn, ← ba_len s, Nat.min_comm, List.take_eq_take_iff]; simp
        have e2 : s.data.toList.drop 128 = cut s.data.toList n s.size := by
          rw [cut, ← ba_len s, List.take_length, hn, ← ba_len s]
          by_cases h : s.data.toList.length ≤ 128
          · rw [Nat.min_eq_left h, List.drop_length, List.drop_eq_nil_of_le h]
          · rw [Nat.min_eq_right (by omega)]
        rw [e1, e2]; simp
      have hx := fun wx => ih (s.extract n s.size) wx (by rw [ext_size _ _ _ (Nat.le_refl _)]; omega) (by rw [ext_size _ _ _ (Nat.le_refl _)]; omega)
      have hl : (str (plainly (s.extract n s.size).data.toList)).size ≤ 1300 := by rw [str_size, plainly_length, ba_len, ext_size _ _ _ (Nat.le_refl _)]; omega
      have hl2 : (s.extract 0 n).size ≤ 600 := by rw [ext_size _ _ _ (by omega)]; omega
      generalize str (plainly (s.extract n s.size).data.toList) = R at hx hl E
      have ha1 : ∀ wx, (Op.stringOp .add (str [byt ((n : Int) - 1)]) (s.extract 0 n)).run Try.prog wx = .ok (.string (str [byt ((n : Int) - 1)] ++ s.extract 0 n)) wx := fun wx => run_string_add_sum wx _ _ (by rw [str_size]; simp; omega)
      have ha2 : ∀ wx, (Op.stringOp .add (str [byt ((n : Int) - 1)] ++ s.extract 0 n) R).run Try.prog wx = .ok (.string (str [byt ((n : Int) - 1)] ++ s.extract 0 n ++ R)) wx := fun wx => run_string_add_sum wx _ _ (by rw [ByteArray.size_append, str_size]; simp; omega)
      clear hl hl2
      have HX := hid hx
      clear hx ih
      by_cases hbig : 128 < s.size
      · have hb' : (128 : Int) < s.size := by omega
        obtain rfl : n = 128 := by omega
        have u1 : IntKind.i64.wrap 127 = 127 := rfl
        have u2 : IntKind.u8.wrap 127 = 127 := rfl
        clear hn h0 hk h6
        rw [show (((128 : Nat) : Int) - 1) = 127 from rfl] at *
        go_enter Try.func21, Try.ntmps21
        go_wp2_with fail
        go_region_with (go_at_call 21; refine (HX.out _).mono ?_; rintro _ _ ⟨rfl, hb⟩; obtain ⟨hc, hf⟩ := bcell hb)
        all_goals go_wp2
        all_goals go_ret
        all_goals refine ⟨ret_str E.out.symm, ?_⟩
        all_goals first
          | exact (((Below.refl _ _).alloc (Nat.le_refl _) _).drew).trans (hb.mono (by simp))
          | exact (((Below.refl _ _).drew).trans hb).alloc (by have := hb.size; simpa using this) _
      · obtain rfl : n = s.size := by omega
        have hb' : ¬ (128 : Int) < s.size := by omega
        have u1 : IntKind.i64.wrap ((s.size : Int) - 1) = s.size - 1 := IntWalk.i64_in _ (by omega)
        have u2 : IntKind.u8.wrap ((s.size : Int) - 1) = s.size - 1 := by rw [IntKind.wrap_u8]; omega
        have e0 : s.extract 0 s.size = s := by simp
        have e9 : s.extract s.size s.size = ByteArray.empty := by simp
        rw [e0] at ha1 ha2 E
        rw [e9] at HX
        clear hn h0 hk h6 hbig e0 e9
        go_enter Try.func21, Try.ntmps21
        go_wp2_with fail
        go_region_with (go_at_call 21; refine (HX.out _).mono ?_; rintro _ _ ⟨rfl, hb⟩; obtain ⟨hc, hf⟩ := bcell hb)
        all_goals go_wp2
        all_goals go_ret
        all_goals refine ⟨ret_str E.out.symm, ?_⟩
        all_goals first
          | exact (((Below.refl _ _).alloc (Nat.le_refl _) _).drew).trans (hb.mono (by simp))
          | exact (((Below.refl _ _).drew).trans hb).alloc (by have := hb.size; simpa using this) _
end Go.Proofs.Ytlndioefemdpjaa
