/- May a text be a name: the program's answer and the document's. -/
import Derived.Test.YtkhjmfngeidlcaaDoorPureB
import Derived.Test.YtkhjmfngeidlcaaDoorSecA
import Derived.Handy
namespace Go.Proofs.YtkhjmfngeidlcaaDoor
open Go.RowKit Go.Lib

theorem namebyte_any (c : UInt8) (w : World) :
    Calls Tryd.prog 99 #[.int .u8 c.toNat] w fun e w' => e = .returned (.bool (okB c)) ∧ w' = w := by
  unfold okB
  have hb : (0 : Int) ≤ c.toNat := by omega
  generalize (c.toNat : Int) = n at hb
  by_cases h1 : 97 ≤ n
  · by_cases h2 : n ≤ 122
    · go_enter Tryd.func99, Tryd.ntmps99
      go_wp2
      go_ret
      exact ⟨ret_bool (by simp [h1, h2]), rfl⟩
    · have h3 : 48 ≤ n := by omega
      have h4 : ¬ n ≤ 57 := by omega
      go_enter Tryd.func99, Tryd.ntmps99
      go_wp2
      go_ret
      exact ⟨ret_bool (by simp; omega), rfl⟩
  · by_cases h3 : 48 ≤ n
    · by_cases h4 : n ≤ 57
      · go_enter Tryd.func99, Tryd.ntmps99
        go_wp2
        go_ret
        exact ⟨ret_bool (by simp), rfl⟩
      · go_enter Tryd.func99, Tryd.ntmps99
        go_wp2
        go_ret
        exact ⟨ret_bool (by simp; omega), rfl⟩
    · go_enter Tryd.func99, Tryd.ntmps99
      go_wp2
      go_ret
      exact ⟨ret_bool (by simp; omega), rfl⟩

theorem wrap_byte (c : UInt8) : wrap64 (c.toNat : Int) = (c.toNat : Int) := by
  have := c.toNat_lt
  unfold wrap64
  omega
theorem all_snoc (s : ByteArray) (k : Nat) (h : k < s.size) (q : (s.data.toList.take k).all okB = true) (o : okB s[k] = true) : (s.data.toList.take (k + 1)).all okB = true := by
  rw [take_snoc s k h, List.all_append, q]
  simp [o]
theorem all_bad (s : ByteArray) (k : Nat) (h : k < s.size) (o : okB s[k] = false) : s.data.toList.all okB = false := by
  rw [← List.take_append_drop (k + 1) s.data.toList, List.all_append, take_snoc s k h, List.all_append]
  simp [o]
theorem may_size (s : ByteArray) (h : s.size < 1 ∨ 8 < s.size) : nameMay s = false := by
  unfold nameMay
  rw [decide_eq_false (by omega), Bool.false_and]
theorem may_bad (s : ByteArray) (h : s.data.toList.all okB = false) : nameMay s = false := by
  unfold nameMay
  rw [h, Bool.and_false]
theorem may_all (s : ByteArray) (h : s.data.toList.all okB = true) : nameMay s = decide (1 ≤ s.size ∧ s.size ≤ 8) := by
  unfold nameMay
  rw [h, Bool.and_true]

set_option maxHeartbeats 400000 in
theorem name_any (s : ByteArray) (w : World) :
    Calls Tryd.prog 91 #[.string s] w fun e w' => e = .returned (.bool (nameMay s)) ∧ w' = w := by
  by_cases h1 : s.size < 1
  · have h1' : (s.size : Int) < 1 := by omega
    rw [may_size s (.inl h1)]
    go_enter Tryd.func91, Tryd.ntmps91
    go_wp2
    go_ret
    exact ⟨rfl, rfl⟩
  · have h1' : ¬ (s.size : Int) < 1 := by omega
    by_cases h2 : 8 < s.size
    · have h2' : (8 : Int) < s.size := by omega
      rw [may_size s (.inr h2)]
      go_enter Tryd.func91, Tryd.ntmps91
      go_wp2
      go_ret
      exact ⟨rfl, rfl⟩
    · have h2' : ¬ (8 : Int) < s.size := by omega
      go_enter Tryd.func91, Tryd.ntmps91
      go_wp2
      go_loop [14] (fun i => ∃ k : Nat, k ≤ s.size ∧ i = .int .i64 k ∧ Hid ((s.data.toList.take k).all okB = true)) (fun i => s.size - (intOf i).toNat)
      case atStart => exact ⟨0, Nat.zero_le _, rfl, rfl⟩
      case round =>
        obtain ⟨k, hk, rfl, ha⟩ := hrel
        by_cases hlt : k < s.size
        · have hlt' : (k : Int) < s.size := by omega
          have C := hid (fun wx => namebyte_any (s[k]) wx)
          have S := hid (fun (o : okB s[k] = true) => all_snoc s k hlt ha.out o)
          have B := hid (fun (o : okB s[k] = false) => may_bad s (all_bad s k hlt o))
          generalize okB s[k] = r at C S B
          cases r with
          | true =>
            have S' := hid (S.out rfl)
            clear S B
            go_wp2_with (go_at_call 99; refine (C.out _).mono ?_; rintro e w' ⟨rfl, rfl⟩)
            go_round
            case rel => exact ⟨k + 1, by omega, by go_num, S'⟩
            case measure => simp [intOf]; omega
          | false =>
            have B' := hid (B.out rfl)
            clear S B
            go_wp2_with (go_at_call 99; refine (C.out _).mono ?_; rintro e w' ⟨rfl, rfl⟩)
            go_ret
            exact ⟨ret_bool B'.out.symm, rfl⟩
        · obtain rfl : k = s.size := by omega
          have hlt' : ¬ (s.size : Int) < s.size := by omega
          have e := ha.out
          rw [List.take_of_length_le (by simp)] at e
          have M := hid (show nameMay s = true by rw [may_all s e, decide_eq_true (by omega)])
          clear e
          go_wp2
          go_ret
          exact ⟨ret_bool M.out.symm, rfl⟩

set_option maxHeartbeats 400000 in
theorem refname_any (s : ByteArray) (w : World) (hs : s.size ≤ maxLen) :
    Calls Tryd.prog 64 #[.string s] w fun e w' => e = .returned (.bool (nameMay s)) ∧ w' = w := by
  unfold maxLen at hs
  go_enter Tryd.func64, Tryd.ntmps64
  go_wp2
  go_loop [3] (fun i => ∃ k : Nat, k ≤ s.size ∧ i = .int .i64 k ∧ Hid ((s.data.toList.take k).all okB = true)) (fun i => s.size - (intOf i).toNat)
  case atStart => exact ⟨0, Nat.zero_le _, rfl, rfl⟩
  case round =>
    obtain ⟨k, hk, rfl, ha⟩ := hrel
    by_cases hlt : k < s.size
    · have hlt' : (k : Int) < s.size := by omega
      have u1 : wrap64 (s[k].toNat : Int) = (s[k].toNat : Int) := wrap_byte _
      have C1 := hid (fun wx => in_any (s[k].toNat : Int) 97 122 wx)
      have C2 := hid (fun wx => in_any (s[k].toNat : Int) 48 57 wx)
      have S := hid (fun (o : (decide (97 ≤ (s[k].toNat : Int) ∧ (s[k].toNat : Int) ≤ 122) || decide (48 ≤ (s[k].toNat : Int) ∧ (s[k].toNat : Int) ≤ 57)) = true) => all_snoc s k hlt ha.out o)
      have B := hid (fun (o : (decide (97 ≤ (s[k].toNat : Int) ∧ (s[k].toNat : Int) ≤ 122) || decide (48 ≤ (s[k].toNat : Int) ∧ (s[k].toNat : Int) ≤ 57)) = false) => may_bad s (all_bad s k hlt o))
      generalize decide (97 ≤ (s[k].toNat : Int) ∧ (s[k].toNat : Int) ≤ 122) = r1 at C1 S B
      generalize decide (48 ≤ (s[k].toNat : Int) ∧ (s[k].toNat : Int) ≤ 57) = r2 at C2 S B
      cases r1 with
      | true =>
        have S' := hid (S.out rfl)
        clear S B
        go_wp2_with fail
        refine (C1.out _).mono ?_
        rintro _ w9 ⟨rfl, h9⟩
        have h8 := h9.symm
        subst h8
        go_wp2
        go_round
        case rel => exact ⟨k + 1, by omega, by go_num, S'⟩
        case measure => simp [intOf]; omega
      | false =>
        cases r2 with
        | true =>
          have S' := hid (S.out rfl)
          clear S B
          go_wp2_with fail
          refine (C1.out _).mono ?_
          rintro _ w9 ⟨rfl, h9⟩
          have h8 := h9.symm
          subst h8
          go_wp2_with fail
          refine (C2.out _).mono ?_
          rintro _ w9 ⟨rfl, h9⟩
          have h8 := h9.symm
          subst h8
          go_wp2
          go_round
          case rel => exact ⟨k + 1, by omega, by go_num, S'⟩
          case measure => simp [intOf]; omega
        | false =>
          have B' := hid (B.out rfl)
          clear S B
          go_wp2_with fail
          refine (C1.out _).mono ?_
          rintro _ w9 ⟨rfl, h9⟩
          have h8 := h9.symm
          subst h8
          go_wp2_with fail
          refine (C2.out _).mono ?_
          rintro _ w9 ⟨rfl, h9⟩
          have h8 := h9.symm
          subst h8
          go_wp2
          go_ret
          exact ⟨ret_bool B'.out.symm, rfl⟩
    · obtain rfl : k = s.size := by omega
      have hlt' : ¬ (s.size : Int) < s.size := by omega
      have e := ha.out
      rw [List.take_of_length_le (by simp)] at e
      have C := hid (fun wx => in_any (s.size : Int) 1 8 wx)
      have M := hid (show nameMay s = decide ((1 : Int) ≤ s.size ∧ (s.size : Int) ≤ 8) by rw [may_all s e, decide_eq_decide]; omega)
      generalize decide ((1 : Int) ≤ s.size ∧ (s.size : Int) ≤ 8) = r at C M
      clear e
      go_wp2_with (go_at_call 58; refine (C.out _).mono ?_; rintro e w' ⟨rfl, rfl⟩)
      go_ret
      exact ⟨ret_bool M.out.symm, rfl⟩
end Go.Proofs.YtkhjmfngeidlcaaDoor
