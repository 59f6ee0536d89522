/- Joined texts: StreamSecs, CatName, CatBeh. -/
import Derived.Test.YtahoagbaadnihabGreatDoorRows
import Derived.Test.YtahoagbaadnihabGreatDoorPureB
import Derived.Test.YtahoagbaadnihabGreatDoorMem
import Derived.WalkKit
import Derived.Handy
import Derived.Deep.LoopGhost
import Derived.Test.YtahoagbaadnihabGreatDoorSecA
import Derived.Test.YtahoagbaadnihabGreatDoorMem2
import Derived.Deep.QuietTactic
import Derived.BigQuiet
/- How many sectors so many bytes need: the program's and the document's. -/
namespace Go.Proofs.YtahoagbaadnihabGreatDoor
open Go.RowKit Go.Lib

set_option maxHeartbeats 400000 in
theorem sectors_ok (n : Nat) (w : World) (h : n ≤ 1073741824) :
    Calls Tryz.prog 120 #[.int .i64 n] w fun e w' => e = .returned (.int .i64 (secs n)) ∧ w' = w := by
  unfold secs
  by_cases e : n % 24 = 0
  · have e' : ((n : Int) % 24 != 0) = false := by rw [bne_eq_false_iff_eq]; omega
    go_enter Tryz.func120, Tryz.ntmps120
    go_wp2
    go_ret
    exact ⟨ret_int (by omega), rfl⟩
  · have e' : ((n : Int) % 24 != 0) = true := by rw [bne_iff_ne]; omega
    go_enter Tryz.func120, Tryz.ntmps120
    go_wp2
    go_ret
    exact ⟨ret_int (by omega), rfl⟩

end Go.Proofs.YtahoagbaadnihabGreatDoor

/- May a text be a name: the program's answer and the document's. -/
namespace Go.Proofs.YtahoagbaadnihabGreatDoor
open Go.RowKit Go.Lib

theorem namebyte_any (c : UInt8) (w : World) :
    Calls Tryz.prog 190 #[.int .u8 c.toNat] w fun e w' => e = .returned (.bool (okB c)) ∧ w' = w := by
  unfold okB
  have hb : (0 : Int) ≤ c.toNat := by omega
  generalize (c.toNat : Int) = n at hb
  by_cases h1 : 97 ≤ n
  · by_cases h2 : n ≤ 122
    · go_enter Tryz.func190, Tryz.ntmps190
      go_wp2
      go_ret
      exact ⟨ret_bool (by simp [h1, h2]), rfl⟩
    · have h3 : 48 ≤ n := by omega
      have h4 : ¬ n ≤ 57 := by omega
      go_enter Tryz.func190, Tryz.ntmps190
      go_wp2
      go_ret
      exact ⟨ret_bool (by simp; omega), rfl⟩
  · by_cases h3 : 48 ≤ n
    · by_cases h4 : n ≤ 57
      · go_enter Tryz.func190, Tryz.ntmps190
        go_wp2
        go_ret
        exact ⟨ret_bool (by simp), rfl⟩
      · go_enter Tryz.func190, Tryz.ntmps190
        go_wp2
        go_ret
        exact ⟨ret_bool (by simp; omega), rfl⟩
    · go_enter Tryz.func190, Tryz.ntmps190
      go_wp2
      go_ret
      exact ⟨ret_bool (by simp; omega), rfl⟩

theorem wrap_byte (c : UInt8) : wrap64 (c.toNat : Int) = (c.toNat : Int) := by
  have := c.toNat_lt
  unfold wrap64
  omega
theorem all_snoc (s : ByteArray) (k : Nat) (h : k < s.size) (q : (s.data.toList.take k).all okB = true) (o : okB s[k] = true) : (s.data.toList.take (k + 1)).all okB = true := by
  rw [take_snoc s k h, List.all_append, q]
  simp [o]
theorem all_bad (s : ByteArray) (k : Nat) (h : k < s.size) (o : okB s[k] = false) : s.data.toList.all okB = false := by
  rw [← List.take_append_drop (k + 1) s.data.toList, List.all_append, take_snoc s k h, List.all_append]
  simp [o]
theorem may_size (s : ByteArray) (h : s.size < 1 ∨ 8 < s.size) : nameMay s = false := by
  unfold nameMay
  rw [decide_eq_false (by omega), Bool.false_and]
theorem may_bad (s : ByteArray) (h : s.data.toList.all okB = false) : nameMay s = false := by
  unfold nameMay
  rw [h, Bool.and_false]
theorem may_all (s : ByteArray) (h : s.data.toList.all okB = true) : nameMay s = decide (1 ≤ s.size ∧ s.size ≤ 8) := by
  unfold nameMay
  rw [h, Bool.and_true]

set_option maxHeartbeats 400000 in
theorem name_any (s : ByteArray) (w : World) :
    Calls Tryz.prog 155 #[.string s] w fun e w' => e = .returned (.bool (nameMay s)) ∧ w' = w := by
  by_cases h1 : s.size < 1
  · have h1' : (s.size : Int) < 1 := by omega
    rw [may_size s (.inl h1)]
    go_enter Tryz.func155, Tryz.ntmps155
    go_wp2
    go_ret
    exact ⟨rfl, rfl⟩
  · have h1' : ¬ (s.size : Int) < 1 := by omega
    by_cases h2 : 8 < s.size
    · have h2' : (8 : Int) < s.size := by omega
      rw [may_size s (.inr h2)]
      go_enter Tryz.func155, Tryz.ntmps155
      go_wp2
      go_ret
      exact ⟨rfl, rfl⟩
    · have h2' : ¬ (8 : Int) < s.size := by omega
      go_enter Tryz.func155, Tryz.ntmps155
      go_wp2
      go_loop [14] (fun i => ∃ k : Nat, k ≤ s.size ∧ i = .int .i64 k ∧ Hid ((s.data.toList.take k).all okB = true)) (fun i => s.size - (intOf i).toNat)
      case atStart => exact ⟨0, Nat.zero_le _, rfl, rfl⟩
      case round =>
        obtain ⟨k, hk, rfl, ha⟩ := hrel
        by_cases hlt : k < s.size
        · have hlt' : (k : Int) < s.size := by omega
          have C := hid (fun wx => namebyte_any (s[k]) wx)
          have S := hid (fun (o : okB s[k] = true) => all_snoc s k hlt ha.out o)
          have B := hid (fun (o : okB s[k] = false) => may_bad s (all_bad s k hlt o))
          generalize okB s[k] = r at C S B
          cases r with
          | true =>
            have S' := hid (S.out rfl)
            clear S B
            go_wp2_with (go_at_call 190; refine (C.out _).mono ?_; rintro e w' ⟨rfl, rfl⟩)
            go_round
            case rel => exact ⟨k + 1, by omega, by go_num, S'⟩
            case measure => simp [intOf]; omega
          | false =>
            have B' := hid (B.out rfl)
            clear S B
            go_wp2_with (go_at_call 190; refine (C.out _).mono ?_; rintro e w' ⟨rfl, rfl⟩)
            go_ret
            exact ⟨ret_bool B'.out.symm, rfl⟩
        · obtain rfl : k = s.size := by omega
          have hlt' : ¬ (s.size : Int) < s.size := by omega
          have e := ha.out
          rw [List.take_of_length_le (by simp)] at e
          have M := hid (show nameMay s = true by rw [may_all s e, decide_eq_true (by omega)])
          clear e
          go_wp2
          go_ret
          exact ⟨ret_bool M.out.symm, rfl⟩

end Go.Proofs.YtahoagbaadnihabGreatDoor

/- The sector behind blocks: the program's answer. -/
namespace Go.Proofs.YtahoagbaadnihabGreatDoor
open Go.RowKit Go.Lib

theorem beh_last (L : List Bk) (k : Nat) (h : L.length = k + 1) : behB L = (bk L k).f + secs (bk L k).n.toNat := by
  have e2 : L.getLast? = some (bk L k) := by rw [List.getLast?_eq_getElem?, h, Nat.add_sub_cancel, bk_lt L k (by omega), List.getElem?_eq_getElem (by omega)]
  unfold behB
  rw [e2]

set_option maxHeartbeats 400000 in
theorem behind_any (a : Option Addr) (n c : Nat) (L : List Bk) (w : World) (H : BlkAt w a n L) (hl : ∀ k, n = k + 1 → (0 ≤ (bk L k).f ∧ (bk L k).f ≤ 1000000) ∧ 0 ≤ (bk L k).n ∧ (bk L k).n ≤ 1000000) :
    Calls Tryz.prog 159 #[.slice a n c] w fun e w' => e = .returned (.int .i64 (behB L)) ∧ Below w.heap.size w w' := by
  have hnb := H.nb
  unfold maxLen at hnb
  by_cases h0 : n = 0
  · subst h0
    have e : L = [] := List.eq_nil_of_length_eq_zero H.sn.symm
    have e2 : behB L = 8 := by rw [e]; rfl
    rw [e2]
    clear H hl e e2
    go_enter Tryz.func159, Tryz.ntmps159
    go_wp2
    go_ret
    exact ⟨rfl, Below.refl _ _⟩
  · obtain ⟨k, rfl⟩ : ∃ k, n = k + 1 := ⟨n - 1, by omega⟩
    obtain ⟨⟨f0, f1⟩, n0, n1⟩ := hl k rfl
    obtain ⟨b, o, rfl, hb, c0, c1⟩ := H.c k (by omega)
    rw [beh_last L k H.sn.symm]
    obtain ⟨m, hm⟩ : ∃ m : Nat, (bk L k).n = m := ⟨(bk L k).n.toNat, by omega⟩
    rw [hm] at c1 n1 ⊢
    rw [Int.toNat_natCast]
    generalize (bk L k).f = f at c0 f0 f1
    have CS := hid (fun wx => sectors_ok m wx (by omega))
    have hs : secs m ≤ 1000000 := by unfold secs; omega
    generalize secs m = S at CS hs
    clear H hl hm n0
    have hz : (((k + 1 : Nat) : Int) == 0) = false := by rw [beq_eq_false_iff_ne]; omega
    have u1 : IntKind.i64.wrap (f + (S : Int)) = f + (S : Int) := IntWalk.i64_in _ (by omega)
    go_enter Tryz.func159, Tryz.ntmps159
    go_wp2_with fail
    go_quiet ((go_at_call 120; exact Calls.quiet_of_same (CS.out _)))
    go_wp2
    go_ret
    exact ⟨rfl, below_drewN (by go_grown) _⟩
end Go.Proofs.YtahoagbaadnihabGreatDoor
