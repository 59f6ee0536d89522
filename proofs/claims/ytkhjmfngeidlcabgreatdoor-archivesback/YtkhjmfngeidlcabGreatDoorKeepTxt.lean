/- Joined texts: TxtSame, KeepSlices. -/
import Derived.Test.YtkhjmfngeidlcabGreatDoorMem2
import Derived.Handy
import Derived.Deep.QuietTactic
import Derived.BigQuiet
import Derived.Test.YtkhjmfngeidlcabGreatDoorArcM
import Derived.Deep.RegionWith
/- sameTexts of two lists that hold the same answers true. -/
namespace Go.Proofs.YtkhjmfngeidlcabGreatDoor
open Go.RowKit Go.Lib

def txt (S : List ByteArray) (i : Nat) : ByteArray := S[i]?.getD ⟨#[]⟩
theorem row_txt {w : World} {a : Option Addr} {S : List ByteArray} (h : RowAt w a (S.map .string)) (k : Nat) (hk : k < S.length) : ∃ b o, a = some ⟨b, o, none⟩ ∧ b < w.heap.size ∧ w.cell? ⟨b, o + k, none⟩ = some (.string (txt S k)) :=
  h k _ (by simp [txt, hk])

end Go.Proofs.YtkhjmfngeidlcabGreatDoor

/- slices.Contains and slices.IsSorted at texts, as ArchivesBack asks them. -/
namespace Go.Proofs.YtkhjmfngeidlcabGreatDoor
open Go.RowKit Go.Lib

theorem txt_lt (S : List ByteArray) (i : Nat) (h : i < S.length) : txt S i = S[i] := by simp [txt, h]
set_option maxHeartbeats 1000000 in
set_option maxRecDepth 4000 in
theorem tindex_any (a : Option Addr) (n c : Nat) (S : List ByteArray) (s : ByteArray) (w : World) (h : RowAt w a (S.map .string)) (hn : n = S.length) (hb : n ≤ 100000) (hs : s ∈ S) :
    Calls Tryz.prog 26 #[.slice a n c, .string s] w fun e w' => (∃ i : Nat, e = .returned (.int .i64 i)) ∧ w' = w := by
  have H := hid h
  have HN := hid hn
  have HS : Hid (∃ j, j < n ∧ txt S j = s) := by
    obtain ⟨j, hj, e⟩ := List.getElem_of_mem hs
    exact ⟨j, by omega, by rw [txt_lt S j hj]; exact e⟩
  clear h hn hs
  go_enter Tryz.func26, Tryz.ntmps26
  go_wp2_with fail
  go_loopw [8] (fun i wr => ∃ k : Nat, k ≤ n ∧ i = .int .i64 k ∧ Hid (∀ j, j < k → txt S j ≠ s) ∧ wr = w) (fun i _ => n - (RowKit.intOf i).toNat)
  case atStart => exact ⟨0, Nat.zero_le _, rfl, fun j hj => absurd hj (Nat.not_lt_zero _), rfl⟩
  case round =>
    obtain ⟨k, hk, rfl, HK, rfl⟩ := hrel
    by_cases hlt : k < n
    · have hlt' : (k : Int) < n := by omega
      obtain ⟨p, o, rfl, _, e1⟩ := row_txt H.out k (by rw [← HN.out]; exact hlt)
      have HQ : Hid ((s.toList == (txt S k).toList) = false → ∀ j, j < k + 1 → txt S j ≠ s) := fun hq j hj e => by
        by_cases q : j = k
        · subst q
          rw [e] at hq
          simp at hq
        · exact HK.out j (by omega) e
      generalize txt S k = t at e1 HQ
      cases hq : (s.toList == t.toList) with
      | true =>
        clear H HN HS HK HQ
        go_wp2
        go_ret
        exact ⟨⟨k, rfl⟩, rfl⟩
      | false =>
        have HK2 := hid (HQ.out hq)
        clear HK HQ
        go_wp2
        go_roundw
        case rel => exact ⟨k + 1, by omega, by go_num, HK2, trivial⟩
        case measure => simp [RowKit.intOf]; omega
    · obtain ⟨j, hj, e⟩ := HS.out
      exact absurd e (HK.out j (by omega))
set_option maxHeartbeats 400000 in
set_option maxRecDepth 4000 in
theorem tcontains_any (a : Option Addr) (n c : Nat) (S : List ByteArray) (s : ByteArray) (w : World) (h : RowAt w a (S.map .string)) (hn : n = S.length) (hb : n ≤ 100000) (hs : s ∈ S) :
    Calls Tryz.prog 10 #[.slice a n c, .string s] w fun e w' => e = .returned (.bool true) ∧ w' = w := by
  have C1 := hid (tindex_any a n c S s w h hn hb hs)
  clear h hs hn hb
  go_enter Tryz.func10, Tryz.ntmps10
  go_wp2_with fail
  refine C1.out.mono ?_
  rintro _ w5 ⟨⟨i, rfl⟩, rfl⟩
  have hi : (0 : Int) ≤ i := by omega
  generalize (i : Int) = I at hi
  clear C1
  go_wp2
  go_ret
  exact ⟨rfl, rfl⟩

set_option maxHeartbeats 400000 in
theorem isnan_any (x : ByteArray) (w : World) : Calls Tryz.prog 56 #[.string x] w fun e w' => e = .returned (.bool false) ∧ w' = w := by
  have hx : (x.toList != x.toList) = false := by simp
  go_enter Tryz.func56, Tryz.ntmps56
  go_wp2
  go_ret
  exact ⟨rfl, rfl⟩
set_option maxHeartbeats 1000000 in
theorem tless_any (x y : ByteArray) (w : World) : Calls Tryz.prog 27 #[.string x, .string y] w fun e w' => e = .returned (.bool (lss x y)) ∧ w' = w := by
  have HL := hid (show Op.bytesLess x.toList y.toList = lss x y from rfl)
  go_enter Tryz.func27, Tryz.ntmps27
  go_wp2_with (go_at_call 56; refine (isnan_any _ _).mono ?_; rintro _ w9 ⟨rfl, h9⟩; (have h8 := h9.symm); subst h8)
  go_ret
  exact ⟨rfl, rfl⟩

set_option maxHeartbeats 1600000 in
set_option maxRecDepth 4000 in
theorem tsorted_any (a : Option Addr) (n c : Nat) (S : List ByteArray) (w : World) (h : RowAt w a (S.map .string)) (hn : n = S.length) (hb : n ≤ 100000) (hs : S.Pairwise fun s t => lss s t = true) :
    Calls Tryz.prog 11 #[.slice a n c] w fun e w' => e = .returned (.bool true) ∧ Below w.heap.size w w' := by
  by_cases h0 : n = 0
  · subst h0
    go_enter Tryz.func11, Tryz.ntmps11
    go_wp2
    go_loopw [3] (fun i wr => i = .int .i64 (-1) ∧ wr = w) (fun _ _ => 0)
    case atStart => exact ⟨by go_num, rfl⟩
    case round =>
      obtain ⟨rfl, rfl⟩ := hrel
      go_wp2
      go_ret
      exact ⟨rfl, Below.refl _ _⟩
  · have H := hid h
    have HS := hid (And.intro hs hn)
    clear h hs hn
    go_enter Tryz.func11, Tryz.ntmps11
    go_wp2_with fail
    go_loopw [3] (fun i wr => ∃ k : Nat, k < n ∧ i = .int .i64 k ∧ Hid (∃ q, wr = w.drewN q)) (fun i _ => (RowKit.intOf i).toNat)
    case atStart => exact ⟨n - 1, by omega, by rw [show ((n - 1 : Nat) : Int) = (n : Int) - 1 by omega], 0, rfl⟩
    case round =>
      obtain ⟨k, hk, rfl, HW⟩ := hrel
      by_cases hlt : 0 < k
      · have hlt' : (0 : Int) < k := by omega
        obtain ⟨p, o, e0, _, e1⟩ := row_txt H.out k (by rw [← HS.out.2]; exact hk)
        obtain ⟨p2, o2, e2, _, e3⟩ := row_txt H.out (k - 1) (by rw [← HS.out.2]; omega)
        rw [e0] at e2
        cases e2
        subst e0
        replace e1 : wr.cell? ⟨p, o + k, none⟩ = some (.string (txt S k)) := by obtain ⟨q, rfl⟩ := HW.out; exact e1
        replace e3 : wr.cell? ⟨p, o + (k - 1), none⟩ = some (.string (txt S (k - 1))) := by obtain ⟨q, rfl⟩ := HW.out; exact e3
        have hl : lss (txt S k) (txt S (k - 1)) = false := by
          refine lss_asym ?_
          have := List.pairwise_iff_getElem.1 HS.out.1 (k - 1) k (by rw [← HS.out.2]; omega) (by rw [← HS.out.2]; omega) (by omega)
          rw [txt_lt S (k - 1) (by rw [← HS.out.2]; omega), txt_lt S k (by rw [← HS.out.2]; omega)]
          exact this
        have u1 : (1 : Int) ≤ k := by omega
        have u2 : (k : Int) - 1 < n := by omega
        have u3 : IntKind.i64.wrap ((k : Int) - 1) = (k : Int) - 1 := IntWalk.i64_in _ (by omega)
        have u4 : o + ((k : Int) - 1).toNat = o + (k - 1) := by omega
        have u5 : 1 ≤ k := hlt
        have u6 : (k : Int) < n := by omega
        have C1 := hid (fun wx => tless_any (txt S k) (txt S (k - 1)) wx)
        rw [hl] at C1
        clear hl
        generalize txt S k = t1 at e1 C1
        generalize txt S (k - 1) = t2 at e3 C1
        go_wp2_with fail
        go_quiet ((go_at_call 27; exact Calls.quiet_of_same (C1.out _)))
        go_wp2
        go_roundw
        case rel => exact ⟨k - 1, by omega, by rw [show ((k - 1 : Nat) : Int) = (k : Int) - 1 by omega], (by obtain ⟨q, rfl⟩ := HW.out; exact ⟨_, World.drewN_drewN _ _ _⟩)⟩
        case measure => simp [RowKit.intOf]; omega
      · obtain rfl : k = 0 := by omega
        obtain ⟨q, rfl⟩ := HW.out
        go_wp2
        go_ret
        exact ⟨rfl, below_drewN (Below.refl _ _) _⟩
end Go.Proofs.YtkhjmfngeidlcabGreatDoor
