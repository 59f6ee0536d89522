/- Joined texts: PressPiece, PressPart, PressUnpack, PressUnRef. -/
import Derived.Test.YtkhjmfngeidlcabGreatDoorMem
import Derived.Test.YtkhjmfngeidlcabGreatDoorPressP
import Derived.Test.YtkhjmfngeidlcabGreatDoorPureB
/- What the program's appendPiece does: a piece laid behind the bytes that are there. -/
namespace Go.Proofs.YtkhjmfngeidlcabGreatDoor
open Go.RowKit Go.Lib

set_option maxHeartbeats 1600000 in
set_option maxRecDepth 4000 in
theorem piece_any (base g m cap : Nat) (O : List UInt8) (d n : Nat) (w : World) (hown : ownsB w base (.slice (some ⟨g, 0, none⟩) m cap) O) (hbase : base ≤ w.heap.size) (hd : 1 ≤ d) (hdO : d ≤ O.length) (hO : O.length ≤ 600) (hn : n ≤ 600) :
    Calls Tryz.prog 119 #[.slice (some ⟨g, 0, none⟩) m cap, .int .i64 d, .int .i64 n] w fun e w' => ∃ g' m' cap', e = .returned (.slice (some ⟨g', 0, none⟩) m' cap') ∧ ownsB w' base (.slice (some ⟨g', 0, none⟩) m' cap') (piece O d n) ∧ Below base w w' := by
  go_enter Tryz.func119, Tryz.ntmps119
  go_wp2_with fail
  go_loopw [0, 8] (fun v i wr => ∃ (g1 m1 cap1 k : Nat), v = .slice (some ⟨g1, 0, none⟩) m1 cap1 ∧ i = .int .i64 k ∧ k ≤ n ∧ Hid (ownsB wr base (.slice (some ⟨g1, 0, none⟩) m1 cap1) (piece O d k)) ∧ Below base w wr) (fun _ i _ => n - (intOf i).toNat)
  case atStart => exact ⟨g, m, cap, 0, rfl, rfl, Nat.zero_le _, hown, Below.refl _ _⟩
  case round =>
    obtain ⟨g1, m1, cap1, k, rfl, rfl, hk, HO, hB⟩ := hrel
    clear hown
    by_cases hlt : k < n
    · obtain ⟨hm1, hcap1, hg1⟩ := own_len HO.out
      have hl := piece_length O d k
      obtain ⟨J, hJ⟩ : ∃ J : Nat, m1 - d = J := ⟨_, rfl⟩
      have hc := own_cell HO.out J (by omega)
      have hpc : piece O d (k + 1) = piece O d k ++ [bat (piece O d k) J] := by rw [piece, ← hJ, hm1]
      have HPC := hid hpc
      generalize piece O d k = P at HO hc hl hm1 HPC hcap1
      generalize bat P J = c at hc HPC
      have j1 : (m1 : Int) - d = J := by omega
      have j2 : J < m1 := by omega
      have hc' : (c.toNat : Int) < 256 := by have := c.toNat_lt; omega
      have j3 : m1 ≤ 1200 := by omega
      have hlt' : (k : Int) < n := by omega
      have hs := hB.size
      have HH := hid (And.intro (ownsB_alloc HO.out (.cells #[.int .u8 (c.toNat : Int)] 5)) (And.intro (hB.alloc (by omega) (.cells #[.int .u8 (c.toNat : Int)] 5)) (new_byte wr c 5)))
      have hPl : P.length ≤ 1200 := by omega
      clear HO hB hJ hm1 hl hcap1 hg1 hpc
      go_wp2_with (at_builtin; (refine wpList_appendB _ rfl (.tmp 10) (.tmp 18) rfl base _ P rfl HH.out.1 ⟨wr.heap.size, 0, none⟩ 1 [c] rfl HH.out.2.2 (by simp) (by simp; omega) (by simp; omega) ?_; intro g5 m5 cap5 w5 hm5 hg5 hown5 hgrow5; have H5 := hid (And.intro hown5 hgrow5); clear hown5 hgrow5))
      go_roundw
      case rel =>
        refine ⟨g5, m5, cap5, k + 1, rfl, by go_num, by omega, ?_, below_own HH.out.1 (Nat.le_refl _) (by simp; omega) HH.out.2.1 H5.out.2⟩
        show ownsB _ _ _ _
        rw [HPC.out]; exact H5.out.1
      case measure => simp [intOf]; omega
    · obtain rfl : k = n := by omega
      clear hk hlt
      have hlt' : ¬ (k : Int) < k := by omega
      go_wp2
      go_ret
      exact ⟨g1, m1, cap1, rfl, HO.out, hB⟩
end Go.Proofs.YtkhjmfngeidlcabGreatDoor

/- What the program's partSize and appendPart answer, a way each. -/
namespace Go.Proofs.YtkhjmfngeidlcabGreatDoor
open Go.RowKit Go.Lib

set_option maxRecDepth 4000 in
theorem partSize_lo (c : UInt8) (w : World) (h : c.toNat < 128) : Calls Tryz.prog 84 #[.int .u8 c.toNat] w fun e w' => e = .returned (.int .i64 ((c.toNat : Int) + 2)) ∧ w' = w := by
  have h' : (c.toNat : Int) < 128 := by omega
  go_enter Tryz.func84, Tryz.ntmps84
  go_wp2
  go_ret
  exact ⟨rfl, rfl⟩
set_option maxRecDepth 4000 in
theorem partSize_hi (c : UInt8) (w : World) (h : 128 ≤ c.toNat) : Calls Tryz.prog 84 #[.int .u8 c.toNat] w fun e w' => e = .returned (.int .i64 2) ∧ w' = w := by
  have h' : ¬ (c.toNat : Int) < 128 := by omega
  go_enter Tryz.func84, Tryz.ntmps84
  go_wp2
  go_ret
  exact ⟨rfl, rfl⟩


set_option maxHeartbeats 800000 in
set_option maxRecDepth 4000 in
theorem part_plain (base : Nat) (ao : Option Addr) (m cap : Nat) (O : List UInt8) (p : ByteArray) (c : UInt8) (w : World) (hown : ownsB w base (.slice ao m cap) O) (hm : m = O.length) (hbase : base ≤ w.heap.size) (z0 : 0 < p.size) (z1 : 1 < p.size) (hp : p.size = c.toNat + 2) (hp0 : p[0]'z0 = c) (hc : c.toNat < 128) (h6 : O.length + (c.toNat + 1) ≤ 600) :
    Calls Tryz.prog 85 #[.slice ao m cap, .string p] w fun e w' => ∃ g' m' cap', e = .returned (.tuple #[.slice (some ⟨g', 0, none⟩) m' cap', .int .i64 0]) ∧ ownsB w' base (.slice (some ⟨g', 0, none⟩) m' cap') (O ++ (p.extract 1 p.size).data.toList) ∧ Below base w w' := by
  have hz : (p.extract 1 p.size).size = c.toNat + 1 := by rw [ext_size _ _ _ (Nat.le_refl _)]; omega
  have hpb : p.size ≤ 600 := by omega
  have HZ := hid hz
  have HO := hid hown
  have HP := hid hp
  have HM := hid hm
  have hc' : (c.toNat : Int) < 128 := by omega
  clear hz hown hp hm
  go_enter Tryz.func85, Tryz.ntmps85
  go_wp2_with (at_builtin; (refine wpList_appendS _ rfl (.tmp 10) (.tmp 12) rfl base _ O rfl HO.out (p.extract 1 p.size) rfl (by have := HZ.out; omega) (by have := HZ.out; omega) hbase ?_; intro g5 m5 cap5 w5 hm5 hg5 hown5 hgrow5; have hm6 : m5 ≤ 600 := (by have := hm5.out; rw [List.length_append, ba_len] at this; have := HZ.out; omega); have H5 := hid (And.intro hown5 hgrow5); clear hown5 hgrow5))
  go_ret2
  exact ⟨g5, m5, cap5, rfl, H5.out.1, below_own HO.out (Nat.le_refl _) hbase (Below.refl _ _) H5.out.2⟩

set_option maxHeartbeats 800000 in
set_option maxRecDepth 4000 in
theorem part_plain_size (base : Nat) (ao : Option Addr) (m cap : Nat) (O : List UInt8) (p : ByteArray) (c : UInt8) (w : World) (hown : ownsB w base (.slice ao m cap) O) (hm : m = O.length) (hbase : base ≤ w.heap.size) (hO : O.length ≤ 600) (z0 : 0 < p.size) (z1 : 1 < p.size) (hp : p.size = c.toNat + 2) (hp0 : p[0]'z0 = c) (hc : c.toNat < 128) (h6 : 600 < O.length + (c.toNat + 1)) :
    Calls Tryz.prog 85 #[.slice ao m cap, .string p] w fun e w' => e = .returned (.tuple #[.slice none 0 0, .int .i64 1]) ∧ Below base w w' := by
  have hz : (p.extract 1 p.size).size = c.toNat + 1 := by rw [ext_size _ _ _ (Nat.le_refl _)]; omega
  have hpb : p.size ≤ 600 := by omega
  have HZ := hid hz
  have HO := hid hown
  have HP := hid hp
  have HM := hid hm
  have hc' : (c.toNat : Int) < 128 := by omega
  clear hz hown hp hm
  go_enter Tryz.func85, Tryz.ntmps85
  go_wp2_with (at_builtin; (refine wpList_appendS _ rfl (.tmp 10) (.tmp 12) rfl base _ O rfl HO.out (p.extract 1 p.size) rfl (by have := HZ.out; omega) (by have := HZ.out; omega) hbase ?_; intro g5 m5 cap5 w5 hm5 hg5 hown5 hgrow5; have hm6 : 600 < m5 := (by have := hm5.out; rw [List.length_append, ba_len] at this; have := HZ.out; omega); have H5 := hid (And.intro hown5 hgrow5); clear hown5 hgrow5))
  go_ret2
  exact ⟨rfl, below_own HO.out (Nat.le_refl _) hbase (Below.refl _ _) H5.out.2⟩

set_option maxHeartbeats 800000 in
set_option maxRecDepth 4000 in
theorem part_form (base : Nat) (ao : Option Addr) (m cap : Nat) (O : List UInt8) (p : ByteArray) (c : UInt8) (w : World) (hown : ownsB w base (.slice ao m cap) O) (hm : m = O.length) (z0 : 0 < p.size) (z1 : 1 < p.size) (d : UInt8) (hp : p.size = 2) (hp0 : p[0]'z0 = c) (hp1 : p[1]'z1 = d) (hc : 128 ≤ c.toNat) (hf : d.toNat = 0 ∨ O.length < d.toNat) :
    Calls Tryz.prog 85 #[.slice ao m cap, .string p] w fun e w' => e = .returned (.tuple #[.slice none 0 0, .int .i64 4]) ∧ Below base w w' := by
  have hc' : ¬ (c.toNat : Int) < 128 := by omega
  have hd2 : (d.toNat : Int) ≤ 255 := by have := d.toNat_lt; omega
  have hpb : p.size ≤ 600 := by omega
  have HO := hid hown
  clear hown hp
  by_cases h0 : d.toNat = 0
  · have h0' : ((d.toNat : Int) == 0) = true := beq_iff_eq.2 (by omega)
    clear hf h0 hm
    go_enter Tryz.func85, Tryz.ntmps85
    go_wp2
    go_ret2
    exact ⟨rfl, Below.refl _ _⟩
  · have h0' : ((d.toNat : Int) == 0) = false := beq_eq_false_iff_ne.2 (by omega)
    have h1 : (m : Int) < d.toNat := by omega
    clear hf h0 hm
    go_enter Tryz.func85, Tryz.ntmps85
    go_wp2
    go_ret2
    exact ⟨rfl, Below.refl _ _⟩

set_option maxHeartbeats 800000 in
set_option maxRecDepth 4000 in
theorem part_piece (base : Nat) (ao : Option Addr) (m cap : Nat) (O : List UInt8) (p : ByteArray) (c : UInt8) (w : World) (hown : ownsB w base (.slice ao m cap) O) (hm : m = O.length) (hbase : base ≤ w.heap.size) (hO : O.length ≤ 600) (z0 : 0 < p.size) (z1 : 1 < p.size) (d : UInt8) (hp : p.size = 2) (hp0 : p[0]'z0 = c) (hp1 : p[1]'z1 = d) (hc : 128 ≤ c.toNat) (hf : ¬ (d.toNat = 0 ∨ O.length < d.toNat)) (h6 : O.length + (c.toNat - 124) ≤ 600) :
    Calls Tryz.prog 85 #[.slice ao m cap, .string p] w fun e w' => ∃ g' m' cap', e = .returned (.tuple #[.slice (some ⟨g', 0, none⟩) m' cap', .int .i64 0]) ∧ ownsB w' base (.slice (some ⟨g', 0, none⟩) m' cap') (piece O d.toNat (c.toNat - 124)) ∧ Below base w w' := by
  have hc' : ¬ (c.toNat : Int) < 128 := by omega
  have hd2 : (d.toNat : Int) ≤ 255 := by have := d.toNat_lt; omega
  have hc2 : (c.toNat : Int) ≤ 255 := by have := c.toNat_lt; omega
  have hpb : p.size ≤ 600 := by omega
  obtain ⟨g, cap0, hv, _⟩ := owns_form hown (by omega)
  obtain ⟨rfl, -, rfl⟩ : ao = some ⟨g, 0, none⟩ ∧ m = O.length ∧ cap = cap0 := by simpa using hv
  have h0' : ((d.toNat : Int) == 0) = false := beq_eq_false_iff_ne.2 (by omega)
  have h1 : ¬ (m : Int) < d.toNat := by omega
  have hx := piece_any base g m cap O d.toNat (c.toNat - 124) w hown hbase (by omega) (by omega) hO (by omega)
  rw [show ((c.toNat - 124 : Nat) : Int) = (c.toNat : Int) - 124 by omega] at hx
  have HX := hid hx
  have HM := hid hm
  have hl := piece_length O d.toNat (c.toNat - 124)
  have HL := hid hl
  clear hown hp hf hx hm hl hv
  go_enter Tryz.func85, Tryz.ntmps85
  go_wp2_with fail
  refine HX.out.mono ?_
  rintro _ w2 ⟨g5, m5, cap5, rfl, hown5, hb5⟩
  have hm6 : m5 ≤ 600 := by have := (own_len hown5).1; rw [this, HL.out]; exact h6
  have H5 := hid (And.intro hown5 hb5)
  clear hown5 hb5
  go_wp2
  go_ret2
  exact ⟨g5, m5, cap5, rfl, H5.out.1, H5.out.2⟩

set_option maxHeartbeats 800000 in
set_option maxRecDepth 4000 in
theorem part_piece_size (base : Nat) (ao : Option Addr) (m cap : Nat) (O : List UInt8) (p : ByteArray) (c : UInt8) (w : World) (hown : ownsB w base (.slice ao m cap) O) (hm : m = O.length) (hbase : base ≤ w.heap.size) (hO : O.length ≤ 600) (z0 : 0 < p.size) (z1 : 1 < p.size) (d : UInt8) (hp : p.size = 2) (hp0 : p[0]'z0 = c) (hp1 : p[1]'z1 = d) (hc : 128 ≤ c.toNat) (hf : ¬ (d.toNat = 0 ∨ O.length < d.toNat)) (h6 : 600 < O.length + (c.toNat - 124)) :
    Calls Tryz.prog 85 #[.slice ao m cap, .string p] w fun e w' => e = .returned (.tuple #[.slice none 0 0, .int .i64 1]) ∧ Below base w w' := by
  have hc' : ¬ (c.toNat : Int) < 128 := by omega
  have hd2 : (d.toNat : Int) ≤ 255 := by have := d.toNat_lt; omega
  have hc2 : (c.toNat : Int) ≤ 255 := by have := c.toNat_lt; omega
  have hpb : p.size ≤ 600 := by omega
  obtain ⟨g, cap0, hv, _⟩ := owns_form hown (by omega)
  obtain ⟨rfl, -, rfl⟩ : ao = some ⟨g, 0, none⟩ ∧ m = O.length ∧ cap = cap0 := by simpa using hv
  have h0' : ((d.toNat : Int) == 0) = false := beq_eq_false_iff_ne.2 (by omega)
  have h1 : ¬ (m : Int) < d.toNat := by omega
  have hx := piece_any base g m cap O d.toNat (c.toNat - 124) w hown hbase (by omega) (by omega) hO (by omega)
  rw [show ((c.toNat - 124 : Nat) : Int) = (c.toNat : Int) - 124 by omega] at hx
  have HX := hid hx
  have HM := hid hm
  have hl := piece_length O d.toNat (c.toNat - 124)
  have HL := hid hl
  clear hown hp hf hx hm hl hv
  go_enter Tryz.func85, Tryz.ntmps85
  go_wp2_with fail
  refine HX.out.mono ?_
  rintro _ w2 ⟨g5, m5, cap5, rfl, hown5, hb5⟩
  have hm6 : 600 < m5 := by have := (own_len hown5).1; rw [this, HL.out]; exact h6
  have H5 := hid (And.intro hown5 hb5)
  clear hown5 hb5
  go_wp2
  go_ret2
  exact ⟨rfl, H5.out.2⟩
end Go.Proofs.YtkhjmfngeidlcabGreatDoor

/- What the program's Unpack answers. -/
namespace Go.Proofs.YtkhjmfngeidlcabGreatDoor
open Go.RowKit Go.Lib

theorem ext_at (s : ByteArray) (a b j : Nat) (hb : b ≤ s.size) (hj : a + j < b) : (s.extract a b)[j]'(by rw [ByteArray.size_extract]; omega) = s[a + j] := by
  rw [ByteArray.getElem_extract]
theorem ret_ss {a b : ByteArray} {k : IntKind} {n m : Int} (h : a = b) (h' : n = m) : Ending.returned (.tuple #[.string a, .int k n]) = .returned (.tuple #[.string b, .int k m]) := by rw [h, h']

set_option maxHeartbeats 1600000 in
set_option maxRecDepth 4000 in
theorem unpack_any (s : ByteArray) (w : World) (hs : s.size ≤ maxLen) :
    Calls Tryz.prog 55 #[.string s] w fun e w' => e = .returned (.tuple #[.string (str (unp [] s.data.toList).1), .int .i64 (unp [] s.data.toList).2]) ∧ Below w.heap.size w w' := by
  unfold maxLen at hs
  obtain ⟨U, hU⟩ : ∃ U, unp [] s.data.toList = U := ⟨_, rfl⟩
  rw [hU]
  have HU : Hid (unpAt [] s.data.toList 0 = U) := hU
  clear hU
  go_enter Tryz.func55, Tryz.ntmps55
  go_wp2_with fail
  go_loopw [4, 5] (fun v i wr => ∃ (ao : Option Addr) (m cap I : Nat) (O : List UInt8), v = .slice ao m cap ∧ i = .int .i64 I ∧ I ≤ s.size ∧ Hid (m = O.length) ∧ Hid (O.length ≤ 600) ∧ Hid (ownsB wr w.heap.size (.slice ao m cap) O) ∧ Below w.heap.size w wr ∧ Hid (unpAt O s.data.toList I = U)) (fun _ i _ => s.size - (intOf i).toNat)
  case atStart => exact ⟨none, 0, 0, 0, [], rfl, rfl, Nat.zero_le _, rfl, by show _ ≤ _; simp, World.ownsRow_nil _ _ _ _, Below.refl _ _, HU⟩
  case round =>
    obtain ⟨ao, m, cap, I, O, rfl, rfl, hI, HM, HO, HW, hB, HR⟩ := hrel
    clear HU
    by_cases hlt : I < s.size
    · have hlt' : (I : Int) < s.size := by omega
      have hb0 := bat_ba s I hlt
      obtain ⟨c, hc⟩ : ∃ c, s[I] = c := ⟨_, rfl⟩
      rw [hc] at hb0
      have HB := hid hb0
      clear hb0
      have hl : s.data.toList.length = s.size := ba_len s
      have HL := hid hl
      clear hl
      by_cases hc1 : c.toNat < 128
      · have hc1' : (c.toNat : Int) < 128 := by omega
        have HC := hid (fun wx => partSize_lo c wx hc1)
        by_cases hsh : s.size < I + 2 + c.toNat
        · have h1 : (s.size : Int) - I < c.toNat + 2 := by omega
          have R : Hid (U = ([], 5)) := by
            show _ = _
            rw [← HR.out, unpAt_short O _ I (by rw [HL.out]; exact hlt) (by rw [HB.out]; exact hc1) (by rw [HL.out, HB.out]; exact hsh)]
          clear HR HB hsh hc1
          go_wp2_with fail
          refine (HC.out _).mono ?_
          rintro _ _ ⟨rfl, rfl⟩
          clear HC
          go_wp2
          go_ret2
          exact ⟨ret_ss (by rw [R.out]; rfl) (by rw [R.out]), hB⟩
        · obtain ⟨S, hS⟩ : ∃ S, c.toNat + 2 = S := ⟨_, rfl⟩
          obtain ⟨J, hJ⟩ : ∃ J, I + S = J := ⟨_, rfl⟩
          have hps : (s.extract I J).size = c.toNat + 2 := by rw [ext_size _ _ _ (by omega)]; omega
          have z0 : 0 < (s.extract I J).size := by omega
          have z1 : 1 < (s.extract I J).size := by omega
          have hp0 : (s.extract I J)[0]'z0 = c := by rw [ext_at s I J 0 (by omega) (by omega)]; exact hc
          rw [show ((c.toNat : Int) + 2) = (S : Int) by omega] at HC
          have j1 : (I : Int) + S = J := by omega
          have j2 : (J : Int) ≤ s.size := by omega
          have j3 : ¬ (s.size : Int) - I < S := by omega
          have j4 : (I : Int) ≤ J := by omega
          have hbs := hB.size
          have hcut : cut (s.extract I J).data.toList 1 (c.toNat + 2) = cut s.data.toList (I + 1) (I + 2 + c.toNat) := by
            rw [ext_list, cut, cut, cut, List.take_drop, List.drop_drop, List.take_take]
            congr 2; omega
          by_cases h6 : O.length + (c.toNat + 1) ≤ 600
          · have hx := part_plain w.heap.size ao m cap O (s.extract I J) c wr HW.out HM.out hbs z0 z1 hps hp0 hc1 h6
            rw [ext_list (s.extract I J), hps, hcut] at hx
            have R : Hid (unpAt (O ++ cut s.data.toList (I + 1) (I + 2 + c.toNat)) s.data.toList J = U) := by
              show _ = _
              have := unpAt_plain O s.data.toList I (by rw [HL.out]; exact hlt) (by rw [HB.out]; exact hc1) (by rw [HL.out, HB.out]; omega) (by rw [HB.out]; exact h6)
              rw [HB.out] at this
              rw [← HR.out, this, show I + 2 + c.toNat = J by omega]
            have L : Hid ((O ++ cut s.data.toList (I + 1) (I + 2 + c.toNat)).length ≤ 600) := by
              show _ ≤ _
              rw [List.length_append, cut_length _ _ _ (by rw [HL.out]; omega)]; omega
            generalize O ++ cut s.data.toList (I + 1) (I + 2 + c.toNat) = O2 at hx R L
            have HX := hid hx
            have HJ := hid (And.intro hS hJ)
            clear hx hcut hp0 z0 z1 hps hsh hc1 hS hJ HR HB
            go_wp2_with fail
            refine (HC.out _).mono ?_
            rintro _ _ ⟨rfl, rfl⟩
            clear HC
            go_wp2_with fail
            refine HX.out.mono ?_
            rintro _ w2 ⟨g5, m5, cap5, rfl, hown5, hb5⟩
            have H5 := hid (And.intro hown5 (hB.trans hb5))
            clear hown5 hb5 hB HX
            go_wp2
            go_roundw
            case rel => exact ⟨some ⟨g5, 0, none⟩, m5, cap5, J, O2, rfl, rfl, by omega, (own_len H5.out.1).1, L, H5.out.1, H5.out.2, R⟩
            case measure => have := HJ.out; simp [intOf]; omega
          · have hx := part_plain_size w.heap.size ao m cap O (s.extract I J) c wr HW.out HM.out hbs HO.out z0 z1 hps hp0 hc1 (by omega)
            have R : Hid (U = ([], 1)) := by
              show _ = _
              rw [← HR.out, unpAt_size O s.data.toList I (by rw [HL.out]; exact hlt) (by rw [HB.out]; exact hc1) (by rw [HL.out, HB.out]; omega) (by rw [HB.out]; omega)]
            have HX := hid hx
            clear hx hcut hp0 z0 z1 hps hsh hc1 hS hJ HR HB h6
            go_wp2_with fail
            refine (HC.out _).mono ?_
            rintro _ _ ⟨rfl, rfl⟩
            clear HC
            go_wp2_with fail
            refine HX.out.mono ?_
            rintro _ w2 ⟨rfl, hb5⟩
            have H5 := hid (hB.trans hb5)
            clear hb5 hB HX
            go_wp2
            go_ret2
            exact ⟨ret_ss (by rw [R.out]; rfl) (by rw [R.out]), H5.out⟩
      · have HC := hid (fun wx => partSize_hi c wx (by omega))
        by_cases hsh : s.size < I + 2
        · have h1 : (s.size : Int) - I < 2 := by omega
          have R : Hid (U = ([], 5)) := by
            show _ = _
            rw [← HR.out, unpAt_short2 O _ I (by rw [HL.out]; exact hlt) (by rw [HB.out]; omega) (by rw [HL.out]; exact hsh)]
          clear HR HB hsh hc1
          go_wp2_with fail
          refine (HC.out _).mono ?_
          rintro _ _ ⟨rfl, rfl⟩
          clear HC
          go_wp2
          go_ret2
          exact ⟨ret_ss (by rw [R.out]; rfl) (by rw [R.out]), hB⟩
        · obtain ⟨J, hJ⟩ : ∃ J, I + 2 = J := ⟨_, rfl⟩
          have hps : (s.extract I J).size = 2 := by rw [ext_size _ _ _ (by omega)]; omega
          have z0 : 0 < (s.extract I J).size := by omega
          have z1 : 1 < (s.extract I J).size := by omega
          obtain ⟨d, hd⟩ : ∃ d, s[I + 1]'(by omega) = d := ⟨_, rfl⟩
          have hb1 := bat_ba s (I + 1) (by omega)
          rw [hd] at hb1
          have HD := hid hb1
          have hp0 : (s.extract I J)[0]'z0 = c := by rw [ext_at s I J 0 (by omega) (by omega)]; exact hc
          have hp1 : (s.extract I J)[1]'z1 = d := by rw [ext_at s I J 1 (by omega) (by omega)]; exact hd
          have j1 : (I : Int) + 2 = J := by omega
          have j2 : (J : Int) ≤ s.size := by omega
          have j3 : ¬ (s.size : Int) - I < 2 := by omega
          have j4 : (I : Int) ≤ J := by omega
          have hbs := hB.size
          by_cases hf : d.toNat = 0 ∨ O.length < d.toNat
          · have hx := part_form w.heap.size ao m cap O (s.extract I J) c wr HW.out HM.out z0 z1 d hps hp0 hp1 (by omega) hf
            have R : Hid (U = ([], 4)) := by
              show _ = _
              rw [← HR.out, unpAt_form O s.data.toList I (by rw [HB.out]; omega) (by rw [HL.out]; omega) (by rw [HD.out]; exact hf)]
            have HX := hid hx
            clear hx hp0 hp1 z0 z1 hps hsh hc1 hJ HR HB hf hb1 HD hd
            go_wp2_with fail
            refine (HC.out _).mono ?_
            rintro _ _ ⟨rfl, rfl⟩
            clear HC
            go_wp2_with fail
            refine HX.out.mono ?_
            rintro _ w2 ⟨rfl, hb5⟩
            have H5 := hid (hB.trans hb5)
            clear hb5 hB HX
            go_wp2
            go_ret2
            exact ⟨ret_ss (by rw [R.out]; rfl) (by rw [R.out]), H5.out⟩
          · by_cases h6 : O.length + (c.toNat - 124) ≤ 600
            · have hx := part_piece w.heap.size ao m cap O (s.extract I J) c wr HW.out HM.out hbs HO.out z0 z1 d hps hp0 hp1 (by omega) hf h6
              have R : Hid (unpAt (piece O d.toNat (c.toNat - 124)) s.data.toList J = U) := by
                show _ = _
                have := unpAt_piece O s.data.toList I (by rw [HB.out]; omega) (by rw [HL.out]; omega) (by rw [HD.out]; exact hf) (by rw [HB.out]; exact h6)
                rw [HB.out, HD.out] at this
                rw [← HR.out, this, hJ]
              have L : Hid ((piece O d.toNat (c.toNat - 124)).length ≤ 600) := by
                show _ ≤ _
                rw [piece_length]; exact h6
              generalize piece O d.toNat (c.toNat - 124) = O2 at hx R L
              have HX := hid hx
              have HJ := hid hJ
              clear hx hp0 hp1 z0 z1 hps hsh hc1 hJ HR HB hf hb1 HD hd
              go_wp2_with fail
              refine (HC.out _).mono ?_
              rintro _ _ ⟨rfl, rfl⟩
              clear HC
              go_wp2_with fail
              refine HX.out.mono ?_
              rintro _ w2 ⟨g5, m5, cap5, rfl, hown5, hb5⟩
              have H5 := hid (And.intro hown5 (hB.trans hb5))
              clear hown5 hb5 hB HX
              go_wp2
              go_roundw
              case rel => exact ⟨some ⟨g5, 0, none⟩, m5, cap5, J, O2, rfl, rfl, by omega, (own_len H5.out.1).1, L, H5.out.1, H5.out.2, R⟩
              case measure => have := HJ.out; simp [intOf]; omega
            · have hx := part_piece_size w.heap.size ao m cap O (s.extract I J) c wr HW.out HM.out hbs HO.out z0 z1 d hps hp0 hp1 (by omega) hf (by omega)
              have R : Hid (U = ([], 1)) := by
                show _ = _
                rw [← HR.out, unpAt_size2 O s.data.toList I (by rw [HB.out]; omega) (by rw [HL.out]; omega) (by rw [HD.out]; exact hf) (by rw [HB.out]; omega)]
              have HX := hid hx
              clear hx hp0 hp1 z0 z1 hps hsh hc1 hJ HR HB hf hb1 HD hd h6
              go_wp2_with fail
              refine (HC.out _).mono ?_
              rintro _ _ ⟨rfl, rfl⟩
              clear HC
              go_wp2_with fail
              refine HX.out.mono ?_
              rintro _ w2 ⟨rfl, hb5⟩
              have H5 := hid (hB.trans hb5)
              clear hb5 hB HX
              go_wp2
              go_ret2
              exact ⟨ret_ss (by rw [R.out]; rfl) (by rw [R.out]), H5.out⟩
    · have R : Hid (U = (O, 0)) := by
        show _ = _
        rw [← HR.out, unpAt_end O _ I (by rw [ba_len]; omega)]
      have hge : ¬ (I : Int) < s.size := by omega
      have hcv := conv_own HW.out
      clear HR hlt
      go_wp2
      go_ret2
      exact ⟨ret_ss (by rw [R.out]) (by rw [R.out]), hB⟩
end Go.Proofs.YtkhjmfngeidlcabGreatDoor

/- What the document's own unpacking answers. -/
namespace Go.Proofs.YtkhjmfngeidlcabGreatDoor
open Go.RowKit Go.Lib

end Go.Proofs.YtkhjmfngeidlcabGreatDoor
