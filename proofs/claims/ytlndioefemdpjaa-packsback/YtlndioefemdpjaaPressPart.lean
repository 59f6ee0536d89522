/- What the program's partSize and appendPart answer, a way each. -/
import Derived.Test.YtlndioefemdpjaaPressPiece
namespace Go.Proofs.Ytlndioefemdpjaa
open Go.RowKit Go.Lib

set_option maxRecDepth 4000 in
theorem partSize_lo (c : UInt8) (w : World) (h : c.toNat < 128) : Calls Try.prog 22 #[.int .u8 c.toNat] w fun e w' => e = .returned (.int .i64 ((c.toNat : Int) + 2)) ∧ w' = w := by
  have h' : (c.toNat : Int) < 128 := by omega
  go_enter Try.func22, Try.ntmps22
  go_wp2
  go_ret
  exact ⟨rfl, rfl⟩
set_option maxRecDepth 4000 in
theorem partSize_hi (c : UInt8) (w : World) (h : 128 ≤ c.toNat) : Calls Try.prog 22 #[.int .u8 c.toNat] w fun e w' => e = .returned (.int .i64 2) ∧ w' = w := by
  have h' : ¬ (c.toNat : Int) < 128 := by omega
  go_enter Try.func22, Try.ntmps22
  go_wp2
  go_ret
  exact ⟨rfl, rfl⟩


set_option maxHeartbeats 800000 in
set_option maxRecDepth 4000 in
theorem part_plain (base : Nat) (ao : Option Addr) (m cap : Nat) (O : List UInt8) (p : ByteArray) (c : UInt8) (w : World) (hown : ownsB w base (.slice ao m cap) O) (hm : m = O.length) (hbase : base ≤ w.heap.size) (z0 : 0 < p.size) (z1 : 1 < p.size) (hp : p.size = c.toNat + 2) (hp0 : p[0]'z0 = c) (hc : c.toNat < 128) (h6 : O.length + (c.toNat + 1) ≤ 600) :
    Calls Try.prog 23 #[.slice ao m cap, .string p] w fun e w' => ∃ g' m' cap', e = .returned (.tuple #[.slice (some ⟨g', 0, none⟩) m' cap', .int .i64 0]) ∧ ownsB w' base (.slice (some ⟨g', 0, none⟩) m' cap') (O ++ (p.extract 1 p.size).data.toList) ∧ Below base w w' := by
  have hz : (p.extract 1 p.size).size = c.toNat + 1 := by rw [ext_size _ _ _ (Nat.le_refl _)]; omega
  have hpb : p.size ≤ 600 := by omega
  have HZ := hid hz
  have HO := hid hown
  have HP := hid hp
  have HM := hid hm
  have hc' : (c.toNat : Int) < 128 := by omega
  clear hz hown hp hm
  go_enter Try.func23, Try.ntmps23
  go_wp2_with (at_builtin; (refine wpList_appendS _ rfl (.tmp 10) (.tmp 12) rfl base _ O rfl HO.out (p.extract 1 p.size) rfl (by have := HZ.out; omega) (by have := HZ.out; omega) hbase ?_; intro g5 m5 cap5 w5 hm5 hg5 hown5 hgrow5; have hm6 : m5 ≤ 600 := (by have := hm5.out; rw [List.length_append, ba_len] at this; have := HZ.out; omega); have H5 := hid (And.intro hown5 hgrow5); clear hown5 hgrow5))
  go_ret2
  exact ⟨g5, m5, cap5, rfl, H5.out.1, below_own HO.out (Nat.le_refl _) hbase (Below.refl _ _) H5.out.2⟩

set_option maxHeartbeats 800000 in
set_option maxRecDepth 4000 in
theorem part_plain_size (base : Nat) (ao : Option Addr) (m cap : Nat) (O : List UInt8) (p : ByteArray) (c : UInt8) (w : World) (hown : ownsB w base (.slice ao m cap) O) (hm : m = O.length) (hbase : base ≤ w.heap.size) (hO : O.length ≤ 600) (z0 : 0 < p.size) (z1 : 1 < p.size) (hp : p.size = c.toNat + 2) (hp0 : p[0]'z0 = c) (hc : c.toNat < 128) (h6 : 600 < O.length + (c.toNat + 1)) :
    Calls Try.prog 23 #[.slice ao m cap, .string p] w fun e w' => e = .returned (.tuple #[.slice none 0 0, .int .i64 1]) ∧ Below base w w' := by
  have hz : (p.extract 1 p.size).size = c.toNat + 1 := by rw [ext_size _ _ _ (Nat.le_refl _)]; omega
  have hpb : p.size ≤ 600 := by omega
  have HZ := hid hz
  have HO := hid hown
  have HP := hid hp
  have HM := hid hm
  have hc' : (c.toNat : Int) < 128 := by omega
  clear hz hown hp hm
  go_enter Try.func23, Try.ntmps23
  go_wp2_with (at_builtin; (refine wpList_appendS _ rfl (.tmp 10) (.tmp 12) rfl base _ O rfl HO.out (p.extract 1 p.size) rfl (by have := HZ.out; omega) (by have := HZ.out; omega) hbase ?_; intro g5 m5 cap5 w5 hm5 hg5 hown5 hgrow5; have hm6 : 600 < m5 := (by have := hm5.out; rw [List.length_append, ba_len] at this; have := HZ.out; omega); have H5 := hid (And.intro hown5 hgrow5); clear hown5 hgrow5))
  go_ret2
  exact ⟨rfl, below_own HO.out (Nat.le_refl _) hbase (Below.refl _ _) H5.out.2⟩

set_option maxHeartbeats 800000 in
set_option maxRecDepth 4000 in
theorem part_form (base : Nat) (ao : Option Addr) (m cap : Nat) (O : List UInt8) (p : ByteArray) (c : UInt8) (w : World) (hown : ownsB w base (.slice ao m cap) O) (hm : m = O.length) (z0 : 0 < p.size) (z1 : 1 < p.size) (d : UInt8) (hp : p.size = 2) (hp0 : p[0]'z0 = c) (hp1 : p[1]'z1 = d) (hc : 128 ≤ c.toNat) (hf : d.toNat = 0 ∨ O.length < d.toNat) :
    Calls Try.prog 23 #[.slice ao m cap, .string p] w fun e w' => e = .returned (.tuple #[.slice none 0 0, .int .i64 4]) ∧ Below base w w' := by
  have hc' : ¬ (c.toNat : Int) < 128 := by omega
  have hd2 : (d.toNat : Int) ≤ 255 := by have := d.toNat_lt; omega
  have hpb : p.size ≤ 600 := by omega
  have HO := hid hown
  clear hown hp
  by_cases h0 : d.toNat = 0
  · have h0' : ((d.toNat : Int) == 0) = true := beq_iff_eq.2 (by omega)
    clear hf h0 hm
    go_enter Try.func23, Try.ntmps23
    go_wp2
    go_ret2
    exact ⟨rfl, Below.refl _ _⟩
  · have h0' : ((d.toNat : Int) == 0) = false := beq_eq_false_iff_ne.2 (by omega)
    have h1 : (m : Int) < d.toNat := by omega
    clear hf h0 hm
    go_enter Try.func23, Try.ntmps23
    go_wp2
    go_ret2
    exact ⟨rfl, Below.refl _ _⟩

set_option maxHeartbeats 800000 in
set_option maxRecDepth 4000 in
theorem part_piece (base : Nat) (ao : Option Addr) (m cap : Nat) (O : List UInt8) (p : ByteArray) (c : UInt8) (w : World) (hown : ownsB w base (.slice ao m cap) O) (hm : m = O.length) (hbase : base ≤ w.heap.size) (hO : O.length ≤ 600) (z0 : 0 < p.size) (z1 : 1 < p.size) (d : UInt8) (hp : p.size = 2) (hp0 : p[0]'z0 = c) (hp1 : p[1]'z1 = d) (hc : 128 ≤ c.toNat) (hf : ¬ (d.toNat = 0 ∨ O.length < d.toNat)) (h6 : O.length + (c.toNat - 124) ≤ 600) :
    Calls Try.prog 23 #[.slice ao m cap, .string p] w fun e w' => ∃ g' m' cap', e = .returned (.tuple #[.slice (some ⟨g', 0, none⟩) m' cap', .int .i64 0]) ∧ ownsB w' base (.slice (some ⟨g', 0, none⟩) m' cap') (piece O d.toNat (c.toNat - 124)) ∧ Below base w w' := by
  have hc' : ¬ (c.toNat : Int) < 128 := by omega
  have hd2 : (d.toNat : Int) ≤ 255 := by have := d.toNat_lt; omega
  have hc2 : (c.toNat : Int) ≤ 255 := by have := c.toNat_lt; omega
  have hpb : p.size ≤ 600 := by omega
  obtain ⟨g, cap0, hv, _⟩ := owns_form hown (by omega)
  obtain ⟨rfl, -, rfl⟩ : ao = some ⟨g, 0, none⟩ ∧ m = O.length ∧ cap = cap0 := by simpa using hv
  have h0' : ((d.toNat : Int) == 0) = false := beq_eq_false_iff_ne.2 (by omega)
  have h1 : ¬ (m : Int) < d.toNat := by omega
  have hx := piece_any base g m cap O d.toNat (c.toNat - 124) w hown hbase (by omega) (by omega) hO (by omega)
  rw [show ((c.toNat - 124 : Nat) : Int) = (c.toNat : Int) - 124 by omega] at hx
  have HX := hid hx
  have HM := hid hm
  have hl := piece_length O d.toNat (c.toNat - 124)
  have HL := hid hl
  clear hown hp hf hx hm hl hv
  go_enter Try.func23, Try.ntmps23
  go_wp2_with fail
  refine HX.out.mono ?_
  rintro _ w2 ⟨g5, m5, cap5, rfl, hown5, hb5⟩
  have hm6 : m5 ≤ 600 := by have := (own_len hown5).1; rw [this, HL.out]; exact h6
  have H5 := hid (And.intro hown5 hb5)
  clear hown5 hb5
  go_wp2
  go_ret2
  exact ⟨g5, m5, cap5, rfl, H5.out.1, H5.out.2⟩

set_option maxHeartbeats 800000 in
set_option maxRecDepth 4000 in
theorem part_piece_size (base : Nat) (ao : Option Addr) (m cap : Nat) (O : List UInt8) (p : ByteArray) (c : UInt8) (w : World) (hown : ownsB w base (.slice ao m cap) O) (hm : m = O.length) (hbase : base ≤ w.heap.size) (hO : O.length ≤ 600) (z0 : 0 < p.size) (z1 : 1 < p.size) (d : UInt8) (hp : p.size = 2) (hp0 : p[0]'z0 = c) (hp1 : p[1]'z1 = d) (hc : 128 ≤ c.toNat) (hf : ¬ (d.toNat = 0 ∨ O.length < d.toNat)) (h6 : 600 < O.length + (c.toNat - 124)) :
    Calls Try.prog 23 #[.slice ao m cap, .string p] w fun e w' => e = .returned (.tuple #[.slice none 0 0, .int .i64 1]) ∧ Below base w w' := by
  have hc' : ¬ (c.toNat : Int) < 128 := by omega
  have hd2 : (d.toNat : Int) ≤ 255 := by have := d.toNat_lt; omega
  have hc2 : (c.toNat : Int) ≤ 255 := by have := c.toNat_lt; omega
  have hpb : p.size ≤ 600 := by omega
  obtain ⟨g, cap0, hv, _⟩ := owns_form hown (by omega)
  obtain ⟨rfl, -, rfl⟩ : ao = some ⟨g, 0, none⟩ ∧ m = O.length ∧ cap = cap0 := by simpa using hv
  have h0' : ((d.toNat : Int) == 0) = false := beq_eq_false_iff_ne.2 (by omega)
  have h1 : ¬ (m : Int) < d.toNat := by omega
  have hx := piece_any base g m cap O d.toNat (c.toNat - 124) w hown hbase (by omega) (by omega) hO (by omega)
  rw [show ((c.toNat - 124 : Nat) : Int) = (c.toNat : Int) - 124 by omega] at hx
  have HX := hid hx
  have HM := hid hm
  have hl := piece_length O d.toNat (c.toNat - 124)
  have HL := hid hl
  clear hown hp hf hx hm hl hv
  go_enter Try.func23, Try.ntmps23
  go_wp2_with fail
  refine HX.out.mono ?_
  rintro _ w2 ⟨g5, m5, cap5, rfl, hown5, hb5⟩
  have hm6 : 600 < m5 := by have := (own_len hown5).1; rw [this, HL.out]; exact h6
  have H5 := hid (And.intro hown5 hb5)
  clear hown5 hb5
  go_wp2
  go_ret2
  exact ⟨rfl, H5.out.2⟩
end Go.Proofs.Ytlndioefemdpjaa
