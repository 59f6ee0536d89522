/- What Data answers: some text; it changes nothing. -/
import Derived.Test.YtahoagbaadnihabGreatDoorKeepBase
import Derived.Test.YtahoagbaadnihabGreatDoorShelf
import Derived.Test.YtahoagbaadnihabGreatDoorDevB
import Derived.Test.YtahoagbaadnihabGreatDoorArrM
import Derived.Test.YtahoagbaadnihabGreatDoorMem2
import Derived.Laws.Concat
import Derived.Lib.ItoaLen
import Derived.Deep.QuietTactic
import Derived.BigQuiet
import Derived.Deep.RegionHeld3
namespace Go.Proofs.YtahoagbaadnihabGreatDoor
open Go.RowKit Go.Lib

theorem picked_gen (x m : Int) (w : World) (hx : i64Ok x) (hm : 0 < m ∧ m ≤ 9223372036854775807) :
    Calls Tryz.prog 24 #[.int .i64 x, .int .i64 m] w fun e w' => e = .returned (.int .i64 (pick x m)) ∧ w' = w := picked_any x m w hx.1 hx.2 hm.1 hm.2

theorem below_grow (w : World) (k : Nat) (os : Array Obj) : Below w.heap.size w (Go.Sort.grow (w.drewN k) os) := by
  refine (below_drewN (Below.refl w.heap.size w) k).trans ⟨rfl, rfl, rfl, by simp [Go.Sort.grow], fun j hj => ?_⟩
  have hj' : j < (w.drewN k).heap.size := Nat.lt_of_lt_of_le hj (below_drewN (Below.refl w.heap.size w) k).size
  simp only [Go.Sort.grow]
  rw [Array.getElem?_append_left hj']
theorem itoa_any (n : Int) (w : World) (h : i64Ok n) (hp : Pow w) :
    Calls Tryz.prog 31 #[.int .i64 n] w fun e w' => (∃ s : ByteArray, e = .returned (.string s) ∧ s.size ≤ 21) ∧ Below w.heap.size w w' := by
  refine (Tryz.strconv_Itoa n h.1 h.2 w hp).mono ?_
  rintro _ _ ⟨rfl, k, os, rfl⟩
  exact ⟨⟨_, rfl, itoa_length_le n h.1 h.2⟩, below_grow w k os⟩
theorem itoa_few (n : Nat) (h : n < 100) : ∃ s : ByteArray, s.size ≤ 21 ∧ ∀ w, Calls Tryz.prog 31 #[.int .i64 n] w fun e w' => e = .returned (.string s) ∧ w' = w := by
  refine ⟨⟨(decDigits n).toArray⟩, ?_, fun w => Tryz.strconv_Itoa_small n h w⟩
  have := itoa_length_le (n : Int) (by omega) (by omega)
  rw [itoa, if_neg (by omega)] at this
  exact this
theorem rept_any (s : ByteArray) (c : Nat) (w : World) (h : s.size * c ≤ 100000) (hc : c ≤ 100000) :
    Calls Tryz.prog 47 #[.string s, .int .i64 c] w fun e w' => e = .returned (.string (str (repeatL s.data.toList c))) ∧ Below w.heap.size w w' := Tryz.strings_Repeat s c w (by omega) (by omega)
theorem rept_size (s : ByteArray) (c : Nat) : (str (repeatL s.data.toList c)).size = c * s.size := by rw [str_size, repeatL_length, ba_len]

/-- Some text came out. -/
def SomeT (w : World) (e : Ending) (w' : World) : Prop := (∃ s : ByteArray, e = .returned (.string s) ∧ s.size ≤ 200) ∧ Below w.heap.size w w'

set_option maxHeartbeats 800000 in
theorem data_0 (k a b c : Int) (w : World) (hk : i64Ok k) (ha : i64Ok a) (h5 : pick k 5 = 0) :
    Calls Tryz.prog 32 #[.agg #[.int .i64 k, .int .i64 a, .int .i64 b, .int .i64 c]] w (SomeT w) := by
  have p1 := pick_bd a 30 (by omega)
  obtain ⟨n, hn⟩ : ∃ n : Nat, pick a 30 = n := ⟨(pick a 30).toNat, by omega⟩
  have CR := hid (fun wx => rept_any ⟨#[97, 98]⟩ n wx (by show 2 * n ≤ _; omega) (by omega))
  have hz := rept_size ⟨#[97, 98]⟩ n
  generalize str (repeatL (⟨#[97, 98]⟩ : ByteArray).data.toList n) = S at CR hz
  have HZ := hid (show S.size ≤ 200 by rw [hz]; show n * 2 ≤ 200; omega)
  clear hz p1
  go_enter Tryz.func32, Tryz.ntmps32
  go_wp2_with (first | (go_at_call 24; refine (picked_gen _ _ _ (by assumption) (by decide)).mono ?_; rintro _ w9 ⟨rfl, h9⟩; (have h8 := h9.symm); subst h8) | (go_at_call 47; refine (CR.out _).mono ?_; rintro _ w8 ⟨rfl, g8⟩))
  go_ret
  exact ⟨⟨_, rfl, HZ.out⟩, ((Below.refl _ w).alloc (Nat.le_refl _) _).trans (g8.mono (by simp))⟩

set_option maxHeartbeats 800000 in
theorem data_3 (k a b c : Int) (w : World) (hk : i64Ok k) (ha : i64Ok a) (hb : i64Ok b) (h5 : pick k 5 = 3) :
    Calls Tryz.prog 32 #[.agg #[.int .i64 k, .int .i64 a, .int .i64 b, .int .i64 c]] w (SomeT w) := by
  have p1 := pick_bd a 30 (by omega)
  have p2 := pick_bd b 256 (by omega)
  obtain ⟨n, hn⟩ : ∃ n : Nat, pick a 30 = n := ⟨(pick a 30).toNat, by omega⟩
  obtain ⟨m, hm⟩ : ∃ m : Int, pick b 256 = m := ⟨_, rfl⟩
  rw [hm] at p2
  have CV := fun wx bx (hx : wx.cell? ⟨bx, 0, none⟩ = some (.int .u8 m)) => conv_at1 m p2.1 p2.2 wx bx hx
  have CR := hid (fun wx => rept_any (str [byt m]) (4 * n) wx (by rw [str_size]; show 1 * (4 * n) ≤ _; omega) (by omega))
  rw [show ((4 * n : Nat) : Int) = 4 * (n : Int) by omega] at CR
  have hz := rept_size (str [byt m]) (4 * n)
  generalize str (repeatL (str [byt m]).data.toList (4 * n)) = S at CR hz
  have HZ := hid (show S.size ≤ 200 by rw [hz, str_size]; show 4 * n * 1 ≤ 200; omega)
  obtain ⟨W, hW⟩ : ∃ W, W = (w.alloc (.cells #[.int .i64 k, .int .i64 a, .int .i64 b, .int .i64 c] 70)).alloc (.cells #[.int .u8 m] 5) := ⟨_, rfl⟩
  have hcv := CV W (w.heap.size + 1) (by rw [hW]; simp [go_sem])
  rw [hW] at hcv
  generalize str [byt m] = T at CR hcv
  clear hz CV hW
  go_enter Tryz.func32, Tryz.ntmps32
  go_wp2_with (first | (go_at_call 24; refine (picked_gen _ _ _ (by assumption) (by decide)).mono ?_; rintro _ w9 ⟨rfl, h9⟩; (have h8 := h9.symm); subst h8) | (go_at_call 47; refine (CR.out _).mono ?_; rintro _ w8 ⟨rfl, g8⟩))
  go_ret
  exact ⟨⟨_, rfl, HZ.out⟩, (((Below.refl _ w).alloc (Nat.le_refl _) _).alloc (by simp) _).trans (g8.mono (by simp; omega))⟩

set_option maxHeartbeats 1600000 in
set_option maxRecDepth 4000 in
theorem data_1 (k a b c : Int) (w : World) (hk : i64Ok k) (ha : i64Ok a) (hb : i64Ok b) (h5 : pick k 5 = 1) :
    Calls Tryz.prog 32 #[.agg #[.int .i64 k, .int .i64 a, .int .i64 b, .int .i64 c]] w (SomeT w) := by
  have p1 := pick_bd a 30 (by omega)
  have p2 := pick_bd b 30 (by omega)
  obtain ⟨n, hn⟩ : ∃ n : Nat, pick a 30 = n := ⟨(pick a 30).toNat, by omega⟩
  obtain ⟨m, hm⟩ : ∃ m : Nat, pick b 30 = m := ⟨(pick b 30).toNat, by omega⟩
  obtain ⟨S1, z1, q1⟩ := itoa_few n (by omega)
  obtain ⟨S2, z2, q2⟩ := itoa_few m (by omega)
  have I1 := hid q1
  have I2 := hid q2
  have run : ∀ (x y : ByteArray), x.size ≤ 500 → y.size ≤ 50 → ∃ z : ByteArray, z.size = x.size + y.size ∧ ∀ wx, (Op.stringOp .add x y).run Tryz.prog wx = .ok (.string z) wx := fun x y hx hy => ⟨x ++ y, ByteArray.size_append, fun wx => run_string_add_sum wx x y (by omega)⟩
  obtain ⟨X1, t1, r1⟩ := run ⟨#[108, 105, 110, 101, 32]⟩ S1 (by show 5 ≤ 500; omega) (by omega)
  have t1' : X1.size ≤ 26 := by rw [t1]; show 5 + S1.size ≤ 26; omega
  obtain ⟨X2, t2, r2⟩ := run X1 ⟨#[10, 108, 105, 110, 101, 32]⟩ (by omega) (by show 6 ≤ 50; omega)
  have t2' : X2.size ≤ 32 := by rw [t2]; show X1.size + 6 ≤ 32; omega
  obtain ⟨X3, t3, r3⟩ := run X2 S2 (by omega) (by omega)
  obtain ⟨X4, t4, r4⟩ := run X3 ⟨#[10, 108, 105, 110, 101, 32]⟩ (by omega) (by show 6 ≤ 50; omega)
  have t4' : X4.size ≤ 59 := by rw [t4]; show X3.size + 6 ≤ 59; omega
  obtain ⟨X5, t5, r5⟩ := run X4 S1 (by omega) (by omega)
  obtain ⟨X6, t6, r6⟩ := run X5 ⟨#[10]⟩ (by omega) (by show 1 ≤ 50; omega)
  have HZ := hid (show X6.size ≤ 200 by rw [t6]; show X5.size + 1 ≤ 200; omega)
  obtain ⟨W, hW⟩ : ∃ W, W = w.alloc (.cells #[.int .i64 k, .int .i64 a, .int .i64 b, .int .i64 c] 70) := ⟨_, rfl⟩
  have hB : Below w.heap.size w W := by rw [hW]; exact (Below.refl _ w).alloc (Nat.le_refl _) _
  have c2 : W.cell? ⟨w.heap.size, 2, none⟩ = some (.int .i64 b) := by rw [hW]; simp [go_sem]
  have HB := hid hB
  clear run t1 t2 t3 t4 t5 t6 t1' t2' t4' z1 z2 q1 q2 p1 p2 hB
  go_enter Tryz.func32, Tryz.ntmps32
  go_upto_region 6 with (go_at_call 24; refine (picked_gen _ _ _ (by assumption) (by decide)).mono ?_; rintro _ w9 ⟨rfl, h9⟩; (have h8 := h9.symm); subst h8)
  rw [← hW]
  clear hW
  go_region_held3 (fun w' => w'.cell? ⟨w.heap.size, 2, none⟩ = some (.int .i64 b)) (go_keep)
    (first | (go_at_call 24; refine (picked_gen _ _ _ (by assumption) (by decide)).mono ?_; rintro _ w9 ⟨rfl, h9⟩; (have h8 := h9.symm); subst h8) | (go_at_call 31; refine (I1.out _).mono ?_; rintro _ w9 ⟨rfl, h9⟩; (have h8 := h9.symm); subst h8) | (go_at_call 31; refine (I2.out _).mono ?_; rintro _ w9 ⟨rfl, h9⟩; (have h8 := h9.symm); subst h8))
  all_goals go_wp2
  all_goals go_ret
  all_goals exact ⟨⟨_, rfl, HZ.out⟩, HB.out.drew⟩

set_option maxHeartbeats 1600000 in
set_option maxRecDepth 4000 in
theorem data_4 (k a b c : Int) (w : World) (hk : i64Ok k) (ha : i64Ok a) (hc : i64Ok c) (hp : Pow w) (h5 : pick k 5 = 4) :
    Calls Tryz.prog 32 #[.agg #[.int .i64 k, .int .i64 a, .int .i64 b, .int .i64 c]] w (SomeT w) := by
  have p1 := pick_bd a 30 (by omega)
  have p2 := pick_bd c 1000 (by omega)
  obtain ⟨n, hn⟩ : ∃ n : Nat, pick a 30 = n := ⟨(pick a 30).toNat, by omega⟩
  obtain ⟨q, hq⟩ : ∃ q : Nat, q = 1 + n % 4 := ⟨_, rfl⟩
  have u1 : (q : Int) = IntKind.i64.wrap (1 + (n : Int).tmod 4) := by rw [Int.tmod_eq_emod_of_nonneg (by omega), IntWalk.i64_in _ (by omega)]; omega
  have CR := hid (fun wx => rept_any ⟨#[116, 104, 101, 32, 113, 117, 105, 99, 107, 32, 102, 111, 120, 44, 32]⟩ q wx (by show 15 * q ≤ _; omega) (by omega))
  rw [u1] at CR
  have hz := rept_size ⟨#[116, 104, 101, 32, 113, 117, 105, 99, 107, 32, 102, 111, 120, 44, 32]⟩ q
  generalize str (repeatL (⟨#[116, 104, 101, 32, 113, 117, 105, 99, 107, 32, 102, 111, 120, 44, 32]⟩ : ByteArray).data.toList q) = S at CR hz
  have hz' : S.size ≤ 60 := by rw [hz]; show q * 15 ≤ 60; omega
  obtain ⟨W, hW⟩ : ∃ W, W = w.alloc (.cells #[.int .i64 k, .int .i64 a, .int .i64 b, .int .i64 c] 70) := ⟨_, rfl⟩
  have hB : Below w.heap.size w W := by rw [hW]; exact (Below.refl _ w).alloc (Nat.le_refl _) _
  have hlt : w.heap.size < W.heap.size := by rw [hW]; simp
  have c3 : W.cell? ⟨w.heap.size, 3, none⟩ = some (.int .i64 c) := by rw [hW]; simp [go_sem]
  have HB := hid (And.intro hB (And.intro hlt c3))
  have CI := hid (fun wx (g : Below W.heap.size W wx) => itoa_any (pick c 1000) wx (by constructor <;> omega) ((hp.below hB).below g))
  have HA := hid (fun (s : ByteArray) (h : s.size ≤ 21) (wx : World) => run_string_add_sum (P := Tryz.prog) wx S s (by omega))
  have HZ := hid (fun (s : ByteArray) (h : s.size ≤ 21) => (show (S ++ s).size ≤ 200 by rw [ByteArray.size_append]; omega))
  clear p1 p2 hz hz' hB hlt hp hq u1
  go_enter Tryz.func32, Tryz.ntmps32
  go_upto_region 17 with (go_at_call 24; refine (picked_gen _ _ _ (by assumption) (by decide)).mono ?_; rintro _ w9 ⟨rfl, h9⟩; (have h8 := h9.symm); subst h8)
  rw [← hW]
  clear hW
  go_region_held3 (fun w' => w'.cell? ⟨w.heap.size, 3, none⟩ = some (.int .i64 c)) (go_keep)
    (first | (go_at_call 24; refine (picked_gen _ _ _ (by assumption) (by decide)).mono ?_; rintro _ w9 ⟨rfl, h9⟩; (have h8 := h9.symm); subst h8) | (go_at_call 47; refine (CR.out _).mono ?_; rintro _ w8 ⟨rfl, g8⟩; (first | (have G8 := hid (bel3 G7.out g8)) | (have G8 := hid (undrew g8))); (have j8 := (G8.out.cell (p := ⟨w.heap.size, 3, none⟩) HB.out.2.1).trans HB.out.2.2); clear g8) | (go_at_call 31; refine (CI.out _ G8.out).mono ?_; rintro _ w7 ⟨⟨s7, rfl, z7⟩, g7⟩; (have G7 := hid (bel3 G8.out g7)); (have j7 := (G7.out.cell (p := ⟨w.heap.size, 3, none⟩) HB.out.2.1).trans HB.out.2.2); (have a7 := HA.out s7 z7); clear g7) | (go_at_call 31; refine (CI.out _ ((Below.refl _ W).drew)).mono ?_; rintro _ w7 ⟨⟨s7, rfl, z7⟩, g7⟩; (have G7 := hid (undrew g7)); (have j7 := (G7.out.cell (p := ⟨w.heap.size, 3, none⟩) HB.out.2.1).trans HB.out.2.2); (have a7 := HA.out s7 z7); clear g7))
  all_goals go_wp2
  all_goals go_ret
  all_goals (first | exact ⟨⟨_, rfl, HZ.out _ z7⟩, bel3 HB.out.1 G7.out⟩ | exact ⟨⟨_, rfl, HZ.out _ z7⟩, bel3 HB.out.1 G8.out⟩)

theorem bytes_make (n : Nat) (hn : n ≤ 1000) (w : World) : (Instr.makeSlice 97 (.int .i64 (n : Int)) (.int .i64 (n : Int))).run Tryz.prog w = .ok (.slice (some ⟨w.heap.size, 0, none⟩) n n) (w.alloc (.cells (List.replicate n (.int .u8 0)).toArray 5)) := by
  obtain ⟨i, hi, hzz⟩ := Option.map_eq_some_iff.1 info_u8
  simp only [Prod.mk.injEq] at hzz
  obtain ⟨hz, hs, hb⟩ := hzz
  have hr := run_make (P := Tryz.prog) w 97 5 i _ Tryz.underlying97 hi hz .i64 .i64 n n (by omega) (Int.le_refl _) (by rw [hb]; omega) (by omega)
  simp only [Int.toNat_natCast, hs, Nat.mul_one] at hr
  rw [hr, show (Value.int .u8 0).cells = #[.int .u8 0] from rfl, made_one]
theorem bytesAt_zero (w : World) (n : Nat) : BytesAt (w.alloc (.cells (List.replicate n (.int .u8 0)).toArray 5)) w.heap.size (List.replicate n 0) := by
  have ho := Own.made w 5 (List.replicate n (.int .u8 0))
  refine ⟨fun j hj => ⟨?_, ho.free j⟩⟩
  rw [List.getElem_replicate]
  exact ho.cell (by rw [List.getElem?_replicate, if_pos (by simpa using hj)]; rfl)

set_option maxHeartbeats 1600000 in
set_option maxRecDepth 4000 in
theorem data_2 (k a b c : Int) (w : World) (hk : i64Ok k) (ha : i64Ok a) (hb : i64Ok b) (hc : i64Ok c) (h5 : pick k 5 = 2) :
    Calls Tryz.prog 32 #[.agg #[.int .i64 k, .int .i64 a, .int .i64 b, .int .i64 c]] w (SomeT w) := by
  have p1 := pick_bd a 30 (by omega)
  have p2 := pick_bd b 50 (by omega)
  have p3 := pick_bd c 256 (by omega)
  obtain ⟨n, hn⟩ : ∃ n : Nat, pick a 30 = n := ⟨(pick a 30).toNat, by omega⟩
  obtain ⟨W, hW⟩ : ∃ W, W = w.alloc (.cells #[.int .i64 k, .int .i64 a, .int .i64 b, .int .i64 c] 70) := ⟨_, rfl⟩
  have hB : Below w.heap.size w W := by rw [hW]; exact (Below.refl _ w).alloc (Nat.le_refl _) _
  have hz : W.heap.size = w.heap.size + 1 := by rw [hW]; simp
  have c2 : W.cell? ⟨w.heap.size, 2, none⟩ = some (.int .i64 b) := by rw [hW]; simp [go_sem]
  have c3 : W.cell? ⟨w.heap.size, 3, none⟩ = some (.int .i64 c) := by rw [hW]; simp [go_sem]
  have mk := bytes_make n (by omega) W
  obtain ⟨V, hV⟩ : ∃ V, V = W.alloc (.cells (List.replicate n (.int .u8 0)).toArray 5) := ⟨_, rfl⟩
  have z0 := bytesAt_zero W n
  have gV : Below W.heap.size W V := by rw [hV]; exact (Below.refl _ W).alloc (Nat.le_refl _) _
  rw [← hV] at mk z0
  rw [hz] at mk z0
  have HS := hid (And.intro z0 gV)
  have HP := hid (And.intro hB (And.intro hz (And.intro c2 c3)))
  have n30 : n < 30 := by omega
  clear z0 gV hV hB hz c2 c3
  go_enter Tryz.func32, Tryz.ntmps32
  go_upto_region 8 with (go_at_call 24; refine (picked_gen _ _ _ (by assumption) (by decide)).mono ?_; rintro _ w9 ⟨rfl, h9⟩; (have h8 := h9.symm); subst h8)
  rw [← hW]
  clear hW
  go_wp2_with fail
  clear mk
  go_loopw [38] (fun i wr => ∃ (I : Nat) (l : List UInt8), i = .int .i64 I ∧ I ≤ n ∧ Hid (l.length = n ∧ BytesAt wr (w.heap.size + 1) l ∧ Below W.heap.size W wr)) (fun i _ => n - (intOf i).toNat)
  case atStart => exact ⟨0, _, rfl, Nat.zero_le _, by simp, HS.out.1, HS.out.2⟩
  case round =>
    obtain ⟨I, l, rfl, hI, HO⟩ := hrel
    clear HS
    by_cases hlt : I < n
    · have hlt' : (I : Int) < n := by omega
      have e2 := (HO.out.2.2.cell (p := ⟨w.heap.size, 2, none⟩) (by show w.heap.size < W.heap.size; rw [HP.out.2.1]; omega)).trans HP.out.2.2.1
      have e3 := (HO.out.2.2.cell (p := ⟨w.heap.size, 3, none⟩) (by show w.heap.size < W.heap.size; rw [HP.out.2.1]; omega)).trans HP.out.2.2.2
      obtain ⟨Y, hY⟩ : ∃ Y : Nat, Y = I * I := ⟨_, rfl⟩
      have hYb : Y ≤ 900 := by rw [hY]; exact Nat.le_trans (Nat.mul_le_mul (show I ≤ 30 by omega) (show I ≤ 30 by omega)) (by decide)
      have u1 : IntKind.i64.wrap ((I : Int) * (I : Int)) = (Y : Int) := by
        rw [show (I : Int) * (I : Int) = (Y : Int) by rw [hY]; exact (Int.natCast_mul I I).symm, IntWalk.i64_in _ (by omega)]
      obtain ⟨P, hP⟩ : ∃ P : Nat, pick b 50 = P := ⟨(pick b 50).toNat, by omega⟩
      obtain ⟨Z, hZ⟩ : ∃ Z : Nat, Z = Y * P := ⟨_, rfl⟩
      have hZb : Z ≤ 90000 := by rw [hZ]; exact Nat.le_trans (Nat.mul_le_mul hYb (show P ≤ 100 by omega)) (by decide)
      have u2 : IntKind.i64.wrap ((Y : Int) * pick b 50) = (Z : Int) := by
        rw [hP, show (Y : Int) * (P : Int) = (Z : Int) by rw [hZ]; exact (Int.natCast_mul Y P).symm, IntWalk.i64_in _ (by omega)]
      have u3 : IntKind.i64.wrap ((Z : Int) + pick c 256) = (Z : Int) + pick c 256 := IntWalk.i64_in _ (by omega)
      have hbd : 0 ≤ ((Z : Int) + pick c 256) % 256 ∧ ((Z : Int) + pick c 256) % 256 < 256 := ⟨by omega, by omega⟩
      have u4 : IntKind.u8.wrap ((Z : Int) + pick c 256) = ((byt (((Z : Int) + pick c 256) % 256)).toNat : Int) := by
        rw [byt_nat _ hbd.1 hbd.2, IntKind.wrap_u8]
      generalize byt (((Z : Int) + pick c 256) % 256) = v at u4
      have hl : I < l.length := by rw [HO.out.1]; exact hlt
      have cc := HO.out.2.1.at_ I hl
      have cc1 := cc.1
      have cc2 := cc.2
      have HK := hid (And.intro (show (l.set I v).length = n by rw [List.length_set]; exact HO.out.1) (And.intro (HO.out.2.1.drew.set I hl v) (HO.out.2.2.drew.setCell (p := ⟨w.heap.size + 1, I, none⟩) (by show W.heap.size ≤ w.heap.size + 1; rw [HP.out.2.1]; omega) (.int .u8 (v.toNat : Int)))))
      have ne : w.heap.size + 1 ≠ w.heap.size := by omega
      clear cc hY hYb hP hZ hZb hbd HO p1 p2 p3
      go_wp2_with fail
      go_region_held3 (fun w' => w'.cell? ⟨w.heap.size, 2, none⟩ = some (.int .i64 b) ∧ w'.cell? ⟨w.heap.size, 3, none⟩ = some (.int .i64 c)) (go_keep)
        (first | (go_at_call 24; refine (picked_gen _ _ _ (by assumption) (by decide)).mono ?_; rintro _ w9 ⟨rfl, h9⟩; (have h8 := h9.symm); subst h8))
      all_goals go_wp2
      all_goals go_roundw
      all_goals (first | (case rel => exact ⟨I + 1, _, by go_num, by omega, HK.out⟩) | skip)
      all_goals (simp [intOf]; omega)
    · obtain rfl : I = n := by omega
      have hnl : ¬ (I : Int) < I := by omega
      have hcv := fun cap => bytesAt_back (cap := cap) (n := I) HO.out.2.1 HO.out.1.symm
      have HZ := hid (show (str l).size ≤ 200 by rw [str_size, HO.out.1]; omega)
      go_wp2
      go_ret
      exact ⟨⟨_, rfl, HZ.out⟩, bel3 HP.out.1 HO.out.2.2⟩

theorem data_any (r : Raw4) (w : World) (hk : i64Ok r.kind) (ha : i64Ok r.a) (hb : i64Ok r.b) (hc : i64Ok r.c) (hp : Pow w) :
    Calls Tryz.prog 32 #[.agg #[.int .i64 r.kind, .int .i64 r.a, .int .i64 r.b, .int .i64 r.c]] w (SomeT w) := by
  have h5 := pick_bd r.kind 5 (by omega)
  have : pick r.kind 5 = 0 ∨ pick r.kind 5 = 1 ∨ pick r.kind 5 = 2 ∨ pick r.kind 5 = 3 ∨ pick r.kind 5 = 4 := by omega
  rcases this with h | h | h | h | h
  · exact data_0 _ _ _ _ w hk ha h
  · exact data_1 _ _ _ _ w hk ha hb h
  · exact data_2 _ _ _ _ w hk ha hb hc h
  · exact data_3 _ _ _ _ w hk ha hb h
  · exact data_4 _ _ _ _ w hk ha hc hp h
end Go.Proofs.YtahoagbaadnihabGreatDoor
