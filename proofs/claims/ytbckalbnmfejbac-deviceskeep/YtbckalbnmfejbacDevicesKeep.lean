/- For every two numbers, every text and every byte: on a new device what was written is read, till it is lost (ErrLost) or, by a byte that is not 0, turned (ErrSum); written anew it is read again; another sector stays as it was; no condition. -/
import Derived.Test.YtbckalbnmfejbacRows
import Derived.Test.YtbckalbnmfejbacDevKeepMath
import Derived.Test.YtbckalbnmfejbacDevNew
import Derived.Test.YtbckalbnmfejbacDevRead
import Derived.Test.YtbckalbnmfejbacDevTurn
import Derived.Test.YtbckalbnmfejbacPicked
import Derived.Test.YtbckalbnmfejbacShelf
import Derived.WalkKit
import Derived.ProofKit
import Derived.OpenShut
import Derived.ShutString
import Derived.Deep.RegionHeld3
import Derived.Deep.DeepCutAuto
namespace Go.Proofs.Ytbckalbnmfejbac
open Go.RowKit Go.Lib
/-- A device laid into a box. -/
structure DB (W : World) (p : Nat) (x : Option Addr) (n e : Nat) (x' : Option Addr) (m e' : Nat) (D : Dv) : Prop where
  b : Box2 W p (.slice x n e) (.slice x' m e')
  d : DevAt W x n x' m D
theorem DB.below {W W' : World} {p : Nat} {x x' : Option Addr} {n e m e' : Nat} {D : Dv} (h : DB W p x n e x' m e' D) (g : Below W.heap.size W W') : DB W' p x n e x' m e' D := ⟨h.b.below g, h.d.below g⟩
theorem boxed {w : World} {x x' : Option Addr} {n e m e' : Nat} {D : Dv} (hX : DevAt w x n x' m D) : ∃ W, W = w.alloc (.cells #[.slice x n e, .slice x' m e'] 25) ∧ Below w.heap.size w W ∧ DB W w.heap.size x n e x' m e' D := by
  have hb : Below w.heap.size w (w.alloc (.cells #[.slice x n e, .slice x' m e'] 25)) := (Below.refl _ w).alloc (Nat.le_refl _) _
  exact ⟨_, rfl, hb, box2_of (Own.made w 25 [.slice x n e, .slice x' m e']), hX.below hb⟩
/-- The box was laid ahead of the call whose answer it gets. -/
theorem turn_late {w v : World} {x y : Option Addr} {n e m f : Nat} {D : Dv} (hX : DevAt v x n y m D) (hF : Fresh (w.alloc (.cells #[.slice none 0 0, .slice none 0 0] 25)).drew.heap.size x y) (g : Below (w.alloc (.cells #[.slice none 0 0, .slice none 0 0] 25)).heap.size (w.alloc (.cells #[.slice none 0 0, .slice none 0 0] 25)) v) :
    Box2 v w.heap.size (.slice none 0 0) (.slice none 0 0) ∧ Below w.heap.size w v ∧ DB ((v.setCell ⟨w.heap.size, 0, none⟩ (.slice x n e)).setCell ⟨w.heap.size, 1, none⟩ (.slice y m f)) w.heap.size x n e y m f D ∧ Below w.heap.size w ((v.setCell ⟨w.heap.size, 0, none⟩ (.slice x n e)).setCell ⟨w.heap.size, 1, none⟩ (.slice y m f)) := by
  have hz : (w.alloc (.cells #[.slice none 0 0, .slice none 0 0] 25)).heap.size = w.heap.size + 1 := by simp
  have hb : Below w.heap.size w (w.alloc (.cells #[.slice none 0 0, .slice none 0 0] 25)) := (Below.refl _ w).alloc (Nat.le_refl _) _
  have bx := (box2_of (Own.made w 25 [.slice none 0 0, .slice none 0 0])).below g
  have hbv : Below w.heap.size w v := hb.trans (g.mono hb.size)
  have hs := out_store (w := w) (W := (w.alloc (.cells #[.slice none 0 0, .slice none 0 0] 25)).drew) (p := w.heap.size) (c := e) (c' := f) hX hF hbv (Nat.le_refl _) (by show w.heap.size < (w.alloc (.cells #[.slice none 0 0, .slice none 0 0] 25)).heap.size; rw [hz]; omega) (by show w.heap.size ≤ (w.alloc (.cells #[.slice none 0 0, .slice none 0 0] 25)).heap.size; rw [hz]; omega)
  exact ⟨bx, hbv, ⟨bx.store _ _, hs.1⟩, hs.2.2⟩
theorem below3 {w W W' : World} (h : Below w.heap.size w W) (g : Below W.heap.size W W') : Below w.heap.size w W' := h.trans (g.mono h.size)
end Go.Proofs.Ytbckalbnmfejbac
namespace Go.Proofs.Ytbckalbnmfejbac.devicesKeep
open Go.ChangeShapes Go.WideShapes Go.ChangeAt Go.RowKit
open Go.ChangeMaps (open_string shut_string)

theorem own : ownKnob Try.prog.godebug = none := by kernel_rfl

set_option maxHeartbeats 3200000 in
set_option maxRecDepth 8000 in
theorem walk2 (many at_ : Int) (s p : ByteArray) (c : Int) (n k o pl : Nat) (w : World) (hmany : 1 + pick many 64 = n) (hk : pick at_ n = k) (hpl : pick at_ 30 = pl) (ho : o = (k + 1) % n) (hn : n ≤ 64) (hkn : k < n)
    (m0 : -9223372036854775808 ≤ many) (m1 : many ≤ 9223372036854775807) (a0 : -9223372036854775808 ≤ at_) (a1 : at_ ≤ 9223372036854775807) (hs : s.size ≤ 9223372036854775807) (hp : p = s.extract 0 (min (s.size : Int) 24).toNat) (c0 : 0 ≤ c) (c1 : c ≤ 255)
    (D0 D1 D2 D3 D4 : Dv) (E3 : List UInt8 × Int) (K : Keeps n k o pl p.data.toList c D0 D1 D2 D3 D4 E3) :
    Calls Try.prog 7 #[.int .i64 many, .int .i64 at_, .string s, .int .u8 c] w fun e w' => e = .returned (.bool true) ∧ Below w.heap.size w w' := by
  have P1 := hid (fun wx => picked_any many 64 wx m0 m1 (by omega) (by omega))
  have P2 := hid (fun wx => picked_any at_ n wx a0 a1 (by omega) (by omega))
  have P3 := hid (fun wx => picked_any at_ 30 wx a0 a1 (by omega) (by omega))
  rw [hk] at P2
  rw [hpl] at P3
  have C1 := hid (fun wx => new_any n 0 wx)
  have C2 := hid (fun (b : Option Addr) (x y : Nat) (b' : Option Addr) (x' y' : Nat) (wx : World) (hx : DevAt wx b x b' x' D0) => write_any b x y b' x' y' k k p D0 wx hx)
  have C3 := hid (fun (b : Option Addr) (x y : Nat) (b' : Option Addr) (x' y' : Nat) (wx : World) (hx : DevAt wx b x b' x' D1) => read_any b x y b' x' y' k k D1 wx hx)
  have C4 := hid (fun (b : Option Addr) (x y : Nat) (b' : Option Addr) (x' y' : Nat) (wx : World) (hx : DevAt wx b x b' x' D1) => lose_any b x y b' x' y' k D1 wx hx)
  have C5 := hid (fun (b : Option Addr) (x y : Nat) (b' : Option Addr) (x' y' : Nat) (wx : World) (hx : DevAt wx b x b' x' D2) => read_any b x y b' x' y' k k D2 wx hx)
  have C6 := hid (fun (b : Option Addr) (x y : Nat) (b' : Option Addr) (x' y' : Nat) (wx : World) (hx : DevAt wx b x b' x' D1) => turn_any b x y b' x' y' k pl c D1 wx hx)
  have C7 := hid (fun (b : Option Addr) (x y : Nat) (b' : Option Addr) (x' y' : Nat) (wx : World) (hx : DevAt wx b x b' x' D3) => read_any b x y b' x' y' k k D3 wx hx)
  have C8 := hid (fun (b : Option Addr) (x y : Nat) (b' : Option Addr) (x' y' : Nat) (wx : World) (hx : DevAt wx b x b' x' D2) => write_any b x y b' x' y' k k p D2 wx hx)
  have C9 := hid (fun (b : Option Addr) (x y : Nat) (b' : Option Addr) (x' y' : Nat) (wx : World) (hx : DevAt wx b x b' x' D4) => read_any b x y b' x' y' k k D4 wx hx)
  have C10 := hid (fun (b : Option Addr) (x y : Nat) (b' : Option Addr) (x' y' : Nat) (wx : World) (hx : DevAt wx b x b' x' D3) => read_any b x y b' x' y' o o D3 wx hx)
  rw [K.new] at C1
  rw [K.write] at C2
  rw [K.read] at C3
  rw [K.lose] at C4
  rw [K.lost] at C5
  rw [K.turn] at C6
  rw [K.turned] at C7
  rw [K.again] at C8
  rw [K.back] at C9
  have HT := hid K.told
  have HR := hid K.rest
  have hpre := pad_pre p.data.toList
  have HX := hid (fun wx => Try.strings_HasPrefix (str (pad p.data.toList)) p wx)
  rw [str_list, hpre] at HX
  generalize str (pad p.data.toList) = T at C3 C9 HX
  have HP := hid hp
  have u8 : IntKind.i64.wrap c = c := IntWalk.i64_in _ (by omega)
  have HB := hid hmany
  clear K hpre hk hpl hp
  go_enter Try.func7, Try.ntmps7
  go_upto_region 4 with (first | (go_at_call_of 18 (Value.int IntKind.i64 many); refine (P1.out _).mono ?_; rintro _ w9 ⟨rfl, h9⟩; (have h8 := h9.symm); subst h8) | (go_at_call_of 18 (Value.int IntKind.i64 n); refine (P2.out _).mono ?_; rintro _ w9 ⟨rfl, h9⟩; (have h8 := h9.symm); subst h8))
  rw [← HP.out]
  clear hmany
  -- New
  go_wp2_with fail
  refine (C1.out _).mono ?_
  rintro _ v1 ⟨x1, n1, e1, y1, m1, f1, rfl, hX, _, g1⟩
  go_upto_region 5 with fail
  obtain ⟨W1, hW1, b1, bx1⟩ := boxed (e := e1) (e' := f1) hX
  rw [← hW1]
  have S1 := hid (And.intro (below3 g1 b1) bx1)
  have d0 := bx1.b.c0
  have d1 := bx1.b.c1
  clear hW1 hX g1 b1 bx1 C1 P1 P2
  generalize v1.heap.size = pd at S1 d0 d1 ⊢
  -- Write
  go_wp2_with fail
  refine (C2.out _ _ _ _ _ _ _ S1.out.2.d).mono ?_
  rintro _ v2 ⟨x2, n2, e2, y2, m2, f2, rfl, hX, _, g1⟩
  clear d0 d1
  go_upto_region 6 with fail
  obtain ⟨W2, hW2, b1, bx1⟩ := boxed (e := e2) (e' := f2) hX
  rw [← hW2]
  have S2 := hid (And.intro (below3 (below3 S1.out.1 g1) b1) bx1)
  have d0 := bx1.b.c0
  have d1 := bx1.b.c1
  clear hW2 hX g1 b1 bx1 C2 S1
  generalize v2.heap.size = pa at S2 d0 d1 ⊢
  -- Read
  go_wp2_with fail
  refine (C3.out _ _ _ _ _ _ _ S2.out.2.d).mono ?_
  rintro _ w3 ⟨rfl, g1⟩
  have S3 := hid (And.intro (below3 S2.out.1 g1) (S2.out.2.below g1))
  clear d0 d1 g1 S2 C3
  have d0 := S3.out.2.b.c0
  have d1 := S3.out.2.b.c1
  -- Lose
  go_wp2_with fail
  refine (C4.out _ _ _ _ _ _ _ S3.out.2.d).mono ?_
  rintro _ v4 ⟨x4, n4, e4, y4, m4, f4, rfl, hX, _, g1⟩
  clear d0 d1
  go_upto_region 8 with fail
  obtain ⟨W4, hW4, b1, bx1⟩ := boxed (e := e4) (e' := f4) hX
  rw [← hW4]
  have S4 := hid (And.intro (below3 (below3 S3.out.1 g1) b1) (And.intro ((S3.out.2.below g1).below b1) bx1))
  have d0 := bx1.b.c0
  have d1 := bx1.b.c1
  clear hW4 hX g1 b1 bx1 C4 S3
  generalize v4.heap.size = pb at S4 d0 d1 ⊢
  -- Read of what is lost
  go_wp2_with fail
  refine (C5.out _ _ _ _ _ _ _ S4.out.2.2.d).mono ?_
  rintro _ w5 ⟨rfl, g1⟩
  have S5 := hid (And.intro (below3 S4.out.1 g1) (And.intro (S4.out.2.1.below g1) (S4.out.2.2.below g1)))
  clear d0 d1 g1 S4 C5
  have d0 := S5.out.2.1.b.c0
  have d1 := S5.out.2.1.b.c1
  go_upto_region 9 with fail
  -- Turn
  go_cut [22, 23] (fun s22 s23 wx => ∃ pc x n e x' m e', s22 = .pointer (some ⟨pc, 0, none⟩) ∧ s23 = .int .i64 0 ∧ Below w.heap.size w wx ∧ DB wx pb x4 n4 e4 y4 m4 f4 D2 ∧ DB wx pc x n e x' m e' D3)
  case first =>
    go_region_held3 (fun w' => w'.cell? ⟨pa, 0, none⟩ = some (.slice x2 n2 e2) ∧ w'.cell? ⟨pa, 1, none⟩ = some (.slice y2 m2 f2)) (go_keep)
      (first | (go_at_call 18; refine (P3.out _).mono ?_; rintro _ w9 ⟨rfl, h9⟩; (have h8 := h9.symm); subst h8) | (go_at_call 16; refine (C6.out _ _ _ _ _ _ w5.drew (S5.out.2.1.below ((Below.refl _ _).drew)).d).mono ?_; rintro _ v6 ⟨x6, n6, e6, y6, m6, f6, rfl, hX, _, g1⟩; (have g2 := undrew g1); (have q2 := S5.out.2.1.below g2); (have q0 := q2.b.c0); (have q1 := q2.b.c1); (have SA := hid (And.intro hX g2)); clear hX g1 g2 q2) | (go_at_call 16; refine (C6.out _ _ _ _ _ _ (w5.alloc (.cells #[.slice none 0 0, .slice none 0 0] 25)).drew (S5.out.2.1.below (((Below.refl _ _).alloc (Nat.le_refl _) _).drew)).d).mono ?_; rintro _ v6 ⟨x6, n6, e6, y6, m6, f6, rfl, hX, hF, g1⟩; (have g2 := undrew g1); (have SB := hid (turn_late (e := e6) (f := f6) hX hF g2)); obtain ⟨r0, r1, r2, r3⟩ := SB.out.1; (have q2 := S5.out.2.1.below SB.out.2.1); (have q0 := q2.b.c0); (have q1 := q2.b.c1); (have q3 := (q2.b.other (q := ⟨w5.heap.size, 0, none⟩) (Nat.ne_of_lt S5.out.2.1.b.lt) (.slice x6 n6 e6)).other (q := ⟨w5.heap.size, 1, none⟩) (Nat.ne_of_lt S5.out.2.1.b.lt) (.slice y6 m6 f6)); (have q4 := q3.c0); (have q5 := q3.c1); clear hX hF g1 g2 q2 q3))
    all_goals (go_wp2_with fail; go_meet)
    all_goals (first | (obtain ⟨W6, hW6, b6, bx6⟩ := boxed (e := e6) (e' := f6) SA.out.1; rw [← hW6]; exact ⟨v6.heap.size, x6, n6, e6, y6, m6, f6, rfl, rfl, below3 (below3 S5.out.1 SA.out.2) b6, (S5.out.2.2.below SA.out.2).below b6, bx6⟩) | (exact ⟨w5.heap.size, x6, n6, e6, y6, m6, f6, rfl, rfl, below3 S5.out.1 SB.out.2.2.2, S5.out.2.2.below SB.out.2.2.2, SB.out.2.2.1⟩))
  case rest =>
    obtain ⟨pc, x6, n6, e6, y6, m6, f6, rfl, rfl, hB, hb, hc⟩ := hcut
    have S6 := hid (And.intro hB (And.intro hb hc))
    clear hB hb hc S5 C6 P3 d0 d1
    have d0 := S6.out.2.2.b.c0
    have d1 := S6.out.2.2.b.c1
    -- Read of what is turned
    go_wp2_with fail
    refine (C7.out _ _ _ _ _ _ _ S6.out.2.2.d).mono ?_
    rintro _ w7 ⟨rfl, g1⟩
    have S7 := hid (And.intro (below3 S6.out.1 g1) (And.intro (S6.out.2.1.below g1) (S6.out.2.2.below g1)))
    clear d0 d1 g1 S6 C7
    have d0 := S7.out.2.1.b.c0
    have d1 := S7.out.2.1.b.c1
    -- Write again
    go_wp2_with fail
    refine (C8.out _ _ _ _ _ _ _ S7.out.2.1.d).mono ?_
    rintro _ v8 ⟨x8, n8, e8, y8, m8, f8, rfl, hX, _, g1⟩
    clear d0 d1
    go_upto_region 12 with fail
    obtain ⟨W8, hW8, b1, bx1⟩ := boxed (e := e8) (e' := f8) hX
    rw [← hW8]
    have S8 := hid (And.intro (below3 (below3 S7.out.1 g1) b1) (And.intro ((S7.out.2.2.below g1).below b1) bx1))
    have d0 := bx1.b.c0
    have d1 := bx1.b.c1
    clear hW8 hX g1 b1 bx1 C8 S7
    generalize v8.heap.size = px at S8 d0 d1 ⊢
    -- Read again
    go_wp2_with fail
    refine (C9.out _ _ _ _ _ _ _ S8.out.2.2.d).mono ?_
    rintro _ w9 ⟨rfl, g1⟩
    have S9 := hid (And.intro (below3 S8.out.1 g1) (S8.out.2.1.below g1))
    clear d0 d1 g1 S8 C9
    by_cases h1 : 1 < n
    · have h1' : (1 : Int) < n := by omega
      have hok : o ≠ k := by
        rw [ho]
        intro e
        by_cases hh : k + 1 < n
        · rw [Nat.mod_eq_of_lt hh] at e; omega
        · have : k + 1 = n := by omega
          rw [this, Nat.mod_self] at e
          omega
      have R := HR.out hok
      rw [R] at C10
      have HZ := hid (fun wx => Try.strings_Repeat ⟨#[0]⟩ 24 wx (by omega) (by decide))
      have hz : (⟨(Lib.repeatL (⟨#[0]⟩ : ByteArray).data.toList 24).toArray⟩ : ByteArray) = str (List.replicate 24 0) := rfl
      rw [hz] at HZ
      generalize str (List.replicate 24 0) = Z at C10 HZ
      have d0 := S9.out.2.b.c0
      have d1 := S9.out.2.b.c1
      have r1 : wrap64 ((k : Int) + 1) = (k : Int) + 1 := IntWalk.wrap64_in _ (by omega)
      have r2 : ((k : Int) + 1).tmod n = o := by
        rw [ho, Int.tmod_eq_emod_of_nonneg (by omega)]
        exact (Int.natCast_emod (k + 1) n).symm
      have hon : o < n := by rw [ho]; exact Nat.mod_lt _ (by omega)
      have r3 : wrap64 (o : Int) = o := IntWalk.wrap64_in _ (by omega)
      have r4 : ¬ (n : Int) = 0 := by omega
      have HO := hid ho
      clear ho hok R h1
      go_wp2_with fail
      refine (C10.out _ _ _ _ _ _ _ S9.out.2.d).mono ?_
      rintro _ w10 ⟨rfl, g1⟩
      have S10 := hid (below3 S9.out.1 g1)
      clear g1 S9 d0 d1 C10 r1 r2 r3 r4
      go_wp2_with fail
      refine (HZ.out _).mono ?_
      rintro _ w11 ⟨rfl, g1⟩
      have S11 := hid (below3 S10.out g1)
      clear g1 S10 HZ
      by_cases hc : c = 0
      · have hc' : (c == 0) = true := by simp [hc]
        clear hc
        go_wp2_with (go_at_call 21; refine (HX.out _).mono ?_; rintro _ w9 ⟨rfl, h9⟩; (have h8 := h9.symm); subst h8)
        go_ret
        exact ⟨rfl, S11.out⟩
      · have hc' : (c == 0) = false := by simp [hc]
        have hE := HT.out hc
        clear hc
        go_wp2_with (go_at_call 21; refine (HX.out _).mono ?_; rintro _ w9 ⟨rfl, h9⟩; (have h8 := h9.symm); subst h8)
        go_ret
        exact ⟨rfl, S11.out⟩
    · have h1' : ¬ (1 : Int) < n := by omega
      by_cases hc : c = 0
      · have hc' : (c == 0) = true := by simp [hc]
        clear hc
        go_wp2_with (go_at_call 21; refine (HX.out _).mono ?_; rintro _ w9 ⟨rfl, h9⟩; (have h8 := h9.symm); subst h8)
        go_ret
        exact ⟨rfl, S9.out.1⟩
      · have hc' : (c == 0) = false := by simp [hc]
        have hE := HT.out hc
        clear hc
        go_wp2_with (go_at_call 21; refine (HX.out _).mono ?_; rintro _ w9 ⟨rfl, h9⟩; (have h8 := h9.symm); subst h8)
        go_ret
        exact ⟨rfl, S9.out.1⟩

theorem walk (many at_ : Int) (s : ByteArray) (c : Int) (w0 : (Lit.int .i64 many).wf = true) (w1 : (Lit.int .i64 at_).wf = true) (w2 : s.size ≤ maxLen) (w3 : (Lit.int .u8 c).wf = true) (w : World) :
    Calls Try.prog 7 #[.int .i64 many, .int .i64 at_, .string s, .int .u8 c] w fun e w' => e = .returned (.bool true) ∧ Below w.heap.size w w' := by
  simp only [Lit.wf, Bool.and_eq_true, decide_eq_true_eq] at w0 w1 w3
  have b0 : IntKind.i64.min = -9223372036854775808 := rfl
  have b1 : IntKind.i64.max = 9223372036854775807 := rfl
  have b2 : IntKind.u8.min = 0 := rfl
  have b3 : IntKind.u8.max = 255 := rfl
  unfold maxLen at w2
  have p1 := pick_bd many 64 (by omega)
  obtain ⟨n, hn⟩ : ∃ n : Nat, 1 + pick many 64 = n := ⟨(1 + pick many 64).toNat, by omega⟩
  have p2 := pick_bd at_ n (by omega)
  obtain ⟨k, hk⟩ : ∃ k : Nat, pick at_ n = k := ⟨(pick at_ n).toNat, by omega⟩
  have p3 := pick_bd at_ 30 (by omega)
  obtain ⟨pl, hpl⟩ : ∃ pl : Nat, pick at_ 30 = pl := ⟨(pick at_ 30).toNat, by omega⟩
  obtain ⟨p, hp⟩ : ∃ p, p = s.extract 0 (min (s.size : Int) 24).toNat := ⟨_, rfl⟩
  have hpz : p.data.toList.length ≤ 24 := by
    rw [ba_len, hp, ext_size _ _ _ (by omega)]
    omega
  obtain ⟨D0, D1, D2, D3, D4, E3, K⟩ := keeps n k ((k + 1) % n) pl p.data.toList c (by omega) (by omega) (by omega) (Nat.mod_lt _ (by omega)) (by omega) hpz (by omega) (by omega)
  exact walk2 many at_ s p c n k ((k + 1) % n) pl w hn hk hpl rfl (by omega) (by omega) (by omega) (by omega) (by omega) (by omega) (by omega) hp (by omega) (by omega) D0 D1 D2 D3 D4 E3 K

set_option maxRecDepth 100000 in
theorem lifted (os : Os) (started : os.Started) (H : Type) (enc : TypeId × Value → H) :
    ReturnsInHanded {} Try.checked os 7 .any (Rows.devicesKeepSpec.pre6 enc Try.prog Try.f7 Rows.devicesKeepRow.domain false) (Rows.devicesKeepSpec.post enc Try.prog Try.f7 false true false false) := by
  refine returnsInHanded_of_change (C := Try.checked) own started (by kernel_rfl) Try.func7
    (ChangeSpec.witness6 (enc := enc) (C := Try.checked) false ⟨#[], #[.int .i64 0, .int .i64 0, .string ByteArray.empty, .int .u8 0], []⟩ 8 (by kernel_rfl) (by kernel_rfl) (by kernel_rfl) (by kernel_rfl)) ?_
  intro W base args ds gs before hval0 hW hcnd _
  have hval : ∀ (j : Nat) t v, Try.f7.params[j]? = some t → args[j]? = some v → Value.okWide Try.prog W .any base t v := hval0
  have hW' := hW
  obtain ⟨p, q, hA0, hV, rfl, hfz, hnd⟩ := hW
  have hA : DataW.TrodAll enc Try.prog W 0 (fun _ => true) true Try.f7.params.toList args.toList ds p := hA0
  rw [Try.params7] at hA hval
  obtain ⟨v0, vs0, d0, ds0, p0, q0, hargs, rfl, rfl, h0, r0⟩ := trodAll_cons hA
  obtain ⟨v1, vs1, d1, ds1, p1, q1, rfl, rfl, rfl, h1, r1⟩ := trodAll_cons r0
  obtain ⟨v2, vs2, d2, ds2, p2, q2, rfl, rfl, rfl, h2, r2⟩ := trodAll_cons r1
  obtain ⟨v3, vs3, d3, ds3, p3, q3, rfl, rfl, rfl, h3, r3⟩ := trodAll_cons r2
  obtain ⟨rfl, rfl, rfl⟩ := trodAll_nil r3
  obtain rfl : args = #[v0, v1, v2, v3] := by cases args; simp_all
  obtain ⟨rfl, rfl⟩ := trodVars_none hV
  obtain ⟨a0, rfl, rfl, rfl, w0⟩ := open_int Try.underlying3 (hval 0 3 v0 rfl rfl) h0
  obtain ⟨a1, rfl, rfl, rfl, w1⟩ := open_int Try.underlying3 (hval 1 3 v1 rfl rfl) h1
  obtain ⟨a2, rfl, rfl, rfl, w2⟩ := open_string Try.underlying9 (hval 2 9 v2 rfl rfl) h2
  obtain ⟨a3, rfl, rfl, rfl, w3⟩ := open_int Try.underlying5 (hval 3 5 v3 rfl rfl) h3
  clear hA0 hval0
  refine (walk a0 a1 a2 a3 w0 w1 w2 w3 W).mono fun e W' ⟨he, bel⟩ => ?_
  subst he
  exact ⟨_, rfl, _, _, _, [], _, [], hW', trodAll_mk1 (shut_bool Try.underlying4 _), (trodAll_cons_mk (shut_int Try.underlying3 w0) (trodAll_cons_mk (shut_int Try.underlying3 w1) (trodAll_cons_mk (shut_string Try.underlying9 w2) (trodAll_cons_mk (shut_int Try.underlying5 w3) trodAll_mk0)))), rfl, bel.frame _, fun h => by cases h⟩

theorem over : Rows.devicesKeepRow.holds Try.pinned (OpenSpec.ofChange Rows.devicesKeepSpec) :=
  OpenClaim.holds_of_wide 7 Try.f7 rfl rfl rfl rfl rfl rfl rfl ⟨rfl, rfl, rfl, rfl, rfl⟩ rfl rfl rfl rfl rfl (by kernel_rfl) Try.func7 (by kernel_rfl)
    (of_decide_eq_true (by kernel_rfl)) (by unfold Func.isWrapper; first | (rw [if_pos (by decide +kernel)]; kernel_rfl) | (rw [if_neg (by decide +kernel)]; exact ⟨rfl, rfl⟩))
    (fun os started H enc _ => lifted os started H enc)
end Go.Proofs.Ytbckalbnmfejbac.devicesKeep

namespace Go.Proofs.Ytbckalbnmfejbac
theorem devicesKeep_holds : Rows.DevicesKeepSaid := devicesKeep.over
#print axioms devicesKeep_holds
end Go.Proofs.Ytbckalbnmfejbac
