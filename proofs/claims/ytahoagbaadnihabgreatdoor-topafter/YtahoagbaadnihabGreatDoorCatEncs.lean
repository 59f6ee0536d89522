/- Joined texts: CatEnc, CatRefEnc. -/
import Derived.Test.YtahoagbaadnihabGreatDoorCatChk
import Derived.Test.YtahoagbaadnihabGreatDoorCatMid
import Derived.Test.YtahoagbaadnihabGreatDoorMem
import Derived.Deep.RegionHeld3
import Derived.Deep.DeepCutAuto
/- A catalog as bytes: the program's answer. -/
namespace Go.Proofs.YtahoagbaadnihabGreatDoor
open Go.RowKit Go.Lib

/-- Bytes that a call hands back, grown. -/
def OutB (base : Nat) (w : World) (O : List UInt8) (e : Ending) (w' : World) : Prop := ∃ g m cap, e = .returned (.slice (some ⟨g, 0, none⟩) m cap) ∧ ownsB w' base (.slice (some ⟨g, 0, none⟩) m cap) O ∧ Below base w w' ∧ Keeps w w'

set_option maxHeartbeats 1000000 in
theorem two_any (base : Nat) (ao : Option Addr) (m cap : Nat) (O : List UInt8) (n : Int) (w : World) (hown : ownsB w base (.slice ao m cap) O) (hbase : base ≤ w.heap.size) (hO : O.length ≤ 100000) (h0 : 0 ≤ n) (h1 : n ≤ 65535) :
    Calls Tryz.prog 164 #[.slice ao m cap, .int .i64 n] w fun e w' => OutB base w (O ++ be2 n) e w' := by
  have HH := hid (And.intro (ownsB_alloc hown (.cells #[.int .u8 (n / 256), .int .u8 (n % 256)] 5)) (new_two w (n / 256) (n % 256) (by omega) (by omega) (by omega) (by omega) 5))
  have G0 := hid (And.intro ((Below.refl base w).alloc hbase (.cells #[.int .u8 (n / 256), .int .u8 (n % 256)] 5)) ((Keeps.refl w).alloc (.cells #[.int .u8 (n / 256), .int .u8 (n % 256)] 5)))
  clear hown
  go_enter Tryz.func164, Tryz.ntmps164
  go_wp2_with (at_builtin; (refine wpList_appendB _ rfl (.tmp 5) (.tmp 11) rfl base _ O rfl HH.out.1 ⟨w.heap.size, 0, none⟩ 2 (be2 n) rfl HH.out.2 (by simp [be2]) (by simp [be2]; omega) (by simp; omega) ?_; intro g5 m5 cap5 w5 hm5 hg5 hown5 hgrow5; have H5 := hid (And.intro hown5 hgrow5); clear hown5 hgrow5))
  go_ret
  exact ⟨g5, m5, cap5, rfl, H5.out.1, below_own HH.out.1 (Nat.le_refl _) (by simp; omega) G0.out.1 H5.out.2, G0.out.2.trans (keeps_append HH.out.1 H5.out.2)⟩

/-- Bytes in a block that was just laid. -/
theorem owns_new (w : World) (base : Nat) (hb : base ≤ w.heap.size) (n : Int) (h0 : 0 ≤ n) (h1 : n < 256) : ownsB (w.alloc (.cells #[.int .u8 n] 5)) base (.slice (some ⟨w.heap.size, 0, none⟩) 1 1) [byt n] := by
  refine ⟨by simp [bytesV], .inr ⟨w.heap.size, 1, #[.int .u8 n], rfl, hb, heap_alloc_new w _, by simp, by unfold maxLen; omega, rfl, ?_⟩⟩
  rw [bytesV_byt n h0 h1]; rfl
/-- What stands there while bytes grow: those bytes, and a box. -/
structure EncI (w0 : World) (base p : Nat) (t : TypeId) (V : List Value) (v : Value) (O : List UInt8) (w : World) : Prop where
  own : ownsB w base v O
  below : Below base w0 w
  box : Own w p t V
  kp : Keeps w0 w
section
variable {w0 w w' : World} {base p : Nat} {t : TypeId} {V : List Value} {v : Value} {O : List UInt8}
theorem EncI.le (h : EncI w0 base p t V v O w) (hb : base ≤ w0.heap.size) : base ≤ w.heap.size := Nat.le_trans hb h.below.size
theorem EncI.alloc (h : EncI w0 base p t V v O w) (hb : base ≤ w0.heap.size) (o : Obj) : EncI w0 base p t V v O (w.alloc o) := ⟨ownsB_alloc h.own o, h.below.alloc (h.le hb) o, h.box.alloc o, h.kp.alloc o⟩
theorem EncI.grown (h : EncI w0 base p t V v O w) (hb : base ≤ w0.heap.size) (ht : t ≠ 5) (hg : w.grownBy w' v.ownBlock) {v' : Value} {O' : List UInt8} (ho : ownsB w' base v' O') : EncI w0 base p t V v' O' w' :=
  ⟨ho, below_own h.own (Nat.le_refl _) (h.le hb) h.below hg, h.box.keeps (keeps_append h.own hg) ht, h.kp.trans (keeps_append h.own hg)⟩
theorem EncI.out (h : EncI w0 base p t V v O w) (ht : t ≠ 5) {v' : Value} {O' : List UInt8} (ho : ownsB w' base v' O') (hb : Below base w w') (hk : Keeps w w') : EncI w0 base p t V v' O' w' :=
  ⟨ho, h.below.trans hb, h.box.keeps hk ht, h.kp.trans hk⟩
end

set_option maxHeartbeats 1600000 in
set_option maxRecDepth 4000 in
theorem entry_any (base : Nat) (ao : Option Addr) (m cap : Nat) (O : List UInt8) (x : En) (w : World) (hown : ownsB w base (.slice ao m cap) O) (hbase : base ≤ w.heap.size) (hO : O.length ≤ 10000) (hx : 1 ≤ x.s.size ∧ x.s.size ≤ 8) (hb : 0 ≤ x.b ∧ x.b < 256) (ha : 0 ≤ x.a ∧ x.a ≤ 65535) (hn : 0 ≤ x.n ∧ x.n < 256) :
    Calls Tryz.prog 165 #[.slice ao m cap, .agg #[.string x.s, .int .i64 x.b, .int .i64 x.a, .int .i64 x.n]] w fun e w' => OutB base w (O ++ encE x) e w' := by
  obtain ⟨s, b, a, n⟩ := x
  obtain ⟨s1, s2⟩ := hx
  obtain ⟨b1, b2⟩ := hb
  obtain ⟨a1, a2⟩ := ha
  obtain ⟨n1, n2⟩ := hn
  dsimp only at s1 s2 b1 b2 a1 a2 n1 n2
  have s3 : (s.size : Int) ≤ 8 := by omega
  obtain ⟨W, hW⟩ : ∃ W, W = w.alloc (.cells #[.string s, .int .i64 b, .int .i64 a, .int .i64 n] 151) := ⟨_, rfl⟩
  have I0 : EncI w base w.heap.size 151 [.string s, .int .i64 b, .int .i64 a, .int .i64 n] (.slice ao m cap) O W := by
    rw [hW]; exact ⟨ownsB_alloc hown _, (Below.refl base w).alloc hbase _, Own.made w 151 [.string s, .int .i64 b, .int .i64 a, .int .i64 n], (Keeps.refl w).alloc _⟩
  have hz : W.heap.size = w.heap.size + 1 := by rw [hW]; simp
  have I1 := I0.alloc hbase (.cells #[.int .u8 (s.size : Int)] 5)
  have N1 := new_one W (s.size : Int) (by omega) (by omega) 5
  rw [hz] at N1
  have HE : Hid (encE ⟨s, b, a, n⟩ = [byt s.size] ++ s.data.toList ++ [byt b] ++ be2 a ++ [byt n]) := by show _ = _; simp [encE]
  have hsl := ba_len s
  have HSL := hid hsl
  have HI1 := hid I1
  clear I0 I1 hown hsl hz
  subst hW
  go_enter Tryz.func165, Tryz.ntmps165
  go_upto_region 2 with (at_builtin; (refine wpList_appendB _ rfl (.tmp 5) (.tmp 10) rfl base _ O rfl HI1.out.own ⟨w.heap.size + 1, 0, none⟩ 1 [byt s.size] rfl N1 (by simp) (by simp; omega) (by simp; omega) ?_; intro g5 m5 cap5 w5 hm5 hg5 hown5 hgrow5; have H5 := hid (HI1.out.grown hbase (by decide) hgrow5 hown5); clear hown5 hgrow5))
  have x0 := H5.out.box.cell (i := 0) rfl
  go_upto_region 3 with (at_builtin; (refine wpList_appendS _ rfl (.tmp 12) (.tmp 14) rfl base _ (O ++ [byt s.size]) rfl H5.out.own s rfl (by omega) (by simp; omega) (H5.out.le hbase) ?_; intro g6 m6 cap6 w6 hm6 hg6 hown6 hgrow6; have H6 := hid (H5.out.grown hbase (by decide) hgrow6 hown6); clear hown6 hgrow6))
  clear x0
  have x1 := H6.out.box.cell (i := 1) rfl
  have N2 := new_one w6 b (by omega) (by omega) 5
  have HI6 := hid (H6.out.alloc hbase (.cells #[.int .u8 b] 5))
  have l6 : (O ++ [byt s.size] ++ s.data.toList).length ≤ 10009 := by simp; omega
  go_upto_region 4 with (at_builtin; (refine wpList_appendB _ rfl (.tmp 16) (.tmp 20) rfl base _ (O ++ [byt s.size] ++ s.data.toList) rfl HI6.out.own ⟨w6.heap.size, 0, none⟩ 1 [byt b] rfl N2 (by simp) (by simp only [List.length_singleton]; omega) (HI6.out.le hbase) ?_; intro g7 m7 cap7 w7 hm7 hg7 hown7 hgrow7; have H7 := hid (HI6.out.grown hbase (by decide) hgrow7 hown7); clear hown7 hgrow7))
  clear x1
  have x2 := H7.out.box.cell (i := 2) rfl
  have C2 := hid (two_any base (some ⟨g7, 0, none⟩) m7 cap7 (O ++ [byt s.size] ++ s.data.toList ++ [byt b]) a w7 H7.out.own (H7.out.le hbase) (by rw [List.length_append]; simp only [List.length_singleton]; omega) (by omega) (by omega))
  go_upto_region 5 with (go_at_call 164; refine C2.out.mono ?_; rintro _ w8 ⟨g8, m8, cap8, rfl, o8, b8, k8⟩; have H8 := hid (H7.out.out (by decide) o8 b8 k8); clear o8 b8 k8)
  clear x2
  have x3 := H8.out.box.cell (i := 3) rfl
  have N3 := new_one w8 n (by omega) (by omega) 5
  have HI8 := hid (H8.out.alloc hbase (.cells #[.int .u8 n] 5))
  have l8 : (O ++ [byt s.size] ++ s.data.toList ++ [byt b] ++ be2 a).length ≤ 10012 := by rw [List.length_append, List.length_append]; simp only [be2, List.length_cons, List.length_nil]; omega
  go_wp2_with (at_builtin; (refine wpList_appendB _ rfl (.tmp 26) (.tmp 30) rfl base _ (O ++ [byt s.size] ++ s.data.toList ++ [byt b] ++ be2 a) rfl HI8.out.own ⟨w8.heap.size, 0, none⟩ 1 [byt n] rfl N3 (by simp) (by simp only [List.length_singleton]; omega) (HI8.out.le hbase) ?_; intro g9 m9 cap9 w9 hm9 hg9 hown9 hgrow9; have H9 := hid (HI8.out.grown hbase (by decide) hgrow9 hown9); clear hown9 hgrow9))
  go_ret
  refine ⟨g9, m9, cap9, rfl, ?_, H9.out.below, H9.out.kp⟩
  rw [HE.out]
  have := H9.out.own
  simp only [List.append_assoc] at this ⊢
  exact this

theorem encBs_next (L : List Bk) (k : Nat) (h : k < L.length) : encBs (L.take (k + 1)) = encBs (L.take k) ++ be2 (bk L k).n := by
  rw [bk_take L k h]; simp [encBs]
theorem encBs_len (L : List Bk) (k : Nat) (h : k ≤ L.length) : (encBs (L.take k)).length = 2 * k := by
  induction k with
  | zero => simp [encBs]
  | succ k ih =>
    rw [encBs_next L k (by omega), List.length_append, ih (by omega)]
    rfl
theorem encEs_next (E : List En) (k : Nat) (h : k < E.length) : encEs (E.take (k + 1)) = encEs (E.take k) ++ encE (en E k) := by
  rw [en_take E k h]; simp [encEs]
theorem encEs_len (E : List En) (k : Nat) (h : k ≤ E.length) (hs : ∀ j, j < k → (en E j).s.size ≤ 8) : (encEs (E.take k)).length ≤ 13 * k := by
  induction k with
  | zero => simp [encEs]
  | succ k ih =>
    rw [encEs_next E k (by omega), List.length_append]
    have := ih (by omega) (fun j hj => hs j (by omega))
    have h8 := hs k (by omega)
    have : (encE (en E k)).length ≤ 13 := by simp [encE, be2]; omega
    omega

set_option maxHeartbeats 1600000 in
set_option maxRecDepth 4000 in
theorem cenc_any (a : Option Addr) (n c : Nat) (a' : Option Addr) (m c' : Nat) (C : Ct) (w : World) (H : CatAt w a n c a' m C) :
    Calls Tryz.prog 122 #[.agg #[.slice a n c, .slice a' m c']] w fun e w' => e = .returned (.tuple #[.string (str (catEnc C).1), .int .i64 (catEnc C).2]) ∧ Below w.heap.size w w' := by
  obtain ⟨W, hW⟩ : ∃ W, W = w.alloc (.cells #[.slice a n c, .slice a' m c'] 139) := ⟨_, rfl⟩
  have hB : Below w.heap.size w W := by rw [hW]; exact (Below.refl _ w).alloc (Nat.le_refl _) _
  have bd : Own W w.heap.size 139 [.slice a n c, .slice a' m c'] := by rw [hW]; exact Own.made w 139 [.slice a n c, .slice a' m c']
  have h1 := ccheck_any a n c a' m c' C W (H.below hB)
  rw [hW] at h1
  unfold catEnc
  by_cases e : catChk C = 0
  · rw [if_pos e]
    rw [e] at h1
    obtain ⟨t1, t2, t3, t4⟩ := chk_ok C e
    have hn := H.B.sn
    have hm := H.E.sn
    rw [← hn] at t1 t3 t4
    rw [← hm] at t2 t4
    have HL := hid (And.intro hn hm)
    have OKB := hid (blk_ok C.1 n t3)
    have OKE := hid (ent_ok C.2 n m t4)
    have n1 : (n : Int) ≤ 10 := by omega
    have m1 : (m : Int) ≤ 10 := by omega
    obtain ⟨R, hR⟩ : ∃ R, R = encB C := ⟨_, rfl⟩
    rw [← hR]
    have HR := hid hR
    have HP := hid (And.intro hB (And.intro bd (And.intro hW H)))
    have H1 := hid h1
    clear hB bd h1 hW e hR t3 t4 H hn hm
    go_enter Tryz.func122, Tryz.ntmps122
    go_wp2_with fail
    refine H1.out.mono ?_
    rintro _ w1 ⟨rfl, g1⟩
    rw [← HP.out.2.2.1] at g1
    have bx := HP.out.2.1.below' g1
    have d0 := bx.cell (i := 0) rfl
    have hz : w.heap.size < w1.heap.size := bx.lt
    have I0 : EncI w w.heap.size w.heap.size 139 [.slice a n c, .slice a' m c'] (.slice (some ⟨w1.heap.size, 0, none⟩) 1 1) [byt n] (w1.alloc (.cells #[.int .u8 (n : Int)] 5)) :=
      ⟨owns_new w1 _ (by omega) (n : Int) (by omega) (by omega), (HP.out.1.trans (g1.mono HP.out.1.size)).alloc (by omega) _, bx.alloc _, (((keeps_below HP.out.1).trans (keeps_below g1)).alloc _)⟩
    have HI0 := hid I0
    clear g1 H1 I0 bx
    go_wp2_with fail
    clear d0 hz
    go_loopw [5, 23] (fun v i wr => ∃ k g q cap : Nat, k ≤ n ∧ i = .int .i64 k ∧ v = .slice (some ⟨g, 0, none⟩) q cap ∧ Hid (EncI w w.heap.size w.heap.size 139 [.slice a n c, .slice a' m c'] (.slice (some ⟨g, 0, none⟩) q cap) ([byt n] ++ encBs (C.1.take k)) wr)) (fun _ i _ => n - (RowKit.intOf i).toNat)
    case atStart => exact ⟨0, _, _, _, Nat.zero_le _, rfl, rfl, HI0⟩
    case round =>
      obtain ⟨k, g, q, cap, hk, rfl, rfl, HI⟩ := hrel
      clear HI0
      by_cases hlt : k < n
      · have hlt' : (k : Int) < n := by omega
        obtain ⟨b, o, rfl, hb, x0, x1⟩ := (HP.out.2.2.2.below HI.out.below).B.c k hlt
        obtain ⟨_, h2, _⟩ := (bkOk_iff C.1 k).1 (OKB.out k hlt)
        have HJ := HI.out.alloc (Nat.le_refl _) (.cells #[.int .i64 (bk C.1 k).f, .int .i64 (bk C.1 k).n] 156)
        have C2 := hid (two_any w.heap.size (some ⟨g, 0, none⟩) q cap ([byt n] ++ encBs (C.1.take k)) (bk C.1 k).n _ HJ.own (HJ.le (Nat.le_refl _)) (by rw [List.length_append, encBs_len C.1 k (by rw [← HL.out.1]; omega)]; simp only [List.length_singleton]; omega) (by omega) (by omega))
        have EN := hid (encBs_next C.1 k (by rw [← HL.out.1]; exact hlt))
        have HJ' := hid HJ
        clear HJ h2
        generalize (bk C.1 k).f = f at x0 C2 HJ'
        generalize (bk C.1 k).n = y at x1 C2 HJ' EN
        go_wp2_with (go_at_call 164; refine C2.out.mono ?_; rintro _ w8 ⟨g8, m8, cap8, rfl, o8, b8, k8⟩; have H8 := hid (HJ'.out.out (by decide) o8 b8 k8); clear o8 b8 k8)
        go_roundw
        case rel =>
          refine ⟨k + 1, g8, m8, cap8, by omega, by go_num, rfl, ?_⟩
          rw [EN.out, ← List.append_assoc]
          exact H8
        case measure => simp [RowKit.intOf]; omega
      · obtain rfl : k = n := by omega
        have hlt' : ¬ (k : Int) < k := by omega
        have TK := hid (show C.1.take k = C.1 by rw [HL.out.1, List.take_length])
        rw [TK.out] at HI
        have LB := encBs_len C.1 k (by rw [← HL.out.1]; exact Nat.le_refl _)
        rw [TK.out] at LB
        have d1 := HI.out.box.cell (i := 1) rfl
        have N1 := new_one wr (m : Int) (by omega) (by omega) 5
        have HJ := hid (HI.out.alloc (Nat.le_refl _) (.cells #[.int .u8 (m : Int)] 5))
        have lO : ([byt k] ++ encBs C.1).length ≤ 100 := by rw [List.length_append, LB]; simp only [List.length_singleton]; omega
        have HO := hid (show R = [byt k] ++ encBs C.1 ++ [byt m] ++ encEs C.2 by rw [HR.out, encB, HL.out.1, HL.out.2])
        generalize [byt k] ++ encBs C.1 = O1 at HI HJ lO HO
        clear HR LB TK
        go_wp2_with (at_builtin; (refine wpList_appendB _ rfl (.tmp 32) (.tmp 37) rfl w.heap.size _ O1 rfl HJ.out.own ⟨wr.heap.size, 0, none⟩ 1 [byt m] rfl N1 (by simp) (by simp only [List.length_singleton]; omega) (HJ.out.le (Nat.le_refl _)) ?_; intro g5 m5 cap5 w5 hm5 hg5 hown5 hgrow5; have H5 := hid (HJ.out.grown (Nat.le_refl _) (by decide) hgrow5 hown5); clear hown5 hgrow5; have d2 := H5.out.box.cell (i := 1) rfl))
        clear d1 d2 N1
        go_loopw [5, 42] (fun v i wr => ∃ j g q cap : Nat, j ≤ m ∧ i = .int .i64 j ∧ v = .slice (some ⟨g, 0, none⟩) q cap ∧ Hid (EncI w w.heap.size w.heap.size 139 [.slice a k c, .slice a' m c'] (.slice (some ⟨g, 0, none⟩) q cap) (O1 ++ [byt m] ++ encEs (C.2.take j)) wr)) (fun _ i _ => m - (RowKit.intOf i).toNat)
        case atStart =>
          refine ⟨0, _, _, _, Nat.zero_le _, rfl, rfl, ?_⟩
          rw [List.take_zero, show encEs [] = [] from rfl, List.append_nil]
          exact H5
        case round =>
          obtain ⟨j, g, q, cap, hj, rfl, rfl, HI2⟩ := hrel
          clear HI HJ H5 hlt'
          by_cases hlt : j < m
          · have hlt' : (j : Int) < m := by omega
            obtain ⟨b, o, rfl, hb, x0, x1, x2, x3⟩ := (HP.out.2.2.2.below HI2.out.below).E.c j hlt
            obtain ⟨p1, p2, p3, p4⟩ := (enOk_iff _ _).1 (OKE.out j hlt)
            have p5 := nameMay_size _ p1
            have hls := encEs_len C.2 j (by rw [← HL.out.2]; omega) (fun i hi => (nameMay_size _ ((enOk_iff _ _).1 (OKE.out i (by omega))).1).2)
            have HJ := HI2.out.alloc (Nat.le_refl _) (.cells #[.string (en C.2 j).s, .int .i64 (en C.2 j).b, .int .i64 (en C.2 j).a, .int .i64 (en C.2 j).n] 151)
            have C2 := hid (entry_any w.heap.size (some ⟨g, 0, none⟩) q cap (O1 ++ [byt m] ++ encEs (C.2.take j)) (en C.2 j) _ HJ.own (HJ.le (Nat.le_refl _)) (by rw [List.length_append, List.length_append]; simp only [List.length_singleton]; omega) p5 (by omega) (by omega) (by omega))
            have EN := hid (encEs_next C.2 j (by rw [← HL.out.2]; exact hlt))
            have HJ' := hid HJ
            clear HJ p1 p2 p3 p4 p5 hls
            generalize en C.2 j = x at x0 x1 x2 x3 C2 HJ' EN
            go_wp2_with (go_at_call 165; refine C2.out.mono ?_; rintro _ w8 ⟨g8, m8, cap8, rfl, o8, b8, k8⟩; have H8 := hid (HJ'.out.out (by decide) o8 b8 k8); clear o8 b8 k8)
            go_roundw
            case rel =>
              refine ⟨j + 1, g8, m8, cap8, by omega, by go_num, rfl, ?_⟩
              rw [EN.out, ← List.append_assoc]
              exact H8
            case measure => simp [RowKit.intOf]; omega
          · obtain rfl : j = m := by omega
            have hlt' : ¬ (j : Int) < j := by omega
            rw [show C.2.take j = C.2 by rw [HL.out.2, List.take_length]] at HI2
            have cv := conv_own HI2.out.own
            rw [← HO.out] at cv
            go_wp2
            go_ret2
            exact ⟨rfl, HI2.out.below⟩
  · rw [if_neg e]
    generalize catChk C = T at h1 e
    have e' : (T != 0) = true := by rw [bne_iff_ne]; exact e
    have HP := hid (And.intro hB hW)
    have H1 := hid h1
    clear hB bd H h1 hW e
    go_enter Tryz.func122, Tryz.ntmps122
    go_wp2_with fail
    refine H1.out.mono ?_
    rintro e w1 ⟨rfl, g1⟩
    rw [← HP.out.2] at g1
    go_wp2
    go_ret2
    exact ⟨rfl, HP.out.1.trans (g1.mono HP.out.1.size)⟩
end Go.Proofs.YtahoagbaadnihabGreatDoor

/- A catalog as bytes: the document's answer. -/
namespace Go.Proofs.YtahoagbaadnihabGreatDoor
open Go.RowKit Go.Lib

theorem EncI.drew {w0 w : World} {base p : Nat} {t : TypeId} {V : List Value} {v : Value} {O : List UInt8} (h : EncI w0 base p t V v O w) : EncI w0 base p t V v O w.drew := ⟨h.own, h.below.drew, h.box.drew, h.kp.drew⟩
end Go.Proofs.YtahoagbaadnihabGreatDoor
