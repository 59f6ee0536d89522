/- What the program's heal.difference, tells, parityNumber, parityOf and parityRight answer. -/
import Derived.Test.YtpnmidkocmokeaaGreatDoorHealPure
import Derived.Test.YtpnmidkocmokeaaGreatDoorArrRead
namespace Go.Proofs.YtpnmidkocmokeaaGreatDoor
open Go.RowKit Go.Lib

set_option maxHeartbeats 800000 in
theorem hdifference_any (s t : ByteArray) (w : World) (hs : s.size ≤ 1000) (hse : s.size = t.size) :
    Calls Tryz.prog 71 #[.string s, .string t] w fun e w' => e = .returned (.string (str (diffs s.data.toList t.data.toList))) ∧ Below w.heap.size w w' := by
  have hst : t.size ≤ s.size := by omega
  have hst2 : s.size ≤ t.size := by omega
  clear hse
  have hconv := run_bytes_of_string (P := Tryz.prog) w 9 82 5 s Tryz.underlying9 Tryz.underlying82 Tryz.underlying5
  generalize grownCap w s.size 0 5 = cap at hconv
  obtain ⟨C, hC, hsz, hcell⟩ := row_laid s cap
  rw [hC] at hconv
  clear hC
  have H0 := hid (And.intro (bytesAt_made w s C hsz hcell) ((Below.refl _ w).alloc (Nat.le_refl _) (.cells C 5 (C.size, C.size + 1))))
  clear hsz hcell
  go_enter Tryz.func71, Tryz.ntmps71
  go_wp2_with fail
  clear hconv
  go_loopw [11] (fun i wr => ∃ I : Nat, i = .int .i64 I ∧ I ≤ t.size ∧ Hid (BytesAt wr w.heap.size (diffs s.data.toList (t.data.toList.take I)) ∧ Below w.heap.size w wr)) (fun i _ => t.size - (intOf i).toNat)
  case atStart => exact ⟨0, rfl, Nat.zero_le _, by rw [List.take_zero, diffs_nil]; exact hid (And.intro H0.out.1.drew H0.out.2.drew)⟩
  case round =>
    obtain ⟨I, rfl, hI, HO⟩ := hrel
    clear H0
    by_cases hlt : I < t.size
    · have hlt' : (I : Int) < t.size := by omega
      have hlt2 : (I : Int) < s.size := by omega
      have bs := s[I].toNat_lt
      have bt := t[I].toNat_lt
      have ux : bits .xor .u8 (s[I].toNat : Int) (t[I].toNat : Int) = ((s[I] ^^^ t[I]).toNat : Int) := by rw [u8_xor_nat _ _ bs bt, UInt8.toNat_xor]
      have hl : t.data.toList.length ≤ s.data.toList.length := by rw [ba_len, ba_len]; exact hst
      have hl2 : (t.data.toList.take I).length ≤ s.data.toList.length := by rw [List.length_take]; omega
      have hk : I < (diffs s.data.toList (t.data.toList.take I)).length := by rw [diffs_len _ _ hl2, ba_len]; omega
      have hc := HO.out.1.at_ I hk
      rw [diffs_at _ _ I (by rw [List.length_take]; omega) (by rw [ba_len]; omega) hl2] at hc
      obtain ⟨c1, c2⟩ := hc
      change wr.cell? _ = some (.int .u8 (s[I].toNat : Int)) at c1
      have hst' := HO.out.1.drew.set I hk (s[I] ^^^ t[I])
      have hstep : (diffs s.data.toList (t.data.toList.take I)).set I (s[I] ^^^ t[I]) = diffs s.data.toList (t.data.toList.take (I + 1)) := diffs_step s.data.toList t.data.toList I (by rw [ba_len]; omega) hl
      rw [hstep] at hst'
      have HK := hid (And.intro hst' (HO.out.2.drew.setCell (p := ⟨w.heap.size, I, none⟩) (Nat.le_refl _) (.int .u8 ((s[I] ^^^ t[I]).toNat : Int))))
      clear hst' hstep hk hl hl2 HO
      generalize s[I] ^^^ t[I] = z at ux HK
      go_wp2_with fail
      go_region
      all_goals go_wp2
      all_goals go_roundw
      all_goals (first | (case rel => exact ⟨I + 1, by go_num, by omega, HK.out⟩) | skip)
      all_goals (simp [intOf]; omega)
    · obtain rfl : I = t.size := by omega
      have hnl : ¬ (t.size : Int) < s.size := by omega
      have ht : t.data.toList.take t.size = t.data.toList := by rw [← ba_len, List.take_length]
      rw [ht] at HO
      have hcv := fun cap => bytesAt_back (cap := cap) (n := s.size) HO.out.1 (by rw [diffs_len _ _ (by rw [ba_len, ba_len]; exact hst), ba_len])
      go_wp2
      go_ret
      exact ⟨rfl, HO.out.2⟩

theorem hparitynumber_any (n : Nat) (w : World) (h : n ≤ 1000) : Calls Tryz.prog 50 #[.int .i64 n] w fun e w' => e = .returned (.int .i64 ((512 + n / 2 : Nat) : Int)) ∧ w' = w := by
  go_enter Tryz.func50, Tryz.ntmps50
  go_wp2
  go_ret
  exact ⟨ret_int (by omega), rfl⟩

/-- Does a device tell this payload? -/
theorem htells_any (x : Option Addr) (p c : Nat) (y : Option Addr) (q d : Nat) (n no : Int) (s : List UInt8) (D : Dv) (w : World) (H : DevAt w x p y q D) :
    Calls Tryz.prog 70 #[.agg #[.slice x p c, .slice y q d], .int .i64 n, .int .i64 no, .string (str s)] w fun e w' => e = .returned (.bool (tellsD D n no s)) ∧ Below w.heap.size w w' := by
  obtain ⟨W, hW, hB, bx⟩ := boxedx (e := c) (e' := d) H
  have C := read_any x p c y q d n no D W bx.d
  rw [hW] at C
  have v0 := bx.b.c0
  have v1 := bx.b.c1
  rw [hW] at v0 v1
  unfold tellsD
  generalize dvRead D n no = r at C
  have HC := hid C
  have HE := hid (And.intro hW hB)
  clear C hW hB bx H
  go_enter Tryz.func70, Tryz.ntmps70
  go_wp2_with fail
  refine HC.out.mono ?_
  rintro _ w1 ⟨rfl, g1⟩
  rw [← HE.out.1] at g1
  have G1 := hid (bel3 HE.out.2 g1)
  clear g1
  by_cases e0 : r.2 = 0
  · have e0' : (r.2 == 0) = true := beq_iff_eq.2 e0
    have HR : Hid (((str r.1).toList == (str s).toList) = decide (r.2 = 0 ∧ r.1 = s)) := by show _ = _; rw [txt_eq]; simp [e0]
    clear e0
    go_wp2
    go_ret
    exact ⟨ret_bool HR.out, G1.out⟩
  · have e0' : (r.2 == 0) = false := beq_eq_false_iff_ne.2 e0
    have HR : Hid (decide (r.2 = 0 ∧ r.1 = s) = false) := by show _ = _; simp [e0]
    clear e0
    go_wp2
    go_ret
    exact ⟨ret_bool HR.out.symm, G1.out⟩

/-- The parity of a sector and its partner, as it should be. -/
def parX (A : Ar) (n : Nat) : List UInt8 := if known A n = true then xors (tell A n).1 (tell A (part n)).1 else []
set_option maxHeartbeats 800000 in
theorem hparityof_any (b o c : Nat) (h : Nat → Hd) (A : Ar) (k : Nat) (w : World) (H : Arr w b o 3 h A) (hm : arMay A = true) (hk : k < many A) :
    Calls Tryz.prog 49 #[.agg #[.slice (some ⟨b, o, none⟩) 3 c], .int .i64 k] w fun e w' => e = .returned (.tuple #[.string (str (parX A k)), .bool (known A k)]) ∧ Below w.heap.size w w' := by
  obtain ⟨W, hW⟩ : ∃ W, W = w.alloc (.cells #[.slice (some ⟨b, o, none⟩) 3 c] 26) := ⟨_, rfl⟩
  have hB : Below w.heap.size w W := by rw [hW]; go_grown
  have hz : W.heap.size = w.heap.size + 1 := by rw [hW]; simp
  have c0 : W.cell? ⟨w.heap.size, 0, none⟩ = some (.slice (some ⟨b, o, none⟩) 3 c) := by rw [hW]; simp
  have hmm := (arMay_iff A).1 hm
  have hk64 : k ≤ 64 := by omega
  have HA : ∀ wx, Below W.heap.size W wx → ArrAt wx (some ⟨b, o, none⟩) 3 A := fun wx g => .inr ⟨b, o, h, rfl, (H.below hB).below g⟩
  have C1 := aread_any (some ⟨b, o, none⟩) 3 c k A W (HA W (Below.refl _ _))
  have C2 := fun wx (g : Below W.heap.size W wx) => aread_any (some ⟨b, o, none⟩) 3 c (part k) A wx (HA wx g)
  rw [arRead_tell A (part k) hm (part_lt k _ hk hmm.2.2.2.2.1)] at C2
  rw [arRead_tell A k hm hk, hW] at C1
  have l1 := tell_len A k
  have l2 := tell_len A (part k)
  have hx := xor_one k (by omega)
  unfold parX known
  generalize tell A k = r1 at C1 l1
  generalize tell A (part k) = r2 at C2 l2
  have H1 := hid C1
  have H2 := hid C2
  have HP := hid (And.intro hB (And.intro hW (And.intro hz c0)))
  have HL := hid (And.intro l1 l2)
  clear C1 C2 hB hW hz c0 HA H hm hk hmm l1 l2
  by_cases e1 : r1.2.2 = 0
  · have e1' : (r1.2.2 != 0) = false := bne_eq_false_iff_eq.2 e1
    by_cases e2 : r2.2.2 = 0
    · have e2' : (r2.2.2 != 0) = false := bne_eq_false_iff_eq.2 e2
      rw [decide_eq_true (show r1.2.2 = 0 ∧ r2.2.2 = 0 from ⟨e1, e2⟩), if_pos rfl]
      have l1 := HL.out.1 e1
      have l2 := HL.out.2 e2
      have CD := hid (fun wx => hdifference_any (str r1.1) (str r2.1) wx (by rw [str_size, l1]; omega) (by rw [str_size, str_size, l1, l2]))
      rw [str_list, str_list, diffs_same _ _ (by rw [l1, l2])] at CD
      clear e1 e2 l1 l2
      go_enter Tryz.func49, Tryz.ntmps49
      go_wp2_with fail
      refine H1.out.mono ?_
      rintro _ w1 ⟨rfl, g1⟩
      rw [← HP.out.2.1] at g1
      have d0 := (g1.cell (p := ⟨w.heap.size, 0, none⟩) (by show w.heap.size < W.heap.size; rw [HP.out.2.2.1]; omega)).trans HP.out.2.2.2
      have G1 := hid g1
      clear g1
      go_wp2_with fail
      refine (H2.out _ G1.out).mono ?_
      rintro _ w2 ⟨rfl, g2⟩
      have G2 := hid (bel3 G1.out g2)
      clear g2 d0
      go_wp2_with fail
      refine (CD.out _).mono ?_
      rintro _ w3 ⟨rfl, g3⟩
      go_wp2
      go_ret2
      exact ⟨rfl, bel3 HP.out.1 (bel3 G2.out g3)⟩
    · have e2' : (r2.2.2 != 0) = true := bne_iff_ne.2 e2
      rw [decide_eq_false (show ¬ (r1.2.2 = 0 ∧ r2.2.2 = 0) from fun x => e2 x.2), if_neg (by decide)]
      clear e1 e2
      go_enter Tryz.func49, Tryz.ntmps49
      go_wp2_with fail
      refine H1.out.mono ?_
      rintro _ w1 ⟨rfl, g1⟩
      rw [← HP.out.2.1] at g1
      have d0 := (g1.cell (p := ⟨w.heap.size, 0, none⟩) (by show w.heap.size < W.heap.size; rw [HP.out.2.2.1]; omega)).trans HP.out.2.2.2
      have G1 := hid g1
      clear g1
      go_wp2_with fail
      refine (H2.out _ G1.out).mono ?_
      rintro _ w2 ⟨rfl, g2⟩
      go_wp2
      go_ret2
      exact ⟨rfl, bel3 HP.out.1 (bel3 G1.out g2)⟩
  · have e1' : (r1.2.2 != 0) = true := bne_iff_ne.2 e1
    rw [decide_eq_false (show ¬ (r1.2.2 = 0 ∧ r2.2.2 = 0) from fun x => e1 x.1), if_neg (by decide)]
    clear e1
    go_enter Tryz.func49, Tryz.ntmps49
    go_wp2_with fail
    refine H1.out.mono ?_
    rintro _ w1 ⟨rfl, g1⟩
    rw [← HP.out.2.1] at g1
    go_wp2
    go_ret2
    exact ⟨rfl, bel3 HP.out.1 g1⟩

theorem right_eq (A : Ar) (k : Nat) : right A k = (known A k && tellsD (dev A 2) ((k / 2 : Nat) : Int) ((512 + k / 2 : Nat) : Int) (parX A k)) := by
  unfold right parX tellsD pari
  cases known A k <;> rfl
set_option maxHeartbeats 1600000 in
set_option maxRecDepth 4000 in
theorem hparityright_any (b o c : Nat) (h : Nat → Hd) (A : Ar) (k : Nat) (w : World) (H : Arr w b o 3 h A) (hm : arMay A = true) (hk : k < many A) :
    Calls Tryz.prog 56 #[.agg #[.slice (some ⟨b, o, none⟩) 3 c], .int .i64 k] w fun e w' => e = .returned (.bool (right A k)) ∧ Below w.heap.size w w' := by
  obtain ⟨W, hW⟩ : ∃ W, W = w.alloc (.cells #[.slice (some ⟨b, o, none⟩) 3 c] 26) := ⟨_, rfl⟩
  have hB : Below w.heap.size w W := by rw [hW]; go_grown
  have hz : W.heap.size = w.heap.size + 1 := by rw [hW]; simp
  have c0 : W.cell? ⟨w.heap.size, 0, none⟩ = some (.slice (some ⟨b, o, none⟩) 3 c) := by rw [hW]; simp
  have hmm := (arMay_iff A).1 hm
  have hk64 : k ≤ 64 := by omega
  have C1 := hparityof_any b o c h A k W (H.below hB) hm hk
  rw [hW] at C1
  rw [right_eq]
  have C2 := hid (fun wx (g : Below W.heap.size W wx) => htells_any (h 2).x (h 2).p (h 2).c (h 2).y (h 2).q (h 2).d ((k / 2 : Nat) : Int) ((512 + k / 2 : Nat) : Int) (parX A k) (dev A 2) wx (((H.below hB).below g).dv 2 (by omega)))
  have CP := hid (fun wx => hparitynumber_any k wx (by omega))
  generalize tellsD (dev A 2) ((k / 2 : Nat) : Int) ((512 + k / 2 : Nat) : Int) (parX A k) = T at C2
  generalize parX A k = X at C1 C2
  generalize known A k = K at C1
  have u1 : IntKind.i64.wrap ((k : Int) / 2) = ((k / 2 : Nat) : Int) := by rw [IntWalk.i64_in _ (by omega)]; omega
  generalize ((512 + k / 2 : Nat) : Int) = R at C2 CP
  generalize ((k / 2 : Nat) : Int) = Q at C2 u1
  have H1 := hid C1
  have HP := hid (And.intro hB (And.intro hW (And.intro hz (And.intro c0 (H.below hB)))))
  clear C1 hB hW hz c0 H hm hk hmm
  go_enter Tryz.func56, Tryz.ntmps56
  go_wp2_with fail
  refine H1.out.mono ?_
  rintro _ w1 ⟨rfl, g1⟩
  rw [← HP.out.2.1] at g1
  have d0 := (g1.cell (p := ⟨w.heap.size, 0, none⟩) (by show w.heap.size < W.heap.size; rw [HP.out.2.2.1]; omega)).trans HP.out.2.2.2.1
  have G1 := hid g1
  obtain ⟨_, _, t4, t5⟩ := (HP.out.2.2.2.2.below g1).three
  clear g1 H1
  cases K with
  | false =>
    go_wp2_with fail
    go_quiet (fail)
    all_goals go_wp2
    all_goals go_ret
    all_goals exact ⟨rfl, bel3 HP.out.1 (below_drewN G1.out _)⟩
  | true =>
    go_wp2_with fail
    go_region_held3 (fun w' => w'.cell? ⟨w.heap.size, 0, none⟩ = some (.slice (some ⟨b, o, none⟩) 3 c) ∧ w'.cell? ⟨b, o + 4, none⟩ = some (.slice (h 2).x (h 2).p (h 2).c) ∧ w'.cell? ⟨b, o + 5, none⟩ = some (.slice (h 2).y (h 2).q (h 2).d)) (go_keep)
      (first | (go_at_call 50; refine (CP.out _).mono ?_; rintro _ w9 ⟨rfl, h9⟩; (have h8 := h9.symm); subst h8) | (go_at_call 70; refine (C2.out _ G1.out.drew).mono ?_; rintro _ w9 ⟨rfl, g9⟩; (have G9 := hid (bel3 G1.out.drew g9)); (have j0 := (G9.out.cell (p := ⟨w.heap.size, 0, none⟩) (by show w.heap.size < W.heap.size; rw [HP.out.2.2.1]; omega)).trans HP.out.2.2.2.1); (have j4 := (HP.out.2.2.2.2.below G9.out).three.2.2.1); (have j5 := (HP.out.2.2.2.2.below G9.out).three.2.2.2); clear g9))
    all_goals go_wp2
    all_goals go_ret
    all_goals exact ⟨rfl, bel3 HP.out.1 G9.out⟩
end Go.Proofs.YtpnmidkocmokeaaGreatDoor
