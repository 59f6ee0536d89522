/- What the program's checkEntries and Check answer. -/
import Derived.Test.YtelgpiedchnncabDoorCatChkB
import Derived.Test.YtelgpiedchnncabDoorCatName
namespace Go.Proofs.YtelgpiedchnncabDoor
open Go.RowKit Go.Lib

theorem enOk_no (x : En) (m : Nat) (h : ¬ ((0 ≤ x.b ∧ x.b < m) ∧ (0 ≤ x.a ∧ x.a ≤ 600) ∧ 0 ≤ x.n ∧ x.n ≤ 200)) : enOk x m = false := by
  unfold enOk
  rw [decide_eq_false h, Bool.and_false]

set_option maxHeartbeats 1000000 in
theorem inform_any (x : En) (m : Nat) (w : World) :
    Calls Tryd.prog 47 #[.agg #[.string x.s, .int .i64 x.b, .int .i64 x.a, .int .i64 x.n], .int .i64 m] w fun e w' => e = .returned (.bool (enOk x m)) ∧ Below w.heap.size w w' := by
  have CN := hid (fun wx => name_any x.s wx)
  cases hn : nameMay x.s with
  | false =>
    have R := hid (show enOk x m = false by unfold enOk; rw [hn, Bool.false_and])
    rw [hn] at CN
    clear hn
    go_enter Tryd.func47, Tryd.ntmps47
    go_wp2_with (go_at_call 55; refine (CN.out _).mono ?_; rintro _ w9 ⟨rfl, h9⟩; (have h8 := h9.symm); subst h8)
    go_ret
    exact ⟨ret_bool R.out.symm, by go_grown⟩
  | true =>
    have YES := hid (fun h => (enOk_iff x m).2 ⟨hn, h⟩)
    have NO := hid (enOk_no x m)
    rw [hn] at CN
    clear hn
    by_cases t0 : 0 ≤ x.b
    ·
      by_cases t1 : x.b < (m : Int)
      ·
        by_cases t2 : 0 ≤ x.a
        ·
          by_cases t3 : x.a ≤ 600
          ·
            by_cases t4 : 0 ≤ x.n
            ·
              by_cases t5 : x.n ≤ 200
              ·
                have R := hid (YES.out ⟨⟨t0, t1⟩, ⟨t2, t3⟩, t4, t5⟩)
                clear YES NO
                go_enter Tryd.func47, Tryd.ntmps47
                go_wp2_with (go_at_call 55; refine (CN.out _).mono ?_; rintro _ w9 ⟨rfl, h9⟩; (have h8 := h9.symm); subst h8)
                go_ret
                exact ⟨ret_bool R.out.symm, by go_grown⟩
              · have R := hid (NO.out (by omega))
                clear YES NO
                go_enter Tryd.func47, Tryd.ntmps47
                go_wp2_with (go_at_call 55; refine (CN.out _).mono ?_; rintro _ w9 ⟨rfl, h9⟩; (have h8 := h9.symm); subst h8)
                go_ret
                exact ⟨ret_bool ((decide_eq_false (by omega)).trans R.out.symm), by go_grown⟩
            · have R := hid (NO.out (by omega))
              clear YES NO
              go_enter Tryd.func47, Tryd.ntmps47
              go_wp2_with (go_at_call 55; refine (CN.out _).mono ?_; rintro _ w9 ⟨rfl, h9⟩; (have h8 := h9.symm); subst h8)
              go_ret
              exact ⟨ret_bool R.out.symm, by go_grown⟩
          · have R := hid (NO.out (by omega))
            clear YES NO
            go_enter Tryd.func47, Tryd.ntmps47
            go_wp2_with (go_at_call 55; refine (CN.out _).mono ?_; rintro _ w9 ⟨rfl, h9⟩; (have h8 := h9.symm); subst h8)
            go_ret
            exact ⟨ret_bool R.out.symm, by go_grown⟩
        · have R := hid (NO.out (by omega))
          clear YES NO
          go_enter Tryd.func47, Tryd.ntmps47
          go_wp2_with (go_at_call 55; refine (CN.out _).mono ?_; rintro _ w9 ⟨rfl, h9⟩; (have h8 := h9.symm); subst h8)
          go_ret
          exact ⟨ret_bool R.out.symm, by go_grown⟩
      · have R := hid (NO.out (by omega))
        clear YES NO
        go_enter Tryd.func47, Tryd.ntmps47
        go_wp2_with (go_at_call 55; refine (CN.out _).mono ?_; rintro _ w9 ⟨rfl, h9⟩; (have h8 := h9.symm); subst h8)
        go_ret
        exact ⟨ret_bool R.out.symm, by go_grown⟩
    · have R := hid (NO.out (by omega))
      clear YES NO
      go_enter Tryd.func47, Tryd.ntmps47
      go_wp2_with (go_at_call 55; refine (CN.out _).mono ?_; rintro _ w9 ⟨rfl, h9⟩; (have h8 := h9.symm); subst h8)
      go_ret
      exact ⟨ret_bool R.out.symm, by go_grown⟩

set_option maxHeartbeats 1600000 in
set_option maxRecDepth 4000 in
theorem checkentries_any (a : Option Addr) (n c : Nat) (E : List En) (m : Nat) (w : World) (H : EntAt w a n E) :
    Calls Tryd.prog 33 #[.slice a n c, .int .i64 m] w fun e w' => e = .returned (.int .i64 (entN E m n)) ∧ Below w.heap.size w w' := by
  have hnb := H.nb
  unfold maxLen at hnb
  have HH := hid H
  clear H
  go_enter Tryd.func33, Tryd.ntmps33
  go_wp2_with fail
  go_loopw [9] (fun i wr => ∃ k : Nat, k ≤ n ∧ i = .int .i64 k ∧ Hid (entN E m k = 0) ∧ Hid (Below w.heap.size w wr)) (fun i _ => n - (intOf i).toNat)
  case atStart => exact ⟨0, Nat.zero_le _, rfl, rfl, Below.refl _ _⟩
  case round =>
    obtain ⟨k, hk, rfl, h0, G⟩ := hrel
    by_cases hlt : k < n
    · have hlt' : (k : Int) < n := by omega
      obtain ⟨b, o, rfl, hb, x0, x1, x2, x3⟩ := (HH.out.below G.out).c k hlt
      have CI := hid (fun wx => inform_any (en E k) m wx)
      obtain ⟨W, hW⟩ : ∃ W, W = wr.alloc (.cells #[.string (en E k).s, .int .i64 (en E k).b, .int .i64 (en E k).a, .int .i64 (en E k).n] 44) := ⟨_, rfl⟩
      have hB : Below w.heap.size w W := by rw [hW]; exact G.out.alloc G.out.size _
      have hz : W.heap.size = wr.heap.size + 1 := by rw [hW]; simp
      have y0 : W.cell? ⟨wr.heap.size, 0, none⟩ = some (.string (en E k).s) := by rw [hW]; simp
      have HB := hid hB
      have HZ := hid hz
      have LZ := hid (fun w5 (g5 : Below W.heap.size W w5) => (g5.cell (p := ⟨wr.heap.size, 0, none⟩) (by show wr.heap.size < W.heap.size; rw [HZ.out]; omega)).trans y0)
      cases ho : enOk (en E k) m with
      | false =>
        rw [ho] at CI
        have R := hid (ent_form E m k h0.out ho n hlt)
        clear ho hB hz y0 LZ HH
        rw [hW] at HB
        clear hW
        go_wp2_with fail
        refine (CI.out _).mono ?_
        rintro _ w5 ⟨rfl, g5⟩
        go_wp2
        go_ret
        exact ⟨ret_int R.out.symm, HB.out.trans (g5.mono HB.out.size)⟩
      | true =>
        rw [ho] at CI
        by_cases k0 : k = 0
        · have kd : decide (0 < k) = false := decide_eq_false (by omega)
          have R := hid (ent_next E m k h0.out ho (by unfold enBad; rw [decide_eq_false (by omega), Bool.false_and]))
          clear ho hB hz y0 LZ HH k0
          rw [hW] at HB
          clear hW
          go_wp2_with fail
          refine (CI.out _).mono ?_
          rintro _ w5 ⟨rfl, g5⟩
          go_wp2_with fail
          go_quiet (fail)
          go_wp2
          go_roundw
          case rel => exact ⟨k + 1, by omega, by go_num, R, hid (below_drewN (HB.out.trans (g5.mono HB.out.size)) _)⟩
          case measure => simp [intOf]; omega
        · have kd : decide (0 < k) = true := decide_eq_true (by omega)
          obtain ⟨b2, o2, e2, hb2, p0, _, _, _⟩ := (HH.out.below HB.out).c (k - 1) (by omega)
          cases e2
          have LP := hid (fun w5 (g5 : Below W.heap.size W w5) => (g5.cell (p := ⟨b, o + (k - 1) * 4, none⟩) hb2).trans p0)
          have lp : o + ((k : Int) - 1).toNat * 4 = o + (k - 1) * 4 := by omega
          have k1 : IntKind.i64.wrap ((k : Int) - 1) = (k : Int) - 1 := IntWalk.i64_in _ (by omega)
          have k2 : (1 : Int) ≤ (k : Int) := by omega
          have k4 : 1 ≤ k := by omega
          have k3 : (k : Int) - 1 < n := by omega
          obtain ⟨r, hr⟩ : ∃ r, r = enBad E k := ⟨_, rfl⟩
          have hr2 : (Op.bytesLess (en E k).s.toList (en E (k - 1)).s.toList || (en E k).s.toList == (en E (k - 1)).s.toList) = r := by rw [hr, enBad, decide_eq_true (by omega), Bool.true_and, notAbove]
          generalize (en E (k - 1)).s = s2 at hr2 LP
          cases r with
          | false =>
            have R := hid (ent_next E m k h0.out ho hr.symm)
            clear ho hB hz y0 p0 hb2 HH hr
            rw [hW] at HB LZ LP
            clear hW k0
            go_wp2_with fail
            refine (CI.out _).mono ?_
            rintro _ w5 ⟨rfl, g5⟩
            have z0 := LZ.out _ g5
            have z1 := LP.out _ g5
            have z2 := LP.out _ g5
            rw [← lp] at z2
            clear lp
            clear LZ LP x0 x1 x2 x3
            go_wp2_with fail
            go_quiet (fail)
            go_wp2
            go_roundw
            case rel => exact ⟨k + 1, by omega, by go_num, R, hid (below_drewN (HB.out.trans (g5.mono HB.out.size)) _)⟩
            case measure => simp [intOf]; omega
          | true =>
            have R := hid (ent_order E m k h0.out ho hr.symm n hlt)
            clear ho hB hz y0 p0 hb2 HH hr
            rw [hW] at HB LZ LP
            clear hW k0
            go_wp2_with fail
            refine (CI.out _).mono ?_
            rintro _ w5 ⟨rfl, g5⟩
            have z0 := LZ.out _ g5
            have z1 := LP.out _ g5
            have z2 := LP.out _ g5
            rw [← lp] at z2
            clear lp
            clear LZ LP x0 x1 x2 x3
            go_wp2_with fail
            go_quiet (fail)
            go_wp2
            go_ret
            exact ⟨ret_int R.out.symm, below_drewN (HB.out.trans (g5.mono HB.out.size)) _⟩
    · obtain rfl : k = n := by omega
      have hlt' : ¬ (k : Int) < k := by omega
      go_wp2
      go_ret
      exact ⟨ret_int h0.out.symm, G.out⟩

set_option maxHeartbeats 1000000 in
theorem ccheck_any (a : Option Addr) (n c : Nat) (a' : Option Addr) (m c' : Nat) (C : Ct) (w : World) (H : CatAt w a n c a' m C) :
    Calls Tryd.prog 15 #[.agg #[.slice a n c, .slice a' m c']] w fun e w' => e = .returned (.int .i64 (catChk C)) ∧ Below w.heap.size w w' := by
  unfold catChk
  rw [← H.B.sn, ← H.E.sn]
  by_cases h1 : 10 < n
  · have h1' : (10 : Int) < n := by omega
    rw [if_pos (.inl h1)]
    clear H h1
    go_enter Tryd.func15, Tryd.ntmps15
    go_wp2
    go_ret
    exact ⟨rfl, by go_grown⟩
  · have h1' : ¬ (10 : Int) < n := by omega
    by_cases h2 : 10 < m
    · have h2' : (10 : Int) < m := by omega
      rw [if_pos (.inr h2)]
      clear H h1 h2
      go_enter Tryd.func15, Tryd.ntmps15
      go_wp2
      go_ret
      exact ⟨rfl, by go_grown⟩
    · have h2' : ¬ (10 : Int) < m := by omega
      rw [if_neg (by omega)]
      obtain ⟨W, hW⟩ : ∃ W, W = w.alloc (.cells #[.slice a n c, .slice a' m c'] 25) := ⟨_, rfl⟩
      have hB : Below w.heap.size w W := by rw [hW]; exact (Below.refl _ w).alloc (Nat.le_refl _) _
      have bx : Box2 W w.heap.size (.slice a n c) (.slice a' m c') := by rw [hW]; exact box2_of (Own.made w 25 [.slice a n c, .slice a' m c'])
      have CB := checkblocks_any a n c C.1 W (H.below hB).B H.cap
      rw [hW] at CB
      have CE := hid (fun wx (g : Below W.heap.size W wx) => checkentries_any a' m c' C.2 n wx ((H.below hB).below g).E)
      have HP := hid (And.intro hB (And.intro bx hW))
      clear hB bx hW H h1 h2
      by_cases e : blkN C.1 n = 0
      · rw [if_pos e]
        rw [e] at CB
        clear e
        generalize entN C.2 n m = T at CE
        have CB' := hid CB
        clear CB
        go_enter Tryd.func15, Tryd.ntmps15
        go_wp2_with fail
        refine CB'.out.mono ?_
        rintro _ w1 ⟨rfl, g1⟩
        rw [← HP.out.2.2] at g1
        have d0 := (HP.out.2.1.below g1).c0
        have d1 := (HP.out.2.1.below g1).c1
        have G1 := hid g1
        clear g1 CB'
        go_wp2_with fail
        refine (CE.out _ G1.out).mono ?_
        rintro _ w2 ⟨rfl, g2⟩
        go_wp2
        go_ret
        exact ⟨rfl, HP.out.1.trans ((G1.out.trans (g2.mono G1.out.size)).mono HP.out.1.size)⟩
      · rw [if_neg e]
        generalize blkN C.1 n = T at e CB
        have e' : (T != 0) = true := by rw [bne_iff_ne]; exact e
        have CB' := hid CB
        clear CB e
        go_enter Tryd.func15, Tryd.ntmps15
        go_wp2_with fail
        refine CB'.out.mono ?_
        rintro _ w1 ⟨rfl, g1⟩
        rw [← HP.out.2.2] at g1
        go_wp2
        go_ret
        exact ⟨rfl, HP.out.1.trans (g1.mono HP.out.1.size)⟩
end Go.Proofs.YtelgpiedchnncabDoor
