/- What the document's own CatalogFault answers. -/
import Derived.Test.YtelgpiedchnncabDoorCatMem
import Derived.Test.YtelgpiedchnncabDoorCatName
import Derived.Test.YtelgpiedchnncabDoorStreamSecs
import Derived.Deep.RegionWith
import Derived.Deep.QuietTactic
import Derived.BigQuiet
import Derived.Deep.DeepCutAuto
namespace Go.Proofs.YtelgpiedchnncabDoor
open Go.RowKit Go.Lib

theorem bkOk_eq (L : List Bk) (k : Nat) : bkOk L k = (decide ((bk L k).f = atB L k) && decide (0 ≤ (bk L k).n ∧ (bk L k).n ≤ 1200) && decide (atB L (k + 1) ≤ 64)) := by
  unfold bkOk
  rw [Bool.eq_iff_iff]
  simp [and_assoc]
theorem enOk_eq (x : En) (m : Nat) : enOk x m = (nameMay x.s && decide (0 ≤ x.b ∧ x.b ≤ (m : Int) - 1) && decide (0 ≤ x.a ∧ x.a ≤ 600) && decide (0 ≤ x.n ∧ x.n ≤ 200)) := by
  unfold enOk
  have : decide (0 ≤ x.b ∧ x.b ≤ (m : Int) - 1) = decide (0 ≤ x.b ∧ x.b < m) := by rw [decide_eq_decide]; omega
  rw [this, Bool.eq_iff_iff]
  simp [and_assoc]

/-- The first of two loops: a round in which the block is none that may be, one in which it may. -/
theorem fault_size (a : Option Addr) (n c : Nat) (a' : Option Addr) (m c' : Nat) (w : World) (h : 10 < n ∨ 10 < m) :
    Calls Tryd.prog 21 #[.agg #[.slice a n c, .slice a' m c']] w fun e w' => e = .returned (.int .i64 1) ∧ Below w.heap.size w w' := by
  by_cases h1 : 10 < n
  · have h1' : (10 : Int) < n := by omega
    clear h
    go_enter Tryd.func21, Tryd.ntmps21
    go_wp2
    go_ret
    exact ⟨rfl, by go_grown⟩
  · have h1' : ¬ (10 : Int) < n := by omega
    have h2' : (10 : Int) < m := by omega
    clear h
    go_enter Tryd.func21, Tryd.ntmps21
    go_wp2
    go_ret
    exact ⟨rfl, by go_grown⟩

set_option maxHeartbeats 1600000 in
set_option maxRecDepth 4000 in
theorem fault_any (a : Option Addr) (n c : Nat) (a' : Option Addr) (m c' : Nat) (C : Ct) (w : World) (H : CatAt w a n c a' m C) :
    Calls Tryd.prog 21 #[.agg #[.slice a n c, .slice a' m c']] w fun e w' => e = .returned (.int .i64 (catChk C)) ∧ Below w.heap.size w w' := by
  unfold catChk
  rw [← H.B.sn, ← H.E.sn]
  by_cases hs : 10 < n ∨ 10 < m
  · rw [if_pos hs]
    exact fault_size a n c a' m c' w hs
  · rw [if_neg hs]
    have h1 : ¬ (10 : Int) < n := by omega
    have h2 : ¬ (10 : Int) < m := by omega
    have hn : n ≤ 10 := by omega
    have hm : m ≤ 10 := by omega
    clear hs
    obtain ⟨T, hT⟩ : ∃ T : Int, T = if blkN C.1 n = 0 then entN C.2 n m else blkN C.1 n := ⟨_, rfl⟩
    rw [← hT]
    have HT := hid hT
    clear hT
    obtain ⟨W, hW⟩ : ∃ W, W = w.alloc (.cells #[.slice a n c, .slice a' m c'] 25) := ⟨_, rfl⟩
    have hB : Below w.heap.size w W := by rw [hW]; exact (Below.refl _ w).alloc (Nat.le_refl _) _
    have bx : Box2 W w.heap.size (.slice a n c) (.slice a' m c') := by rw [hW]; exact box2_of (Own.made w 25 [.slice a n c, .slice a' m c'])
    have HP := hid (And.intro hB (And.intro bx (H.below hB)))
    clear hB bx H
    go_enter Tryd.func21, Tryd.ntmps21
    go_wp2_with fail
    rw [← hW]
    clear hW h1 h2
    go_loopw [3, 4] (fun t i wr => ∃ k : Nat, k ≤ n ∧ i = .int .i64 k ∧ t = .int .i64 (atB C.1 k) ∧ Hid (blkN C.1 k = 0) ∧ Hid (Below W.heap.size W wr)) (fun _ i _ => n - (intOf i).toNat)
    case atStart => exact ⟨0, Nat.zero_le _, rfl, rfl, rfl, Below.refl _ _⟩
    case round =>
      obtain ⟨k, hk, rfl, rfl, h0, G⟩ := hrel
      have d0 := (HP.out.2.1.below G.out).c0
      have d1 := (HP.out.2.1.below G.out).c1
      by_cases hlt : k < n
      · have hlt' : (k : Int) < n := by omega
        obtain ⟨b, o, rfl, hb, x0, x1⟩ := (HP.out.2.2.below G.out).B.c k hlt
        have hat := blk_at C.1 k h0.out
        have e1 := bkOk_eq C.1 k
        have e2 := atB_succ C.1 k
        have NO := hid (fun (h : bkOk C.1 k = false) => show T = 4 by rw [HT.out, blk_fail C.1 k h0.out h n hlt, if_neg (by decide)])
        have YES := hid (fun (h : bkOk C.1 k = true) => show blkN C.1 (k + 1) = 0 by rw [blk_succ C.1 k h0.out, h]; rfl)
        have GB := hid (G.out.alloc G.out.size (.cells #[.int .i64 (bk C.1 k).f, .int .i64 (bk C.1 k).n] 41))
        have C2 := hid (fun wx => in_any (bk C.1 k).n 0 1200 wx)
        by_cases f1 : (bk C.1 k).f = atB C.1 k
        · have q1 : ((bk C.1 k).f != (atB C.1 k : Int)) = false := by rw [bne_eq_false_iff_eq]; exact f1
          by_cases n0 : 0 ≤ (bk C.1 k).n ∧ (bk C.1 k).n ≤ 1200
          · rw [decide_eq_true n0] at C2
            obtain ⟨M, hM⟩ : ∃ M : Nat, (bk C.1 k).n = M := ⟨(bk C.1 k).n.toNat, by omega⟩
            rw [hM, Int.toNat_natCast] at e2
            have CS := hid (fun wx => refsectors_ok M wx (by omega))
            have h64 := secs_64 M (by omega)
            by_cases n2 : 64 < atB C.1 (k + 1)
            · have R := hid (NO.out (by rw [e1, decide_eq_false (show ¬ atB C.1 (k + 1) ≤ 64 by omega), Bool.and_false]))
              rw [e2] at n2
              have n3 : (64 : Int) < (atB C.1 k : Int) + (secs M : Int) := by omega
              rw [hM] at x1 C2 GB
              generalize (bk C.1 k).f = f at x0 q1 GB
              generalize secs M = S at CS h64 n3
              generalize atB C.1 k = t at q1 n3 hat ⊢
              clear NO YES e1 e2 f1 n0 hM n2
              go_wp2_with (first | (go_at_call 40; refine (C2.out _).mono ?_; rintro _ w9 ⟨rfl, h9⟩; (have h8 := h9.symm); subst h8) | (go_at_call 20; refine (CS.out _).mono ?_; rintro _ w9 ⟨rfl, h9⟩; (have h8 := h9.symm); subst h8))
              go_ret
              exact ⟨ret_int R.out.symm, HP.out.1.trans (GB.out.mono HP.out.1.size)⟩
            · have R := hid (YES.out (by rw [e1, decide_eq_true f1, decide_eq_true n0, decide_eq_true (show atB C.1 (k + 1) ≤ 64 by omega)]; rfl))
              have n3 : ¬ (64 : Int) < (atB C.1 k : Int) + (secs M : Int) := by omega
              have E2 := hid (show (atB C.1 k : Int) + (secs M : Int) = (atB C.1 (k + 1) : Int) by omega)
              rw [hM] at x1 C2 GB
              generalize (bk C.1 k).f = f at x0 q1 GB
              generalize secs M = S at CS h64 n3 E2
              generalize atB C.1 k = t at q1 n3 hat E2 ⊢
              clear NO YES e1 e2 f1 n0 hM n2
              go_wp2_with (first | (go_at_call 40; refine (C2.out _).mono ?_; rintro _ w9 ⟨rfl, h9⟩; (have h8 := h9.symm); subst h8) | (go_at_call 20; refine (CS.out _).mono ?_; rintro _ w9 ⟨rfl, h9⟩; (have h8 := h9.symm); subst h8))
              go_roundw
              case rel => exact ⟨k + 1, by omega, by go_num, by rw [E2.out], R, GB⟩
              case measure => simp [intOf]; omega
          · rw [decide_eq_false n0] at C2
            have R := hid (NO.out (by rw [e1, decide_eq_false n0, Bool.and_false, Bool.false_and]))
            generalize (bk C.1 k).f = f at x0 q1 GB
            generalize (bk C.1 k).n = M at x1 C2 GB
            generalize atB C.1 k = t at q1 hat ⊢
            clear NO YES e1 e2 f1 n0
            go_wp2_with (go_at_call 40; refine (C2.out _).mono ?_; rintro _ w9 ⟨rfl, h9⟩; (have h8 := h9.symm); subst h8)
            go_ret
            exact ⟨ret_int R.out.symm, HP.out.1.trans (GB.out.mono HP.out.1.size)⟩
        · have q1 : ((bk C.1 k).f != (atB C.1 k : Int)) = true := by rw [bne_iff_ne]; exact f1
          have R := hid (NO.out (by rw [e1, decide_eq_false f1, Bool.false_and, Bool.false_and]))
          generalize (bk C.1 k).f = f at x0 q1 GB
          generalize (bk C.1 k).n = M at x1 C2 GB
          generalize atB C.1 k = t at q1 hat ⊢
          clear NO YES e1 e2 f1
          go_wp2
          go_ret
          exact ⟨ret_int R.out.symm, HP.out.1.trans (GB.out.mono HP.out.1.size)⟩
      · obtain rfl : k = n := by omega
        have hlt' : ¬ (k : Int) < k := by omega
        have HT2 := hid (show T = entN C.2 k m by rw [HT.out, if_pos h0.out])
        have hnk : (k : Int) ≤ 10 := by omega
        clear HT h0 hk
        go_wp2_with fail
        clear d0 d1
        have G0 := G
        clear G
        go_loopw [6] (fun i wr => ∃ j : Nat, j ≤ m ∧ i = .int .i64 j ∧ Hid (entN C.2 k j = 0) ∧ Hid (Below W.heap.size W wr)) (fun i _ => m - (intOf i).toNat)
        case atStart => exact ⟨0, Nat.zero_le _, rfl, rfl, G0⟩
        case round =>
          obtain ⟨j, hj, rfl, h0, G⟩ := hrel
          have d0 := (HP.out.2.1.below G.out).c0
          have d1 := (HP.out.2.1.below G.out).c1
          clear hlt'
          by_cases hlt : j < m
          · have hlt' : (j : Int) < m := by omega
            obtain ⟨b, o, rfl, hb, x0, x1, x2, x3⟩ := (HP.out.2.2.below G.out).E.c j hlt
            have nm := HP.out.2.2.E.nm j hlt
            have hz : w.heap.size < wr.heap.size := cell_lt d0
            have e1 := enOk_eq (en C.2 j) k
            have NO := hid (fun (h : enOk (en C.2 j) k = false) => show T = 4 by rw [HT2.out, ent_form C.2 k j h0.out h m hlt])
            have OK := hid (fun (h : enOk (en C.2 j) k = true) => h)
            have GB := hid (G.out.alloc G.out.size (.cells #[.string (en C.2 j).s, .int .i64 (en C.2 j).b, .int .i64 (en C.2 j).a, .int .i64 (en C.2 j).n] 44))
            have C1 := hid (fun wx => refname_any (en C.2 j).s wx nm)
            have C2 := hid (fun wx => in_any (en C.2 j).b 0 ((k : Int) - 1) wx)
            have C3 := hid (fun wx => in_any (en C.2 j).a 0 600 wx)
            have C4 := hid (fun wx => in_any (en C.2 j).n 0 200 wx)
            generalize nameMay (en C.2 j).s = r1 at e1 C1
            generalize decide (0 ≤ (en C.2 j).b ∧ (en C.2 j).b ≤ (k : Int) - 1) = r2 at e1 C2
            generalize decide (0 ≤ (en C.2 j).a ∧ (en C.2 j).a ≤ 600) = r3 at e1 C3
            generalize decide (0 ≤ (en C.2 j).n ∧ (en C.2 j).n ≤ 200) = r4 at e1 C4
            clear nm
            cases r1 with
            | false =>
              have R := hid (NO.out (by rw [e1]; rfl))
              clear NO OK
              go_wp2_with (first | (go_at_call 41; refine (C1.out _).mono ?_; rintro _ w9 ⟨rfl, h9⟩; (have h8 := h9.symm); subst h8))
              go_ret
              exact ⟨ret_int R.out.symm, HP.out.1.trans (GB.out.mono HP.out.1.size)⟩
            | true =>
              cases r2 with
              | false =>
                have R := hid (NO.out (by rw [e1]; rfl))
                clear NO OK
                go_wp2_with (first | (go_at_call 41; refine (C1.out _).mono ?_; rintro _ w9 ⟨rfl, h9⟩; (have h8 := h9.symm); subst h8) | (go_at_call 40; refine (C2.out _).mono ?_; rintro _ w9 ⟨rfl, h9⟩; (have h8 := h9.symm); subst h8))
                go_ret
                exact ⟨ret_int R.out.symm, HP.out.1.trans (GB.out.mono HP.out.1.size)⟩
              | true =>
                cases r3 with
                | false =>
                  have R := hid (NO.out (by rw [e1]; rfl))
                  clear NO OK
                  go_wp2_with (first | (go_at_call 41; refine (C1.out _).mono ?_; rintro _ w9 ⟨rfl, h9⟩; (have h8 := h9.symm); subst h8) | (go_at_call_of 40 (Value.int IntKind.i64 600); refine (C3.out _).mono ?_; rintro _ w9 ⟨rfl, h9⟩; (have h8 := h9.symm); subst h8) | (go_at_call 40; refine (C2.out _).mono ?_; rintro _ w9 ⟨rfl, h9⟩; (have h8 := h9.symm); subst h8))
                  go_ret
                  exact ⟨ret_int R.out.symm, HP.out.1.trans (GB.out.mono HP.out.1.size)⟩
                | true =>
                  cases r4 with
                  | false =>
                    have R := hid (NO.out (by rw [e1]; rfl))
                    clear NO OK
                    go_wp2_with (first | (go_at_call 41; refine (C1.out _).mono ?_; rintro _ w9 ⟨rfl, h9⟩; (have h8 := h9.symm); subst h8) | (go_at_call_of 40 (Value.int IntKind.i64 600); refine (C3.out _).mono ?_; rintro _ w9 ⟨rfl, h9⟩; (have h8 := h9.symm); subst h8) | (go_at_call_of 40 (Value.int IntKind.i64 200); refine (C4.out _).mono ?_; rintro _ w9 ⟨rfl, h9⟩; (have h8 := h9.symm); subst h8) | (go_at_call 40; refine (C2.out _).mono ?_; rintro _ w9 ⟨rfl, h9⟩; (have h8 := h9.symm); subst h8))
                    go_ret
                    exact ⟨ret_int R.out.symm, HP.out.1.trans (GB.out.mono HP.out.1.size)⟩
                  | true =>
                    have ok := OK.out (by rw [e1]; rfl)
                    clear NO OK e1
                    by_cases k0 : j = 0
                    · have kd : decide (0 < j) = false := decide_eq_false (by omega)
                      have R := hid (ent_next C.2 k j h0.out ok (by unfold enBad; rw [decide_eq_false (by omega), Bool.false_and]))
                      clear ok k0
                      go_wp2_with (first | (go_at_call 41; refine (C1.out _).mono ?_; rintro _ w9 ⟨rfl, h9⟩; (have h8 := h9.symm); subst h8) | (go_at_call_of 40 (Value.int IntKind.i64 600); refine (C3.out _).mono ?_; rintro _ w9 ⟨rfl, h9⟩; (have h8 := h9.symm); subst h8) | (go_at_call_of 40 (Value.int IntKind.i64 200); refine (C4.out _).mono ?_; rintro _ w9 ⟨rfl, h9⟩; (have h8 := h9.symm); subst h8) | (go_at_call 40; refine (C2.out _).mono ?_; rintro _ w9 ⟨rfl, h9⟩; (have h8 := h9.symm); subst h8))
                      go_quiet (fail)
                      go_wp2
                      go_roundw
                      case rel => exact ⟨j + 1, by omega, by go_num, R, hid (below_drewN GB.out _)⟩
                      case measure => simp [intOf]; omega
                    · have kd : decide (0 < j) = true := decide_eq_true (by omega)
                      obtain ⟨b2, o2, e2, hb2, p0, _, _, _⟩ := (HP.out.2.2.below G.out).E.c (j - 1) (by omega)
                      cases e2
                      have lp : o + ((j : Int) - 1).toNat * 4 = o + (j - 1) * 4 := by omega
                      have p1 := p0
                      rw [← lp] at p1
                      have k1 : IntKind.i64.wrap ((j : Int) - 1) = (j : Int) - 1 := IntWalk.i64_in _ (by omega)
                      have k2 : (1 : Int) ≤ (j : Int) := by omega
                      have k4 : 1 ≤ j := by omega
                      have k3 : (j : Int) - 1 < m := by omega
                      obtain ⟨r, hr⟩ : ∃ r, r = enBad C.2 j := ⟨_, rfl⟩
                      have hr2 : (Op.bytesLess (en C.2 j).s.toList (en C.2 (j - 1)).s.toList || (en C.2 j).s.toList == (en C.2 (j - 1)).s.toList) = r := by rw [hr, enBad, decide_eq_true (by omega), Bool.true_and, notAbove]
                      generalize (en C.2 (j - 1)).s = s2 at hr2 p0 p1
                      clear lp
                      cases r with
                      | false =>
                        have R := hid (ent_next C.2 k j h0.out ok hr.symm)
                        clear ok k0 hr
                        go_wp2_with (first | (go_at_call 41; refine (C1.out _).mono ?_; rintro _ w9 ⟨rfl, h9⟩; (have h8 := h9.symm); subst h8) | (go_at_call_of 40 (Value.int IntKind.i64 600); refine (C3.out _).mono ?_; rintro _ w9 ⟨rfl, h9⟩; (have h8 := h9.symm); subst h8) | (go_at_call_of 40 (Value.int IntKind.i64 200); refine (C4.out _).mono ?_; rintro _ w9 ⟨rfl, h9⟩; (have h8 := h9.symm); subst h8) | (go_at_call 40; refine (C2.out _).mono ?_; rintro _ w9 ⟨rfl, h9⟩; (have h8 := h9.symm); subst h8))
                        go_quiet (fail)
                        go_wp2
                        go_roundw
                        case rel => exact ⟨j + 1, by omega, by go_num, R, hid (below_drewN GB.out _)⟩
                        case measure => simp [intOf]; omega
                      | true =>
                        have R := hid (show T = 12 by rw [HT2.out, ent_order C.2 k j h0.out ok hr.symm m hlt])
                        clear ok k0 hr
                        go_wp2_with (first | (go_at_call 41; refine (C1.out _).mono ?_; rintro _ w9 ⟨rfl, h9⟩; (have h8 := h9.symm); subst h8) | (go_at_call_of 40 (Value.int IntKind.i64 600); refine (C3.out _).mono ?_; rintro _ w9 ⟨rfl, h9⟩; (have h8 := h9.symm); subst h8) | (go_at_call_of 40 (Value.int IntKind.i64 200); refine (C4.out _).mono ?_; rintro _ w9 ⟨rfl, h9⟩; (have h8 := h9.symm); subst h8) | (go_at_call 40; refine (C2.out _).mono ?_; rintro _ w9 ⟨rfl, h9⟩; (have h8 := h9.symm); subst h8))
                        go_quiet (fail)
                        go_wp2
                        go_ret
                        exact ⟨ret_int R.out.symm, HP.out.1.trans ((below_drewN GB.out _).mono HP.out.1.size)⟩
          · obtain rfl : j = m := by omega
            have hlt' : ¬ (j : Int) < j := by omega
            have R := hid (show T = 0 by rw [HT2.out, h0.out])
            go_wp2
            go_ret
            exact ⟨ret_int R.out.symm, HP.out.1.trans (G.out.mono HP.out.1.size)⟩
end Go.Proofs.YtelgpiedchnncabDoor
