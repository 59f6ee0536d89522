/- Joined texts: CatChkB, CatChkE, CatFault, CatNext. -/
import Derived.Test.YtahoagbaadnihabGreatDoorCatNB
import Derived.Deep.RegionWith
import Derived.Deep.DeepCutAuto
import Derived.Deep.RegionHeld3
import Derived.Test.YtahoagbaadnihabGreatDoorMem2
import Derived.Deep.QuietTactic
import Derived.BigQuiet
/- What the program's checkBlocks answers. -/
namespace Go.Proofs.YtahoagbaadnihabGreatDoor
open Go.RowKit Go.Lib

/-- The sector behind the first blocks of a list. -/
theorem behind_k (b o n c : Nat) (L : List Bk) (w0 : World) (H : BlkAt w0 (some ⟨b, o, none⟩) n L) (k : Nat) (hk : k ≤ n) (h0 : blkN L k = 0) (w : World) (g : Below w0.heap.size w0 w) :
    Calls Tryz.prog 159 #[.slice (some ⟨b, o, none⟩) k c] w fun e w' => e = .returned (.int .i64 (atB L k)) ∧ Below w.heap.size w w' := by
  have hL := H.sn
  have := behind_any (some ⟨b, o, none⟩) k c (L.take k) w ((H.take k hk).below g) (fun j hj => by
    subst hj
    have e : bk (L.take (j + 1)) j = bk L j := by simp [bk]
    rw [e]
    obtain ⟨h1, h2, h3⟩ := blk_last L j h0
    rw [atB_succ] at h3
    rw [h1]
    omega)
  rw [beh_take L k (by omega) (blk_ok L k h0)] at this
  exact this

theorem behind_k1 (b o n c : Nat) (L : List Bk) (w0 : World) (H : BlkAt w0 (some ⟨b, o, none⟩) n L) (k : Nat) (hk : k < n) (h0 : blkN L k = 0) (h1 : (bk L k).f = atB L k) (h2 : 0 ≤ (bk L k).n ∧ (bk L k).n ≤ 1200) (w : World) (g : Below w0.heap.size w0 w) :
    Calls Tryz.prog 159 #[.slice (some ⟨b, o, none⟩) (k + 1) c] w fun e w' => e = .returned (.int .i64 (atB L (k + 1))) ∧ Below w.heap.size w w' := by
  have hL := H.sn
  have e : bk (L.take (k + 1)) k = bk L k := by simp [bk]
  have ha := blk_at L k h0
  have := behind_any (some ⟨b, o, none⟩) (k + 1) c (L.take (k + 1)) w ((H.take (k + 1) (by omega)).below g) (fun j hj => by
    obtain rfl : j = k := by omega
    rw [e, h1]
    omega)
  rw [beh_last (L.take (k + 1)) k (by simp; omega), e, h1] at this
  rw [atB_succ]
  rw [show ((atB L k + secs (bk L k).n.toNat : Nat) : Int) = (atB L k : Int) + (secs (bk L k).n.toNat : Int) by omega]
  exact this
theorem bkOk_no (L : List Bk) (k : Nat) (h : ¬ ((bk L k).f = atB L k ∧ (0 ≤ (bk L k).n ∧ (bk L k).n ≤ 1200) ∧ atB L (k + 1) ≤ 64)) : bkOk L k = false := by
  rw [bkOk, decide_eq_false h]

set_option maxHeartbeats 1600000 in
set_option maxRecDepth 4000 in
theorem checkblocks_any (a : Option Addr) (n c : Nat) (L : List Bk) (w : World) (H : BlkAt w a n L) (hc : n ≤ c) :
    Calls Tryz.prog 166 #[.slice a n c] w fun e w' => e = .returned (.int .i64 (blkN L n)) ∧ Below w.heap.size w w' := by
  have hnb := H.nb
  unfold maxLen at hnb
  have HH := hid H
  clear H
  go_enter Tryz.func166, Tryz.ntmps166
  go_wp2_with fail
  go_loopw [7] (fun i wr => ∃ k : Nat, k ≤ n ∧ i = .int .i64 k ∧ Hid (blkN L k = 0) ∧ Hid (Below w.heap.size w wr)) (fun i _ => n - (intOf i).toNat)
  case atStart => exact ⟨0, Nat.zero_le _, rfl, rfl, Below.refl _ _⟩
  case round =>
    obtain ⟨k, hk, rfl, h0, G⟩ := hrel
    by_cases hlt : k < n
    · have hlt' : (k : Int) < n := by omega
      have hkc : (k : Int) ≤ c := by omega
      obtain ⟨b, o, rfl, hb, x0, x1⟩ := (HH.out.below G.out).c k hlt
      have CB := hid (fun wx (g : Below w.heap.size w wx) => behind_k b o n c L w HH.out k hk h0.out wx g)
      obtain ⟨W, hW⟩ : ∃ W, W = wr.alloc (.cells #[.int .i64 (bk L k).f, .int .i64 (bk L k).n] 156) := ⟨_, rfl⟩
      have hB : Below w.heap.size w W := by rw [hW]; exact G.out.alloc G.out.size _
      have hz : W.heap.size = wr.heap.size + 1 := by rw [hW]; simp
      have y0 : W.cell? ⟨wr.heap.size, 0, none⟩ = some (.int .i64 (bk L k).f) := by rw [hW]; simp
      have y1 : W.cell? ⟨wr.heap.size, 1, none⟩ = some (.int .i64 (bk L k).n) := by rw [hW]; simp
      have HB := hid hB
      have HZ := hid hz
      have NO := hid (fun h => blk_fail L k h0.out (bkOk_no L k h) n hlt)
      by_cases f1 : (bk L k).f = atB L k
      · have q1 : ((bk L k).f != (atB L k : Int)) = false := by rw [bne_eq_false_iff_eq]; exact f1
        have YES := hid (fun h => show blkN L (k + 1) = 0 by rw [blk_succ L k h0.out, (bkOk_iff L k).2 h]; rfl)
        by_cases n0 : (bk L k).n < 0
        · have m0 : decide ((bk L k).n < 0) = true := decide_eq_true n0
          have R := hid (NO.out (fun h => by omega))
          clear NO YES n0 f1 hB hz HH
          generalize (bk L k).f = f at x0 y0 q1 hW
          generalize (bk L k).n = m at x1 y1 hW m0
          generalize atB L k = t at CB q1
          have LZ := hid (fun w5 (g5 : Below W.drew.heap.size W.drew w5) => And.intro ((g5.cell (p := ⟨wr.heap.size, 0, none⟩) (by show wr.heap.size < W.heap.size; rw [HZ.out]; omega)).trans y0) ((g5.cell (p := ⟨wr.heap.size, 1, none⟩) (by show wr.heap.size < W.heap.size; rw [HZ.out]; omega)).trans y1))
          go_upto_region 4 with fail
          rw [← hW]
          clear hW x0 x1
          first | go_region_with (go_at_call 159; refine (CB.out _ (HB.out.drew)).mono ?_; rintro _ w5 ⟨rfl, g5⟩; obtain ⟨z0, z1⟩ := LZ.out _ g5) | fail
          all_goals go_wp2
          all_goals go_ret
          all_goals exact ⟨ret_int R.out.symm, HB.out.trans ((undrew g5).mono HB.out.size)⟩
        · have m0 : decide ((bk L k).n < 0) = false := decide_eq_false n0
          by_cases n1 : 1200 < (bk L k).n
          · have m1 : decide (1200 < (bk L k).n) = true := decide_eq_true n1
            have R := hid (NO.out (fun h => by omega))
            clear NO YES n0 n1 f1 hB hz HH
            generalize (bk L k).f = f at x0 y0 q1 hW
            generalize (bk L k).n = m at x1 y1 hW m0 m1
            generalize atB L k = t at CB q1
            have LZ := hid (fun w5 (g5 : Below W.drew.heap.size W.drew w5) => And.intro ((g5.cell (p := ⟨wr.heap.size, 0, none⟩) (by show wr.heap.size < W.heap.size; rw [HZ.out]; omega)).trans y0) ((g5.cell (p := ⟨wr.heap.size, 1, none⟩) (by show wr.heap.size < W.heap.size; rw [HZ.out]; omega)).trans y1))
            go_upto_region 4 with fail
            rw [← hW]
            clear hW x0 x1
            first | go_region_with (go_at_call 159; refine (CB.out _ (HB.out.drew)).mono ?_; rintro _ w5 ⟨rfl, g5⟩; obtain ⟨z0, z1⟩ := LZ.out _ g5) | fail
            all_goals go_wp2
            all_goals go_ret
            all_goals exact ⟨ret_int R.out.symm, HB.out.trans ((undrew g5).mono HB.out.size)⟩
          · have m1 : decide (1200 < (bk L k).n) = false := decide_eq_false n1
            have CB2 := hid (fun wx (g : Below w.heap.size w wx) => behind_k1 b o n c L w HH.out k hlt h0.out f1 (by omega) wx g)
            have hkc2 : (k : Int) + 1 ≤ c := by omega
            have hk0 : (0 : Int) ≤ (k : Int) + 1 := by omega
            have hk1 : IntKind.i64.wrap ((k : Int) + 1) = (k : Int) + 1 := IntWalk.i64_in _ (by omega)
            by_cases n2 : 64 < atB L (k + 1)
            · have q2 : decide ((64 : Int) < (atB L (k + 1) : Int)) = true := decide_eq_true (by omega)
              have R := hid (NO.out (fun h => by omega))
              clear n0 n1 n2
              clear NO YES f1 hB hz HH
              generalize (bk L k).f = f at x0 y0 q1 hW
              generalize (bk L k).n = m at x1 y1 hW m0 m1
              generalize atB L k = t at CB q1
              generalize atB L (k + 1) = t2 at CB2 q2
              have LZ := hid (fun w5 (g5 : Below W.heap.size W w5) => And.intro ((g5.cell (p := ⟨wr.heap.size, 0, none⟩) (by show wr.heap.size < W.heap.size; rw [HZ.out]; omega)).trans y0) ((g5.cell (p := ⟨wr.heap.size, 1, none⟩) (by show wr.heap.size < W.heap.size; rw [HZ.out]; omega)).trans y1))
              go_upto_region 4 with fail
              rw [← hW]
              clear hW x0 x1
              go_region_held3 (fun w' => w'.cell? ⟨wr.heap.size, 0, none⟩ = some (.int .i64 f) ∧ w'.cell? ⟨wr.heap.size, 1, none⟩ = some (.int .i64 m)) (go_keep) (first | (go_at_call_of 159 (Value.slice (some ⟨b, o, none⟩) k c); refine (CB.out _ (HB.out.drew)).mono ?_; rintro _ w5 ⟨rfl, g5⟩; (have G5 := hid (undrew g5)); (obtain ⟨z0, z1⟩ := LZ.out _ (undrew g5)); clear g5) | (go_at_call 159; refine (CB2.out _ (HB.out.trans (G5.out.mono HB.out.size))).mono ?_; rintro _ w6 ⟨rfl, g6⟩; (have G6 := hid (G5.out.trans (g6.mono G5.out.size))); (obtain ⟨z0, z1⟩ := LZ.out _ G6.out); clear g6))
              all_goals go_wp2
              all_goals go_ret
              all_goals exact ⟨ret_int R.out.symm, HB.out.trans (G6.out.mono HB.out.size)⟩
            · have q2 : decide ((64 : Int) < (atB L (k + 1) : Int)) = false := decide_eq_false (by omega)
              have R := hid (YES.out ⟨f1, by omega, by omega⟩)
              clear n0 n1 n2
              clear NO YES f1 hB hz HH
              generalize (bk L k).f = f at x0 y0 q1 hW
              generalize (bk L k).n = m at x1 y1 hW m0 m1
              generalize atB L k = t at CB q1
              generalize atB L (k + 1) = t2 at CB2 q2
              have LZ := hid (fun w5 (g5 : Below W.heap.size W w5) => And.intro ((g5.cell (p := ⟨wr.heap.size, 0, none⟩) (by show wr.heap.size < W.heap.size; rw [HZ.out]; omega)).trans y0) ((g5.cell (p := ⟨wr.heap.size, 1, none⟩) (by show wr.heap.size < W.heap.size; rw [HZ.out]; omega)).trans y1))
              go_upto_region 4 with fail
              rw [← hW]
              clear hW x0 x1
              go_region_held3 (fun w' => w'.cell? ⟨wr.heap.size, 0, none⟩ = some (.int .i64 f) ∧ w'.cell? ⟨wr.heap.size, 1, none⟩ = some (.int .i64 m)) (go_keep) (first | (go_at_call_of 159 (Value.slice (some ⟨b, o, none⟩) k c); refine (CB.out _ (HB.out.drew)).mono ?_; rintro _ w5 ⟨rfl, g5⟩; (have G5 := hid (undrew g5)); (obtain ⟨z0, z1⟩ := LZ.out _ (undrew g5)); clear g5) | (go_at_call 159; refine (CB2.out _ (HB.out.trans (G5.out.mono HB.out.size))).mono ?_; rintro _ w6 ⟨rfl, g6⟩; (have G6 := hid (G5.out.trans (g6.mono G5.out.size))); (obtain ⟨z0, z1⟩ := LZ.out _ G6.out); clear g6))
              all_goals go_wp2
              all_goals go_roundw
              all_goals (first | (case rel => exact ⟨k + 1, by omega, by go_num, R, hid (HB.out.trans (G6.out.mono HB.out.size))⟩) | skip)
              all_goals (simp [intOf]; omega)
      · have q1 : ((bk L k).f != (atB L k : Int)) = true := by rw [bne_iff_ne]; exact f1
        have R := hid (NO.out (fun h => f1 h.1))
        clear NO f1 hB hz HH
        generalize (bk L k).f = f at x0 y0 q1 hW
        generalize (bk L k).n = m at x1 y1 hW
        generalize atB L k = t at CB q1
        have LZ := hid (fun w5 (g5 : Below W.drew.heap.size W.drew w5) => And.intro ((g5.cell (p := ⟨wr.heap.size, 0, none⟩) (by show wr.heap.size < W.heap.size; rw [HZ.out]; omega)).trans y0) ((g5.cell (p := ⟨wr.heap.size, 1, none⟩) (by show wr.heap.size < W.heap.size; rw [HZ.out]; omega)).trans y1))
        go_upto_region 4 with fail
        rw [← hW]
        clear hW x0 x1
        first | go_region_with (go_at_call 159; refine (CB.out _ (HB.out.drew)).mono ?_; rintro _ w5 ⟨rfl, g5⟩; obtain ⟨z0, z1⟩ := LZ.out _ g5) | fail
        all_goals go_wp2
        all_goals go_ret
        all_goals exact ⟨ret_int R.out.symm, HB.out.trans ((undrew g5).mono HB.out.size)⟩
    · obtain rfl : k = n := by omega
      have hlt' : ¬ (k : Int) < k := by omega
      go_wp2
      go_ret
      exact ⟨ret_int h0.out.symm, G.out⟩
end Go.Proofs.YtahoagbaadnihabGreatDoor

/- What the program's checkEntries and Check answer. -/
namespace Go.Proofs.YtahoagbaadnihabGreatDoor
open Go.RowKit Go.Lib

theorem enOk_no (x : En) (m : Nat) (h : ¬ ((0 ≤ x.b ∧ x.b < m) ∧ (0 ≤ x.a ∧ x.a ≤ 600) ∧ 0 ≤ x.n ∧ x.n ≤ 200)) : enOk x m = false := by
  unfold enOk
  rw [decide_eq_false h, Bool.and_false]

set_option maxHeartbeats 1000000 in
theorem inform_any (x : En) (m : Nat) (w : World) :
    Calls Tryz.prog 196 #[.agg #[.string x.s, .int .i64 x.b, .int .i64 x.a, .int .i64 x.n], .int .i64 m] w fun e w' => e = .returned (.bool (enOk x m)) ∧ Below w.heap.size w w' := by
  have CN := hid (fun wx => name_any x.s wx)
  cases hn : nameMay x.s with
  | false =>
    have R := hid (show enOk x m = false by unfold enOk; rw [hn, Bool.false_and])
    rw [hn] at CN
    clear hn
    go_enter Tryz.func196, Tryz.ntmps196
    go_wp2_with (go_at_call 155; refine (CN.out _).mono ?_; rintro _ w9 ⟨rfl, h9⟩; (have h8 := h9.symm); subst h8)
    go_ret
    exact ⟨ret_bool R.out.symm, by go_grown⟩
  | true =>
    have YES := hid (fun h => (enOk_iff x m).2 ⟨hn, h⟩)
    have NO := hid (enOk_no x m)
    rw [hn] at CN
    clear hn
    by_cases t0 : 0 ≤ x.b
    ·
      by_cases t1 : x.b < (m : Int)
      ·
        by_cases t2 : 0 ≤ x.a
        ·
          by_cases t3 : x.a ≤ 600
          ·
            by_cases t4 : 0 ≤ x.n
            ·
              by_cases t5 : x.n ≤ 200
              ·
                have R := hid (YES.out ⟨⟨t0, t1⟩, ⟨t2, t3⟩, t4, t5⟩)
                clear YES NO
                go_enter Tryz.func196, Tryz.ntmps196
                go_wp2_with (go_at_call 155; refine (CN.out _).mono ?_; rintro _ w9 ⟨rfl, h9⟩; (have h8 := h9.symm); subst h8)
                go_ret
                exact ⟨ret_bool R.out.symm, by go_grown⟩
              · have R := hid (NO.out (by omega))
                clear YES NO
                go_enter Tryz.func196, Tryz.ntmps196
                go_wp2_with (go_at_call 155; refine (CN.out _).mono ?_; rintro _ w9 ⟨rfl, h9⟩; (have h8 := h9.symm); subst h8)
                go_ret
                exact ⟨ret_bool ((decide_eq_false (by omega)).trans R.out.symm), by go_grown⟩
            · have R := hid (NO.out (by omega))
              clear YES NO
              go_enter Tryz.func196, Tryz.ntmps196
              go_wp2_with (go_at_call 155; refine (CN.out _).mono ?_; rintro _ w9 ⟨rfl, h9⟩; (have h8 := h9.symm); subst h8)
              go_ret
              exact ⟨ret_bool R.out.symm, by go_grown⟩
          · have R := hid (NO.out (by omega))
            clear YES NO
            go_enter Tryz.func196, Tryz.ntmps196
            go_wp2_with (go_at_call 155; refine (CN.out _).mono ?_; rintro _ w9 ⟨rfl, h9⟩; (have h8 := h9.symm); subst h8)
            go_ret
            exact ⟨ret_bool R.out.symm, by go_grown⟩
        · have R := hid (NO.out (by omega))
          clear YES NO
          go_enter Tryz.func196, Tryz.ntmps196
          go_wp2_with (go_at_call 155; refine (CN.out _).mono ?_; rintro _ w9 ⟨rfl, h9⟩; (have h8 := h9.symm); subst h8)
          go_ret
          exact ⟨ret_bool R.out.symm, by go_grown⟩
      · have R := hid (NO.out (by omega))
        clear YES NO
        go_enter Tryz.func196, Tryz.ntmps196
        go_wp2_with (go_at_call 155; refine (CN.out _).mono ?_; rintro _ w9 ⟨rfl, h9⟩; (have h8 := h9.symm); subst h8)
        go_ret
        exact ⟨ret_bool R.out.symm, by go_grown⟩
    · have R := hid (NO.out (by omega))
      clear YES NO
      go_enter Tryz.func196, Tryz.ntmps196
      go_wp2_with (go_at_call 155; refine (CN.out _).mono ?_; rintro _ w9 ⟨rfl, h9⟩; (have h8 := h9.symm); subst h8)
      go_ret
      exact ⟨ret_bool R.out.symm, by go_grown⟩

set_option maxHeartbeats 1600000 in
set_option maxRecDepth 4000 in
theorem checkentries_any (a : Option Addr) (n c : Nat) (E : List En) (m : Nat) (w : World) (H : EntAt w a n E) :
    Calls Tryz.prog 167 #[.slice a n c, .int .i64 m] w fun e w' => e = .returned (.int .i64 (entN E m n)) ∧ Below w.heap.size w w' := by
  have hnb := H.nb
  unfold maxLen at hnb
  have HH := hid H
  clear H
  go_enter Tryz.func167, Tryz.ntmps167
  go_wp2_with fail
  go_loopw [9] (fun i wr => ∃ k : Nat, k ≤ n ∧ i = .int .i64 k ∧ Hid (entN E m k = 0) ∧ Hid (Below w.heap.size w wr)) (fun i _ => n - (intOf i).toNat)
  case atStart => exact ⟨0, Nat.zero_le _, rfl, rfl, Below.refl _ _⟩
  case round =>
    obtain ⟨k, hk, rfl, h0, G⟩ := hrel
    by_cases hlt : k < n
    · have hlt' : (k : Int) < n := by omega
      obtain ⟨b, o, rfl, hb, x0, x1, x2, x3⟩ := (HH.out.below G.out).c k hlt
      have CI := hid (fun wx => inform_any (en E k) m wx)
      obtain ⟨W, hW⟩ : ∃ W, W = wr.alloc (.cells #[.string (en E k).s, .int .i64 (en E k).b, .int .i64 (en E k).a, .int .i64 (en E k).n] 151) := ⟨_, rfl⟩
      have hB : Below w.heap.size w W := by rw [hW]; exact G.out.alloc G.out.size _
      have hz : W.heap.size = wr.heap.size + 1 := by rw [hW]; simp
      have y0 : W.cell? ⟨wr.heap.size, 0, none⟩ = some (.string (en E k).s) := by rw [hW]; simp
      have HB := hid hB
      have HZ := hid hz
      have LZ := hid (fun w5 (g5 : Below W.heap.size W w5) => (g5.cell (p := ⟨wr.heap.size, 0, none⟩) (by show wr.heap.size < W.heap.size; rw [HZ.out]; omega)).trans y0)
      cases ho : enOk (en E k) m with
      | false =>
        rw [ho] at CI
        have R := hid (ent_form E m k h0.out ho n hlt)
        clear ho hB hz y0 LZ HH
        rw [hW] at HB
        clear hW
        go_wp2_with fail
        refine (CI.out _).mono ?_
        rintro _ w5 ⟨rfl, g5⟩
        go_wp2
        go_ret
        exact ⟨ret_int R.out.symm, HB.out.trans (g5.mono HB.out.size)⟩
      | true =>
        rw [ho] at CI
        by_cases k0 : k = 0
        · have kd : decide (0 < k) = false := decide_eq_false (by omega)
          have R := hid (ent_next E m k h0.out ho (by unfold enBad; rw [decide_eq_false (by omega), Bool.false_and]))
          clear ho hB hz y0 LZ HH k0
          rw [hW] at HB
          clear hW
          go_wp2_with fail
          refine (CI.out _).mono ?_
          rintro _ w5 ⟨rfl, g5⟩
          go_wp2_with fail
          go_quiet (fail)
          go_wp2
          go_roundw
          case rel => exact ⟨k + 1, by omega, by go_num, R, hid (below_drewN (HB.out.trans (g5.mono HB.out.size)) _)⟩
          case measure => simp [intOf]; omega
        · have kd : decide (0 < k) = true := decide_eq_true (by omega)
          obtain ⟨b2, o2, e2, hb2, p0, _, _, _⟩ := (HH.out.below HB.out).c (k - 1) (by omega)
          cases e2
          have LP := hid (fun w5 (g5 : Below W.heap.size W w5) => (g5.cell (p := ⟨b, o + (k - 1) * 4, none⟩) hb2).trans p0)
          have lp : o + ((k : Int) - 1).toNat * 4 = o + (k - 1) * 4 := by omega
          have k1 : IntKind.i64.wrap ((k : Int) - 1) = (k : Int) - 1 := IntWalk.i64_in _ (by omega)
          have k2 : (1 : Int) ≤ (k : Int) := by omega
          have k4 : 1 ≤ k := by omega
          have k3 : (k : Int) - 1 < n := by omega
          obtain ⟨r, hr⟩ : ∃ r, r = enBad E k := ⟨_, rfl⟩
          have hr2 : (Op.bytesLess (en E k).s.toList (en E (k - 1)).s.toList || (en E k).s.toList == (en E (k - 1)).s.toList) = r := by rw [hr, enBad, decide_eq_true (by omega), Bool.true_and, notAbove]
          generalize (en E (k - 1)).s = s2 at hr2 LP
          cases r with
          | false =>
            have R := hid (ent_next E m k h0.out ho hr.symm)
            clear ho hB hz y0 p0 hb2 HH hr
            rw [hW] at HB LZ LP
            clear hW k0
            go_wp2_with fail
            refine (CI.out _).mono ?_
            rintro _ w5 ⟨rfl, g5⟩
            have z0 := LZ.out _ g5
            have z1 := LP.out _ g5
            have z2 := LP.out _ g5
            rw [← lp] at z2
            clear lp
            clear LZ LP x0 x1 x2 x3
            go_wp2_with fail
            go_quiet (fail)
            go_wp2
            go_roundw
            case rel => exact ⟨k + 1, by omega, by go_num, R, hid (below_drewN (HB.out.trans (g5.mono HB.out.size)) _)⟩
            case measure => simp [intOf]; omega
          | true =>
            have R := hid (ent_order E m k h0.out ho hr.symm n hlt)
            clear ho hB hz y0 p0 hb2 HH hr
            rw [hW] at HB LZ LP
            clear hW k0
            go_wp2_with fail
            refine (CI.out _).mono ?_
            rintro _ w5 ⟨rfl, g5⟩
            have z0 := LZ.out _ g5
            have z1 := LP.out _ g5
            have z2 := LP.out _ g5
            rw [← lp] at z2
            clear lp
            clear LZ LP x0 x1 x2 x3
            go_wp2_with fail
            go_quiet (fail)
            go_wp2
            go_ret
            exact ⟨ret_int R.out.symm, below_drewN (HB.out.trans (g5.mono HB.out.size)) _⟩
    · obtain rfl : k = n := by omega
      have hlt' : ¬ (k : Int) < k := by omega
      go_wp2
      go_ret
      exact ⟨ret_int h0.out.symm, G.out⟩

set_option maxHeartbeats 1000000 in
theorem ccheck_any (a : Option Addr) (n c : Nat) (a' : Option Addr) (m c' : Nat) (C : Ct) (w : World) (H : CatAt w a n c a' m C) :
    Calls Tryz.prog 123 #[.agg #[.slice a n c, .slice a' m c']] w fun e w' => e = .returned (.int .i64 (catChk C)) ∧ Below w.heap.size w w' := by
  unfold catChk
  rw [← H.B.sn, ← H.E.sn]
  by_cases h1 : 10 < n
  · have h1' : (10 : Int) < n := by omega
    rw [if_pos (.inl h1)]
    clear H h1
    go_enter Tryz.func123, Tryz.ntmps123
    go_wp2
    go_ret
    exact ⟨rfl, by go_grown⟩
  · have h1' : ¬ (10 : Int) < n := by omega
    by_cases h2 : 10 < m
    · have h2' : (10 : Int) < m := by omega
      rw [if_pos (.inr h2)]
      clear H h1 h2
      go_enter Tryz.func123, Tryz.ntmps123
      go_wp2
      go_ret
      exact ⟨rfl, by go_grown⟩
    · have h2' : ¬ (10 : Int) < m := by omega
      rw [if_neg (by omega)]
      obtain ⟨W, hW⟩ : ∃ W, W = w.alloc (.cells #[.slice a n c, .slice a' m c'] 139) := ⟨_, rfl⟩
      have hB : Below w.heap.size w W := by rw [hW]; exact (Below.refl _ w).alloc (Nat.le_refl _) _
      have bx : Box2 W w.heap.size (.slice a n c) (.slice a' m c') := by rw [hW]; exact box2_of (Own.made w 139 [.slice a n c, .slice a' m c'])
      have CB := checkblocks_any a n c C.1 W (H.below hB).B H.cap
      rw [hW] at CB
      have CE := hid (fun wx (g : Below W.heap.size W wx) => checkentries_any a' m c' C.2 n wx ((H.below hB).below g).E)
      have HP := hid (And.intro hB (And.intro bx hW))
      clear hB bx hW H h1 h2
      by_cases e : blkN C.1 n = 0
      · rw [if_pos e]
        rw [e] at CB
        clear e
        generalize entN C.2 n m = T at CE
        have CB' := hid CB
        clear CB
        go_enter Tryz.func123, Tryz.ntmps123
        go_wp2_with fail
        refine CB'.out.mono ?_
        rintro _ w1 ⟨rfl, g1⟩
        rw [← HP.out.2.2] at g1
        have d0 := (HP.out.2.1.below g1).c0
        have d1 := (HP.out.2.1.below g1).c1
        have G1 := hid g1
        clear g1 CB'
        go_wp2_with fail
        refine (CE.out _ G1.out).mono ?_
        rintro _ w2 ⟨rfl, g2⟩
        go_wp2
        go_ret
        exact ⟨rfl, HP.out.1.trans ((G1.out.trans (g2.mono G1.out.size)).mono HP.out.1.size)⟩
      · rw [if_neg e]
        generalize blkN C.1 n = T at e CB
        have e' : (T != 0) = true := by rw [bne_iff_ne]; exact e
        have CB' := hid CB
        clear CB e
        go_enter Tryz.func123, Tryz.ntmps123
        go_wp2_with fail
        refine CB'.out.mono ?_
        rintro _ w1 ⟨rfl, g1⟩
        rw [← HP.out.2.2] at g1
        go_wp2
        go_ret
        exact ⟨rfl, HP.out.1.trans (g1.mono HP.out.1.size)⟩
end Go.Proofs.YtahoagbaadnihabGreatDoor

/- What the document's own CatalogFault answers. -/
namespace Go.Proofs.YtahoagbaadnihabGreatDoor
open Go.RowKit Go.Lib

end Go.Proofs.YtahoagbaadnihabGreatDoor

/- The next sector that is free: the program's answer and the document's. -/
namespace Go.Proofs.YtahoagbaadnihabGreatDoor
open Go.RowKit Go.Lib

set_option maxHeartbeats 1000000 in
theorem cnext_any (a : Option Addr) (n c : Nat) (a' : Option Addr) (m c' : Nat) (C : Ct) (w : World) (H : CatAt w a n c a' m C) :
    Calls Tryz.prog 117 #[.agg #[.slice a n c, .slice a' m c']] w fun e w' => e = .returned (.tuple #[.int .i64 (catNext C).1, .int .i64 (catNext C).2]) ∧ Below w.heap.size w w' := by
  obtain ⟨W, hW⟩ : ∃ W, W = w.alloc (.cells #[.slice a n c, .slice a' m c'] 139) := ⟨_, rfl⟩
  have hB : Below w.heap.size w W := by rw [hW]; exact (Below.refl _ w).alloc (Nat.le_refl _) _
  have bd : Box2 W w.heap.size (.slice a n c) (.slice a' m c') := by rw [hW]; exact box2_of (Own.made w 139 [.slice a n c, .slice a' m c'])
  have h1 := ccheck_any a n c a' m c' C W (H.below hB)
  rw [hW] at h1
  unfold catNext
  by_cases e : catChk C = 0
  · rw [if_pos e]
    rw [e] at h1
    obtain ⟨k1, k2, k3, k4⟩ := chk_ok C e
    have CB : Hid (∀ wx, Below W.heap.size W wx → Calls Tryz.prog 159 #[.slice a n c] wx fun e w' => e = .returned (.int .i64 (atB C.1 C.1.length)) ∧ Below wx.heap.size wx w') := by
      intro wx g
      have := behind_any a n c C.1 wx (((H.below hB).below g).B) (fun j hj => by
        have hl : C.1.length = j + 1 := by rw [← H.B.sn, hj]
        rw [hl] at k3
        obtain ⟨h1, h2, h3⟩ := blk_last C.1 j k3
        rw [atB_succ] at h3
        rw [h1]
        omega)
      rw [show behB C.1 = atB C.1 C.1.length by
        have := beh_take C.1 C.1.length (Nat.le_refl _) (blk_ok C.1 _ k3)
        rw [List.take_length] at this
        exact this] at this
      exact this
    generalize atB C.1 C.1.length = T at CB
    have HP := hid (And.intro hB (And.intro bd hW))
    have H1 := hid h1
    clear hB bd H h1 hW e k1 k2 k3 k4
    go_enter Tryz.func117, Tryz.ntmps117
    go_wp2_with fail
    refine H1.out.mono ?_
    rintro e w1 ⟨rfl, g1⟩
    rw [← HP.out.2.2] at g1
    have d0 := (HP.out.2.1.below g1).c0
    have d1 := (HP.out.2.1.below g1).c1
    have G1 := hid g1
    clear g1 H1
    go_wp2_with fail
    refine (CB.out _ G1.out).mono ?_
    rintro e w2 ⟨rfl, g2⟩
    go_wp2
    go_ret2
    exact ⟨rfl, HP.out.1.trans ((G1.out.trans (g2.mono G1.out.size)).mono HP.out.1.size)⟩
  · rw [if_neg e]
    generalize catChk C = T at h1 e
    have e' : (T != 0) = true := by rw [bne_iff_ne]; exact e
    have HP := hid (And.intro hB (And.intro bd hW))
    have H1 := hid h1
    clear hB bd H h1 hW e
    go_enter Tryz.func117, Tryz.ntmps117
    go_wp2_with fail
    refine H1.out.mono ?_
    rintro e w1 ⟨rfl, g1⟩
    rw [← HP.out.2.2] at g1
    go_wp2
    go_ret2
    exact ⟨rfl, HP.out.1.trans (g1.mono HP.out.1.size)⟩

end Go.Proofs.YtahoagbaadnihabGreatDoor
