/- What the program's checkBlocks answers. -/
import Derived.Test.YtelgpiedchnncabDoorCatBeh
import Derived.Deep.RegionWith
import Derived.Deep.DeepCutAuto
import Derived.Deep.RegionHeld3
namespace Go.Proofs.YtelgpiedchnncabDoor
open Go.RowKit Go.Lib

/-- The sector behind the first blocks of a list. -/
theorem behind_k (b o n c : Nat) (L : List Bk) (w0 : World) (H : BlkAt w0 (some ⟨b, o, none⟩) n L) (k : Nat) (hk : k ≤ n) (h0 : blkN L k = 0) (w : World) (g : Below w0.heap.size w0 w) :
    Calls Tryd.prog 31 #[.slice (some ⟨b, o, none⟩) k c] w fun e w' => e = .returned (.int .i64 (atB L k)) ∧ Below w.heap.size w w' := by
  have hL := H.sn
  have := behind_any (some ⟨b, o, none⟩) k c (L.take k) w ((H.take k hk).below g) (fun j hj => by
    subst hj
    have e : bk (L.take (j + 1)) j = bk L j := by simp [bk]
    rw [e]
    obtain ⟨h1, h2, h3⟩ := blk_last L j h0
    rw [atB_succ] at h3
    rw [h1]
    omega)
  rw [beh_take L k (by omega) (blk_ok L k h0)] at this
  exact this

theorem behind_k1 (b o n c : Nat) (L : List Bk) (w0 : World) (H : BlkAt w0 (some ⟨b, o, none⟩) n L) (k : Nat) (hk : k < n) (h0 : blkN L k = 0) (h1 : (bk L k).f = atB L k) (h2 : 0 ≤ (bk L k).n ∧ (bk L k).n ≤ 1200) (w : World) (g : Below w0.heap.size w0 w) :
    Calls Tryd.prog 31 #[.slice (some ⟨b, o, none⟩) (k + 1) c] w fun e w' => e = .returned (.int .i64 (atB L (k + 1))) ∧ Below w.heap.size w w' := by
  have hL := H.sn
  have e : bk (L.take (k + 1)) k = bk L k := by simp [bk]
  have ha := blk_at L k h0
  have := behind_any (some ⟨b, o, none⟩) (k + 1) c (L.take (k + 1)) w ((H.take (k + 1) (by omega)).below g) (fun j hj => by
    obtain rfl : j = k := by omega
    rw [e, h1]
    omega)
  rw [beh_last (L.take (k + 1)) k (by simp; omega), e, h1] at this
  rw [atB_succ]
  rw [show ((atB L k + secs (bk L k).n.toNat : Nat) : Int) = (atB L k : Int) + (secs (bk L k).n.toNat : Int) by omega]
  exact this
theorem bkOk_no (L : List Bk) (k : Nat) (h : ¬ ((bk L k).f = atB L k ∧ (0 ≤ (bk L k).n ∧ (bk L k).n ≤ 1200) ∧ atB L (k + 1) ≤ 64)) : bkOk L k = false := by
  rw [bkOk, decide_eq_false h]

set_option maxHeartbeats 1600000 in
set_option maxRecDepth 4000 in
theorem checkblocks_any (a : Option Addr) (n c : Nat) (L : List Bk) (w : World) (H : BlkAt w a n L) (hc : n ≤ c) :
    Calls Tryd.prog 32 #[.slice a n c] w fun e w' => e = .returned (.int .i64 (blkN L n)) ∧ Below w.heap.size w w' := by
  have hnb := H.nb
  unfold maxLen at hnb
  have HH := hid H
  clear H
  go_enter Tryd.func32, Tryd.ntmps32
  go_wp2_with fail
  go_loopw [7] (fun i wr => ∃ k : Nat, k ≤ n ∧ i = .int .i64 k ∧ Hid (blkN L k = 0) ∧ Hid (Below w.heap.size w wr)) (fun i _ => n - (intOf i).toNat)
  case atStart => exact ⟨0, Nat.zero_le _, rfl, rfl, Below.refl _ _⟩
  case round =>
    obtain ⟨k, hk, rfl, h0, G⟩ := hrel
    by_cases hlt : k < n
    · have hlt' : (k : Int) < n := by omega
      have hkc : (k : Int) ≤ c := by omega
      obtain ⟨b, o, rfl, hb, x0, x1⟩ := (HH.out.below G.out).c k hlt
      have CB := hid (fun wx (g : Below w.heap.size w wx) => behind_k b o n c L w HH.out k hk h0.out wx g)
      obtain ⟨W, hW⟩ : ∃ W, W = wr.alloc (.cells #[.int .i64 (bk L k).f, .int .i64 (bk L k).n] 41) := ⟨_, rfl⟩
      have hB : Below w.heap.size w W := by rw [hW]; exact G.out.alloc G.out.size _
      have hz : W.heap.size = wr.heap.size + 1 := by rw [hW]; simp
      have y0 : W.cell? ⟨wr.heap.size, 0, none⟩ = some (.int .i64 (bk L k).f) := by rw [hW]; simp
      have y1 : W.cell? ⟨wr.heap.size, 1, none⟩ = some (.int .i64 (bk L k).n) := by rw [hW]; simp
      have HB := hid hB
      have HZ := hid hz
      have NO := hid (fun h => blk_fail L k h0.out (bkOk_no L k h) n hlt)
      by_cases f1 : (bk L k).f = atB L k
      · have q1 : ((bk L k).f != (atB L k : Int)) = false := by rw [bne_eq_false_iff_eq]; exact f1
        have YES := hid (fun h => show blkN L (k + 1) = 0 by rw [blk_succ L k h0.out, (bkOk_iff L k).2 h]; rfl)
        by_cases n0 : (bk L k).n < 0
        · have m0 : decide ((bk L k).n < 0) = true := decide_eq_true n0
          have R := hid (NO.out (fun h => by omega))
          clear NO YES n0 f1 hB hz HH
          generalize (bk L k).f = f at x0 y0 q1 hW
          generalize (bk L k).n = m at x1 y1 hW m0
          generalize atB L k = t at CB q1
          have LZ := hid (fun w5 (g5 : Below W.drew.heap.size W.drew w5) => And.intro ((g5.cell (p := ⟨wr.heap.size, 0, none⟩) (by show wr.heap.size < W.heap.size; rw [HZ.out]; omega)).trans y0) ((g5.cell (p := ⟨wr.heap.size, 1, none⟩) (by show wr.heap.size < W.heap.size; rw [HZ.out]; omega)).trans y1))
          go_upto_region 4 with fail
          rw [← hW]
          clear hW x0 x1
          first | go_region_with (go_at_call 31; refine (CB.out _ (HB.out.drew)).mono ?_; rintro _ w5 ⟨rfl, g5⟩; obtain ⟨z0, z1⟩ := LZ.out _ g5) | fail
          all_goals go_wp2
          all_goals go_ret
          all_goals exact ⟨ret_int R.out.symm, HB.out.trans ((undrew g5).mono HB.out.size)⟩
        · have m0 : decide ((bk L k).n < 0) = false := decide_eq_false n0
          by_cases n1 : 1200 < (bk L k).n
          · have m1 : decide (1200 < (bk L k).n) = true := decide_eq_true n1
            have R := hid (NO.out (fun h => by omega))
            clear NO YES n0 n1 f1 hB hz HH
            generalize (bk L k).f = f at x0 y0 q1 hW
            generalize (bk L k).n = m at x1 y1 hW m0 m1
            generalize atB L k = t at CB q1
            have LZ := hid (fun w5 (g5 : Below W.drew.heap.size W.drew w5) => And.intro ((g5.cell (p := ⟨wr.heap.size, 0, none⟩) (by show wr.heap.size < W.heap.size; rw [HZ.out]; omega)).trans y0) ((g5.cell (p := ⟨wr.heap.size, 1, none⟩) (by show wr.heap.size < W.heap.size; rw [HZ.out]; omega)).trans y1))
            go_upto_region 4 with fail
            rw [← hW]
            clear hW x0 x1
            first | go_region_with (go_at_call 31; refine (CB.out _ (HB.out.drew)).mono ?_; rintro _ w5 ⟨rfl, g5⟩; obtain ⟨z0, z1⟩ := LZ.out _ g5) | fail
            all_goals go_wp2
            all_goals go_ret
            all_goals exact ⟨ret_int R.out.symm, HB.out.trans ((undrew g5).mono HB.out.size)⟩
          · have m1 : decide (1200 < (bk L k).n) = false := decide_eq_false n1
            have CB2 := hid (fun wx (g : Below w.heap.size w wx) => behind_k1 b o n c L w HH.out k hlt h0.out f1 (by omega) wx g)
            have hkc2 : (k : Int) + 1 ≤ c := by omega
            have hk0 : (0 : Int) ≤ (k : Int) + 1 := by omega
            have hk1 : IntKind.i64.wrap ((k : Int) + 1) = (k : Int) + 1 := IntWalk.i64_in _ (by omega)
            by_cases n2 : 64 < atB L (k + 1)
            · have q2 : decide ((64 : Int) < (atB L (k + 1) : Int)) = true := decide_eq_true (by omega)
              have R := hid (NO.out (fun h => by omega))
              clear n0 n1 n2
              clear NO YES f1 hB hz HH
              generalize (bk L k).f = f at x0 y0 q1 hW
              generalize (bk L k).n = m at x1 y1 hW m0 m1
              generalize atB L k = t at CB q1
              generalize atB L (k + 1) = t2 at CB2 q2
              have LZ := hid (fun w5 (g5 : Below W.heap.size W w5) => And.intro ((g5.cell (p := ⟨wr.heap.size, 0, none⟩) (by show wr.heap.size < W.heap.size; rw [HZ.out]; omega)).trans y0) ((g5.cell (p := ⟨wr.heap.size, 1, none⟩) (by show wr.heap.size < W.heap.size; rw [HZ.out]; omega)).trans y1))
              go_upto_region 4 with fail
              rw [← hW]
              clear hW x0 x1
              go_region_held3 (fun w' => w'.cell? ⟨wr.heap.size, 0, none⟩ = some (.int .i64 f) ∧ w'.cell? ⟨wr.heap.size, 1, none⟩ = some (.int .i64 m)) (go_keep) (first | (go_at_call_of 31 (Value.slice (some ⟨b, o, none⟩) k c); refine (CB.out _ (HB.out.drew)).mono ?_; rintro _ w5 ⟨rfl, g5⟩; (have G5 := hid (undrew g5)); (obtain ⟨z0, z1⟩ := LZ.out _ (undrew g5)); clear g5) | (go_at_call 31; refine (CB2.out _ (HB.out.trans (G5.out.mono HB.out.size))).mono ?_; rintro _ w6 ⟨rfl, g6⟩; (have G6 := hid (G5.out.trans (g6.mono G5.out.size))); (obtain ⟨z0, z1⟩ := LZ.out _ G6.out); clear g6))
              all_goals go_wp2
              all_goals go_ret
              all_goals exact ⟨ret_int R.out.symm, HB.out.trans (G6.out.mono HB.out.size)⟩
            · have q2 : decide ((64 : Int) < (atB L (k + 1) : Int)) = false := decide_eq_false (by omega)
              have R := hid (YES.out ⟨f1, by omega, by omega⟩)
              clear n0 n1 n2
              clear NO YES f1 hB hz HH
              generalize (bk L k).f = f at x0 y0 q1 hW
              generalize (bk L k).n = m at x1 y1 hW m0 m1
              generalize atB L k = t at CB q1
              generalize atB L (k + 1) = t2 at CB2 q2
              have LZ := hid (fun w5 (g5 : Below W.heap.size W w5) => And.intro ((g5.cell (p := ⟨wr.heap.size, 0, none⟩) (by show wr.heap.size < W.heap.size; rw [HZ.out]; omega)).trans y0) ((g5.cell (p := ⟨wr.heap.size, 1, none⟩) (by show wr.heap.size < W.heap.size; rw [HZ.out]; omega)).trans y1))
              go_upto_region 4 with fail
              rw [← hW]
              clear hW x0 x1
              go_region_held3 (fun w' => w'.cell? ⟨wr.heap.size, 0, none⟩ = some (.int .i64 f) ∧ w'.cell? ⟨wr.heap.size, 1, none⟩ = some (.int .i64 m)) (go_keep) (first | (go_at_call_of 31 (Value.slice (some ⟨b, o, none⟩) k c); refine (CB.out _ (HB.out.drew)).mono ?_; rintro _ w5 ⟨rfl, g5⟩; (have G5 := hid (undrew g5)); (obtain ⟨z0, z1⟩ := LZ.out _ (undrew g5)); clear g5) | (go_at_call 31; refine (CB2.out _ (HB.out.trans (G5.out.mono HB.out.size))).mono ?_; rintro _ w6 ⟨rfl, g6⟩; (have G6 := hid (G5.out.trans (g6.mono G5.out.size))); (obtain ⟨z0, z1⟩ := LZ.out _ G6.out); clear g6))
              all_goals go_wp2
              all_goals go_roundw
              all_goals (first | (case rel => exact ⟨k + 1, by omega, by go_num, R, hid (HB.out.trans (G6.out.mono HB.out.size))⟩) | skip)
              all_goals (simp [intOf]; omega)
      · have q1 : ((bk L k).f != (atB L k : Int)) = true := by rw [bne_iff_ne]; exact f1
        have R := hid (NO.out (fun h => f1 h.1))
        clear NO f1 hB hz HH
        generalize (bk L k).f = f at x0 y0 q1 hW
        generalize (bk L k).n = m at x1 y1 hW
        generalize atB L k = t at CB q1
        have LZ := hid (fun w5 (g5 : Below W.drew.heap.size W.drew w5) => And.intro ((g5.cell (p := ⟨wr.heap.size, 0, none⟩) (by show wr.heap.size < W.heap.size; rw [HZ.out]; omega)).trans y0) ((g5.cell (p := ⟨wr.heap.size, 1, none⟩) (by show wr.heap.size < W.heap.size; rw [HZ.out]; omega)).trans y1))
        go_upto_region 4 with fail
        rw [← hW]
        clear hW x0 x1
        first | go_region_with (go_at_call 31; refine (CB.out _ (HB.out.drew)).mono ?_; rintro _ w5 ⟨rfl, g5⟩; obtain ⟨z0, z1⟩ := LZ.out _ g5) | fail
        all_goals go_wp2
        all_goals go_ret
        all_goals exact ⟨ret_int R.out.symm, HB.out.trans ((undrew g5).mono HB.out.size)⟩
    · obtain rfl : k = n := by omega
      have hlt' : ¬ (k : Int) < k := by omega
      go_wp2
      go_ret
      exact ⟨ret_int h0.out.symm, G.out⟩
end Go.Proofs.YtelgpiedchnncabDoor
