/- For all lists of raw things and of hurts: files that are added while a device is hurt are there, and those ahead of them, too. What was handed in is left as it was; the table of powers of ten is listed and tied (Itoa looks into it), the other tables are listed, and no step looks into them. -/
import Derived.Test.YtahoagbaadnihabGreatDoorRows
import Derived.Test.YtahoagbaadnihabGreatDoorTie
import Derived.Test.YtahoagbaadnihabGreatDoorCards
import Derived.Test.YtahoagbaadnihabGreatDoorKeepBase
import Derived.Test.YtahoagbaadnihabGreatDoorTopM
import Derived.WalkKit
import Derived.ProofKit
import Derived.OpenShut
import Derived.ShutString
import Derived.LaidOnce
import Derived.SevenTiedAt
import Derived.Lay
import Derived.Stop.Joined
namespace Go.Proofs.YtahoagbaadnihabGreatDoor.topAfter
open Go.ChangeShapes Go.WideShapes Go.ChangeAt Go.RowKit Go.Lib
open Go.ChangeMaps (open_string shut_string)

theorem own : ownKnob Tryz.prog.godebug = none := by kernel_rfl
theorem laidOut : laidOutB Tryz.prog = true := by kernel_rfl
theorem pow_of {W : World} (h : laidMetH Tryz.prog Rows.topAfterRow.laid W) : Pow W := by
  rw [MakeChecks.laidMetH_plain _ _ _ (by kernel_rfl)] at h
  exact pow_laid h
set_option maxHeartbeats 3200000 in
set_option maxRecDepth 8000 in
theorem walk (w : World) (hp : Pow w) (a : Option Addr) (n c : Nat) (R : List Raw4) (b : Option Addr) (m d : Nat) (S : List Raw4) (x : Int) (h : RawsAt w a n R ∧ n ≤ c) (h2 : RawsAt w b m S ∧ m ≤ d) (w1 : (Lit.int .i64 x).wf = true) :
    Calls Tryz.prog 4 #[.slice a n c, .slice b m d, .int .i64 x] w fun e w' => e = .returned (.bool true) ∧ Below w.heap.size w w' := by
  have hx := wf_i64 w1
  obtain ⟨K, hK, hK3⟩ := nat_pick x
  have C1 := hid (adds_any a n c R 8 w h.1 h.2 hp (by omega) (by omega) (by omega))
  have HH := hid (And.intro h2.1 hK3)
  have CP : Hid (∀ wx, Calls Tryz.prog 10 #[.int .i64 x, .int .i64 3] wx fun e w' => e = .returned (.int .i64 K) ∧ w' = wx) := fun wx => by
    have := Picked_any x 3 wx hx (by omega)
    rw [hK] at this
    exact this
  clear h h2 hp hx hK hK3 w1
  go_enter Tryz.func4, Tryz.ntmps4
  go_wp2_with fail
  refine C1.out.mono ?_
  rintro _ v1 ⟨ga, gm, gc, fb, fk, fd, Gs, A, rfl, ⟨hA1, hA2⟩, ⟨hF1, hF2⟩, ⟨hch, htot, _⟩, g1⟩
  have hcl := chain_len Gs 0 hch
  have hAl : A.length = Gs.length := by rw [← acs_len, hA2, List.length_map]
  have hAt := hA1.at (by unfold maxLen; omega)
  have hfk : fk = tot Gs := by rw [hF2.sn, tot_flat]
  have CH := hid (hurts_out b m d S K 48 40 v1 (HH.out.1.below g1) HH.out.2 (by omega) (by omega) (by omega))
  have hhl : (hurtsOf S K 48 40).length ≤ 40 := hurts_le S K 48 40
  have ONE := hid (after_told Gs hch htot K HH.out.2 S 40)
  have S1 := hid (And.intro g1 (And.intro hAt (And.intro hA2 (And.intro hF2 (And.intro hF1 (And.intro hch (And.intro htot (And.intro hcl (And.intro hhl (And.intro hAl hfk))))))))))
  clear C1 hA1 hA2 hF1 hF2 hch htot g1 hcl hAl hAt hfk hhl
  generalize hurtsOf S K 48 40 = hu at CH S1 ONE
  go_wp2_with fail
  refine (CP.out _).mono ?_
  rintro _ w9 ⟨rfl, h9⟩
  have h8 := h9.symm
  subst h8
  clear h9 CP
  go_wp2_with fail
  refine CH.out.mono ?_
  rintro _ v2 ⟨ha, hn, hc, H, rfl, hH1, hH2, g2⟩
  have hHl : H.length = hu.length := by rw [← acs_len, hH2, List.length_map]
  have hHt := hH1.at (by unfold maxLen; have := S1.out.2.2.2.2.2.2.2.2.1; omega)
  have hhn : hn = hu.length := hHt.2.sn.trans hHl
  have hgm : gm = Gs.length := S1.out.2.1.2.sn.trans S1.out.2.2.2.2.2.2.2.2.2.1
  have HF := hid (show (ha = none ∧ hn = 0 ∧ hc = 0) ∨ ∃ g, ha = some ⟨g, 0, none⟩ ∧ hn ≤ hc from by
    rcases hH1.own.2 with ⟨e, _⟩ | ⟨g, cap, cur, e, _, _, hnc, _⟩
    · cases e; exact .inl ⟨rfl, rfl, rfl⟩
    · cases e; exact .inr ⟨g, rfl, hnc⟩)
  have hgm8 : gm ≤ 8 := by have h1 := S1.out.2.2.2.2.2.2.2.1; have h2 := S1.out.2.2.2.2.2.2.1; omega
  have hhn40 : hn ≤ 40 := by rw [hhn]; exact S1.out.2.2.2.2.2.2.2.2.1
  have HA := hid (And.intro (S1.out.2.1.2.below g2) (And.intro hHt.2 (And.intro hH2 (And.intro hhn hgm))))
  have CG := hid (fun wx (g : Below v2.heap.size v2 wx) => gets_any fb fk fd Gs.flatten wx ((S1.out.2.2.2.1.below g2).below g) (by have := S1.out.2.2.2.2.2.2.2.2.2.2; have := S1.out.2.2.2.2.2.2.1; omega))
  have S2 := hid g2
  have J0 : Hid (∃ L T, AftI v2 L T (.slice none 0 0) (.slice none 0 0) v2 ∧ acs L = mixA (mixP hu Gs 0) ∧ T = (List.range 0).map (fun i => ((posP hu Gs i : Nat) : Int))) := ⟨[], [], ⟨World.ownsRow_nil _ _ _ _, World.ownsRow_nil _ _ _ _, fun _ h => (by cases h), Below.refl _ _⟩, rfl, rfl⟩
  clear CH hH1 hH2 hHl hHt hhn hgm g2
  go_wp2_with fail
  go_loopw [11, 12, 35] (fun v vt i wr => ∃ (ya : Option Addr) (yn yc : Nat) (ta : Option Addr) (tn tc i' : Nat), v = .slice ya yn yc ∧ vt = .slice ta tn tc ∧ i = .int .i64 i' ∧ i' ≤ gm ∧ Hid (∃ L T, AftI v2 L T (.slice ya yn yc) (.slice ta tn tc) wr ∧ acs L = mixA (mixP hu Gs i') ∧ T = (List.range i').map (fun i => ((posP hu Gs i : Nat) : Int)))) (fun _ _ i _ => gm - (intOf i).toNat)
  case atStart => exact ⟨none, 0, 0, none, 0, 0, 0, rfl, rfl, rfl, Nat.zero_le _, J0.out⟩
  case round =>
    obtain ⟨ya, yn, yc, ta, tn, tc, i', rfl, rfl, rfl, him, HI⟩ := hrel
    clear J0
    by_cases hlt : i' < gm
    · have hlt' : (i' : Int) < gm := by omega
      obtain ⟨L, T, HL, hL1, hT1⟩ := HI.out
      obtain ⟨q, b1, o1, hq, rfl, hb1, hok, x0, x1, x2, x3, x4, x5, x6⟩ := (HA.out.1.below HL.below).one i' hlt
      have hok2 := HA.out.1.ok q (List.mem_of_getElem? hq)
      have hqx : q.x = addAc (grp Gs i') := by
        have e : (acs A)[i']? = some q.x := by rw [acs, List.getElem?_map, hq]; rfl
        rw [S1.out.2.2.1, List.getElem?_map] at e
        unfold grp
        cases g : Gs[i']? with
        | none => rw [g] at e; cases e
        | some G => rw [g] at e; exact (Option.some.inj e).symm
      have hM : gm = Gs.length := HA.out.2.2.2.2
      have hhn : hn = hu.length := HA.out.2.2.2.1
      obtain ⟨c1, hc1⟩ : ∃ c1, c1 = cutH hu Gs.length i' := ⟨_, rfl⟩
      obtain ⟨c2, hc2⟩ : ∃ c2, c2 = cutH hu Gs.length (i' + 1) := ⟨_, rfl⟩
      have hc12 : c1 ≤ c2 := by rw [hc1, hc2]; exact cut_mono _ _ _
      have hc2n : c2 ≤ hn := by rw [hc2, hhn]; exact cut_le hu Gs.length (i' + 1) (by rw [← hM]; exact hlt)
      have hg0 : ¬ (gm : Int) = 0 := by omega
      have hi10 : i' ≤ 10 := by omega
      have hc12i : (c1 : Int) ≤ c2 := by omega
      have hc2b : c2 ≤ 40 := by omega
      have hc1b : c1 ≤ 40 := by omega
      have hc1k : c1 ≤ 1000 := by omega
      have hc2k : c2 ≤ 1000 := by omega
      have hLl : L.length = cutH hu Gs.length i' + i' := by rw [← acs_len, hL1, mixA_len hu Gs i' (by rw [← hM]; exact Nat.le_of_lt hlt)]
      have hTl : T.length = i' := by rw [hT1, List.length_map, List.length_range]
      have hsl : (segH hu Gs.length i').length = c2 - c1 := by rw [seg_len hu Gs.length i' (by rw [← hM]; exact hlt), ← hc1, ← hc2]
      obtain ⟨V, hV⟩ : ∃ V, V = wr.alloc (.cells #[.int .i64 q.x.kind, .slice q.f.a q.f.n q.f.c, .string q.x.name, .int .i64 q.x.d, .int .i64 q.x.n, .int .i64 q.x.at_, .int .i64 q.x.by_] 29) := ⟨_, rfl⟩
      have gV : Below wr.heap.size wr V := by rw [hV]; exact (Below.refl _ wr).alloc (Nat.le_refl _) _
      have Q0 : Own V wr.heap.size 29 (axC q) := by
        have := Own.made wr 29 (axC q)
        rw [show wr.alloc (.cells (axC q).toArray 29) = V from hV.symm] at this
        exact this
      have z0 : V.cell? ⟨wr.heap.size, 0, none⟩ = some (.int .i64 q.x.kind) := Q0.cell (i := 0) rfl
      have z1 : V.cell? ⟨wr.heap.size, 1, none⟩ = some (.slice q.f.a q.f.n q.f.c) := Q0.cell (i := 1) rfl
      have z2 : V.cell? ⟨wr.heap.size, 2, none⟩ = some (.string q.x.name) := Q0.cell (i := 2) rfl
      have z3 : V.cell? ⟨wr.heap.size, 3, none⟩ = some (.int .i64 q.x.d) := Q0.cell (i := 3) rfl
      have z4 : V.cell? ⟨wr.heap.size, 4, none⟩ = some (.int .i64 q.x.n) := Q0.cell (i := 4) rfl
      have z5 : V.cell? ⟨wr.heap.size, 5, none⟩ = some (.int .i64 q.x.at_) := Q0.cell (i := 5) rfl
      have z6 : V.cell? ⟨wr.heap.size, 6, none⟩ = some (.int .i64 q.x.by_) := Q0.cell (i := 6) rfl
      have hbig : v2.heap.size ≤ wr.heap.size := HL.below.size
      have HV := hid (HL.to gV)
      have HLB := hid (show L.length ≤ 60 by rw [hLl, ← hc1]; omega)
      have FA := hid (And.intro hok2 hqx)
      have SEG := hid (And.intro hLl (And.intro hTl (And.intro hsl (And.intro hL1 (And.intro hT1 (And.intro hc1 (And.intro hc2 (And.intro hM hhn))))))))
      have d1 : i' * hn / gm = c1 := by rw [hc1, hhn, hM]; rfl
      have d2 : (i' + 1) * hn / gm = c2 := by rw [hc2, hhn, hM]; rfl
      obtain ⟨p1, hp1⟩ : ∃ p, p = i' * hn := ⟨_, rfl⟩
      obtain ⟨i2, hi2⟩ : ∃ i2, i2 = i' + 1 := ⟨_, rfl⟩
      obtain ⟨p2, hp2⟩ : ∃ p, p = i2 * hn := ⟨_, rfl⟩
      have e1 : (i' : Int) * (hn : Int) = (p1 : Int) := by rw [hp1]; rfl
      have e2 : Int.tdiv (p1 : Int) (gm : Int) = (c1 : Int) := by rw [← d1, ← hp1]; rfl
      have e3 : (i' : Int) + 1 = (i2 : Int) := by rw [hi2]; rfl
      have e4 : (i2 : Int) * (hn : Int) = (p2 : Int) := by rw [hp2]; rfl
      have e5 : Int.tdiv (p2 : Int) (gm : Int) = (c2 : Int) := by rw [← d2, ← hi2, ← hp2]; rfl
      have hi2b : i2 ≤ 11 := by rw [hi2]; exact Nat.succ_le_succ hi10
      have hp1b : p1 ≤ 400 := by rw [hp1]; exact Nat.le_trans (Nat.mul_le_mul hi10 hhn40) (by decide)
      have hp2b : p2 ≤ 440 := by rw [hp2]; exact Nat.le_trans (Nat.mul_le_mul hi2b hhn40) (by decide)
      have HW := hid (And.intro (wrap_sm hc1k) (wrap_sm hc2k))
      clear hc1k hc2k
      have HC := hid (And.intro hc12 (And.intro hc2n hi2))
      have NE := hid (And.intro (show (Value.slice ya yn yc).ownBlock ≠ some wr.heap.size from fun e => Nat.lt_irrefl _ (World.ownsRow.lt HL.acts _ e).2) (And.intro (show (Value.slice ta tn tc).ownBlock ≠ some wr.heap.size from fun e => Nat.lt_irrefl _ (World.ownsRow.lt HL.ints _ e).2) Q0))
      clear hq hb1 hok hok2 hqx hM hhn hc1 hc2 hLl hTl hsl gV Q0 HL hL1 hT1 d1 d2 hp1 hp2 hi2 hc12 HI
      go_upto_region 9 with fail
      rw [← hV]
      clear hV x0 x1 x2 x3 x4 x5 x6
      go_upto_region 10 with fail
      try rw [HW.out.1]
      go_upto_region 11 with fail
      try rw [HW.out.2]
      clear e1 e2 e3 e4 e5 HW
      rcases HF.out with ⟨rfl, rfl, rfl⟩ | ⟨g, rfl, hnc⟩
      · have HC' := HC.out
        obtain rfl : c1 = 0 := by omega
        obtain rfl : c2 = 0 := by omega
        have hse : segH hu Gs.length i' = [] := List.eq_nil_of_length_eq_zero SEG.out.2.2.1
        have HSEG := hid (show ([] : List Ax).length = 0 ∧ ((0 : Nat) = 0 ∨ ∃ ad, (none : Option Addr) = some ad ∧ ∀ j u, (axV ([] : List Ax))[j]? = some u → V.cell? (ad.add j) = some u) ∧ (∀ q ∈ ([] : List Ax), AxOk v2 q) ∧ acs ([] : List Ax) = (segH hu Gs.length i').map hurtAc ∧ 0 = (segH hu Gs.length i').length from ⟨rfl, .inl rfl, (fun _ h => (by cases h)), by rw [hse]; rfl, by rw [hse]; rfl⟩)
        clear HC' hse
        go_upto_region 12 with (at_builtin; (refine wpList_appendO _ rfl (.tmp 55) (.tmp 59) 23 29 (.agg #[.int .i64 0, .slice none 0 0, .string ⟨#[]⟩, .int .i64 0, .int .i64 0, .int .i64 0, .int .i64 0]) 7 80 rfl Tryz.underlying23 info_acts rfl (by decide) v2.heap.size (.slice ya yn yc) L.length (axV L) rfl HV.out.acts (axV ([])) (0) (by rw [axV_len, HSEG.out.1]) _ _ rfl HSEG.out.2.1 (oneCell_ax _) (by have := HLB.out; omega) (by decide) HV.out.below.size ?_; intro a3 c3 w3 ho3 hg3; (have Q3 := NE.out.2.2.grown hg3 NE.out.1); (have K3 := hid (And.intro (HV.out.app HSEG.out.2.2.1 (by rw [HSEG.out.1]; exact ho3) hg3) Q3)); clear ho3 hg3 Q3))
        obtain ⟨m3, hm3⟩ : ∃ m3, m3 = L.length + (0) := ⟨_, rfl⟩
        have hm3b : m3 ≤ 100 := by have := HLB.out; omega
        try simp only [Nat.add_zero] at K3 hm3
        rw [← hm3] at K3 ⊢
        obtain ⟨u3, hu3⟩ : ∃ u3, u3 = w3.alloc (.cells #[.int .i64 m3] 3) := ⟨_, rfl⟩
        have gu3 : Below w3.heap.size w3 u3 := by rw [hu3]; exact (Below.refl _ w3).alloc (Nat.le_refl _) _
        have src3 : ∀ j u, (intsV [(m3 : Int)])[j]? = some u → u3.cell? ((⟨w3.heap.size, 0, none⟩ : Addr).add j) = some u := fun j u hj => by
          rw [hu3]
          match j, hj with
          | 0, hj => simp [intsV] at hj; subst hj; exact (Own.made w3 3 [.int .i64 m3]).cell (i := 0) rfl
          | j + 1, hj => simp [intsV] at hj
        have K3u := hid (And.intro (K3.out.1.to gu3) (And.intro (K3.out.2.below' gu3) src3))
        have HTL := hid (show T.length ≤ 100 by have h1 := SEG.out.2.1; omega)
        have HM3 := hid hm3
        clear K3 gu3 src3 hm3
        go_upto_region 13 with (at_builtin; (refine wpList_appendO _ rfl (.tmp 61) (.tmp 64) 40 3 (.int .i64 0) 1 8 rfl Tryz.underlying40 info_int rfl (by decide) v2.heap.size (.slice ta tn tc) T.length (intsV T) rfl (by rw [← hu3]; exact K3u.out.1.ints) (intsV [(m3 : Int)]) 1 rfl (some ⟨w3.heap.size, 0, none⟩) 1 rfl (.inr ⟨_, rfl, by rw [← hu3]; exact K3u.out.2.2⟩) (oneCell_ints _) (by have := HTL.out; omega) (by decide) (by rw [← hu3]; exact K3u.out.1.below.size) ?_; intro a4 c4 w4 ho4 hg4; rw [← hu3] at hg4; (have Q4 := K3u.out.2.1.grown hg4 NE.out.2.1); (have K4 := hid (And.intro (K3u.out.1.put (m3 : Int) ho4 hg4) Q4)); clear ho4 hg4 Q4))
        clear hu3 K3u
        obtain ⟨m4, hm4⟩ : ∃ m4, m4 = T.length + 1 := ⟨_, rfl⟩
        rw [← hm4] at K4 ⊢
        obtain ⟨u4, hu4⟩ : ∃ u4, u4 = w4.alloc (.cells #[.int .i64 q.x.kind, .slice q.f.a q.f.n q.f.c, .string q.x.name, .int .i64 q.x.d, .int .i64 q.x.n, .int .i64 q.x.at_, .int .i64 q.x.by_] 29) := ⟨_, rfl⟩
        have gu4 : Below w4.heap.size w4 u4 := by rw [hu4]; exact (Below.refl _ w4).alloc (Nat.le_refl _) _
        have src4 : ∀ j u, (axV [q])[j]? = some u → u4.cell? ((⟨w4.heap.size, 0, none⟩ : Addr).add j) = some u := by rw [hu4]; exact act_made w4 q
        have y0 : w4.cell? ⟨wr.heap.size, 0, none⟩ = some (.int .i64 q.x.kind) := K4.out.2.cell (i := 0) rfl
        have y1 : w4.cell? ⟨wr.heap.size, 1, none⟩ = some (.slice q.f.a q.f.n q.f.c) := K4.out.2.cell (i := 1) rfl
        have y2 : w4.cell? ⟨wr.heap.size, 2, none⟩ = some (.string q.x.name) := K4.out.2.cell (i := 2) rfl
        have y3 : w4.cell? ⟨wr.heap.size, 3, none⟩ = some (.int .i64 q.x.d) := K4.out.2.cell (i := 3) rfl
        have y4 : w4.cell? ⟨wr.heap.size, 4, none⟩ = some (.int .i64 q.x.n) := K4.out.2.cell (i := 4) rfl
        have y5 : w4.cell? ⟨wr.heap.size, 5, none⟩ = some (.int .i64 q.x.at_) := K4.out.2.cell (i := 5) rfl
        have y6 : w4.cell? ⟨wr.heap.size, 6, none⟩ = some (.int .i64 q.x.by_) := K4.out.2.cell (i := 6) rfl
        have K4u := hid (And.intro (K4.out.1.to gu4) src4)
        have HLM := hid (show (L ++ ([])).length ≤ 100 by rw [List.length_append, HSEG.out.1, ← HM3.out]; exact hm3b)
        clear K4 gu4 src4 hm4
        go_wp2_with (at_builtin; (refine wpList_appendO _ rfl (.tmp 66) (.tmp 68) 23 29 (.agg #[.int .i64 0, .slice none 0 0, .string ⟨#[]⟩, .int .i64 0, .int .i64 0, .int .i64 0, .int .i64 0]) 7 80 rfl Tryz.underlying23 info_acts rfl (by decide) v2.heap.size (.slice a3 m3 c3) (L ++ ([])).length (axV (L ++ ([]))) rfl (by rw [← hu4]; exact K4u.out.1.acts) (axV [q]) 1 rfl (some ⟨w4.heap.size, 0, none⟩) 1 rfl (.inr ⟨_, rfl, by rw [← hu4]; exact K4u.out.2⟩) (oneCell_ax _) (by have := HLM.out; omega) (by decide) (by rw [← hu4]; exact K4u.out.1.below.size) ?_; intro a5 c5 w5 ho5 hg5; rw [← hu4] at hg5; (have K5 := hid (K4u.out.1.app (M := [q]) (fun p hp => by rw [List.mem_singleton] at hp; rw [hp]; exact FA.out.1) ho5 hg5)); generalize (L ++ ([])).length + 1 = m5 at K5 ⊢; clear ho5 hg5))
        clear hu4 K4u y0 y1 y2 y3 y4 y5 y6
        have NX := hid (show ∃ L' T', AftI v2 L' T' (.slice a5 m5 c5) (.slice a4 m4 c4) w5 ∧ acs L' = mixA (mixP hu Gs (i' + 1)) ∧ T' = (List.range (i' + 1)).map (fun i => ((posP hu Gs i : Nat) : Int)) from ⟨_, _, K5.out, by
          rw [acs_app, acs_app, SEG.out.2.2.2.1, HSEG.out.2.2.2.1, mixA_snoc]
          show _ ++ [q.x] = _
          rw [FA.out.2], by
          rw [List.range_succ, List.map_append, ← SEG.out.2.2.2.2.1]
          show T ++ [(m3 : Int)] = T ++ [((posP hu Gs i' : Nat) : Int)]
          rw [show m3 = posP hu Gs i' by have e1 : (mixA (mixP hu Gs i')).length = L.length := by { rw [← SEG.out.2.2.2.1, acs_len] }; have e2 := HSEG.out.2.2.2.2; have e3 := HM3.out; unfold posP; rw [e1]; omega]⟩)
        clear K5
        go_roundw
        case rel => exact ⟨a5, m5, c5, a4, m4, c4, i' + 1, rfl, rfl, by go_num, by omega, NX.out⟩
        case measure => simp [intOf]; omega
      · by_cases hcc : hc = c1
        · have HC' := HC.out
          obtain rfl : c2 = c1 := by omega
          obtain rfl : hc = c2 := hcc
          have hse : segH hu Gs.length i' = [] := List.eq_nil_of_length_eq_zero (SEG.out.2.2.1.trans (Nat.sub_self _))
          have HSEG := hid (show ([] : List Ax).length = 0 ∧ True ∧ (∀ q ∈ ([] : List Ax), AxOk v2 q) ∧ acs ([] : List Ax) = (segH hu Gs.length i').map hurtAc ∧ 0 = (segH hu Gs.length i').length from ⟨rfl, trivial, (fun _ h => (by cases h)), by rw [hse]; rfl, by rw [hse]; rfl⟩)
          clear HC' hse
          go_upto_region 12 with (at_builtin; (refine wpList_appendO _ rfl (.tmp 55) (.tmp 59) 23 29 (.agg #[.int .i64 0, .slice none 0 0, .string ⟨#[]⟩, .int .i64 0, .int .i64 0, .int .i64 0, .int .i64 0]) 7 80 rfl Tryz.underlying23 info_acts rfl (by decide) v2.heap.size (.slice ya yn yc) L.length (axV L) rfl HV.out.acts (axV ([])) (0) (by rw [axV_len, HSEG.out.1]) _ _ rfl (.inl rfl) (oneCell_ax _) (by have := HLB.out; omega) (by decide) HV.out.below.size ?_; intro a3 c3 w3 ho3 hg3; (have Q3 := NE.out.2.2.grown hg3 NE.out.1); (have K3 := hid (And.intro (HV.out.app HSEG.out.2.2.1 (by rw [HSEG.out.1]; exact ho3) hg3) Q3)); clear ho3 hg3 Q3))
          obtain ⟨m3, hm3⟩ : ∃ m3, m3 = L.length + (0) := ⟨_, rfl⟩
          have hm3b : m3 ≤ 100 := by have := HLB.out; omega
          try simp only [Nat.add_zero] at K3 hm3
          rw [← hm3] at K3 ⊢
          obtain ⟨u3, hu3⟩ : ∃ u3, u3 = w3.alloc (.cells #[.int .i64 m3] 3) := ⟨_, rfl⟩
          have gu3 : Below w3.heap.size w3 u3 := by rw [hu3]; exact (Below.refl _ w3).alloc (Nat.le_refl _) _
          have src3 : ∀ j u, (intsV [(m3 : Int)])[j]? = some u → u3.cell? ((⟨w3.heap.size, 0, none⟩ : Addr).add j) = some u := fun j u hj => by
            rw [hu3]
            match j, hj with
            | 0, hj => simp [intsV] at hj; subst hj; exact (Own.made w3 3 [.int .i64 m3]).cell (i := 0) rfl
            | j + 1, hj => simp [intsV] at hj
          have K3u := hid (And.intro (K3.out.1.to gu3) (And.intro (K3.out.2.below' gu3) src3))
          have HTL := hid (show T.length ≤ 100 by have h1 := SEG.out.2.1; omega)
          have HM3 := hid hm3
          clear K3 gu3 src3 hm3
          go_upto_region 13 with (at_builtin; (refine wpList_appendO _ rfl (.tmp 61) (.tmp 64) 40 3 (.int .i64 0) 1 8 rfl Tryz.underlying40 info_int rfl (by decide) v2.heap.size (.slice ta tn tc) T.length (intsV T) rfl (by rw [← hu3]; exact K3u.out.1.ints) (intsV [(m3 : Int)]) 1 rfl (some ⟨w3.heap.size, 0, none⟩) 1 rfl (.inr ⟨_, rfl, by rw [← hu3]; exact K3u.out.2.2⟩) (oneCell_ints _) (by have := HTL.out; omega) (by decide) (by rw [← hu3]; exact K3u.out.1.below.size) ?_; intro a4 c4 w4 ho4 hg4; rw [← hu3] at hg4; (have Q4 := K3u.out.2.1.grown hg4 NE.out.2.1); (have K4 := hid (And.intro (K3u.out.1.put (m3 : Int) ho4 hg4) Q4)); clear ho4 hg4 Q4))
          clear hu3 K3u
          obtain ⟨m4, hm4⟩ : ∃ m4, m4 = T.length + 1 := ⟨_, rfl⟩
          rw [← hm4] at K4 ⊢
          obtain ⟨u4, hu4⟩ : ∃ u4, u4 = w4.alloc (.cells #[.int .i64 q.x.kind, .slice q.f.a q.f.n q.f.c, .string q.x.name, .int .i64 q.x.d, .int .i64 q.x.n, .int .i64 q.x.at_, .int .i64 q.x.by_] 29) := ⟨_, rfl⟩
          have gu4 : Below w4.heap.size w4 u4 := by rw [hu4]; exact (Below.refl _ w4).alloc (Nat.le_refl _) _
          have src4 : ∀ j u, (axV [q])[j]? = some u → u4.cell? ((⟨w4.heap.size, 0, none⟩ : Addr).add j) = some u := by rw [hu4]; exact act_made w4 q
          have y0 : w4.cell? ⟨wr.heap.size, 0, none⟩ = some (.int .i64 q.x.kind) := K4.out.2.cell (i := 0) rfl
          have y1 : w4.cell? ⟨wr.heap.size, 1, none⟩ = some (.slice q.f.a q.f.n q.f.c) := K4.out.2.cell (i := 1) rfl
          have y2 : w4.cell? ⟨wr.heap.size, 2, none⟩ = some (.string q.x.name) := K4.out.2.cell (i := 2) rfl
          have y3 : w4.cell? ⟨wr.heap.size, 3, none⟩ = some (.int .i64 q.x.d) := K4.out.2.cell (i := 3) rfl
          have y4 : w4.cell? ⟨wr.heap.size, 4, none⟩ = some (.int .i64 q.x.n) := K4.out.2.cell (i := 4) rfl
          have y5 : w4.cell? ⟨wr.heap.size, 5, none⟩ = some (.int .i64 q.x.at_) := K4.out.2.cell (i := 5) rfl
          have y6 : w4.cell? ⟨wr.heap.size, 6, none⟩ = some (.int .i64 q.x.by_) := K4.out.2.cell (i := 6) rfl
          have K4u := hid (And.intro (K4.out.1.to gu4) src4)
          have HLM := hid (show (L ++ ([])).length ≤ 100 by rw [List.length_append, HSEG.out.1, ← HM3.out]; exact hm3b)
          clear K4 gu4 src4 hm4
          go_wp2_with (at_builtin; (refine wpList_appendO _ rfl (.tmp 66) (.tmp 68) 23 29 (.agg #[.int .i64 0, .slice none 0 0, .string ⟨#[]⟩, .int .i64 0, .int .i64 0, .int .i64 0, .int .i64 0]) 7 80 rfl Tryz.underlying23 info_acts rfl (by decide) v2.heap.size (.slice a3 m3 c3) (L ++ ([])).length (axV (L ++ ([]))) rfl (by rw [← hu4]; exact K4u.out.1.acts) (axV [q]) 1 rfl (some ⟨w4.heap.size, 0, none⟩) 1 rfl (.inr ⟨_, rfl, by rw [← hu4]; exact K4u.out.2⟩) (oneCell_ax _) (by have := HLM.out; omega) (by decide) (by rw [← hu4]; exact K4u.out.1.below.size) ?_; intro a5 c5 w5 ho5 hg5; rw [← hu4] at hg5; (have K5 := hid (K4u.out.1.app (M := [q]) (fun p hp => by rw [List.mem_singleton] at hp; rw [hp]; exact FA.out.1) ho5 hg5)); generalize (L ++ ([])).length + 1 = m5 at K5 ⊢; clear ho5 hg5))
          clear hu4 K4u y0 y1 y2 y3 y4 y5 y6
          have NX := hid (show ∃ L' T', AftI v2 L' T' (.slice a5 m5 c5) (.slice a4 m4 c4) w5 ∧ acs L' = mixA (mixP hu Gs (i' + 1)) ∧ T' = (List.range (i' + 1)).map (fun i => ((posP hu Gs i : Nat) : Int)) from ⟨_, _, K5.out, by
            rw [acs_app, acs_app, SEG.out.2.2.2.1, HSEG.out.2.2.2.1, mixA_snoc]
            show _ ++ [q.x] = _
            rw [FA.out.2], by
            rw [List.range_succ, List.map_append, ← SEG.out.2.2.2.2.1]
            show T ++ [(m3 : Int)] = T ++ [((posP hu Gs i' : Nat) : Int)]
            rw [show m3 = posP hu Gs i' by have e1 : (mixA (mixP hu Gs i')).length = L.length := by { rw [← SEG.out.2.2.2.1, acs_len] }; have e2 := HSEG.out.2.2.2.2; have e3 := HM3.out; unfold posP; rw [e1]; omega]⟩)
          clear K5
          go_roundw
          case rel => exact ⟨a5, m5, c5, a4, m4, c4, i' + 1, rfl, rfl, by go_num, by omega, NX.out⟩
          case measure => simp [intOf]; omega
        · have HC' := HC.out
          have hsrc := seg_src (HA.out.2.1.below HV.out.below) c1 (c2 - c1) (by omega)
          rw [Nat.zero_add] at hsrc
          have HSEG := hid (show ((H.drop c1).take (c2 - c1)).length = c2 - c1 ∧ (c2 - c1 = 0 ∨ ∃ ad, (some ⟨g, c1 * 7, none⟩ : Option Addr) = some ad ∧ ∀ j u, (axV ((H.drop c1).take (c2 - c1)))[j]? = some u → V.cell? (ad.add j) = some u) ∧ (∀ q ∈ (H.drop c1).take (c2 - c1), AxOk v2 q) ∧ acs ((H.drop c1).take (c2 - c1)) = (segH hu Gs.length i').map hurtAc ∧ c2 - c1 = (segH hu Gs.length i').length from ⟨hsrc.1, .inr ⟨_, rfl, hsrc.2⟩, fun q hq => HA.out.2.1.ok q (List.mem_of_mem_drop (List.mem_of_mem_take hq)), by have := seg_acs HA.out.2.2.1 Gs.length i'; rw [← SEG.out.2.2.2.2.2.1, ← SEG.out.2.2.2.2.2.2.1] at this; exact this, SEG.out.2.2.1.symm⟩)
          have hcci : (c2 : Int) ≤ hc := by omega
          clear HC' hsrc
          go_upto_region 12 with (at_builtin; (refine wpList_appendO _ rfl (.tmp 55) (.tmp 59) 23 29 (.agg #[.int .i64 0, .slice none 0 0, .string ⟨#[]⟩, .int .i64 0, .int .i64 0, .int .i64 0, .int .i64 0]) 7 80 rfl Tryz.underlying23 info_acts rfl (by decide) v2.heap.size (.slice ya yn yc) L.length (axV L) rfl HV.out.acts (axV ((H.drop c1).take (c2 - c1))) (c2 - c1) (by rw [axV_len, HSEG.out.1]) _ _ rfl HSEG.out.2.1 (oneCell_ax _) (by have := HLB.out; omega) (by decide) HV.out.below.size ?_; intro a3 c3 w3 ho3 hg3; (have Q3 := NE.out.2.2.grown hg3 NE.out.1); (have K3 := hid (And.intro (HV.out.app HSEG.out.2.2.1 (by rw [HSEG.out.1]; exact ho3) hg3) Q3)); clear ho3 hg3 Q3))
          obtain ⟨m3, hm3⟩ : ∃ m3, m3 = L.length + (c2 - c1) := ⟨_, rfl⟩
          have hm3b : m3 ≤ 100 := by have := HLB.out; omega
          rw [← hm3] at K3 ⊢
          obtain ⟨u3, hu3⟩ : ∃ u3, u3 = w3.alloc (.cells #[.int .i64 m3] 3) := ⟨_, rfl⟩
          have gu3 : Below w3.heap.size w3 u3 := by rw [hu3]; exact (Below.refl _ w3).alloc (Nat.le_refl _) _
          have src3 : ∀ j u, (intsV [(m3 : Int)])[j]? = some u → u3.cell? ((⟨w3.heap.size, 0, none⟩ : Addr).add j) = some u := fun j u hj => by
            rw [hu3]
            match j, hj with
            | 0, hj => simp [intsV] at hj; subst hj; exact (Own.made w3 3 [.int .i64 m3]).cell (i := 0) rfl
            | j + 1, hj => simp [intsV] at hj
          have K3u := hid (And.intro (K3.out.1.to gu3) (And.intro (K3.out.2.below' gu3) src3))
          have HTL := hid (show T.length ≤ 100 by have h1 := SEG.out.2.1; omega)
          have HM3 := hid hm3
          clear K3 gu3 src3 hm3
          go_upto_region 13 with (at_builtin; (refine wpList_appendO _ rfl (.tmp 61) (.tmp 64) 40 3 (.int .i64 0) 1 8 rfl Tryz.underlying40 info_int rfl (by decide) v2.heap.size (.slice ta tn tc) T.length (intsV T) rfl (by rw [← hu3]; exact K3u.out.1.ints) (intsV [(m3 : Int)]) 1 rfl (some ⟨w3.heap.size, 0, none⟩) 1 rfl (.inr ⟨_, rfl, by rw [← hu3]; exact K3u.out.2.2⟩) (oneCell_ints _) (by have := HTL.out; omega) (by decide) (by rw [← hu3]; exact K3u.out.1.below.size) ?_; intro a4 c4 w4 ho4 hg4; rw [← hu3] at hg4; (have Q4 := K3u.out.2.1.grown hg4 NE.out.2.1); (have K4 := hid (And.intro (K3u.out.1.put (m3 : Int) ho4 hg4) Q4)); clear ho4 hg4 Q4))
          clear hu3 K3u
          obtain ⟨m4, hm4⟩ : ∃ m4, m4 = T.length + 1 := ⟨_, rfl⟩
          rw [← hm4] at K4 ⊢
          obtain ⟨u4, hu4⟩ : ∃ u4, u4 = w4.alloc (.cells #[.int .i64 q.x.kind, .slice q.f.a q.f.n q.f.c, .string q.x.name, .int .i64 q.x.d, .int .i64 q.x.n, .int .i64 q.x.at_, .int .i64 q.x.by_] 29) := ⟨_, rfl⟩
          have gu4 : Below w4.heap.size w4 u4 := by rw [hu4]; exact (Below.refl _ w4).alloc (Nat.le_refl _) _
          have src4 : ∀ j u, (axV [q])[j]? = some u → u4.cell? ((⟨w4.heap.size, 0, none⟩ : Addr).add j) = some u := by rw [hu4]; exact act_made w4 q
          have y0 : w4.cell? ⟨wr.heap.size, 0, none⟩ = some (.int .i64 q.x.kind) := K4.out.2.cell (i := 0) rfl
          have y1 : w4.cell? ⟨wr.heap.size, 1, none⟩ = some (.slice q.f.a q.f.n q.f.c) := K4.out.2.cell (i := 1) rfl
          have y2 : w4.cell? ⟨wr.heap.size, 2, none⟩ = some (.string q.x.name) := K4.out.2.cell (i := 2) rfl
          have y3 : w4.cell? ⟨wr.heap.size, 3, none⟩ = some (.int .i64 q.x.d) := K4.out.2.cell (i := 3) rfl
          have y4 : w4.cell? ⟨wr.heap.size, 4, none⟩ = some (.int .i64 q.x.n) := K4.out.2.cell (i := 4) rfl
          have y5 : w4.cell? ⟨wr.heap.size, 5, none⟩ = some (.int .i64 q.x.at_) := K4.out.2.cell (i := 5) rfl
          have y6 : w4.cell? ⟨wr.heap.size, 6, none⟩ = some (.int .i64 q.x.by_) := K4.out.2.cell (i := 6) rfl
          have K4u := hid (And.intro (K4.out.1.to gu4) src4)
          have HLM := hid (show (L ++ ((H.drop c1).take (c2 - c1))).length ≤ 100 by rw [List.length_append, HSEG.out.1, ← HM3.out]; exact hm3b)
          clear K4 gu4 src4 hm4
          go_wp2_with (at_builtin; (refine wpList_appendO _ rfl (.tmp 66) (.tmp 68) 23 29 (.agg #[.int .i64 0, .slice none 0 0, .string ⟨#[]⟩, .int .i64 0, .int .i64 0, .int .i64 0, .int .i64 0]) 7 80 rfl Tryz.underlying23 info_acts rfl (by decide) v2.heap.size (.slice a3 m3 c3) (L ++ ((H.drop c1).take (c2 - c1))).length (axV (L ++ ((H.drop c1).take (c2 - c1)))) rfl (by rw [← hu4]; exact K4u.out.1.acts) (axV [q]) 1 rfl (some ⟨w4.heap.size, 0, none⟩) 1 rfl (.inr ⟨_, rfl, by rw [← hu4]; exact K4u.out.2⟩) (oneCell_ax _) (by have := HLM.out; omega) (by decide) (by rw [← hu4]; exact K4u.out.1.below.size) ?_; intro a5 c5 w5 ho5 hg5; rw [← hu4] at hg5; (have K5 := hid (K4u.out.1.app (M := [q]) (fun p hp => by rw [List.mem_singleton] at hp; rw [hp]; exact FA.out.1) ho5 hg5)); generalize (L ++ ((H.drop c1).take (c2 - c1))).length + 1 = m5 at K5 ⊢; clear ho5 hg5))
          clear hu4 K4u y0 y1 y2 y3 y4 y5 y6
          have NX := hid (show ∃ L' T', AftI v2 L' T' (.slice a5 m5 c5) (.slice a4 m4 c4) w5 ∧ acs L' = mixA (mixP hu Gs (i' + 1)) ∧ T' = (List.range (i' + 1)).map (fun i => ((posP hu Gs i : Nat) : Int)) from ⟨_, _, K5.out, by
            rw [acs_app, acs_app, SEG.out.2.2.2.1, HSEG.out.2.2.2.1, mixA_snoc]
            show _ ++ [q.x] = _
            rw [FA.out.2], by
            rw [List.range_succ, List.map_append, ← SEG.out.2.2.2.2.1]
            show T ++ [(m3 : Int)] = T ++ [((posP hu Gs i' : Nat) : Int)]
            rw [show m3 = posP hu Gs i' by have e1 : (mixA (mixP hu Gs i')).length = L.length := by { rw [← SEG.out.2.2.2.1, acs_len] }; have e2 := HSEG.out.2.2.2.2; have e3 := HM3.out; unfold posP; rw [e1]; omega]⟩)
          clear K5
          go_roundw
          case rel => exact ⟨a5, m5, c5, a4, m4, c4, i' + 1, rfl, rfl, by go_num, by omega, NX.out⟩
          case measure => simp [intOf]; omega
    · have hlt' : ¬ (i' : Int) < gm := by omega
      obtain ⟨L, T, HL, hL1, hT1⟩ := HI.out
      have hM : gm = Gs.length := HA.out.2.2.2.2
      have hi : i' = Gs.length := by omega
      rw [hi] at hL1 hT1
      have hcl := cut_le hu Gs.length Gs.length (Nat.le_refl _)
      have hLl : L.length = cutH hu Gs.length Gs.length + Gs.length := by rw [← acs_len, hL1, mixA_len hu Gs Gs.length (Nat.le_refl _)]
      have hh40 : hu.length ≤ 40 := S1.out.2.2.2.2.2.2.2.2.1
      have hLb : L.length ≤ 60 := by omega
      have hLt := HL.at (by omega)
      obtain ⟨t1, t2, t3⟩ := row_at HL.ints (by rw [intsV_length, Nat.mul_one])
      have hTl : T.length = Gs.length := by rw [hT1, List.length_map, List.length_range]
      have htn8 : tn ≤ 8 := by omega
      have htn : tn = Gs.length := by omega
      have C3 := hid (CG.out wr HL.below)
      have S3 := hid (And.intro HL.below (And.intro hLt (And.intro t3 (And.intro hL1 (And.intro hT1 (And.intro hLl (And.intro htn hcl)))))))
      clear HL hM hi hcl hLl hLb hLt t1 t2 t3 hTl htn HI CG hL1 hh40
      go_wp2_with fail
      refine C3.out.mono ?_
      rintro _ v4 ⟨qa, qn, qc, Q, rfl, hQ1, hQ2, g4⟩
      have hQl : Q.length = tot Gs := by rw [← acs_len, hQ2, List.length_map, tot_flat]
      have htt : tot Gs ≤ 8 := S1.out.2.2.2.2.2.2.1
      have hQt := hQ1.at (by unfold maxLen; omega)
      have HTT := hid htt
      obtain ⟨u4, hu4⟩ : ∃ u4, u4 = v4.alloc (.cells #[.slice ya yn yc, .slice qa qn qc] 23) := ⟨_, rfl⟩
      have b4 : Below v4.heap.size v4 u4 := by rw [hu4]; exact (Below.refl _ v4).alloc (Nat.le_refl _) _
      obtain ⟨l, hl0⟩ : ∃ l, l = mixA (mixP hu Gs Gs.length) ++ Gs.flatten.map getAc := ⟨_, rfl⟩
      have hml := mixA_len hu Gs Gs.length (Nat.le_refl _)
      have hll : l.length = cutH hu Gs.length Gs.length + Gs.length + tot Gs := by rw [hl0, List.length_append, hml, List.length_map, tot_flat]
      have hl : l.length ≤ 200 := by
        have h1 := S3.out.2.2.2.2.2.2.2
        have h2 := S1.out.2.2.2.2.2.2.2.2.1
        have h3 := S1.out.2.2.2.2.2.2.2.1
        omega
      have hpos : ∀ i, i < Gs.length → posP hu Gs i < l.length := fun i hi => by
        have h1 := posP_eq hu Gs i hi
        have h2 := cut_up hu Gs.length (i + 1) Gs.length hi
        omega
      have C4 : Hid (Calls Tryz.prog 11 #[.slice (some ⟨v4.heap.size, 0, none⟩) 2 2] u4 (OutTr u4 l)) := by
        have q := laid_run (w := v4) [⟨⟨ya, yn, yc⟩, L⟩, ⟨⟨qa, qn, qc⟩, Q⟩] (fun q hq => by
          simp only [List.mem_cons, List.not_mem_nil, or_false] at hq
          rcases hq with rfl | rfl
          · exact ⟨S3.out.2.1.1, S3.out.2.1.2.below g4⟩
          · exact hQt) (by simp) (by
          rw [hl0]
          show acs L ++ (acs Q ++ []) = _
          rw [S3.out.2.2.2.1, hQ2, List.append_nil]) hl 2 rfl
        rw [show v4.alloc (.cells ([⟨⟨ya, yn, yc⟩, L⟩, ⟨⟨qa, qn, qc⟩, Q⟩].map partV).toArray 23) = u4 from hu4.symm] at q
        exact q
      have S4 := hid (And.intro (bel3 g4 b4) (And.intro hl0 (And.intro hll (And.intro hl hpos))))
      clear C3 hQ1 hQ2 hQl hQt g4 b4 hl hll hl0 hpos hml htt
      go_wp2_with fail
      rw [← hu4]
      clear hu4
      refine C4.out.mono ?_
      rintro _ v5 ⟨xa, xn, xc, za, zm, zc, X, rfl, ⟨hX1, hX2, hX3⟩, _, g5⟩
      have hxn : xn = l.length := by rw [hX3.sn]; exact ans_len hX1
      obtain ⟨u5, hu5⟩ : ∃ u5, u5 = v5.alloc (.cells #[.slice za zm zc] 35) := ⟨_, rfl⟩
      have gu5 : Below v5.heap.size v5 u5 := by rw [hu5]; exact (Below.refl _ v5).alloc (Nat.le_refl _) _
      have g45 := bel3 S4.out.1 (bel3 g5 gu5)
      have hx200 : xn ≤ 200 := by rw [hxn]; exact S4.out.2.2.2.1
      have hfk : fk = tot Gs := S1.out.2.2.2.2.2.2.2.2.2.2
      have hfx : fk ≤ xn := by rw [hfk, hxn]; have := S4.out.2.2.1; omega
      have HX := hid (And.intro (hX3.below gu5) (And.intro (S3.out.2.2.1.below g45) (And.intro S3.out.2.2.2.2.1 (And.intro hX1 (And.intro hxn (And.intro S4.out.2.2.2.2 (And.intro S3.out.2.2.2.2.2.2.1 (And.intro hX2 hfk))))))))
      have FIN := hid (bel3 S1.out.1 (bel3 S2.out (bel3 S3.out.1 g45)))
      have AFT := hid (fun (R : List An) (hR : R = (List.range Gs.length).map (fun i => an1 (run48 l).2 (posP hu Gs i)) ++ (run48 l).2.drop (l.length - tot Gs)) => ONE.out l S4.out.2.1 R hR)
      have TOLD := hid (fun (w8 : World) (a8 : Option Addr) (m8 c8 : Nat) (F8 : List Nx) (h8 : FstI u5 F8 (.slice a8 m8 c8) w8) (hm8 : m8 = F8.length) (hT : ∀ i j, i < Gs.length → j < (grp Gs i).length → GetOk (an1 (ans F8) i).code (an1 (ans F8) ((ans F8).length - tot Gs + (tot (Gs.take i) + j))) (fi (grp Gs i) j)) (hb8 : tot Gs ≤ m8 ∧ Gs.length ≤ m8 ∧ m8 ≤ 200) => show Calls Tryz.prog 17 #[.slice a8 m8 c8, .slice ga gm gc, .slice fb fk fd] w8 (OutYes w8) from by
        have hat := h8.at (by omega)
        refine told_call a8 m8 c8 F8 ga gm gc A fb fk fd Gs w8 hat.2 hat.1 (((HA.out.1.below S3.out.1).below g45).below h8.below) S1.out.2.2.1 hfk (fun G hG => chain_ne Gs 0 S1.out.2.2.2.2.2.1 G hG) (by omega) (by rw [HA.out.2.2.2.2]; exact hb8.2.1) hb8.2.2 ?_
        rw [hfk, hm8, ← show (ans F8).length = F8.length from List.length_map _]
        exact hT)
      have J1 : Hid (∃ F, FstI u5 F (.slice none 0 0) u5 ∧ ans F = (List.range 0).map (fun i => an1 (ans X) (posP hu Gs i))) := ⟨[], ⟨World.ownsRow_nil _ _ _ _, fun _ h => (by cases h), Below.refl _ _⟩, rfl⟩
      clear C4 hX1 hX2 hX3 hxn g5 gu5 g45 hfk S1 S2 S3 S4 HA HF HH ONE
      go_upto_region 16 with fail
      rw [← hu5]
      clear hu5
      go_wp2_with fail
      go_loopw [20, 84] (fun v k wr => ∃ (sa : Option Addr) (sn sc k' : Nat), v = .slice sa sn sc ∧ k = .int .i64 k' ∧ k' ≤ tn ∧ Hid (∃ F, FstI u5 F (.slice sa sn sc) wr ∧ ans F = (List.range k').map (fun i => an1 (ans X) (posP hu Gs i)))) (fun _ k _ => tn - (intOf k).toNat)
      case atStart => exact ⟨none, 0, 0, 0, rfl, rfl, Nat.zero_le _, J1.out⟩
      case round =>
        obtain ⟨sa, sn, sc, k', rfl, rfl, hkt, HQ0⟩ := hrel
        clear J1
        obtain ⟨F, hF0, hF1⟩ := HQ0.out
        have hFl : F.length = k' := by
          have := congrArg List.length hF1
          rw [ans, List.length_map, List.length_map, List.length_range] at this
          exact this
        have HQ := hid (And.intro hF0 hF1)
        have HFL := hid (show F.length ≤ 8 by omega)
        clear hF0 hF1 HQ0
        by_cases hlt2 : k' < tn
        · have hlt2' : (k' : Int) < tn := by omega
          have hkG : k' < Gs.length := by have := HX.out.2.2.2.2.2.2.1; omega
          obtain ⟨tb, tq, rfl, _, s0⟩ := row_cell (HX.out.2.1.below HQ.out.1.below) k' (by rw [intsV_length, HX.out.2.2.1, List.length_map, List.length_range]; exact hkG)
          obtain ⟨pk, hpk⟩ : ∃ pk, pk = posP hu Gs k' := ⟨_, rfl⟩
          have s1 : wr.cell? ⟨tb, tq + k', none⟩ = some (.int .i64 pk) := by
            rw [s0, hpk]
            have := HX.out.2.2.1
            subst this
            simp [intsV]
          have hpx : pk < xn := by rw [hpk, HX.out.2.2.2.2.1]; exact HX.out.2.2.2.2.2.1 k' hkG
          have hpx' : (pk : Int) < xn := by omega
          obtain ⟨q, xb, xo, hq, rfl, _, hok, x0, x1, x2, x3, x4⟩ := (HX.out.1.below HQ.out.1.below).one pk hpx
          obtain ⟨u6, hu6⟩ : ∃ u6, u6 = wr.alloc (.cells #[.int .i64 q.r.code, .string (str q.r.data), .slice q.f.a q.f.n q.f.c, .int .i64 q.r.count, .slice q.g.a q.g.n q.g.c] 42) := ⟨_, rfl⟩
          have gu6 : Below wr.heap.size wr u6 := by rw [hu6]; exact (Below.refl _ wr).alloc (Nat.le_refl _) _
          have src6 : ∀ j u, (nxV [q])[j]? = some u → u6.cell? ((⟨wr.heap.size, 0, none⟩ : Addr).add j) = some u := fun j u hj => by
            rw [nxV_one] at hj
            have ho : Own u6 wr.heap.size 42 (nxC q) := by
              have := Own.made wr 42 (nxC q)
              rw [show wr.alloc (.cells (nxC q).toArray 42) = u6 from hu6.symm] at this
              exact this
            rw [Addr.add_lit]
            show u6.cell? ⟨wr.heap.size, 0 + j, none⟩ = _
            rw [Nat.zero_add]
            exact ho.cell hj
          have hq2 := HX.out.1.ok q (List.mem_of_getElem? hq)
          have KQ := hid (And.intro (HQ.out.1.to gu6) (And.intro src6 (And.intro hq2 (show q.r = an1 (ans X) (posP hu Gs k') by rw [← hpk, an1_of hq]))))
          clear s0 hpk hpx hq hok hq2 gu6 src6 hkG
          go_wp2_with (at_builtin; (refine wpList_appendO _ rfl (.tmp 88) (.tmp 93) 32 42 (.agg #[.int .i64 0, .string ⟨#[]⟩, .slice none 0 0, .int .i64 0, .slice none 0 0]) 5 80 rfl Tryz.underlying32 info_ans rfl (by decide) u5.heap.size (.slice sa sn sc) F.length (nxV F) rfl (by rw [← hu6]; exact KQ.out.1.own) (nxV [q]) 1 rfl (some ⟨wr.heap.size, 0, none⟩) 1 rfl (.inr ⟨_, rfl, by rw [← hu6]; exact KQ.out.2.1⟩) (oneCell_nx _) (by have := HFL.out; omega) (by decide) (by rw [← hu6]; exact KQ.out.1.below.size) ?_; intro a7 c7 w7 ho7 hg7; rw [← hu6] at hg7; (have K7 := hid (KQ.out.1.app (M := [q]) (fun p hp => by rw [List.mem_singleton] at hp; rw [hp]; exact KQ.out.2.2.1) ho7 hg7)); generalize F.length + 1 = m7 at K7 ⊢; clear ho7 hg7))
          have N7 := hid (show ∃ F', FstI u5 F' (.slice a7 m7 c7) w7 ∧ ans F' = (List.range (k' + 1)).map (fun i => an1 (ans X) (posP hu Gs i)) from ⟨_, K7.out, by
            rw [ans, List.map_append, List.range_succ, List.map_append, ← HQ.out.2]
            show ans F ++ [q.r] = ans F ++ [an1 (ans X) (posP hu Gs k')]
            rw [KQ.out.2.2.2]⟩)
          clear K7 KQ hu6
          go_roundw
          case rel => exact ⟨a7, m7, c7, k' + 1, rfl, by go_num, by omega, N7.out⟩
          case measure => simp [intOf]; omega
        · have hlt2' : ¬ (k' : Int) < tn := by omega
          have hkM : k' = Gs.length := by have := HX.out.2.2.2.2.2.2.1; omega
          obtain ⟨j, hj⟩ : ∃ j, j = xn - fk := ⟨_, rfl⟩
          have hfk := HX.out.2.2.2.2.2.2.2.2
          have hFG : F.length = Gs.length := by omega
          have hRF : ans F = (List.range Gs.length).map (fun i => an1 (run48 l).2 (posP hu Gs i)) := by rw [HQ.out.2, hkM, HX.out.2.2.2.1]
          have hdr : (run48 l).2.drop (l.length - tot Gs) = ans (X.drop j) := by rw [← HX.out.2.2.2.1, ← HX.out.2.2.2.2.1, ← hfk, ← hj, ans, ans, List.map_drop]
          have p1 : (xn : Int) - (fk : Int) = (j : Int) := by omega
          have p3 : xn - j = fk := by omega
          have p7 : (j : Int) ≤ xn := by omega
          have hxc : xn ≤ xc := HX.out.2.2.2.2.2.2.2.1
          have hXs : X.length = xn := HX.out.1.sn.symm
          have HE0 := hid (And.intro hRF (And.intro hdr (And.intro hFG hfk)))
          clear hRF hdr hFG hkM hFl hfk
          by_cases k0 : fk = 0
          · have hX0 : X.drop j = [] := List.eq_nil_of_length_eq_zero (by rw [List.length_drop]; omega)
            have HEQ := hid (show ans (F ++ []) = (List.range Gs.length).map (fun i => an1 (run48 l).2 (posP hu Gs i)) ++ (run48 l).2.drop (l.length - tot Gs) from by rw [List.append_nil, HE0.out.1, HE0.out.2.1, hX0]; exact (List.append_nil _).symm)
            have HG := hid (show FstI u5 F (.slice sa sn sc) wr ∧ ([] : List Nx).length = 0 ∧ ∀ q ∈ ([] : List Nx), NxOk u5 q from ⟨HQ.out.1, rfl, (fun _ h => (by cases h))⟩)
            obtain rfl : fk = 0 := k0
            obtain rfl : j = xn := by omega
            clear hX0 p1 p3 hj hXs
            cases xa with
            | none =>
              have HB0 := hid (show tot Gs ≤ F.length + (0) ∧ Gs.length ≤ F.length + (0) ∧ F.length + (0) ≤ 200 from by have h1 := HE0.out.2.2.1; have h2 := HE0.out.2.2.2; have h3 := HFL.out; have h4 := HTT.out; omega)
              go_wp2_with (at_builtin; (refine wpList_appendO _ rfl (.tmp 96) (.tmp 103) 32 42 (.agg #[.int .i64 0, .string ⟨#[]⟩, .slice none 0 0, .int .i64 0, .slice none 0 0]) 5 80 rfl Tryz.underlying32 info_ans rfl (by decide) u5.heap.size (.slice sa sn sc) F.length (nxV F) rfl HG.out.1.own (nxV ([])) (0) (by rw [nxV_len, HG.out.2.1]) _ _ rfl (.inl rfl) (oneCell_nx _) (by have := HB0.out.2.2; omega) (by decide) HG.out.1.below.size ?_; intro a8 c8 w8 ho8 hg8; (have F8 := hid (HG.out.1.app HG.out.2.2 (by rw [HG.out.2.1]; exact ho8) hg8)); clear ho8 hg8; (have HM8 := hid (show F.length + (0) = (F ++ ([])).length by rw [List.length_append, HG.out.2.1])); generalize F.length + (0) = m8 at F8 HM8 HB0 ⊢))
              have CT := hid (TOLD.out w8 a8 m8 c8 (F ++ ([])) F8.out HM8.out (AFT.out _ HEQ.out) HB0.out)
              have FF := hid (bel3 FIN.out F8.out.below)
              clear F8 HM8 HG HB0
              refine CT.out.mono ?_
              rintro _ w9 ⟨rfl, g9⟩
              have FE := hid (bel3 FF.out g9)
              clear CT FF g9
              go_wp2
              go_ret
              exact ⟨rfl, FE.out⟩
            | some ad =>
              obtain ⟨xb, xo, fr⟩ := ad
              by_cases hcx : xc = j
              · have hcx := hcx
                have HB0 := hid (show tot Gs ≤ F.length + (0) ∧ Gs.length ≤ F.length + (0) ∧ F.length + (0) ≤ 200 from by have h1 := HE0.out.2.2.1; have h2 := HE0.out.2.2.2; have h3 := HFL.out; have h4 := HTT.out; omega)
                go_wp2_with (at_builtin; (refine wpList_appendO _ rfl (.tmp 96) (.tmp 103) 32 42 (.agg #[.int .i64 0, .string ⟨#[]⟩, .slice none 0 0, .int .i64 0, .slice none 0 0]) 5 80 rfl Tryz.underlying32 info_ans rfl (by decide) u5.heap.size (.slice sa sn sc) F.length (nxV F) rfl HG.out.1.own (nxV ([])) (0) (by rw [nxV_len, HG.out.2.1]) _ _ rfl (.inl rfl) (oneCell_nx _) (by have := HB0.out.2.2; omega) (by decide) HG.out.1.below.size ?_; intro a8 c8 w8 ho8 hg8; (have F8 := hid (HG.out.1.app HG.out.2.2 (by rw [HG.out.2.1]; exact ho8) hg8)); clear ho8 hg8; (have HM8 := hid (show F.length + (0) = (F ++ ([])).length by rw [List.length_append, HG.out.2.1])); generalize F.length + (0) = m8 at F8 HM8 HB0 ⊢))
                have CT := hid (TOLD.out w8 a8 m8 c8 (F ++ ([])) F8.out HM8.out (AFT.out _ HEQ.out) HB0.out)
                have FF := hid (bel3 FIN.out F8.out.below)
                clear F8 HM8 HG HB0
                refine CT.out.mono ?_
                rintro _ w9 ⟨rfl, g9⟩
                have FE := hid (bel3 FF.out g9)
                clear CT FF g9
                go_wp2
                go_ret
                exact ⟨rfl, FE.out⟩
              · have hcx := hcx
                have HB0 := hid (show tot Gs ≤ F.length + (0) ∧ Gs.length ≤ F.length + (0) ∧ F.length + (0) ≤ 200 from by have h1 := HE0.out.2.2.1; have h2 := HE0.out.2.2.2; have h3 := HFL.out; have h4 := HTT.out; omega)
                go_wp2_with (at_builtin; (refine wpList_appendO _ rfl (.tmp 96) (.tmp 103) 32 42 (.agg #[.int .i64 0, .string ⟨#[]⟩, .slice none 0 0, .int .i64 0, .slice none 0 0]) 5 80 rfl Tryz.underlying32 info_ans rfl (by decide) u5.heap.size (.slice sa sn sc) F.length (nxV F) rfl HG.out.1.own (nxV ([])) (0) (by rw [nxV_len, HG.out.2.1]) _ _ rfl (.inl rfl) (oneCell_nx _) (by have := HB0.out.2.2; omega) (by decide) HG.out.1.below.size ?_; intro a8 c8 w8 ho8 hg8; (have F8 := hid (HG.out.1.app HG.out.2.2 (by rw [HG.out.2.1]; exact ho8) hg8)); clear ho8 hg8; (have HM8 := hid (show F.length + (0) = (F ++ ([])).length by rw [List.length_append, HG.out.2.1])); generalize F.length + (0) = m8 at F8 HM8 HB0 ⊢))
                have CT := hid (TOLD.out w8 a8 m8 c8 (F ++ ([])) F8.out HM8.out (AFT.out _ HEQ.out) HB0.out)
                have FF := hid (bel3 FIN.out F8.out.below)
                clear F8 HM8 HG HB0
                refine CT.out.mono ?_
                rintro _ w9 ⟨rfl, g9⟩
                have FE := hid (bel3 FF.out g9)
                clear CT FF g9
                go_wp2
                go_ret
                exact ⟨rfl, FE.out⟩
          · obtain ⟨_, xb, xo, _, rfl, _⟩ := HX.out.1.one j (by omega)
            have D := (HX.out.1.below HQ.out.1.below).drop j (by omega)
            have HSRC := hid (show ∀ i u, (nxV (X.drop j))[i]? = some u → wr.cell? ((⟨xb, xo + j * 5, none⟩ : Addr).add i) = some u from fun i u hi => by
              obtain ⟨b2, o2, e, _, c⟩ := D.row i u hi
              cases e
              rw [Addr.add_lit]
              exact c)
            have HEQ := hid (show ans (F ++ (X.drop j)) = (List.range Gs.length).map (fun i => an1 (run48 l).2 (posP hu Gs i)) ++ (run48 l).2.drop (l.length - tot Gs) from by rw [HE0.out.2.1, ← HE0.out.1, ans, ans, ans, List.map_append])
            have HG := hid (show FstI u5 F (.slice sa sn sc) wr ∧ (X.drop j).length = fk ∧ ∀ q ∈ X.drop j, NxOk u5 q from ⟨HQ.out.1, by rw [List.length_drop]; omega, fun q hq => HX.out.1.ok q (List.mem_of_mem_drop hq)⟩)
            have hcj : ¬ xc = j := by omega
            clear D hj hXs k0
            have HB0 := hid (show tot Gs ≤ F.length + (fk) ∧ Gs.length ≤ F.length + (fk) ∧ F.length + (fk) ≤ 200 from by have h1 := HE0.out.2.2.1; have h2 := HE0.out.2.2.2; have h3 := HFL.out; have h4 := HTT.out; omega)
            go_wp2_with (at_builtin; (refine wpList_appendO _ rfl (.tmp 96) (.tmp 103) 32 42 (.agg #[.int .i64 0, .string ⟨#[]⟩, .slice none 0 0, .int .i64 0, .slice none 0 0]) 5 80 rfl Tryz.underlying32 info_ans rfl (by decide) u5.heap.size (.slice sa sn sc) F.length (nxV F) rfl HG.out.1.own (nxV (X.drop j)) (fk) (by rw [nxV_len, HG.out.2.1]) _ _ rfl (.inr ⟨_, rfl, HSRC.out⟩) (oneCell_nx _) (by have := HB0.out.2.2; omega) (by decide) HG.out.1.below.size ?_; intro a8 c8 w8 ho8 hg8; (have F8 := hid (HG.out.1.app HG.out.2.2 (by rw [HG.out.2.1]; exact ho8) hg8)); clear ho8 hg8; (have HM8 := hid (show F.length + (fk) = (F ++ (X.drop j)).length by rw [List.length_append, HG.out.2.1])); generalize F.length + (fk) = m8 at F8 HM8 HB0 ⊢))
            have CT := hid (TOLD.out w8 a8 m8 c8 (F ++ (X.drop j)) F8.out HM8.out (AFT.out _ HEQ.out) HB0.out)
            have FF := hid (bel3 FIN.out F8.out.below)
            clear F8 HM8 HG HB0
            refine CT.out.mono ?_
            rintro _ w9 ⟨rfl, g9⟩
            have FE := hid (bel3 FF.out g9)
            clear CT FF g9
            go_wp2
            go_ret
            exact ⟨rfl, FE.out⟩

set_option maxRecDepth 100000 in
theorem lifted (os : Os) (started : os.Started) (H : Type) (enc : TypeId × Value → H) :
    ReturnsInHanded {} Tryz.checked os 4 .any (fun w args => (Rows.topAfterSpec.pre enc Tryz.prog Tryz.f4 Rows.topAfterRow.domain false w args ∧ laidMetH Tryz.prog Rows.topAfterRow.laid w) ∧ sizedMet enc Tryz.prog Tryz.f4 (OpenSpec.ofChange Rows.topAfterSpec) false w args)
      (Rows.topAfterSpec.post enc Tryz.prog Tryz.f4 false true false false) := by
  refine returnsInHanded_of_change_and (C := Tryz.checked) (X := fun w _ => laidMetH Tryz.prog Rows.topAfterRow.laid w) (fun _ _ _ hh h => h.of_heap hh) own started (by kernel_rfl) Tryz.func4
    (ChangeSpec.witness_shaped (enc := enc) (C := Tryz.checked) (os := os) (X := fun w _ => laidMetH Tryz.prog Rows.topAfterRow.laid w) false (World.laidAll Tryz.prog os Rows.topAfterRow.laid) #[.slice none 0 0, .slice none 0 0, .int .i64 0] 8 (World.laidAll_os _ _ _)
      (World.shaped_of_ZipB (by kernel_rfl) (by kernel_rfl)) (by kernel_rfl) (by kernel_rfl) (by kernel_rfl)
      (by rw [MakeChecks.laidMetH_plain _ _ _ (by kernel_rfl)]; exact laidMet_laidAll _ (by kernel_rfl) (by kernel_rfl))) ?_
  intro W base args ds gs before hval0 hW hcnd _ _hL _
  have hval : ∀ (j : Nat) t v, Tryz.f4.params[j]? = some t → args[j]? = some v → Value.okWide Tryz.prog W .any base t v := hval0
  have hW' := hW
  obtain ⟨p, q, hA0, hV, rfl, hfz, hnd⟩ := hW
  have hA : DataW.TrodAll enc Tryz.prog W 0 (fun _ => true) true Tryz.f4.params.toList args.toList ds p := hA0
  rw [Tryz.params4] at hA hval
  obtain ⟨v0, vs0, d0, ds0, p0, q0, hargs, rfl, rfl, h0, r0⟩ := trodAll_cons hA
  obtain ⟨v1, vs1, d1, ds1, p1, q1, rfl, rfl, rfl, h1, r1⟩ := trodAll_cons r0
  obtain ⟨v2, vs2, d2, ds2, p2, q2, rfl, rfl, rfl, h2, r2⟩ := trodAll_cons r1
  obtain ⟨rfl, rfl, rfl⟩ := trodAll_nil r2
  obtain rfl : args = #[v0, v1, v2] := by cases args; simp_all
  obtain ⟨rfl, rfl⟩ := trodVars_none hV
  have h0k := h0
  obtain ⟨a0, n0, c0, R0, rfl, w0, f0⟩ := open_raws (hval 0 22 v0 rfl rfl) h0
  have l0 : ∀ x ∈ p0, x.block < W.heap.size := fun x hx => hW'.lt x (by simp [hx])
  have h1k := h1
  obtain ⟨a1, n1, c1, R1, rfl, w1, f1⟩ := open_raws (hval 1 22 v1 rfl rfl) h1
  have l1 : ∀ x ∈ p1, x.block < W.heap.size := fun x hx => hW'.lt x (by simp [hx])
  obtain ⟨a2, rfl, rfl, rfl, w2⟩ := open_int Tryz.underlying3 (hval 2 3 v2 rfl rfl) h2
  clear hA0 hval0
  refine (walk W (pow_of _hL) a0 n0 c0 R0 a1 n1 c1 R1 a2 (And.intro w0 f0) (And.intro w1 f1) w2).mono fun e W' ⟨he, bel⟩ => ?_
  subst he
  exact ⟨_, rfl, _, _, _, [], _, [], hW', trodAll_mk1 (shut_bool Tryz.underlying4 _), (trodAll_cons_mk (Below.trod laidOut (by kernel_rfl) (of_decide_eq_true (by kernel_rfl)) h0k bel l0) (trodAll_cons_mk (Below.trod laidOut (by kernel_rfl) (of_decide_eq_true (by kernel_rfl)) h1k bel l1) (trodAll_cons_mk (shut_int Tryz.underlying3 w2) trodAll_mk0))), rfl, bel.frame _, fun h => by cases h⟩

theorem over : Rows.topAfterRow.holds Tryz.pinned (OpenSpec.ofChange Rows.topAfterSpec) :=
  OpenClaim.holds_of_wide 4 Tryz.f4 rfl rfl rfl rfl rfl rfl rfl ⟨rfl, rfl, rfl, rfl, rfl⟩ rfl rfl rfl rfl rfl (by kernel_rfl) Tryz.func4 (by kernel_rfl)
    (of_decide_eq_true (by kernel_rfl)) (by unfold Func.isWrapper; first | (rw [if_pos (by decide +kernel)]; kernel_rfl) | (rw [if_neg (by decide +kernel)]; exact ⟨rfl, rfl⟩))
    (fun os started H enc _ => lifted os started H enc)
end Go.Proofs.YtahoagbaadnihabGreatDoor.topAfter

namespace Go.Proofs.YtahoagbaadnihabGreatDoor
theorem topAfter_holds : Rows.TopAfterCardSaid :=
  Claim7.holds_tied_plain_at .later [] [.data, .data, .data, .data, .pinned] true (true, "8186e83c2b630ecb5b5db4f58e20c29036d3e3797c5a3ac63be0229e6cb3176b") false
    topAfter.over (fun _ h => by cases h) (by kernel_rfl) (fun _ h => by cases h) topAfter_row_tie rfl ⟨rfl, rfl⟩ (by kernel_rfl) rfl
    (fun f fn hf hfn => by
      obtain rfl : f = 4 := Option.some.inj ((show Tryz.prog.funcNamed "arras/arrastop.TopAfter" = some 4 by kernel_rfl).symm.trans hf) |>.symm
      obtain rfl : fn = Tryz.f4 := (Option.some.inj (Tryz.func4.symm.trans hfn)).symm
      exact ⟨by kernel_rfl, fun j t ht => by
        rw [Tryz.params4] at ht
        have hm : t ∈ [22, 22, 3] := by simpa using Array.mem_of_getElem? ht
        have hall : ([22, 22, 3].all fun u => !Tryz.prog.wantsStandIn u) = true := by kernel_rfl
        exact (show Tryz.prog.wantsStandIn t = false by simpa using List.all_eq_true.1 hall t hm)⟩)
    (by kernel_rfl)
#print axioms topAfter_holds
end Go.Proofs.YtahoagbaadnihabGreatDoor
