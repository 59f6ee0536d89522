/- What the document's own ReplacedOf answers. -/
import Derived.Test.YtbjnaielicnfhaaArrRefMay
import Derived.Test.YtbjnaielicnfhaaArrRefCopy
import Derived.Test.YtbjnaielicnfhaaArrRefOwn
import Derived.Test.YtbjnaielicnfhaaArrBlank
namespace Go.Proofs.Ytbjnaielicnfhaa
open Go.RowKit Go.Lib

theorem setCell_comm (w : World) (p q : Addr) (u v : Value) (h : p.block ≠ q.block) : (w.setCell p u).setCell q v = (w.setCell q v).setCell p u := by
  unfold World.setCell
  simp only
  congr 1
  apply Array.ext
  · simp
  · intro i h1 h2
    simp only [Array.getElem_modify]
    by_cases e1 : p.block = i
    · have e2 : ¬ q.block = i := fun e => h (e1.trans e.symm)
      simp [e1, e2]
    · simp [e1]

/-- While the new device's sectors are lost: its header stands in the copy already. -/
structure RqI (W3 : World) (b3 K : Nat) (u : Hd) (D : Dv) (k : Nat) (W : World) : Prop where
  ex : ∃ V, W = (V.setCell ⟨b3, K * 2, none⟩ (.slice u.x u.p u.c)).setCell ⟨b3, K * 2 + 1, none⟩ (.slice u.y u.q u.d) ∧ Below W3.heap.size W3 V ∧ DevNew W3.heap.size V u.x u.y (toBlank D k)
theorem RqI.wr {w W3 W : World} {pr pc b3 c3 K k : Nat} {A : Ar} {u : Hd} {D : Dv} (H : RqI W3 b3 K u D k W) (S3 : WrI w pr pc b3 c3 A W3) (hK : K < 3) (hl : u.p = D.1.length ∧ u.q = D.2.length ∧ u.p ≤ maxLen ∧ u.q ≤ maxLen) (hk : k ≤ D.2.length) :
    WrI w pr pc b3 c3 (A.set K (toBlank D k)) W ∧ W.cell? ⟨b3, K * 2 + 1, none⟩ = some (.slice u.y u.q u.d) := by
  obtain ⟨V, rfl, g, dn⟩ := H.ex
  have S := S3.to g
  obtain ⟨h, f⟩ := S.fr
  have dA := dn.at (n := u.p) (m := u.q) hl.1 (by rw [toBlank_len D k hk]; exact hl.2.1) hl.2.2.1 hl.2.2.2
  obtain ⟨⟨_, z1, _⟩, z4, z5⟩ := f.store0 K hK u _ dA
  refine ⟨S.grown z5 ⟨_, z4⟩, World.cell?_setCell_same _ _ _ (u := .slice (h K).y (h K).q (h K).d) ?_⟩
  rw [World.cell?_setCell_other _ _ _ _ (fun e => by have := congrArg Addr.off e; simp at this)]
  exact z1
theorem RqI.step {W3 W : World} {b3 K k : Nat} {u : Hd} {D : Dv} (H : RqI W3 b3 K u D k W) (hb : b3 < W3.heap.size) (hk : k < D.2.length) :
    ∃ q v, u.y = some ⟨q, 0, none⟩ ∧ W.cell? ⟨q, k, none⟩ = some (.bool v) ∧ W.frozen? ⟨q, k, none⟩ = false ∧ RqI W3 b3 K u D (k + 1) (W.setCell ⟨q, k, none⟩ (.bool true)) := by
  obtain ⟨V, rfl, g, dn⟩ := H.ex
  have hk' : k < (toBlank D k).2.length := by rw [toBlank_len D k (by omega)]; exact hk
  obtain ⟨q, v, e, hq, _, c, f⟩ := dn.row hk'
  have hne : b3 ≠ q := by omega
  refine ⟨q, v, e, ?_, ?_, ⟨V.setCell ⟨q, k, none⟩ (.bool true), ?_, g.setCell (p := ⟨q, k, none⟩) hq _, ?_⟩⟩
  · rw [World.cell?_setCell_other _ _ _ _ (fun e => hne (congrArg Addr.block e)), World.cell?_setCell_other _ _ _ _ (fun e => hne (congrArg Addr.block e))]
    exact c
  · rw [World.frozen?_setCell, World.frozen?_setCell]; exact f
  · rw [setCell_comm _ ⟨b3, K * 2 + 1, none⟩ ⟨q, k, none⟩ _ _ hne, setCell_comm _ ⟨b3, K * 2, none⟩ ⟨q, k, none⟩ _ _ hne]
  · rw [← toBlank_step D k hk]
    exact dn.lose e hk'

theorem replaced_state (a : Option Addr) (n c : Nat) (i : Int) (A : Ar) (w : World) (H : ArrAt w a n A) (hm : arMay A = false) :
    Calls Try.prog 21 #[.agg #[.slice a n c], .int .i64 i] w (OutA w ([], 9)) := by
  obtain ⟨W, hW⟩ : ∃ W, W = (w.alloc (.cells #[.slice a n c] 24)).alloc (.cells #[.slice none 0 0] 24) := ⟨_, rfl⟩
  have hB : Below w.heap.size w W := by rw [hW]; go_grown
  have hz : W.heap.size = w.heap.size + 2 := by rw [hW]; simp
  have rc : W.cell? ⟨w.heap.size + 1, 0, none⟩ = some (.slice none 0 0) := by rw [hW]; simp [go_sem]
  have rf : W.frozen? ⟨w.heap.size + 1, 0, none⟩ = false := by rw [hW]; simp [go_sem]
  have HT := hid (armay_any a n c A W (H.below hB))
  have HP := hid (And.intro hB (And.intro hz (And.intro rc rf)))
  have HK := hid (fun x w' (g : Below w.heap.size w w') => outA_none (x := x) g)
  rw [hm, hW] at HT
  have HE := hid hW
  clear hB hz rc rf H hW hm
  go_enter Try.func21, Try.ntmps21
  go_wp2_with fail
  refine HT.out.mono ?_
  rintro _ w1 ⟨rfl, g1⟩
  rw [← HE.out] at g1
  have r1 := (g1.cell (p := ⟨w.heap.size + 1, 0, none⟩) (by show w.heap.size + 1 < W.heap.size; rw [HP.out.2.1]; omega)).trans HP.out.2.2.1
  have r2 := (g1.frozen (p := ⟨w.heap.size + 1, 0, none⟩) (by show w.heap.size + 1 < W.heap.size; rw [HP.out.2.1]; omega)).trans HP.out.2.2.2
  have y0 := World.cell?_setCell_same w1 ⟨w.heap.size + 1, 0, none⟩ (.slice none 0 0) r1
  have G1 := hid ((bel3 HP.out.1 g1).setCell (p := ⟨w.heap.size + 1, 0, none⟩) (by show w.heap.size ≤ w.heap.size + 1; omega) (.slice none 0 0))
  clear g1
  go_wp2
  refine bodyPost_ret (v := .tuple #[.agg #[.slice none 0 0], .int .i64 9]) (by simp [results, Try.results21, go_sem, y0]) rfl ?_
  exact HK.out _ _ G1.out

theorem replaced_range (a : Option Addr) (n c : Nat) (i : Int) (A : Ar) (w : World) (H : ArrAt w a n A) (hm : arMay A = true) (hi : i < 0 ∨ 3 ≤ i) :
    Calls Try.prog 21 #[.agg #[.slice a n c], .int .i64 i] w (OutA w ([], 2)) := by
  obtain ⟨W, hW⟩ : ∃ W, W = (w.alloc (.cells #[.slice a n c] 24)).alloc (.cells #[.slice none 0 0] 24) := ⟨_, rfl⟩
  have hB : Below w.heap.size w W := by rw [hW]; go_grown
  have hz : W.heap.size = w.heap.size + 2 := by rw [hW]; simp
  have rc : W.cell? ⟨w.heap.size + 1, 0, none⟩ = some (.slice none 0 0) := by rw [hW]; simp [go_sem]
  have rf : W.frozen? ⟨w.heap.size + 1, 0, none⟩ = false := by rw [hW]; simp [go_sem]
  have HT := hid (armay_any a n c A W (H.below hB))
  have HP := hid (And.intro hB (And.intro hz (And.intro rc rf)))
  have HK := hid (fun x w' (g : Below w.heap.size w w') => outA_none (x := x) g)
  rw [hm, hW] at HT
  have HE := hid hW
  clear hB hz rc rf H hW hm
  have i1 := fun wx => in_any i 0 2 wx
  rw [decide_eq_false (by omega)] at i1
  have HI := hid i1
  clear i1 hi
  go_enter Try.func21, Try.ntmps21
  go_wp2_with fail
  refine HT.out.mono ?_
  rintro _ w1 ⟨rfl, g1⟩
  rw [← HE.out] at g1
  have r1 := (g1.cell (p := ⟨w.heap.size + 1, 0, none⟩) (by show w.heap.size + 1 < W.heap.size; rw [HP.out.2.1]; omega)).trans HP.out.2.2.1
  have r2 := (g1.frozen (p := ⟨w.heap.size + 1, 0, none⟩) (by show w.heap.size + 1 < W.heap.size; rw [HP.out.2.1]; omega)).trans HP.out.2.2.2
  have y0 := World.cell?_setCell_same w1 ⟨w.heap.size + 1, 0, none⟩ (.slice none 0 0) r1
  have G1 := hid ((bel3 HP.out.1 g1).setCell (p := ⟨w.heap.size + 1, 0, none⟩) (by show w.heap.size ≤ w.heap.size + 1; omega) (.slice none 0 0))
  clear g1
  go_wp2_with (go_at_call 24; refine (HI.out _).mono ?_; rintro _ w9 ⟨rfl, h9⟩; (have h8 := h9.symm); subst h8)
  refine bodyPost_ret (v := .tuple #[.agg #[.slice none 0 0], .int .i64 2]) (by simp [results, Try.results21, go_sem, y0]) rfl ?_
  exact HK.out _ _ G1.out

set_option maxHeartbeats 1600000 in
set_option maxRecDepth 4000 in
theorem replaced_ok (b o c : Nat) (h : Nat → Hd) (K : Nat) (A : Ar) (w : World) (H : Arr w b o 3 h A) (hm : arMay A = true) (hk : K < 3) :
    Calls Try.prog 21 #[.agg #[.slice (some ⟨b, o, none⟩) 3 c], .int .i64 K] w (OutA w (A.set K (blank (dev (arNew (many A)).1 K)), 0)) := by
  obtain ⟨W, hW⟩ : ∃ W, W = (w.alloc (.cells #[.slice (some ⟨b, o, none⟩) 3 c] 24)).alloc (.cells #[.slice none 0 0] 24) := ⟨_, rfl⟩
  have hB : Below w.heap.size w W := by rw [hW]; go_grown
  have hz : W.heap.size = w.heap.size + 2 := by rw [hW]; simp
  have rc : W.cell? ⟨w.heap.size + 1, 0, none⟩ = some (.slice none 0 0) := by rw [hW]; simp [go_sem]
  have rf : W.frozen? ⟨w.heap.size + 1, 0, none⟩ = false := by rw [hW]; simp [go_sem]
  have c0 : W.cell? ⟨w.heap.size, 0, none⟩ = some (.slice (some ⟨b, o, none⟩) 3 c) := by rw [hW]; simp [go_sem]
  have hmm := (arMay_iff A).1 hm
  have HW := H.below hB
  have t0 := HW.three.1.1
  have s0 : many A = (h 0).p := (HW.dv 0 (by omega)).sn.symm
  have nb : (h 0).p ≤ 64 := by rw [← s0]; exact hmm.2.2.2.1
  rw [s0]
  have HT := hid (armay_any (some ⟨b, o, none⟩) 3 c A W (.inr ⟨b, o, h, rfl, HW⟩))
  rw [hm, hW] at HT
  have CC := hid (fun wx (g : Below W.heap.size W wx) => acopy_any (some ⟨b, o, none⟩) 3 c A wx (.inr ⟨b, o, h, rfl, HW.below g⟩) (may_fits A hm))
  have nb1 : 16 ≤ (h 0).p := by rw [← s0]; exact hmm.2.2.1
  have ne2 : (h 0).p % 2 = 0 := by rw [← s0]; exact hmm.2.2.2.2.1
  have CD := hid (fun wx => aof_own (h 0).p wx nb1 nb ne2)
  rw [arNew, if_pos (by omega)]
  generalize ([(dvNew ((h 0).p : Int) 0).1, (dvNew ((h 0).p : Int) 0).1, (dvNew (((h 0).p : Int) / 2) 512).1] : Ar) = N at CD
  generalize hDN : dev N K = D
  have HDN := hid hDN
  clear hDN
  have i1 := fun wx => in_any (K : Int) 0 2 wx
  rw [decide_eq_true (by omega)] at i1
  have HI := hid i1
  have HP := hid (And.intro hB (And.intro hz (And.intro c0 (And.intro rc (And.intro rf (And.intro t0 HW.lt))))))
  have HE := hid hW
  have k0 : ¬ (K : Int) < 0 := by omega
  have k3 : ¬ (3 : Int) ≤ K := by omega
  have k4 : (K : Int) < 3 := by omega
  clear hB hz rc rf c0 H hW HW hm hmm s0 t0 nb1 ne2 i1
  go_enter Try.func21, Try.ntmps21
  go_wp2_with fail
  refine HT.out.mono ?_
  rintro _ w1 ⟨rfl, g1⟩
  rw [← HE.out] at g1
  have d0 := (g1.cell (p := ⟨w.heap.size, 0, none⟩) (by show w.heap.size < W.heap.size; rw [HP.out.2.1]; omega)).trans HP.out.2.2.1
  have G1 := hid g1
  clear g1 HT HE
  go_wp2_with (go_at_call 24; refine (HI.out _).mono ?_; rintro _ w9 ⟨rfl, h9⟩; (have h8 := h9.symm); subst h8)
  refine (CC.out _ G1.out).mono ?_
  rintro _ w3 ⟨a3, c3, rfl, h3, g3⟩
  rcases h3 with ⟨h30, _⟩ | ⟨b3, hd3, rfl, hb3, hf3⟩
  · omega
  have hst := wrI_start (pr := w.heap.size + 1) (cc := c3) HP.out.1 (by omega) (by rw [HP.out.2.1]; omega) HP.out.2.2.2.1 HP.out.2.2.2.2.1 (bel3 G1.out g3) (Nat.le_trans G1.out.size hb3) hf3
  have S3 := hid hst
  go_upto_region 6 with fail
  obtain ⟨W3, hW3⟩ : ∃ W3, W3 = w3.alloc (.cells #[.slice (some ⟨b3, 0, none⟩) 3 c3] 24) := ⟨_, rfl⟩
  have b3' : Below w3.heap.size w3 W3 := by rw [hW3]; exact (Below.refl _ w3).alloc (Nat.le_refl _) _
  have G3 := bel3 (bel3 G1.out g3) b3'
  rw [← hW3] at S3 ⊢
  clear hW3 hst hf3 hb3 g3 d0 G1 CC b3' k0 k3
  generalize w3.heap.size = pc at S3 ⊢
  have d0 := (G3.cell (p := ⟨w.heap.size, 0, none⟩) (by show w.heap.size < W.heap.size; rw [HP.out.2.1]; omega)).trans HP.out.2.2.1
  have d1 := (G3.cell (p := ⟨b, o, none⟩) HP.out.2.2.2.2.2.2).trans HP.out.2.2.2.2.2.1
  clear G3
  go_wp2_with fail
  refine (CD.out _).mono ?_
  rintro _ w4 ⟨bb, hh, rfl, hbb, hF, hN, g4⟩
  clear d0 d1
  go_upto_region 7 with fail
  obtain ⟨W4, hW4⟩ : ∃ W4, W4 = w4.alloc (.cells #[.slice (some ⟨bb, 0, none⟩) 3 3] 24) := ⟨_, rfl⟩
  have b4 : Below w4.heap.size w4 W4 := by rw [hW4]; exact (Below.refl _ w4).alloc (Nat.le_refl _) _
  have p0 : W4.cell? ⟨w4.heap.size, 0, none⟩ = some (.slice (some ⟨bb, 0, none⟩) 3 3) := by rw [hW4]; simp
  rw [← hW4]
  have F4 := (hF.below b4).arr
  have q0 := F4.c0 K hk
  have q1 := F4.c1 K hk
  rw [Nat.zero_add] at q0 q1
  have G4 := hid (bel3 g4 b4)
  have N4 := (hN K hk).below' b4
  have L4 := F4.dv K hk
  rw [HDN.out] at N4 L4
  have HL := hid (And.intro L4.sn (And.intro L4.sm (And.intro L4.nb L4.mb)))
  generalize hh K = u at q0 q1 N4 HL L4
  have HD := hid N4
  have mb := HL.out.2.2.2
  unfold maxLen at mb
  clear hW4 hF hN g4 b4 F4 N4 L4 CD hbb
  generalize w4.heap.size = pb at p0 ⊢
  have S4 := S3.out.to G4.out
  have cb := S4.cb
  obtain ⟨h5, f5⟩ := S4.fr
  have v0 := f5.arr.c0 K hk
  have v1 := f5.arr.c1 K hk
  rw [Nat.zero_add] at v0 v1
  have v2 := f5.free (K * 2)
  have v3 := f5.free (K * 2 + 1)
  clear S4 f5
  go_cut [] (fun wx => RqI W3 b3 K u D 0 wx)
  case first =>
    go_region
    all_goals (go_wp2_with fail; go_meet)
    all_goals exact ⟨_, rfl, G4.out.drew, by rw [toBlank_none]; exact HD.out.below' ((Below.refl _ W4).drew)⟩
  case rest =>
    have S5 := hid hcut
    clear hcut G4 HD p0 q0 q1 cb v0 v1 v2 v3
    have HB := hid (show b3 < W3.heap.size by obtain ⟨_, f⟩ := S3.out.fr; exact f.arr.lt)
    go_wp2_with fail
    go_loopw [9] (fun i wr => ∃ k : Nat, k ≤ u.q ∧ i = .int .i64 k ∧ RqI W3 b3 K u D k wr) (fun i _ => u.q - (intOf i).toNat)
    case atStart => exact ⟨0, Nat.zero_le _, rfl, S5.out⟩
    case round =>
      obtain ⟨k, hkm, rfl, hI⟩ := hrel
      clear S5
      obtain ⟨S7, e1⟩ := hI.wr S3.out hk HL.out (by rw [← HL.out.2.1]; exact hkm)
      have cb := S7.cb
      by_cases hlt : k < u.q
      · have hlt' : (k : Int) < u.q := by omega
        obtain ⟨q, v, hy, q1, q2, hI'⟩ := hI.step HB.out (by rw [← HL.out.2.1]; exact hlt)
        rw [hy] at e1
        have HI := hid hI'
        clear hI hI' S7 hy
        go_wp2
        go_roundw
        case rel => exact ⟨k + 1, by omega, by go_num, HI.out⟩
        case measure => simp [intOf]; omega
      · obtain rfl : k = u.q := by omega
        have hnl : ¬ (u.q : Int) < u.q := by omega
        have m64 : u.q = D.2.length := HL.out.2.1
        rw [m64, toBlank_all] at S7
        have HS := hid S7
        have rc := S7.rc
        have rf := S7.rf
        have y0 := World.cell?_setCell_same _ ⟨w.heap.size + 1, 0, none⟩ (.slice (some ⟨b3, 0, none⟩) 3 c3) rc
        clear S7 hI m64
        go_wp2
        refine bodyPost_ret (v := .tuple #[.agg #[.slice (some ⟨b3, 0, none⟩) 3 c3], .int .i64 0]) (by simp [results, Try.results21, go_sem, y0]) rfl ?_
        exact HS.out.out
theorem replaced_any (a : Option Addr) (n c : Nat) (i : Int) (A : Ar) (w : World) (H : ArrAt w a n A) :
    Calls Try.prog 21 #[.agg #[.slice a n c], .int .i64 i] w (OutA w (arReplace A i)) := by
  unfold arReplace
  by_cases hm : arMay A = true
  · rw [if_pos hm]
    by_cases hi : 0 ≤ i ∧ i ≤ 2
    · rw [if_pos hi]
      obtain ⟨K, rfl⟩ : ∃ K : Nat, i = K := ⟨i.toNat, by omega⟩
      obtain ⟨rfl, b, o, h, rfl, HX⟩ := may_three H hm
      rw [show (K : Int).toNat = K by omega]
      exact replaced_ok b o c h K A w HX hm (by omega)
    · rw [if_neg hi]
      exact replaced_range a n c i A w H hm (by omega)
  · rw [if_neg hm]
    exact replaced_state a n c i A w H (by simpa using hm)
end Go.Proofs.Ytbjnaielicnfhaa
