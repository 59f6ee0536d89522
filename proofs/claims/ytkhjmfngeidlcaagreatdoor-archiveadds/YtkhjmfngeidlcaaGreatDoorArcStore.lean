/- The bytes of a block and the catalog are written: what the program's archive.store answers. -/
import Derived.Test.YtkhjmfngeidlcaaGreatDoorArcM
import Derived.Test.YtkhjmfngeidlcaaGreatDoorArcNO
import Derived.Test.YtkhjmfngeidlcaaGreatDoorCatEncs
import Derived.Test.YtkhjmfngeidlcaaGreatDoorStrA
import Derived.Test.YtkhjmfngeidlcaaGreatDoorStraight
import Derived.Deep.RegionHeld3
import Derived.Deep.DeepCutAuto
namespace Go.Proofs.YtkhjmfngeidlcaaGreatDoor
open Go.RowKit Go.Lib

theorem rep_noughts (n : Nat) : Lib.repeatL [0] n = List.replicate n 0 := by
  induction n with
  | zero => rfl
  | succ n ih => rw [Lib.repeatL, ih, List.replicate_succ]; rfl
theorem store_rep (c : Nat) (w : World) (hc : c ≤ 100000) :
    Calls Tryz.prog 47 #[.string ⟨#[0]⟩, .int .i64 c] w fun e w' => e = .returned (.string (str (List.replicate c 0))) ∧ Below w.heap.size w w' := by
  have := Tryz.strings_Repeat ⟨#[0]⟩ c w (by omega) (by show 1 * c ≤ _; omega)
  rw [show (⟨#[0]⟩ : ByteArray).data.toList = [0] from rfl, rep_noughts] at this
  exact this
theorem cell_at {w w' : World} {p : Addr} {v : Value} (g : Below w.heap.size w w') (h : w.cell? p = some v) : w'.cell? p = some v := (g.cell (cell_lt h)).trans h
theorem outA_arr {w w' : World} {A : Ar} {a : Option Addr} {n : Nat} (h : (n = 0 ∧ A = [] ∧ a = none) ∨ ∃ b hd, a = some ⟨b, 0, none⟩ ∧ w.heap.size ≤ b ∧ ArrFree w' b 0 n hd A) : ArrAt w' a n A := by
  rcases h with ⟨h1, h2, _⟩ | ⟨b, hd, h1, _, h2⟩
  · exact .inl ⟨h1, h2⟩
  · exact .inr ⟨b, 0, hd, h1, h2.arr⟩

set_option maxHeartbeats 1600000 in
set_option maxRecDepth 4000 in
theorem store_any (a : Option Addr) (n c : Nat) (A : Ar) (x : Option Addr) (d : Nat) (x' : Option Addr) (m d' : Nat) (L : List Bk) (E : List En) (q P : Nat) (s : ByteArray) (w : World) (H : ArrAt w a n A) (HC : CatAt w x (L.length + 1) d x' m (L ++ [⟨q, P⟩], E)) (hL : L.length ≤ 1000)
    (h1 : (stWrite A q s.data.toList).2 = 0) (h2 : catChk (L ++ [⟨q, P⟩], E) = 0) (h3 : (stWrite (stWrite A q s.data.toList).1 0 (imgC (L ++ [⟨q, P⟩], E))).2 = 0) :
    Calls Tryz.prog 16 #[.agg #[.slice a n c], .agg #[.slice x (L.length + 1) d, .slice x' m d'], .string s] w (OutA w ((stWrite (stWrite A q s.data.toList).1 0 (imgC (L ++ [⟨q, P⟩], E))).1, 0)) := by
  obtain ⟨bb, oo, rfl, hbb, x0, x1⟩ := HC.B.c L.length (by omega)
  rw [show bk (L ++ [(⟨q, P⟩ : Bk)]) L.length = ⟨q, P⟩ from bk_end L _] at x0 x1
  dsimp only at x0 x1
  have hel := encB_len _ h2
  obtain ⟨C, hC⟩ : ∃ C : Ct, C = (L ++ [(⟨q, P⟩ : Bk)], E) := ⟨_, rfl⟩
  rw [← hC] at HC h2 h3 hel ⊢
  clear hC
  obtain ⟨K, hK⟩ : ∃ K, L.length = K := ⟨_, rfl⟩
  rw [hK] at x0 x1 hL HC ⊢
  obtain ⟨W, hW⟩ : ∃ W, W = ((w.alloc (.cells #[.slice a n c] 24)).alloc (.cells #[.slice (some ⟨bb, oo, none⟩) (K + 1) d, .slice x' m d'] 40)).alloc (.cells #[.slice none 0 0] 24) := ⟨_, rfl⟩
  have hB : Below w.heap.size w W := by rw [hW]; go_grown
  have k1 : Own W w.heap.size 24 [.slice a n c] := by rw [hW]; exact ((Own.made w 24 [.slice a n c]).alloc _).alloc _
  have k2 : Own W (w.heap.size + 1) 40 [.slice (some ⟨bb, oo, none⟩) (K + 1) d, .slice x' m d'] := by
    have := Own.made (w.alloc (.cells #[.slice a n c] 24)) 40 [.slice (some ⟨bb, oo, none⟩) (K + 1) d, .slice x' m d']
    rw [show (w.alloc (.cells #[.slice a n c] 24)).heap.size = w.heap.size + 1 by simp] at this
    rw [hW]; exact this.alloc _
  have k3 : Own W (w.heap.size + 1 + 1) 24 [.slice none 0 0] := by
    have := Own.made ((w.alloc (.cells #[.slice a n c] 24)).alloc (.cells #[.slice (some ⟨bb, oo, none⟩) (K + 1) d, .slice x' m d'] 40)) 24 [.slice none 0 0]
    rw [show ((w.alloc (.cells #[.slice a n c] 24)).alloc (.cells #[.slice (some ⟨bb, oo, none⟩) (K + 1) d, .slice x' m d'] 40)).heap.size = w.heap.size + 1 + 1 by simp] at this
    rw [hW]; exact this
  have CW := hid (stwrite_any a n c q s A W.drew ((H.below hB).below ((Below.refl _ W).drew)))
  obtain ⟨R, hR⟩ : ∃ R, stWrite A q s.data.toList = R := ⟨_, rfl⟩
  rw [hR] at CW h1 h3 ⊢
  obtain ⟨A1, E1⟩ := R
  dsimp only at CW h1 h3 ⊢
  subst h1
  have HB := hid (And.intro hB (And.intro k1 (And.intro k2 (And.intro k3 (HC.below hB)))))
  have a0 := k1.cell (i := 0) rfl
  have c0 := k2.cell (i := 0) rfl
  have y0 := (hB.cell (p := ⟨bb, oo + K * 2, none⟩) hbb).trans x0
  have l0 : w.heap.size < W.heap.size := k1.lt
  have l1 : w.heap.size + 1 < W.heap.size := k2.lt
  have l2 : bb < W.heap.size := Nat.lt_of_lt_of_le hbb hB.size
  clear hR hK H HC x0 x1 hB k1 k2 k3
  have u0 : IntKind.i64.wrap (K : Int) = K := IntWalk.i64_in _ (by omega)
  have u1 : (0 : Int) ≤ K := by omega
  have u2 : (K : Int) < (K : Int) + 1 := by omega
  go_enter Tryz.func16, Tryz.ntmps16
  go_upto_region 1 with fail
  rw [← hW]
  clear hW
  refine wp_region_till (fun w' => w'.cell? ⟨w.heap.size + 1, 0, none⟩ = some (.slice (some ⟨bb, oo, none⟩) (K + 1) d) ∧ w'.cell? ⟨bb, oo + K * 2, none⟩ = some (.int .i64 q)) (fun w' => w'.cell? ⟨w.heap.size, 0, none⟩ = some (.slice a n c)) 11 (by kernel_rfl) ⟨c0, y0⟩ a0 (fun hT => ?_)
  refine wpTill_late (i := 0) (v := ?v0) rfl (by kernel_rfl) (by kernel_rfl) (by kernel_rfl) (fun _ _ _ h => h) (by rfl) ?hy0 hT ?rest0
  case hy0 => (intro w hSw; (try dsimp only at hSw); go_simp; (first | done | with_reducible rfl))
  clear hT; intro hT; try simp only [Act.put, List.setIfInBounds_toArray, List.set_cons_zero, List.set_cons_succ]
  refine wpTill_take (i := 1) (v := ?v1) rfl (by kernel_rfl) (by kernel_rfl) (by kernel_rfl) (fun _ _ _ h => h) (by rfl) ?hy1 hT ?rest1
  case hy1 => (intro w hSw; (try dsimp only at hSw); go_simp; (first | done | with_reducible rfl))
  clear hT; intro hT; try simp only [Act.put, List.setIfInBounds_toArray, List.set_cons_zero, List.set_cons_succ]
  refine wpTill_take (i := 2) (v := ?v2) rfl (by kernel_rfl) (by kernel_rfl) (by kernel_rfl) (fun _ _ _ h => h) (by rfl) ?hy2 hT ?rest2
  case hy2 => (intro w hSw; (try dsimp only at hSw); go_simp; (first | done | with_reducible rfl))
  clear hT; intro hT; try simp only [Act.put, List.setIfInBounds_toArray, List.set_cons_zero, List.set_cons_succ]
  refine wpTill_take (i := 3) (v := ?v3) rfl (by kernel_rfl) (by kernel_rfl) (by kernel_rfl) (fun _ _ _ h => h) (by rfl) ?hy3 hT ?rest3
  case hy3 => (intro w hSw; (try dsimp only at hSw); go_simp; (first | done | with_reducible rfl))
  clear hT; intro hT; try simp only [Act.put, List.setIfInBounds_toArray, List.set_cons_zero, List.set_cons_succ]
  refine wpTill_take (i := 4) (v := ?v4) rfl (by kernel_rfl) (by kernel_rfl) (by kernel_rfl) (fun _ _ _ h => h) (by rfl) ?hy4 hT ?rest4
  case hy4 => (intro w hSw; (try dsimp only at hSw); go_simp; (first | done | with_reducible rfl))
  clear hT; intro hT; try simp only [Act.put, List.setIfInBounds_toArray, List.set_cons_zero, List.set_cons_succ]
  refine wpTill_take (i := 5) (v := ?v5) rfl (by kernel_rfl) (by kernel_rfl) (by kernel_rfl) (fun _ _ _ h => h) (by rfl) ?hy5 hT ?rest5
  case hy5 => (intro w hSw; (try dsimp only at hSw); go_simp; (first | done | with_reducible rfl))
  clear hT; intro hT; try simp only [Act.put, List.setIfInBounds_toArray, List.set_cons_zero, List.set_cons_succ]
  refine wpTill_take (i := 6) (v := ?v6) rfl (by kernel_rfl) (by kernel_rfl) (by kernel_rfl) (fun _ _ _ h => h) (by rfl) ?hy6 hT ?rest6
  case hy6 => (intro w hSw; (try dsimp only at hSw); go_simp; (first | done | with_reducible rfl))
  clear hT; intro hT; try simp only [Act.put, List.setIfInBounds_toArray, List.set_cons_zero, List.set_cons_succ]
  refine wpTill_take (i := 7) (v := ?v7) rfl (by kernel_rfl) (by kernel_rfl) (by kernel_rfl) (fun _ _ _ h => h) (by rfl) ?hy7 hT ?rest7
  case hy7 => (intro w hSw; (try dsimp only at hSw); go_simp; (first | done | with_reducible rfl))
  clear hT; intro hT; try simp only [Act.put, List.setIfInBounds_toArray, List.set_cons_zero, List.set_cons_succ]
  refine wpTill_take (i := 8) (v := ?v8) rfl (by kernel_rfl) (by kernel_rfl) (by kernel_rfl) (fun _ _ _ h => h) (by rfl) ?hy8 hT ?rest8
  case hy8 => (intro w hSw; (try dsimp only at hSw); go_simp; (first | done | with_reducible rfl))
  clear hT; intro hT; try simp only [Act.put, List.setIfInBounds_toArray, List.set_cons_zero, List.set_cons_succ]
  refine wpTill_take (i := 9) (v := ?v9) rfl (by kernel_rfl) (by kernel_rfl) (by kernel_rfl) (fun _ _ _ h => h) (by rfl) ?hy9 hT ?rest9
  case hy9 => (intro w hSw; (try dsimp only at hSw); go_simp; (first | done | with_reducible rfl))
  clear hT; intro hT; try simp only [Act.put, List.setIfInBounds_toArray, List.set_cons_zero, List.set_cons_succ]
  refine wpTill_take (i := 10) (v := ?v10) rfl (by kernel_rfl) (by kernel_rfl) (by kernel_rfl) (fun _ _ _ h => h) (by rfl) ?hy10 hT ?rest10
  case hy10 => (intro w hSw; (try dsimp only at hSw); go_simp; (first | done | with_reducible rfl))
  clear hT; intro hT; try simp only [Act.put, List.setIfInBounds_toArray, List.set_cons_zero, List.set_cons_succ]
  refine wpTill_step (i := 11) rfl (by kernel_rfl) (fun K' hK => ?_)
  go_simp
  go_at_call 45
  refine CW.out.mono ?_
  rintro _ w5 ⟨⟨x5, n5, c5, rfl, hX⟩, g5⟩
  have g6 := undrew g5
  refine hK.out _ _ ?hS11 ?rest11
  case hS11 => exact ⟨⟨cell_at g6 c0, cell_at g6 y0⟩, fun h => (by cases h)⟩
  clear hT hK K'; intro hT
  refine wpTill_take (i := 12) (v := ?v12) rfl (by kernel_rfl) (by kernel_rfl) (by kernel_rfl) (fun _ _ _ h => h) (by rfl) ?hy12 hT ?rest12
  case hy12 => (intro w hSw; (try dsimp only at hSw); go_simp; (first | done | with_reducible rfl))
  clear hT; intro hT; try simp only [Act.put, List.setIfInBounds_toArray, List.set_cons_zero, List.set_cons_succ]
  refine wpTill_take (i := 13) (v := ?v13) rfl (by kernel_rfl) (by kernel_rfl) (by kernel_rfl) (fun _ _ _ h => h) (by rfl) ?hy13 hT ?rest13
  case hy13 => (intro w hSw; (try dsimp only at hSw); go_simp; (first | done | with_reducible rfl))
  clear hT; intro hT; try simp only [Act.put, List.setIfInBounds_toArray, List.set_cons_zero, List.set_cons_succ]
  refine wpTill_take (i := 14) (v := ?v14) rfl (by kernel_rfl) (by kernel_rfl) (by kernel_rfl) (fun _ _ _ h => h) (by rfl) ?hy14 hT ?rest14
  case hy14 => (intro w hSw; (try dsimp only at hSw); go_simp; (first | done | with_reducible rfl))
  clear hT; intro hT; try simp only [Act.put, List.setIfInBounds_toArray, List.set_cons_zero, List.set_cons_succ]
  have e1 := (HB.out.2.1.below' g6).cell (i := 0) rfl
  have e2 := (HB.out.2.1.below' g6).free 0
  have ee := cell_at g6 y0
  have ec := cell_at g6 c0
  have hbx : w5.cell? ⟨w.heap.size, 0, none⟩ = some (.slice a n c) := e1
  refine wpTill_step (i := 15) rfl (by kernel_rfl) (fun K' hK => ?_)
  go_simp
  refine hK.out _ _ ?hS15 ?rest15
  case hS15 => exact ⟨⟨by rw [World.cell?_setCell_other _ _ _ _ (by simp)]; exact ec, by rw [World.cell?_setCell_other _ _ _ _ (fun e => by have := congrArg Addr.block e; dsimp only at this; omega)]; exact ee⟩, fun h => (by cases h)⟩
  clear hT hK K'; intro hT; try simp only [Act.put, List.setIfInBounds_toArray, List.set_cons_zero, List.set_cons_succ]
  refine wpTill_take (i := 16) (v := ?v16) rfl (by kernel_rfl) (by kernel_rfl) (by kernel_rfl) (fun _ _ _ h => h) (by rfl) ?hy16 hT ?rest16
  case hy16 => (intro w hSw; (try dsimp only at hSw); go_simp; (first | done | with_reducible rfl))
  clear hT; intro hT; try simp only [Act.put, List.setIfInBounds_toArray, List.set_cons_zero, List.set_cons_succ]
  refine wpTill_done (by kernel_rfl) ?_ _
  clear hT
  have k6 : ArrAt (w5.setCell ⟨w.heap.size, 0, none⟩ (.slice x5 n5 c5)) x5 n5 A1 := by
    rcases hX with ⟨h1, h2, _⟩ | ⟨b, hd, h1, hb, h2⟩
    · exact .inl ⟨h1, h2⟩
    · exact .inr ⟨b, 0, hd, h1, (h2.box (p := w.heap.size) (by have hb' : W.heap.size ≤ b := hb; omega) e1 _).arr⟩
  have q1 := (HB.out.2.1.below' g6).set (i := 0) (by simp) (.slice x5 n5 c5)
  have q2 := (HB.out.2.2.1.below' g6).other (p := ⟨w.heap.size, 0, none⟩) (by show w.heap.size + 1 ≠ w.heap.size; omega) (.slice x5 n5 c5)
  have q3 := (HB.out.2.2.2.1.below' g6).other (p := ⟨w.heap.size, 0, none⟩) (by show w.heap.size + 1 + 1 ≠ w.heap.size; omega) (.slice x5 n5 c5)
  have q4 := (HB.out.2.2.2.2.below g6).slices e1 (.slice x5 n5 c5)
  have q5 := (HB.out.1.trans (g6.mono HB.out.1.size)).setCell (p := ⟨w.heap.size, 0, none⟩) (by show w.heap.size ≤ w.heap.size; omega) (.slice x5 n5 c5)
  obtain ⟨W6, hW6⟩ : ∃ W6, W6 = w5.setCell ⟨w.heap.size, 0, none⟩ (.slice x5 n5 c5) := ⟨_, rfl⟩
  rw [← hW6] at k6 q1 q2 q3 q4 q5 ⊢
  clear hW6 g5 g6 hX e1 e2 ee ec hbx c0 y0 a0 CW l0 l1 l2 HB
  have CE := hid (cenc_any (some ⟨bb, oo, none⟩) (K + 1) d x' m d' C W6 q4)
  rw [show catEnc C = (encB C, 0) by rw [catEnc, if_pos h2]] at CE
  dsimp only at CE
  have m0 := q2.cell (i := 0) rfl
  have m1 := q2.cell (i := 1) rfl
  have HQ := hid (And.intro q5 (And.intro q1 (And.intro q3 k6)))
  clear q1 q2 q3 q4 q5 k6
  have hz : (str (encB C)).size = (encB C).length := str_size _
  have HI := hid (show str (encB C) ++ str (List.replicate (192 - (encB C).length) 0) = str (imgC C) by rw [str_app]; rfl)
  have CR := hid (fun wx => store_rep (192 - (encB C).length) wx (by omega))
  obtain ⟨R, hR⟩ : ∃ R, stWrite A1 0 (imgC C) = R := ⟨_, rfl⟩
  have CS := hid (fun (t : ByteArray) wx (g : Below W6.heap.size W6 wx) => stwrite_any x5 n5 c5 0 t A1 wx (HQ.out.2.2.2.below g))
  have CS2 := hid (fun wx (g : Below W6.heap.size W6 wx) => by
    have := CS.out (str (imgC C)) wx g
    rw [str_list, hR] at this
    exact this)
  rw [hR] at h3 ⊢
  obtain ⟨A2, E2⟩ := R
  dsimp only at h3 CS2 ⊢
  subst h3
  have ha : ∀ wx, (Op.stringOp .add (str (encB C)) (str (List.replicate (192 - (encB C).length) 0))).run Tryz.prog wx = .ok (.string (str (imgC C))) wx := fun wx => by
    rw [← HI.out]
    exact run_string_add_sum wx _ _ (by rw [str_size, str_size, List.length_replicate]; omega)
  generalize str (imgC C) = ZY at ha CS2
  have HRR := hid hR
  clear hR CS HI
  have u3 : IntKind.i64.wrap (192 - ((encB C).length : Int)) = ((192 - (encB C).length : Nat) : Int) := by rw [IntWalk.i64_in _ (by omega)]; omega
  generalize 192 - (encB C).length = M at CR u3 ha
  generalize str (List.replicate M 0) = Y at CR ha
  generalize str (encB C) = Z at CE hz ha
  rw [← hz] at u3
  clear hz hel
  generalize (encB C).length = Q at *
  go_wp2_with fail
  refine CE.out.mono ?_
  rintro _ w7 ⟨rfl, g7⟩
  have HR := hid (And.intro g7 (And.intro (HQ.out.2.1.below' g7) (And.intro (HQ.out.2.2.1.below' g7) (HQ.out.1.trans (g7.mono HQ.out.1.size)))))
  have a0 := HR.out.2.1.cell (i := 0) rfl
  have b0 := HR.out.2.2.1.cell (i := 0) rfl
  have b1 := HR.out.2.2.1.free 0
  have lt7 : w.heap.size + 1 + 1 < w7.heap.size := HR.out.2.2.1.lt
  clear CE g7 m0 m1
  have HO := hid (fun (wx w8 : World) (x8 : Option Addr) (n8 c8 : Nat) (g : Below w7.heap.size w7 wx) hX (g8 : Below wx.heap.size wx w8) => outA_box (w := w) (W := wx) (w2 := w8) (p := w.heap.size + 1 + 1) (r := (A2, 0)) (x := x8) (n := n8) (c := c8) (HR.out.2.2.2.trans (g.mono HR.out.2.2.2.size)) (by omega) (Nat.lt_of_lt_of_le lt7 g.size) (cell_at g b0) hX g8)
  go_wp2_with fail
  go_region_held3 (fun w' => w'.cell? ⟨w.heap.size, 0, none⟩ = some (.slice x5 n5 c5)) (go_keep) (first | (go_at_call 47; refine (CR.out _).mono ?_; rintro _ w8 ⟨rfl, g8⟩; (have g8' := undrew g8); (have j8 := cell_at g8' a0); (have G8 := hid g8'); clear g8) | (go_at_call 45; refine (CS2.out _ (HR.out.1.trans (G8.out.mono HR.out.1.size))).mono ?_; rintro _ w9 ⟨⟨x9, n9, c9, rfl, hX⟩, g9⟩; (have j9 := cell_at g9 j8); (have j9b : (w9.setCell ⟨w.heap.size + 1 + 1, 0, none⟩ (.slice x9 n9 c9)).cell? ⟨w.heap.size, 0, none⟩ = some (.slice x5 n5 c5) := by rw [World.cell?_setCell_other _ _ _ _ (fun e => by have := congrArg Addr.block e; dsimp only at this; omega)]; exact j9); (have F9 := hid (HO.out _ w9 x9 n9 c9 G8.out hX g9)); (have d0 := cell_at g9 (cell_at G8.out b0)); (have d1 := (g9.frozen (p := ⟨w.heap.size + 1 + 1, 0, none⟩) (Nat.lt_of_lt_of_le lt7 G8.out.size)).trans ((G8.out.frozen (p := ⟨w.heap.size + 1 + 1, 0, none⟩) lt7).trans b1)); (have y9 := World.cell?_setCell_same w9 ⟨w.heap.size + 1 + 1, 0, none⟩ (.slice x9 n9 c9) d0); clear hX g9))
  all_goals go_wp2
  all_goals (refine bodyPost_ret (v := .tuple #[.agg #[.slice x9 n9 c9], .int .i64 0]) (by simp [results, Tryz.results16, go_sem, y9]) rfl ?_)
  all_goals rw [HRR.out]
  all_goals exact F9.out
end Go.Proofs.YtkhjmfngeidlcaaGreatDoor
