/- Joined texts: ShlDo, ShlRun. -/
import Derived.Test.YtahoagbaadnihabGreatDoorShlSC
import Derived.Test.YtahoagbaadnihabGreatDoorScrubSH
import Derived.Test.YtahoagbaadnihabGreatDoorArcAdds
import Derived.Test.YtahoagbaadnihabGreatDoorArcGN
import Derived.BigQuiet
import Derived.Test.YtahoagbaadnihabGreatDoorArcNO
/- What the program's shell does with one act: the session behind it, and what is answered. -/
namespace Go.Proofs.YtahoagbaadnihabGreatDoor
open Go.RowKit Go.Lib

/-- The two boxes at the beginning: the act, the answer. -/
structure DoI (w : World) (p : Nat) (h : Ha) (q : Ax) (W : World) : Prop where
  ax : Own W w.heap.size 29 (axC q)
  an : Own W (w.heap.size + 1) 42 zero5
  se : Se W p h
  lt : w.heap.size + 2 ≤ W.heap.size
  pl : p < w.heap.size
  chg : Chg (fun j => j = p) w W
theorem doI_start {w : World} {p : Nat} {h : Ha} (q : Ax) (H : Se w p h) : DoI w p h q ((w.alloc (.cells (axC q).toArray 29)).alloc (.cells zero5.toArray 42)) ∧ Below w.heap.size w ((w.alloc (.cells (axC q).toArray 29)).alloc (.cells zero5.toArray 42)) := by
  have b1 : Below w.heap.size w (w.alloc (.cells (axC q).toArray 29)) := (Below.refl _ w).alloc (Nat.le_refl _) _
  have hB : Below w.heap.size w ((w.alloc (.cells (axC q).toArray 29)).alloc (.cells zero5.toArray 42)) := b1.alloc b1.size _
  have o5 := Own.made (w.alloc (.cells (axC q).toArray 29)) 42 zero5
  rw [show (w.alloc (.cells (axC q).toArray 29)).heap.size = w.heap.size + 1 by simp] at o5
  exact ⟨⟨(Own.made w 29 (axC q)).alloc _, o5, H.below hB, by simp, H.lt, chg_below _ hB⟩, hB⟩
section
variable {w W W' : World} {p : Nat} {h h' : Ha} {q : Ax}
theorem DoI.to (H : DoI w p h q W) (g : Below W.heap.size W W') : DoI w p h q W' := ⟨H.ax.below' g, H.an.below' g, H.se.below g, Nat.le_trans H.lt g.size, H.pl, H.chg.to g⟩
/-- .. behind a call of keep. -/
theorem DoI.kept (H : DoI w p h q W) (hs : Se W' p h') (g : Chg (fun j => j = p) W W') : DoI w p h' q W' := by
  have pl := H.pl
  have l := H.lt
  exact ⟨H.ax.of_block (g.block _ (by omega) (by omega)), H.an.of_block (g.block _ (by omega) (by omega)), hs, Nat.le_trans l g.size, pl, H.chg.step g⟩
/-- The answer is stored into its box. -/
theorem DoI.out (H : DoI w p h q W) (x : Nx) (hx : NxOk W x) (hn : NxNew (w.heap.size + 2) x) :
    OutDo w p (h, x.r) (.returned (nxA x)) (((((W.setCell ⟨w.heap.size + 1, 0, none⟩ (.int .i64 x.r.code)).setCell ⟨w.heap.size + 1, 1, none⟩ (.string (str x.r.data))).setCell ⟨w.heap.size + 1, 2, none⟩ (.slice x.f.a x.f.n x.f.c)).setCell ⟨w.heap.size + 1, 3, none⟩ (.int .i64 x.r.count)).setCell ⟨w.heap.size + 1, 4, none⟩ (.slice x.g.a x.g.n x.g.c)) := by
  have pl := H.pl
  have l := H.lt
  have k := keepz_ret5 H.an (.int .i64 x.r.code) (.string (str x.r.data)) (.slice x.f.a x.f.n x.f.c) (.int .i64 x.r.count) (.slice x.g.a x.g.n x.g.c)
  have c1 := ((((((Chg.refl (fun j => j = w.heap.size + 1) W).set (p := w.heap.size + 1) rfl 0 (.int .i64 x.r.code)).set (p := w.heap.size + 1) rfl 1 (.string (str x.r.data))).set (p := w.heap.size + 1) rfl 2 (.slice x.f.a x.f.n x.f.c)).set (p := w.heap.size + 1) rfl 3 (.int .i64 x.r.count)).set (p := w.heap.size + 1) rfl 4 (.slice x.g.a x.g.n x.g.c))
  have hp : p < W.heap.size := H.se.lt
  refine ⟨x, rfl, rfl, ?_, ⟨hn.1.less (by omega), hn.2.less (by omega)⟩, H.se.keepz k (c1.block p hp (by omega)), chg_ret5 H.chg (by omega) _ _ _ _ _⟩
  refine hx.grown (row := some (w.heap.size + 1)) (hn.off (fun g e => by cases e; omega)) ⟨c1.os, c1.tape, c1.output, c1.size, fun k hk hne => c1.block k hk (fun e => hne (by rw [e]))⟩
end
/-- An array that a layer answered, to be kept. -/
theorem kept_arr {w0 w : World} {r : Ar × Int} {x : Option Addr} {n p : Nat} (hp : p < w0.heap.size) (hX : (n = 0 ∧ r.1 = [] ∧ x = none) ∨ ∃ b h, x = some ⟨b, 0, none⟩ ∧ w0.heap.size ≤ b ∧ ArrFree w b 0 n h r.1) (hm : r.2 = 0 → arMay r.1 = true) :
    r.2 = 0 → ∃ b o hd, x = some ⟨b, o, none⟩ ∧ n = 3 ∧ Arr w b o 3 hd r.1 ∧ b ≠ p ∧ arMay r.1 = true := by
  intro e
  have h3 := ((arMay_iff _).1 (hm e)).1
  rcases hX with ⟨_, h1, _⟩ | ⟨b, hd, h1, h2, h4⟩
  · rw [h1] at h3; cases h3
  · have hn : n = 3 := by rw [h4.arr.sn]; exact h3
    subst hn
    exact ⟨b, 0, hd, h1, rfl, h4.arr, by omega, hm e⟩
theorem chgA_may (A : Ar) (hm : arMay A = true) (d : Int) (X : Dv × Int) (hX : X.2 = 0 → dvMay X.1 = true ∧ X.1.1.length = (dev A d.toNat).1.length) (h : (chgA A d X).2 = 0) : arMay (chgA A d X).1 = true := by
  unfold chgA at h ⊢
  split at h
  · rename_i hd
    rw [if_pos hd]
    split at h
    · rename_i e
      rw [if_pos e]
      exact (in_may A hm d.toNat (by omega) _ (hX e).1 (hX e).2).1
    · rename_i e
      exact absurd h e
  · cases h
theorem hurtx_lose (A : Ar) (F : List Fi) (s : ByteArray) (d n a b : Int) : hurtX A ⟨4, F, s, d, n, a, b⟩ = dvLose (dev A d.toNat) n := by
  show (if (4 : Int) = 5 then _ else dvLose (dev A d.toNat) n) = _
  rw [if_neg (by decide)]
theorem hurtx_turn (A : Ar) (F : List Fi) (s : ByteArray) (d n a b : Int) : hurtX A ⟨5, F, s, d, n, a, b⟩ = dvTurn (dev A d.toNat) n a b := by
  show (if (5 : Int) = 5 then dvTurn (dev A d.toNat) n a b else _) = _
  rw [if_pos rfl]
theorem hurt_chg (h : Ha) (x : Ac) (X : Dv × Int) (hX : hurtX h.A x = X) : actHurt h x = (if (chgA h.A x.d X).2 = 0 then ((⟨(chgA h.A x.d X).1, h.nx, h.rd⟩ : Ha), anE 0) else (h, anE (chgA h.A x.d X).2)) := by
  unfold actHurt chgA
  rw [hX]
  by_cases hd : 0 ≤ x.d ∧ x.d ≤ 2
  · rw [if_pos hd, if_pos hd]
    by_cases e : X.2 = 0
    · rw [if_pos e, if_pos e, if_pos rfl]
    · rw [if_neg e, if_neg e, if_neg e]
  · rw [if_neg hd, if_neg hd, if_neg (by decide)]
theorem keep_ha (h : Ha) (r : Ar × Int) : (if r.2 = 0 then ((⟨r.1, h.nx, h.rd⟩ : Ha), anE 0) else (h, anE r.2)) = (if r.2 = 0 then (⟨r.1, h.nx, h.rd⟩ : Ha) else h, anE r.2) := by
  split
  · rename_i e; rw [e]
  · rfl

section
variable (p : Nat) (h : Ha) (w : World)
set_option maxHeartbeats 1600000 in
set_option maxRecDepth 4000 in
theorem do_add (F : List Fi) (s : ByteArray) (d n at_ by_ : Int) (fa : Option Addr) (fn fc : Nat) (H : Se w p h) (hF : fn ≤ fc ∧ FilAt w fa fn F) :
    Calls Tryz.prog 34 #[.pointer (some ⟨p, 0, none⟩), .agg #[.int .i64 1, .slice fa fn fc, .string s, .int .i64 d, .int .i64 n, .int .i64 at_, .int .i64 by_]] w (OutDo w p (actAdd h F)) := by
  obtain ⟨S0, B0⟩ := doI_start ⟨⟨1, F, s, d, n, at_, by_⟩, ⟨fa, fn, fc⟩⟩ H
  obtain ⟨W, hW⟩ : ∃ W, W = (w.alloc (.cells (axC ⟨⟨1, F, s, d, n, at_, by_⟩, ⟨fa, fn, fc⟩⟩).toArray 29)).alloc (.cells zero5.toArray 42) := ⟨_, rfl⟩
  rw [← hW] at S0 B0
  have hW' : W = (w.alloc (.cells #[.int .i64 1, .slice fa fn fc, .string s, .int .i64 d, .int .i64 n, .int .i64 at_, .int .i64 by_] 29)).alloc (.cells #[.int .i64 0, .string ⟨#[]⟩, .slice none 0 0, .int .i64 0, .slice none 0 0] 42) := hW
  clear hW
  obtain ⟨b0, o0, cc, hd0, h1, h2, h3⟩ := S0.se.ex
  have d0 := h1.cell (i := 0) rfl
  have x0 := S0.ax.cell (i := 0) rfl
  have x1 := S0.ax.cell (i := 1) rfl
  unfold actAdd
  have CA := hid (fun wx (g : Below W.heap.size W wx) => aadd_any (some ⟨b0, o0, none⟩) 3 cc h.A fa fn fc F wx (.inr ⟨b0, o0, hd0, rfl, h2.below g⟩) ((hF.2.below B0).below g) hF.1)
  have HM := hid (add_may h.A F)
  generalize addA h.A F = r at CA HM
  have HP := hid (And.intro S0 B0)
  rw [keep_ha]
  obtain ⟨ra, hra⟩ : ∃ ra : Ha × An, (if r.2 = 0 then (⟨r.1, h.nx, h.rd⟩ : Ha) else h, anE r.2) = ra := ⟨_, rfl⟩
  rw [hra]
  have HRA := hid hra
  clear hra
  clear h1 h2 h3 H S0 B0
  go_enter Tryz.func34, Tryz.ntmps34
  go_upto_region 1 with fail
  rw [← hW']
  clear hW'
  go_wp2_with fail
  go_region_with (first
    | (go_at_call 50; refine (CA.out _ (by go_grown)).mono ?_; rintro _ w3 ⟨⟨x, n1, e1, rfl, hX⟩, g3⟩; (have S3 := hid (HP.out.1.to (by first | exact g3 | exact undrew g3))); (have hX3 := hid hX); clear hX g3)
    | (go_at_call 49; refine (keep_any p h _ _ _ r.2 r.1 _ S3.out.se (kept_arr (w0 := W) (by have := S3.out.pl; have := HP.out.1.lt; omega) hX3.out HM.out)).mono ?_; rintro _ w4 ⟨rfl, s4, c4⟩; (have S4 := hid (S3.out.kept s4 c4)); (obtain ⟨⟨y0, y1, y2, y3, y4⟩, _⟩ := own_ret5 S4.out.an (.int .i64 r.2) (.string ⟨#[]⟩) (.slice none 0 0) (.int .i64 0) (.slice none 0 0)); clear s4 c4; (have v0 := S4.out.an.cell (i := 0) rfl); (have f0 := S4.out.an.free 0); (have v1 := S4.out.an.cell (i := 1) rfl); (have f1 := S4.out.an.free 1); (have v2 := S4.out.an.cell (i := 2) rfl); (have f2 := S4.out.an.free 2); (have v3 := S4.out.an.cell (i := 3) rfl); (have f3 := S4.out.an.free 3); (have v4 := S4.out.an.cell (i := 4) rfl); (have f4 := S4.out.an.free 4)))
  all_goals go_wp2
  all_goals refine bodyPost_ret (v := .agg #[.int .i64 r.2, .string ⟨#[]⟩, .slice none 0 0, .int .i64 0, .slice none 0 0]) (by simp [results, Tryz.results34, go_sem, y0, y1, y2, y3, y4]) rfl ?_
  all_goals rw [← HRA.out]
  all_goals exact S4.out.out (nxE r.2) (nxE_ok _ _) (nxE_new _ _)
set_option maxHeartbeats 1600000 in
set_option maxRecDepth 4000 in
theorem do_new (F : List Fi) (s : ByteArray) (d n at_ by_ : Int) (fa : Option Addr) (fn fc : Nat) (H : Se w p h) :
    Calls Tryz.prog 34 #[.pointer (some ⟨p, 0, none⟩), .agg #[.int .i64 6, .slice fa fn fc, .string s, .int .i64 d, .int .i64 n, .int .i64 at_, .int .i64 by_]] w (OutDo w p (actNew h d)) := by
  obtain ⟨S0, B0⟩ := doI_start ⟨⟨6, F, s, d, n, at_, by_⟩, ⟨fa, fn, fc⟩⟩ H
  obtain ⟨W, hW⟩ : ∃ W, W = (w.alloc (.cells (axC ⟨⟨6, F, s, d, n, at_, by_⟩, ⟨fa, fn, fc⟩⟩).toArray 29)).alloc (.cells zero5.toArray 42) := ⟨_, rfl⟩
  rw [← hW] at S0 B0
  have hW' : W = (w.alloc (.cells #[.int .i64 6, .slice fa fn fc, .string s, .int .i64 d, .int .i64 n, .int .i64 at_, .int .i64 by_] 29)).alloc (.cells #[.int .i64 0, .string ⟨#[]⟩, .slice none 0 0, .int .i64 0, .slice none 0 0] 42) := hW
  clear hW
  obtain ⟨b0, o0, cc, hd0, h1, h2, h3⟩ := S0.se.ex
  have d0 := h1.cell (i := 0) rfl
  have x0 := S0.ax.cell (i := 0) rfl
  have x1 := S0.ax.cell (i := 3) rfl
  unfold actNew
  have CA := hid (fun wx (g : Below W.heap.size W wx) => arreplace_any (some ⟨b0, o0, none⟩) 3 cc d h.A wx (.inr ⟨b0, o0, hd0, rfl, h2.below g⟩))
  have HM := hid (replace_may h.A d)
  generalize arReplace h.A d = r at CA HM
  have HP := hid (And.intro S0 B0)
  rw [keep_ha]
  obtain ⟨ra, hra⟩ : ∃ ra : Ha × An, (if r.2 = 0 then (⟨r.1, h.nx, h.rd⟩ : Ha) else h, anE r.2) = ra := ⟨_, rfl⟩
  rw [hra]
  have HRA := hid hra
  clear hra
  clear h1 h2 h3 H S0 B0
  go_enter Tryz.func34, Tryz.ntmps34
  go_upto_region 1 with fail
  rw [← hW']
  clear hW'
  go_wp2_with fail
  go_region_with (first
    | (go_at_call 58; refine (CA.out _ (by go_grown)).mono ?_; rintro _ w3 ⟨⟨x, n1, e1, rfl, hX⟩, g3⟩; (have S3 := hid (HP.out.1.to (by first | exact g3 | exact undrew g3))); (have hX3 := hid hX); clear hX g3)
    | (go_at_call 49; refine (keep_any p h _ _ _ r.2 r.1 _ S3.out.se (kept_arr (w0 := W) (by have := S3.out.pl; have := HP.out.1.lt; omega) hX3.out HM.out)).mono ?_; rintro _ w4 ⟨rfl, s4, c4⟩; (have S4 := hid (S3.out.kept s4 c4)); (obtain ⟨⟨y0, y1, y2, y3, y4⟩, _⟩ := own_ret5 S4.out.an (.int .i64 r.2) (.string ⟨#[]⟩) (.slice none 0 0) (.int .i64 0) (.slice none 0 0)); clear s4 c4; (have v0 := S4.out.an.cell (i := 0) rfl); (have f0 := S4.out.an.free 0); (have v1 := S4.out.an.cell (i := 1) rfl); (have f1 := S4.out.an.free 1); (have v2 := S4.out.an.cell (i := 2) rfl); (have f2 := S4.out.an.free 2); (have v3 := S4.out.an.cell (i := 3) rfl); (have f3 := S4.out.an.free 3); (have v4 := S4.out.an.cell (i := 4) rfl); (have f4 := S4.out.an.free 4)))
  all_goals go_wp2
  all_goals refine bodyPost_ret (v := .agg #[.int .i64 r.2, .string ⟨#[]⟩, .slice none 0 0, .int .i64 0, .slice none 0 0]) (by simp [results, Tryz.results34, go_sem, y0, y1, y2, y3, y4]) rfl ?_
  all_goals rw [← HRA.out]
  all_goals exact S4.out.out (nxE r.2) (nxE_ok _ _) (nxE_new _ _)
set_option maxHeartbeats 1600000 in
set_option maxRecDepth 4000 in
theorem do_lose (F : List Fi) (s : ByteArray) (d n at_ by_ : Int) (fa : Option Addr) (fn fc : Nat) (H : Se w p h) :
    Calls Tryz.prog 34 #[.pointer (some ⟨p, 0, none⟩), .agg #[.int .i64 4, .slice fa fn fc, .string s, .int .i64 d, .int .i64 n, .int .i64 at_, .int .i64 by_]] w (OutDo w p (actHurt h ⟨4, F, s, d, n, at_, by_⟩)) := by
  obtain ⟨S0, B0⟩ := doI_start ⟨⟨4, F, s, d, n, at_, by_⟩, ⟨fa, fn, fc⟩⟩ H
  obtain ⟨W, hW⟩ : ∃ W, W = (w.alloc (.cells (axC ⟨⟨4, F, s, d, n, at_, by_⟩, ⟨fa, fn, fc⟩⟩).toArray 29)).alloc (.cells zero5.toArray 42) := ⟨_, rfl⟩
  rw [← hW] at S0 B0
  have hW' : W = (w.alloc (.cells #[.int .i64 4, .slice fa fn fc, .string s, .int .i64 d, .int .i64 n, .int .i64 at_, .int .i64 by_] 29)).alloc (.cells #[.int .i64 0, .string ⟨#[]⟩, .slice none 0 0, .int .i64 0, .slice none 0 0] 42) := hW
  clear hW
  obtain ⟨b0, o0, cc, hd0, h1, h2, h3⟩ := S0.se.ex
  have d0 := h1.cell (i := 0) rfl
  have x0 := S0.ax.cell (i := 0) rfl
  have x1 := S0.ax.cell (i := 3) rfl
  have hX : (dvLose (dev h.A d.toNat) n).2 = 0 → dvMay (dvLose (dev h.A d.toNat) n).1 = true ∧ (dvLose (dev h.A d.toNat) n).1.1.length = (dev h.A d.toNat).1.length := fun e => by
    have := hurtx_keeps h.A ⟨4, F, s, d, n, at_, by_⟩
    rw [hurtx_lose] at this
    exact this e
  have eA := hurt_chg h ⟨4, F, s, d, n, at_, by_⟩ _ (hurtx_lose h.A F s d n at_ by_)
  dsimp only at eA
  rw [eA]
  clear eA
  have CA := hid (fun wx (g : Below W.heap.size W wx) => schange_any b0 o0 cc hd0 d 54 #[.pointer (some ⟨w.heap.size, 0, none⟩)] h.A (dvLose (dev h.A d.toNat) n) wx (h2.below g) S0.se.may (enters_of Tryz.func54 (by kernel_rfl) rfl) (fun _ w1 g1 x n1 e y m e' hD => slose_any x n1 e y m e' w.heap.size n (dev h.A d.toNat) w1 hD ((g1.cell (p := ⟨w.heap.size, 4, none⟩) (by have := S0.lt; have := g.size; show w.heap.size < wx.heap.size; omega)).trans ((S0.ax.below' g).cell (i := 4) rfl)) (by have := S0.lt; have := g.size; have := g1.size; omega)))
  have HM := hid (chgA_may h.A S0.se.may d (dvLose (dev h.A d.toNat) n) hX)
  generalize chgA h.A d (dvLose (dev h.A d.toNat) n) = r at CA HM
  have HP := hid (And.intro S0 B0)
  rw [keep_ha]
  obtain ⟨ra, hra⟩ : ∃ ra : Ha × An, (if r.2 = 0 then (⟨r.1, h.nx, h.rd⟩ : Ha) else h, anE r.2) = ra := ⟨_, rfl⟩
  rw [hra]
  have HRA := hid hra
  clear hra
  clear h1 h2 h3 H S0 B0
  go_enter Tryz.func34, Tryz.ntmps34
  go_upto_region 1 with fail
  rw [← hW']
  clear hW'
  go_wp2_with fail
  go_region_with (first
    | (go_at_call 53; refine (CA.out _ (by go_grown)).mono ?_; rintro _ w3 ⟨⟨x, n1, e1, rfl, hX⟩, g3⟩; (have S3 := hid (HP.out.1.to (by first | exact g3 | exact undrew g3))); (have hX3 := hid hX); clear hX g3)
    | (go_at_call 49; refine (keep_any p h _ _ _ r.2 r.1 _ S3.out.se (kept_arr (w0 := W) (by have := S3.out.pl; have := HP.out.1.lt; omega) hX3.out HM.out)).mono ?_; rintro _ w4 ⟨rfl, s4, c4⟩; (have S4 := hid (S3.out.kept s4 c4)); (obtain ⟨⟨y0, y1, y2, y3, y4⟩, _⟩ := own_ret5 S4.out.an (.int .i64 r.2) (.string ⟨#[]⟩) (.slice none 0 0) (.int .i64 0) (.slice none 0 0)); clear s4 c4; (have v0 := S4.out.an.cell (i := 0) rfl); (have f0 := S4.out.an.free 0); (have v1 := S4.out.an.cell (i := 1) rfl); (have f1 := S4.out.an.free 1); (have v2 := S4.out.an.cell (i := 2) rfl); (have f2 := S4.out.an.free 2); (have v3 := S4.out.an.cell (i := 3) rfl); (have f3 := S4.out.an.free 3); (have v4 := S4.out.an.cell (i := 4) rfl); (have f4 := S4.out.an.free 4)))
  all_goals go_wp2
  all_goals refine bodyPost_ret (v := .agg #[.int .i64 r.2, .string ⟨#[]⟩, .slice none 0 0, .int .i64 0, .slice none 0 0]) (by simp [results, Tryz.results34, go_sem, y0, y1, y2, y3, y4]) rfl ?_
  all_goals rw [← HRA.out]
  all_goals exact S4.out.out (nxE r.2) (nxE_ok _ _) (nxE_new _ _)
set_option maxHeartbeats 1600000 in
set_option maxRecDepth 4000 in
theorem do_turn (F : List Fi) (s : ByteArray) (d n at_ by_ : Int) (fa : Option Addr) (fn fc : Nat) (H : Se w p h) :
    Calls Tryz.prog 34 #[.pointer (some ⟨p, 0, none⟩), .agg #[.int .i64 5, .slice fa fn fc, .string s, .int .i64 d, .int .i64 n, .int .i64 at_, .int .i64 by_]] w (OutDo w p (actHurt h ⟨5, F, s, d, n, at_, by_⟩)) := by
  obtain ⟨S0, B0⟩ := doI_start ⟨⟨5, F, s, d, n, at_, by_⟩, ⟨fa, fn, fc⟩⟩ H
  obtain ⟨W, hW⟩ : ∃ W, W = (w.alloc (.cells (axC ⟨⟨5, F, s, d, n, at_, by_⟩, ⟨fa, fn, fc⟩⟩).toArray 29)).alloc (.cells zero5.toArray 42) := ⟨_, rfl⟩
  rw [← hW] at S0 B0
  have hW' : W = (w.alloc (.cells #[.int .i64 5, .slice fa fn fc, .string s, .int .i64 d, .int .i64 n, .int .i64 at_, .int .i64 by_] 29)).alloc (.cells #[.int .i64 0, .string ⟨#[]⟩, .slice none 0 0, .int .i64 0, .slice none 0 0] 42) := hW
  clear hW
  obtain ⟨b0, o0, cc, hd0, h1, h2, h3⟩ := S0.se.ex
  have d0 := h1.cell (i := 0) rfl
  have x0 := S0.ax.cell (i := 0) rfl
  have x1 := S0.ax.cell (i := 3) rfl
  have hX : (dvTurn (dev h.A d.toNat) n at_ by_).2 = 0 → dvMay (dvTurn (dev h.A d.toNat) n at_ by_).1 = true ∧ (dvTurn (dev h.A d.toNat) n at_ by_).1.1.length = (dev h.A d.toNat).1.length := fun e => by
    have := hurtx_keeps h.A ⟨5, F, s, d, n, at_, by_⟩
    rw [hurtx_turn] at this
    exact this e
  have eA := hurt_chg h ⟨5, F, s, d, n, at_, by_⟩ _ (hurtx_turn h.A F s d n at_ by_)
  dsimp only at eA
  rw [eA]
  clear eA
  have CA := hid (fun wx (g : Below W.heap.size W wx) => schange_any b0 o0 cc hd0 d 56 #[.pointer (some ⟨w.heap.size, 0, none⟩)] h.A (dvTurn (dev h.A d.toNat) n at_ by_) wx (h2.below g) S0.se.may (enters_of Tryz.func56 (by kernel_rfl) rfl) (fun _ w1 g1 x n1 e y m e' hD => sturn_any x n1 e y m e' w.heap.size n at_ by_ (dev h.A d.toNat) w1 hD ⟨((g1.cell (p := ⟨w.heap.size, 4, none⟩) (by have := S0.lt; have := g.size; show w.heap.size < wx.heap.size; omega)).trans ((S0.ax.below' g).cell (i := 4) rfl)), ((g1.cell (p := ⟨w.heap.size, 5, none⟩) (by have := S0.lt; have := g.size; show w.heap.size < wx.heap.size; omega)).trans ((S0.ax.below' g).cell (i := 5) rfl)), ((g1.cell (p := ⟨w.heap.size, 6, none⟩) (by have := S0.lt; have := g.size; show w.heap.size < wx.heap.size; omega)).trans ((S0.ax.below' g).cell (i := 6) rfl))⟩ (by have := S0.lt; have := g.size; have := g1.size; omega)))
  have HM := hid (chgA_may h.A S0.se.may d (dvTurn (dev h.A d.toNat) n at_ by_) hX)
  generalize chgA h.A d (dvTurn (dev h.A d.toNat) n at_ by_) = r at CA HM
  have HP := hid (And.intro S0 B0)
  rw [keep_ha]
  obtain ⟨ra, hra⟩ : ∃ ra : Ha × An, (if r.2 = 0 then (⟨r.1, h.nx, h.rd⟩ : Ha) else h, anE r.2) = ra := ⟨_, rfl⟩
  rw [hra]
  have HRA := hid hra
  clear hra
  clear h1 h2 h3 H S0 B0
  go_enter Tryz.func34, Tryz.ntmps34
  go_upto_region 1 with fail
  rw [← hW']
  clear hW'
  go_wp2_with fail
  go_region_with (first
    | (go_at_call 53; refine (CA.out _ (by go_grown)).mono ?_; rintro _ w3 ⟨⟨x, n1, e1, rfl, hX⟩, g3⟩; (have S3 := hid (HP.out.1.to (by first | exact g3 | exact undrew g3))); (have hX3 := hid hX); clear hX g3)
    | (go_at_call 49; refine (keep_any p h _ _ _ r.2 r.1 _ S3.out.se (kept_arr (w0 := W) (by have := S3.out.pl; have := HP.out.1.lt; omega) hX3.out HM.out)).mono ?_; rintro _ w4 ⟨rfl, s4, c4⟩; (have S4 := hid (S3.out.kept s4 c4)); (obtain ⟨⟨y0, y1, y2, y3, y4⟩, _⟩ := own_ret5 S4.out.an (.int .i64 r.2) (.string ⟨#[]⟩) (.slice none 0 0) (.int .i64 0) (.slice none 0 0)); clear s4 c4; (have v0 := S4.out.an.cell (i := 0) rfl); (have f0 := S4.out.an.free 0); (have v1 := S4.out.an.cell (i := 1) rfl); (have f1 := S4.out.an.free 1); (have v2 := S4.out.an.cell (i := 2) rfl); (have f2 := S4.out.an.free 2); (have v3 := S4.out.an.cell (i := 3) rfl); (have f3 := S4.out.an.free 3); (have v4 := S4.out.an.cell (i := 4) rfl); (have f4 := S4.out.an.free 4)))
  all_goals go_wp2
  all_goals refine bodyPost_ret (v := .agg #[.int .i64 r.2, .string ⟨#[]⟩, .slice none 0 0, .int .i64 0, .slice none 0 0]) (by simp [results, Tryz.results34, go_sem, y0, y1, y2, y3, y4]) rfl ?_
  all_goals rw [← HRA.out]
  all_goals exact S4.out.out (nxE r.2) (nxE_ok _ _) (nxE_new _ _)
set_option maxHeartbeats 1600000 in
set_option maxRecDepth 4000 in
theorem do_get (F : List Fi) (s : ByteArray) (d n at_ by_ : Int) (fa : Option Addr) (fn fc : Nat) (H : Se w p h) :
    Calls Tryz.prog 34 #[.pointer (some ⟨p, 0, none⟩), .agg #[.int .i64 2, .slice fa fn fc, .string s, .int .i64 d, .int .i64 n, .int .i64 at_, .int .i64 by_]] w (OutDo w p (actGet h s)) := by
  obtain ⟨S0, B0⟩ := doI_start ⟨⟨2, F, s, d, n, at_, by_⟩, ⟨fa, fn, fc⟩⟩ H
  obtain ⟨W, hW⟩ : ∃ W, W = (w.alloc (.cells (axC ⟨⟨2, F, s, d, n, at_, by_⟩, ⟨fa, fn, fc⟩⟩).toArray 29)).alloc (.cells zero5.toArray 42) := ⟨_, rfl⟩
  rw [← hW] at S0 B0
  have hW' : W = (w.alloc (.cells #[.int .i64 2, .slice fa fn fc, .string s, .int .i64 d, .int .i64 n, .int .i64 at_, .int .i64 by_] 29)).alloc (.cells #[.int .i64 0, .string ⟨#[]⟩, .slice none 0 0, .int .i64 0, .slice none 0 0] 42) := hW
  clear hW
  obtain ⟨b0, o0, cc, hd0, h1, h2, h3⟩ := S0.se.ex
  have d0 := h1.cell (i := 0) rfl
  have x0 := S0.ax.cell (i := 0) rfl
  have x1 := S0.ax.cell (i := 2) rfl
  have CA := hid (fun wx (g : Below W.heap.size W wx) => get_any (some ⟨b0, o0, none⟩) 3 cc h.A s wx (.inr ⟨b0, o0, hd0, rfl, h2.below g⟩))
  unfold actGet
  generalize getA h.A s = r at CA
  have HP := hid (And.intro S0 B0)
  clear h1 h2 h3 H S0 B0
  go_enter Tryz.func34, Tryz.ntmps34
  go_upto_region 1 with fail
  rw [← hW']
  clear hW'
  go_wp2_with fail
  go_cut [5, 6] (fun s5 s6 wx => s5 = .string (str r.1) ∧ s6 = .int .i64 r.2 ∧ Below W.heap.size W wx)
  case first =>
    go_region_with (go_at_call 51; refine (CA.out _ (by go_grown)).mono ?_; rintro _ w3 ⟨rfl, g3⟩; (have G3 := hid (show Below W.heap.size W w3 by first | exact g3 | exact undrew g3)); clear g3)
    all_goals go_wp2_with fail
    all_goals go_meet
    all_goals exact ⟨rfl, rfl, by first | exact G3.out | exact G3.out.drew⟩
  case rest =>
    obtain ⟨rfl, rfl, g3⟩ := hcut
    have S4 := hid (HP.out.1.to g3)
    clear g3 x0 x1 d0
    obtain ⟨⟨y0, y1, y2, y3, y4⟩, _⟩ := own_ret5 S4.out.an (.int .i64 r.2) (.string (str r.1)) (.slice none 0 0) (.int .i64 0) (.slice none 0 0)
    have v0 := S4.out.an.cell (i := 0) rfl
    have f0 := S4.out.an.free 0
    have v1 := S4.out.an.cell (i := 1) rfl
    have f1 := S4.out.an.free 1
    have v2 := S4.out.an.cell (i := 2) rfl
    have f2 := S4.out.an.free 2
    have v3 := S4.out.an.cell (i := 3) rfl
    have f3 := S4.out.an.free 3
    have v4 := S4.out.an.cell (i := 4) rfl
    have f4 := S4.out.an.free 4
    go_wp2
    refine bodyPost_ret (v := .agg #[.int .i64 r.2, .string (str r.1), .slice none 0 0, .int .i64 0, .slice none 0 0]) (by simp [results, Tryz.results34, go_sem, y0, y1, y2, y3, y4]) rfl ?_
    exact S4.out.out ⟨⟨r.2, r.1, [], 0, []⟩, nilS, nilS⟩ ⟨RowAt.nil, rfl, Nat.zero_le _, intsAt_none _ _⟩ ⟨newS_nil _ _, newS_nil _ _⟩
set_option maxHeartbeats 1600000 in
set_option maxRecDepth 4000 in
theorem do_list (F : List Fi) (s : ByteArray) (d n at_ by_ : Int) (fa : Option Addr) (fn fc : Nat) (H : Se w p h) :
    Calls Tryz.prog 34 #[.pointer (some ⟨p, 0, none⟩), .agg #[.int .i64 3, .slice fa fn fc, .string s, .int .i64 d, .int .i64 n, .int .i64 at_, .int .i64 by_]] w (OutDo w p (actList h)) := by
  obtain ⟨S0, B0⟩ := doI_start ⟨⟨3, F, s, d, n, at_, by_⟩, ⟨fa, fn, fc⟩⟩ H
  obtain ⟨W, hW⟩ : ∃ W, W = (w.alloc (.cells (axC ⟨⟨3, F, s, d, n, at_, by_⟩, ⟨fa, fn, fc⟩⟩).toArray 29)).alloc (.cells zero5.toArray 42) := ⟨_, rfl⟩
  rw [← hW] at S0 B0
  have hW' : W = (w.alloc (.cells #[.int .i64 3, .slice fa fn fc, .string s, .int .i64 d, .int .i64 n, .int .i64 at_, .int .i64 by_] 29)).alloc (.cells #[.int .i64 0, .string ⟨#[]⟩, .slice none 0 0, .int .i64 0, .slice none 0 0] 42) := hW
  clear hW
  obtain ⟨b0, o0, cc, hd0, h1, h2, h3⟩ := S0.se.ex
  have d0 := h1.cell (i := 0) rfl
  have x0 := S0.ax.cell (i := 0) rfl
  have CA := hid (fun wx (g : Below W.heap.size W wx) => names_new (some ⟨b0, o0, none⟩) 3 cc h.A wx (.inr ⟨b0, o0, hd0, rfl, h2.below g⟩))
  unfold actList
  generalize opn h.A = r at CA
  have HP := hid (And.intro S0 B0)
  clear h1 h2 h3 H S0 B0
  go_enter Tryz.func34, Tryz.ntmps34
  go_upto_region 1 with fail
  rw [← hW']
  clear hW'
  go_wp2_with fail
  refine (CA.out _ (Below.refl _ _)).mono ?_
  rintro _ w3 ⟨x, n1, c1, rfl, hX, hN, g3⟩
  have S4 := hid (HP.out.1.to g3)
  have X4 := hid (And.intro hX hN)
  clear g3 x0 d0 hX hN
  obtain ⟨⟨y0, y1, y2, y3, y4⟩, _⟩ := own_ret5 S4.out.an (.int .i64 r.2) (.string ⟨#[]⟩) (.slice x n1 c1) (.int .i64 0) (.slice none 0 0)
  have v0 := S4.out.an.cell (i := 0) rfl
  have f0 := S4.out.an.free 0
  have v1 := S4.out.an.cell (i := 1) rfl
  have f1 := S4.out.an.free 1
  have v2 := S4.out.an.cell (i := 2) rfl
  have f2 := S4.out.an.free 2
  have v3 := S4.out.an.cell (i := 3) rfl
  have f3 := S4.out.an.free 3
  have v4 := S4.out.an.cell (i := 4) rfl
  have f4 := S4.out.an.free 4
  go_wp2
  refine bodyPost_ret (v := .agg #[.int .i64 r.2, .string ⟨#[]⟩, .slice x n1 c1, .int .i64 0, .slice none 0 0]) (by simp [results, Tryz.results34, go_sem, y0, y1, y2, y3, y4]) rfl ?_
  exact S4.out.out ⟨⟨r.2, [], namesE r.1.2, 0, []⟩, ⟨x, n1, c1⟩, nilS⟩ ⟨X4.out.1.1, X4.out.1.2.1, X4.out.1.2.2, intsAt_none _ _⟩ ⟨X4.out.2.less HP.out.1.lt, newS_nil _ _⟩
set_option maxHeartbeats 1600000 in
set_option maxRecDepth 4000 in
theorem do_health (F : List Fi) (s : ByteArray) (d n at_ by_ : Int) (fa : Option Addr) (fn fc : Nat) (H : Se w p h) :
    Calls Tryz.prog 34 #[.pointer (some ⟨p, 0, none⟩), .agg #[.int .i64 8, .slice fa fn fc, .string s, .int .i64 d, .int .i64 n, .int .i64 at_, .int .i64 by_]] w (OutDo w p (actHealth h)) := by
  obtain ⟨S0, B0⟩ := doI_start ⟨⟨8, F, s, d, n, at_, by_⟩, ⟨fa, fn, fc⟩⟩ H
  obtain ⟨W, hW⟩ : ∃ W, W = (w.alloc (.cells (axC ⟨⟨8, F, s, d, n, at_, by_⟩, ⟨fa, fn, fc⟩⟩).toArray 29)).alloc (.cells zero5.toArray 42) := ⟨_, rfl⟩
  rw [← hW] at S0 B0
  have hW' : W = (w.alloc (.cells #[.int .i64 8, .slice fa fn fc, .string s, .int .i64 d, .int .i64 n, .int .i64 at_, .int .i64 by_] 29)).alloc (.cells #[.int .i64 0, .string ⟨#[]⟩, .slice none 0 0, .int .i64 0, .slice none 0 0] 42) := hW
  clear hW
  obtain ⟨b0, o0, cc, hd0, h1, h2, h3⟩ := S0.se.ex
  have d0 := h1.cell (i := 0) rfl
  have x0 := S0.ax.cell (i := 0) rfl
  have CA := hid (fun wx (g : Below W.heap.size W wx) => health_new (some ⟨b0, o0, none⟩) 3 cc h.A wx (.inr ⟨b0, o0, hd0, rfl, h2.below g⟩))
  unfold actHealth
  generalize arHealth h.A = r at CA
  have HP := hid (And.intro S0 B0)
  clear h1 h2 h3 H S0 B0
  go_enter Tryz.func34, Tryz.ntmps34
  go_upto_region 1 with fail
  rw [← hW']
  clear hW'
  go_wp2_with fail
  refine (CA.out _ (Below.refl _ _)).mono ?_
  rintro _ w3 ⟨⟨x, n1, c1, rfl, hX, hN⟩, g3⟩
  have S4 := hid (HP.out.1.to g3)
  have X4 := hid (And.intro hX hN)
  clear g3 x0 d0 hX hN
  obtain ⟨⟨y0, y1, y2, y3, y4⟩, _⟩ := own_ret5 S4.out.an (.int .i64 r.2.2) (.string ⟨#[]⟩) (.slice none 0 0) (.int .i64 r.1) (.slice x n1 c1)
  have v0 := S4.out.an.cell (i := 0) rfl
  have f0 := S4.out.an.free 0
  have v1 := S4.out.an.cell (i := 1) rfl
  have f1 := S4.out.an.free 1
  have v2 := S4.out.an.cell (i := 2) rfl
  have f2 := S4.out.an.free 2
  have v3 := S4.out.an.cell (i := 3) rfl
  have f3 := S4.out.an.free 3
  have v4 := S4.out.an.cell (i := 4) rfl
  have f4 := S4.out.an.free 4
  go_wp2
  refine bodyPost_ret (v := .agg #[.int .i64 r.2.2, .string ⟨#[]⟩, .slice none 0 0, .int .i64 r.1, .slice x n1 c1]) (by simp [results, Tryz.results34, go_sem, y0, y1, y2, y3, y4]) rfl ?_
  exact S4.out.out ⟨⟨r.2.2, [], [], r.1, r.2.1⟩, nilS, ⟨x, n1, c1⟩⟩ ⟨RowAt.nil, rfl, Nat.zero_le _, X4.out.1⟩ ⟨newS_nil _ _, X4.out.2.less HP.out.1.lt⟩
set_option maxHeartbeats 1600000 in
set_option maxRecDepth 4000 in
theorem do_scrub (F : List Fi) (s : ByteArray) (d n at_ by_ : Int) (fa : Option Addr) (fn fc : Nat) (H : Se w p h) :
    Calls Tryz.prog 34 #[.pointer (some ⟨p, 0, none⟩), .agg #[.int .i64 7, .slice fa fn fc, .string s, .int .i64 d, .int .i64 n, .int .i64 at_, .int .i64 by_]] w (OutDo w p (actScrub h n)) := by
  obtain ⟨S0, B0⟩ := doI_start ⟨⟨7, F, s, d, n, at_, by_⟩, ⟨fa, fn, fc⟩⟩ H
  obtain ⟨W, hW⟩ : ∃ W, W = (w.alloc (.cells (axC ⟨⟨7, F, s, d, n, at_, by_⟩, ⟨fa, fn, fc⟩⟩).toArray 29)).alloc (.cells zero5.toArray 42) := ⟨_, rfl⟩
  rw [← hW] at S0 B0
  have hW' : W = (w.alloc (.cells #[.int .i64 7, .slice fa fn fc, .string s, .int .i64 d, .int .i64 n, .int .i64 at_, .int .i64 by_] 29)).alloc (.cells #[.int .i64 0, .string ⟨#[]⟩, .slice none 0 0, .int .i64 0, .slice none 0 0] 42) := hW
  clear hW
  obtain ⟨b0, o0, cc, hd0, h1, h2, h3⟩ := S0.se.ex
  have d0 := h1.cell (i := 0) rfl
  have x0 := S0.ax.cell (i := 0) rfl
  have x1 := S0.ax.cell (i := 4) rfl
  have CA := hid (fun wx (g : Below W.heap.size W wx) => sscrub_any p h n wx (S0.se.below g))
  generalize actScrub h n = r at CA
  have HP := hid (And.intro S0 B0)
  clear h1 h2 h3 H S0 B0
  go_enter Tryz.func34, Tryz.ntmps34
  go_upto_region 1 with fail
  rw [← hW']
  clear hW'
  go_wp2_with fail
  refine (CA.out _ (Below.refl _ _)).mono ?_
  rintro _ w3 ⟨q, rfl, hq, hO, hN, hS, hC⟩
  have S4 := hid (HP.out.1.kept hS hC)
  have X4 := hid (And.intro hq (And.intro hO hN))
  clear hq hO hN hS hC x0 x1 d0
  obtain ⟨⟨y0, y1, y2, y3, y4⟩, _⟩ := own_ret5 S4.out.an (.int .i64 q.r.code) (.string (str q.r.data)) (.slice q.f.a q.f.n q.f.c) (.int .i64 q.r.count) (.slice q.g.a q.g.n q.g.c)
  have v0 := S4.out.an.cell (i := 0) rfl
  have f0 := S4.out.an.free 0
  have v1 := S4.out.an.cell (i := 1) rfl
  have f1 := S4.out.an.free 1
  have v2 := S4.out.an.cell (i := 2) rfl
  have f2 := S4.out.an.free 2
  have v3 := S4.out.an.cell (i := 3) rfl
  have f3 := S4.out.an.free 3
  have v4 := S4.out.an.cell (i := 4) rfl
  have f4 := S4.out.an.free 4
  unfold nxA
  go_wp2
  refine bodyPost_ret (v := .agg #[.int .i64 q.r.code, .string (str q.r.data), .slice q.f.a q.f.n q.f.c, .int .i64 q.r.count, .slice q.g.a q.g.n q.g.c]) (by simp [results, Tryz.results34, go_sem, y0, y1, y2, y3, y4]) rfl ?_
  have := S4.out.out q X4.out.2.1 ⟨X4.out.2.2.1.less HP.out.1.lt, X4.out.2.2.2.less HP.out.1.lt⟩
  have hr : (r.1, q.r) = r := by rw [X4.out.1]
  rw [hr] at this
  exact this
set_option maxHeartbeats 1600000 in
set_option maxRecDepth 4000 in
theorem do_none (k : Int) (F : List Fi) (s : ByteArray) (d n at_ by_ : Int) (fa : Option Addr) (fn fc : Nat) (H : Se w p h) (hk : k ≠ 1 ∧ k ≠ 2 ∧ k ≠ 3 ∧ k ≠ 4 ∧ k ≠ 5 ∧ k ≠ 6 ∧ k ≠ 7 ∧ k ≠ 8) :
    Calls Tryz.prog 34 #[.pointer (some ⟨p, 0, none⟩), .agg #[.int .i64 k, .slice fa fn fc, .string s, .int .i64 d, .int .i64 n, .int .i64 at_, .int .i64 by_]] w (OutDo w p (h, anE 3)) := by
  obtain ⟨S0, B0⟩ := doI_start ⟨⟨k, F, s, d, n, at_, by_⟩, ⟨fa, fn, fc⟩⟩ H
  obtain ⟨W, hW⟩ : ∃ W, W = (w.alloc (.cells (axC ⟨⟨k, F, s, d, n, at_, by_⟩, ⟨fa, fn, fc⟩⟩).toArray 29)).alloc (.cells zero5.toArray 42) := ⟨_, rfl⟩
  rw [← hW] at S0 B0
  have hW' : W = (w.alloc (.cells #[.int .i64 k, .slice fa fn fc, .string s, .int .i64 d, .int .i64 n, .int .i64 at_, .int .i64 by_] 29)).alloc (.cells #[.int .i64 0, .string ⟨#[]⟩, .slice none 0 0, .int .i64 0, .slice none 0 0] 42) := hW
  clear hW
  obtain ⟨b0, o0, cc, hd0, h1, h2, h3⟩ := S0.se.ex
  have d0 := h1.cell (i := 0) rfl
  have x0 := S0.ax.cell (i := 0) rfl
  obtain ⟨k1, k2, k3, k4, k5, k6, k7, k8⟩ := hk
  have e1 : (k == 1) = false := beq_eq_false_iff_ne.2 k1
  have e2 : (k == 2) = false := beq_eq_false_iff_ne.2 k2
  have e3 : (k == 3) = false := beq_eq_false_iff_ne.2 k3
  have e4 : (k == 4) = false := beq_eq_false_iff_ne.2 k4
  have e5 : (k == 5) = false := beq_eq_false_iff_ne.2 k5
  have e6 : (k == 6) = false := beq_eq_false_iff_ne.2 k6
  have e7 : (k == 7) = false := beq_eq_false_iff_ne.2 k7
  have e8 : (k == 8) = false := beq_eq_false_iff_ne.2 k8
  have S4 := hid S0
  clear h1 h2 h3 H S0 B0 d0 k1 k2 k3 k4 k5 k6 k7 k8
  go_enter Tryz.func34, Tryz.ntmps34
  go_upto_region 1 with fail
  rw [← hW']
  clear hW'
  obtain ⟨⟨y0, y1, y2, y3, y4⟩, _⟩ := own_ret5 S4.out.an (.int .i64 3) (.string ⟨#[]⟩) (.slice none 0 0) (.int .i64 0) (.slice none 0 0)
  have v0 := S4.out.an.cell (i := 0) rfl
  have f0 := S4.out.an.free 0
  have v1 := S4.out.an.cell (i := 1) rfl
  have f1 := S4.out.an.free 1
  have v2 := S4.out.an.cell (i := 2) rfl
  have f2 := S4.out.an.free 2
  have v3 := S4.out.an.cell (i := 3) rfl
  have f3 := S4.out.an.free 3
  have v4 := S4.out.an.cell (i := 4) rfl
  have f4 := S4.out.an.free 4
  go_wp2
  refine bodyPost_ret (v := .agg #[.int .i64 3, .string ⟨#[]⟩, .slice none 0 0, .int .i64 0, .slice none 0 0]) (by simp [results, Tryz.results34, go_sem, y0, y1, y2, y3, y4]) rfl ?_
  exact S4.out.out (nxE 3) (nxE_ok _ _) (nxE_new _ _)
end
/-- One act. -/
theorem do_any (p : Nat) (h : Ha) (w : World) (q : Ax) (H : Se w p h) (hq : AxOk w q) :
    Calls Tryz.prog 34 #[.pointer (some ⟨p, 0, none⟩), axA q] w (OutDo w p (actS h q.x)) := by
  obtain ⟨⟨k, F, s, d, n, at_, by_⟩, ⟨fa, fn, fc⟩⟩ := q
  unfold actS axA
  dsimp only
  by_cases e1 : k = 1
  · subst e1; rw [if_pos rfl]; exact do_add p h w F s d n at_ by_ fa fn fc H hq.1
  rw [if_neg e1]
  by_cases e2 : k = 2
  · subst e2; rw [if_pos rfl]; exact do_get p h w F s d n at_ by_ fa fn fc H
  rw [if_neg e2]
  by_cases e3 : k = 3
  · subst e3; rw [if_pos rfl]; exact do_list p h w F s d n at_ by_ fa fn fc H
  rw [if_neg e3]
  by_cases e4 : k = 4
  · subst e4; rw [if_pos (.inl rfl)]; exact do_lose p h w F s d n at_ by_ fa fn fc H
  by_cases e5 : k = 5
  · subst e5; rw [if_pos (.inr rfl)]; exact do_turn p h w F s d n at_ by_ fa fn fc H
  rw [if_neg (by rintro (e | e); exact e4 e; exact e5 e)]
  by_cases e6 : k = 6
  · subst e6; rw [if_pos rfl]; exact do_new p h w F s d n at_ by_ fa fn fc H
  rw [if_neg e6]
  by_cases e7 : k = 7
  · subst e7; rw [if_pos rfl]; exact do_scrub p h w F s d n at_ by_ fa fn fc H
  rw [if_neg e7]
  by_cases e8 : k = 8
  · subst e8; rw [if_pos rfl]; exact do_health p h w F s d n at_ by_ fa fn fc H
  rw [if_neg e8]
  exact do_none p h w k F s d n at_ by_ fa fn fc H ⟨e1, e2, e3, e4, e5, e6, e7, e8⟩
end Go.Proofs.YtahoagbaadnihabGreatDoor

/- What the program's shell.Run answers: a script over a new archive. -/
namespace Go.Proofs.YtahoagbaadnihabGreatDoor
open Go.RowKit Go.Lib

/-- Answers, an array and an error that come out of a call. -/
def OutRn (w : World) (r : List An × Ar × Int) (e : Ending) (w' : World) : Prop :=
  ∃ a n c x m d L, e = .returned (.tuple #[.slice a n c, .agg #[.slice x m d], .int .i64 r.2.2]) ∧ (ans L = r.1 ∧ AnsI w' w.heap.size (.slice a n c) L) ∧ ArrAt w' x m r.2.1 ∧ Below w.heap.size w w'
theorem outRn_none {w w' : World} {x : Int} (g : Below w.heap.size w w') : OutRn w ([], [], x) (.returned (.tuple #[.slice none 0 0, .agg #[.slice none 0 0], .int .i64 x])) w' :=
  ⟨none, 0, 0, none, 0, 0, [], rfl, ⟨rfl, ansI_nil _ _⟩, .inl ⟨rfl, rfl⟩, g⟩
theorem OutRn.drew {w w' : World} {r : List An × Ar × Int} {e : Ending} (h : OutRn w r e w') : OutRn w r e w'.drew := by
  obtain ⟨a, n, c, x, m, d, L, h1, ⟨h2, h4⟩, h5, h6⟩ := h
  exact ⟨a, n, c, x, m, d, L, h1, ⟨h2, h4.below (Below.refl _ _).drew⟩, h5.below (Below.refl _ _).drew, h6.drew⟩
theorem AnsI.less {w : World} {base b2 : Nat} {v : Value} {L : List Nx} (h : AnsI w base v L) (hb : b2 ≤ base) : AnsI w b2 v L := by
  refine ⟨⟨h.own.1, ?_⟩, h.spare, fun q hq => ⟨(h.ok q hq).1, (h.ok q hq).2.1, (h.ok q hq).2.2.less hb⟩⟩
  rcases h.own.2 with e | ⟨g, cap, cur, e, hbg, r⟩
  · exact .inl e
  · exact .inr ⟨g, cap, cur, e, Nat.le_trans hb hbg, r⟩
theorem arnew_may (n : Int) (h : (arNew n).2 = 0) : arMay (arNew n).1 = true := by
  unfold arNew at h
  split at h
  · rename_i hn
    obtain ⟨N, rfl⟩ : ∃ N : Nat, n = N := ⟨n.toNat, by omega⟩
    rw [new_good N (by omega) (by omega) (by omega)]
    exact good_may (zeros_alls N (by omega) (by omega) (by omega))
  · cases h
/-- While the acts are done, one by one: the result's box, the session's, the answers so far. -/
structure RunI (w : World) (p : Nat) (M : List Ac) (h0 h : Ha) (k : Nat) (v : Value) (W : World) : Prop where
  ex : ∃ L, AnsI W (p + 1) v L ∧ ans L = (runS h0 (M.take k)).2
  eq : h = (runS h0 (M.take k)).1
  se : Se W p h
  rb : Own W w.heap.size 35 [.slice none 0 0]
  pl : w.heap.size < p ∧ p < W.heap.size
  below : Below w.heap.size w W
theorem run_next (h0 : Ha) (M : List Ac) (k : Nat) (x : Ac) (hx : M[k]? = some x) : runS h0 (M.take (k + 1)) = ((actS (runS h0 (M.take k)).1 x).1, (runS h0 (M.take k)).2 ++ [(actS (runS h0 (M.take k)).1 x).2]) := by
  have hk : k < M.length := by
    rcases Nat.lt_or_ge k M.length with h | h
    · exact h
    · rw [List.getElem?_eq_none h] at hx; cases hx
  have e : M[k] = x := by rw [List.getElem?_eq_getElem hk] at hx; exact Option.some.inj hx
  rw [List.take_succ_eq_append_getElem hk, run_snoc, e]
section
variable {w W W' : World} {p k : Nat} {M : List Ac} {h0 h : Ha} {v : Value}
theorem RunI.to (H : RunI w p M h0 h k v W) (g : Below W.heap.size W W') : RunI w p M h0 h k v W' := by
  obtain ⟨L, h1, h2⟩ := H.ex
  exact ⟨⟨L, h1.below g, h2⟩, H.eq, H.se.below g, H.rb.below' g, ⟨H.pl.1, Nat.lt_of_lt_of_le H.pl.2 g.size⟩, bel3 H.below g⟩
/-- One act more, and its answer. -/
theorem RunI.next (H : RunI w p M h0 h k v W) {x : Ac} (hx : M[k]? = some x) {W1 W2 : World} {q : Nx} (g0 : Below W.heap.size W W1) (hr : q.r = (actS h x).2) (hq : NxOk W2 q) (hn : NxNew W1.heap.size q) (hs : Se W2 p (actS h x).1) (hc : Chg (fun j => j = p) W1 W2) :
    (∃ L, AnsI (W2.alloc (.cells (nxC q).toArray 42)) (p + 1) v L ∧ L.length = k ∧ (NxOk (W2.alloc (.cells (nxC q).toArray 42)) q ∧ NxOff v.ownBlock q ∧ NxNew (p + 1) q) ∧
      ∀ v' W3, AnsI W3 (p + 1) v' (L ++ [q]) → (W2.alloc (.cells (nxC q).toArray 42)).grownBy W3 v.ownBlock → KeepZ (W2.alloc (.cells (nxC q).toArray 42)) W3 → RunI w p M h0 (actS h x).1 (k + 1) v' W3) ∧
    (∀ j u, (nxC q)[j]? = some u → (W2.alloc (.cells (nxC q).toArray 42)).cell? ((⟨W2.heap.size, 0, none⟩ : Addr).add j) = some u) ∧ p + 1 ≤ (W2.alloc (.cells (nxC q).toArray 42)).heap.size := by
  obtain ⟨L, h1, h2⟩ := H.ex
  have pl := H.pl
  have z0 := g0.size
  have z1 := hc.size
  have b2 : Below W2.heap.size W2 (W2.alloc (.cells (nxC q).toArray 42)) := (Below.refl _ W2).alloc (Nat.le_refl _) _
  have hL : L.length = k := by
    have hk : k < M.length := by
      rcases Nat.lt_or_ge k M.length with h | h
      · exact h
      · rw [List.getElem?_eq_none h] at hx; cases hx
    have := congrArg List.length h2
    rw [run_len, List.length_take] at this
    rw [ans, List.length_map] at this
    omega
  have A2 := ((h1.below g0).chg hc (by omega)).below b2
  have hown : ∀ g, v.ownBlock = some g → g < W1.heap.size := fun g e => Nat.lt_of_lt_of_le (World.ownsRow.lt h1.own g e).2 z0
  refine ⟨⟨L, A2, hL, ⟨hq.below b2, hn.off hown, ⟨hn.1.less (by omega), hn.2.less (by omega)⟩⟩, fun v' W3 a3 g3 k3 => ?_⟩, fun j u hj => ?_, ?_⟩
  · have hp : (W2.alloc (.cells (nxC q).toArray 42)).heap[p]? = W2.heap[p]? := b2.block p (by omega)
    have np : v.ownBlock ≠ some p := fun e => by have := (World.ownsRow.lt h1.own p e).1; omega
    have nr : v.ownBlock ≠ some w.heap.size := fun e => by have := (World.ownsRow.lt h1.own _ e).1; omega
    have zz := b2.size
    have z3 := g3.size
    have hh := H.eq
    refine ⟨⟨L ++ [q], a3, ?_⟩, ?_, (hs.below b2).keepz k3 (g3.block p (by omega) (fun e => np e.symm)), ?_, ⟨pl.1, by omega⟩, ?_⟩
    · rw [ans_snoc, h2, run_next h0 M k x hx, hr, hh]
    · rw [run_next h0 M k x hx, hh]
    · refine ((((H.rb.below' g0).of_block (hc.block _ (by omega) (by omega))).below' b2)).of_block (g3.block _ (by omega) (fun e => nr e.symm))
    · have hB : Below w.heap.size w W2 := ⟨hc.os.trans (bel3 H.below g0).os, hc.tape.trans (bel3 H.below g0).tape, hc.output.trans (bel3 H.below g0).output, Nat.le_trans (bel3 H.below g0).size z1, fun j hj => (hc.block j (by have := H.below.size; omega) (by omega)).trans ((bel3 H.below g0).block j hj)⟩
      exact (hB.trans (b2.mono hB.size)).grown g3 (by have := hB.size; omega) (fun g e => by have := (World.ownsRow.lt h1.own g e).1; omega)
  · rw [Addr.add_lit, Nat.zero_add]
    exact (Own.made W2 42 (nxC q)).cell hj
  · have := b2.size
    omega
/-- At the end. -/
theorem RunI.out (H : RunI w p M h0 h k v W) (hk : k = M.length) (_hM : M.length ≤ 200) (b o c : Nat) (hd : Nat → Hd) (hA : Arr W b o 3 hd h.A) :
    OutRn w ((runS h0 M).2, (runS h0 M).1.A, 0) (.returned (.tuple #[v, .agg #[.slice (some ⟨b, o, none⟩) 3 c], .int .i64 0])) (W.setCell ⟨w.heap.size, 0, none⟩ (.slice (some ⟨b, o, none⟩) 3 c)) := by
  obtain ⟨L, h1, h2⟩ := H.ex
  have hh := H.eq
  have pl := H.pl
  subst hk
  rw [List.take_length] at h2 hh
  have c1 := (Chg.refl (fun j => j = w.heap.size) W).set (p := w.heap.size) rfl 0 (.slice (some ⟨b, o, none⟩) 3 c)
  have hv : ∃ a n d, v = .slice a n d := by
    rcases h1.own.2 with ⟨e, _⟩ | ⟨g, cap, cur, e, _⟩
    · exact ⟨none, 0, 0, e⟩
    · exact ⟨_, _, _, e⟩
  obtain ⟨a, n, d, rfl⟩ := hv
  refine ⟨a, n, d, some ⟨b, o, none⟩, 3, c, L, rfl, ⟨h2, (h1.chg c1 (by omega)).less (by omega)⟩, .inr ⟨b, o, hd, rfl, ?_⟩, H.below.setCell (Nat.le_refl _) _⟩
  rw [← hh]
  exact hA.keepz H.se.may (keepz_set (H.rb.cell (i := 0) rfl) (.inr (.inr rfl)) _)
end

set_option maxHeartbeats 3200000 in
set_option maxRecDepth 8000 in
theorem srun_any (n : Int) (x : Option Addr) (m c : Nat) (L : List Ax) (w : World) (H : ActAt w x m L) :
    Calls Tryz.prog 25 #[.int .i64 n, .slice x m c] w (OutRn w (scrS n (acs L))) := by
  obtain ⟨W, hW⟩ : ∃ W, W = w.alloc (.cells #[.slice none 0 0] 35) := ⟨_, rfl⟩
  have hB : Below w.heap.size w W := by rw [hW]; go_grown
  have rb : Own W w.heap.size 35 [.slice none 0 0] := by rw [hW]; exact Own.made w 35 [.slice none 0 0]
  have CN := hid (archnew_any n W)
  have HM := hid (arnew_may n)
  have hm := H.sn
  unfold scrS
  rw [acs_len, ← hm]
  have HH := hid (And.intro H (And.intro hB (And.intro rb hm)))
  generalize arNew n = R at CN HM
  clear H hB hm
  have r0 := rb.cell (i := 0) rfl
  have rf := rb.free 0
  clear rb
  by_cases e0 : R.2 = 0
  · rw [if_pos e0]
    have e1 : (R.2 != 0) = false := bne_eq_false_iff_eq.2 e0
    have HE := hid e0
    clear e0
    by_cases hl : 200 < m
    · rw [if_pos hl]
      have hl' : (200 : Int) < m := by omega
      go_enter Tryz.func25, Tryz.ntmps25
      go_upto_region 1 with fail
      rw [← hW]
      clear hW
      go_wp2_with fail
      refine CN.out.mono ?_
      rintro _ v1 ⟨⟨a, n1, c1, rfl, _⟩, g1⟩
      have G1 := hid (bel3 HH.out.2.1 (bel3 g1 ((Below.refl _ v1).alloc (Nat.le_refl _) (.cells #[.slice a n1 c1] 35))))
      have q0 := (HH.out.2.2.1.below' (bel3 g1 ((Below.refl _ v1).alloc (Nat.le_refl _) (.cells #[.slice a n1 c1] 35)))).cell (i := 0) rfl
      have qf := (HH.out.2.2.1.below' (bel3 g1 ((Below.refl _ v1).alloc (Nat.le_refl _) (.cells #[.slice a n1 c1] 35)))).free 0
      clear g1 r0 rf CN
      go_upto_region 2 with fail
      generalize v1.alloc (.cells #[.slice a n1 c1] 35) = V at G1 q0 qf ⊢
      have y0 := World.cell?_setCell_same V ⟨w.heap.size, 0, none⟩ (.slice none 0 0) q0
      have K := hid (outRn_none (x := 1) (G1.out.setCell (p := ⟨w.heap.size, 0, none⟩) (Nat.le_refl _) (.slice none 0 0)))
      go_wp2
      refine bodyPost_ret (v := .tuple #[.slice none 0 0, .agg #[.slice none 0 0], .int .i64 1]) (by simp [results, Tryz.results25, go_sem, y0]) rfl ?_
      exact K.out
    · rw [if_neg hl]
      have hl' : ¬ (200 : Int) < m := by omega
      obtain ⟨ra, hra⟩ : ∃ ra : List An × Ar × Int, ((runS ⟨R.1, 0, 0⟩ (acs L)).2, (runS ⟨R.1, 0, 0⟩ (acs L)).1.A, (0 : Int)) = ra := ⟨_, rfl⟩
      rw [hra]
      have HRA := hid hra
      clear hra
      go_enter Tryz.func25, Tryz.ntmps25
      go_upto_region 1 with fail
      rw [← hW]
      clear hW
      go_wp2_with fail
      refine CN.out.mono ?_
      rintro _ v1 ⟨⟨a, n1, c1, rfl, hX⟩, g1⟩
      have ha := kept_arr (p := w.heap.size) HH.out.2.2.1.lt hX HM.out HE.out
      obtain ⟨b, o, hd, rfl, rfl, hA, _, hm⟩ := ha
      have hbW : W.heap.size ≤ b := by
        rcases hX with ⟨h, _⟩ | ⟨b', hd', e, h, _⟩
        · omega
        · cases e; exact h
      clear hX r0 rf CN
      go_upto_region 2 with fail
      obtain ⟨V, hV⟩ : ∃ V, V = v1.alloc (.cells #[.slice (some ⟨b, o, none⟩) 3 c1] 35) := ⟨_, rfl⟩
      have bV : Below v1.heap.size v1 V := by rw [hV]; exact (Below.refl _ v1).alloc (Nat.le_refl _) _
      have d0 : V.cell? ⟨v1.heap.size, 0, none⟩ = some (.slice (some ⟨b, o, none⟩) 3 c1) := by rw [hV]; simp [go_sem]
      rw [← hV]
      clear hV
      go_upto_region 7 with fail
      obtain ⟨X, hX⟩ : ∃ X, X = V.alloc (.cells #[.slice (some ⟨b, o, none⟩) 3 c1, .int .i64 0, .int .i64 0] 81) := ⟨_, rfl⟩
      have bX : Below V.heap.size V X := by rw [hX]; exact (Below.refl _ V).alloc (Nat.le_refl _) _
      have oX : Own X V.heap.size 81 [.slice (some ⟨b, o, none⟩) 3 c1, .int .i64 0, .int .i64 0] := by rw [hX]; exact Own.made V 81 [.slice (some ⟨b, o, none⟩) 3 c1, .int .i64 0, .int .i64 0]
      rw [← hX]
      clear hX
      have GX := bel3 g1 (bel3 bV bX)
      have J0 : RunI w V.heap.size (acs L) ⟨R.1, 0, 0⟩ ⟨R.1, 0, 0⟩ 0 (.slice none 0 0) X := by
        refine ⟨⟨[], ansI_nil _ _, rfl⟩, rfl, ⟨⟨b, o, c1, hd, oX, (hA.below bV).below bX, ?_⟩, hm⟩, HH.out.2.2.1.below' GX, ⟨?_, oX.lt⟩, bel3 HH.out.2.1 GX⟩
        · have := hA.lt
          have := bV.size
          omega
        · have := HH.out.2.2.1.lt
          have := g1.size
          have := bV.size
          omega
      have S0 := hid J0
      clear J0 GX bX bV oX g1 hA d0 hbW hm
      generalize V.heap.size = p at S0 ⊢
      go_wp2_with fail
      go_loopw [10, 30] (fun v i wr => ∃ (k : Nat) (h : Ha), k ≤ m ∧ i = .int .i64 k ∧ Hid (RunI w p (acs L) ⟨R.1, 0, 0⟩ h k v wr)) (fun _ i _ => m - (intOf i).toNat)
      case atStart => exact ⟨0, _, Nat.zero_le _, rfl, S0.out⟩
      case round =>
        obtain ⟨k, h, hk, rfl, HI⟩ := hrel
        clear S0
        by_cases hlt : k < m
        · have hlt' : (k : Int) < m := by omega
          obtain ⟨q, b1, o1, hq, rfl, hb1, hok, x0, x1, x2, x3, x4, x5, x6⟩ := (HH.out.1.below HI.out.below).one k hlt
          have hx : (acs L)[k]? = some q.x := by rw [acs, List.getElem?_map, hq]; rfl
          obtain ⟨⟨qk, qF, qs, qd, qn, qa, qb⟩, ⟨fa, fn, fc⟩⟩ := q
          dsimp only at x0 x1 x2 x3 x4 x5 x6 hx
          obtain ⟨V2, hV2⟩ : ∃ V2, V2 = wr.alloc (.cells #[.int .i64 qk, .slice fa fn fc, .string qs, .int .i64 qd, .int .i64 qn, .int .i64 qa, .int .i64 qb] 29) := ⟨_, rfl⟩
          have g2 : Below wr.heap.size wr V2 := by rw [hV2]; exact (Below.refl _ wr).alloc (Nat.le_refl _) _
          have o2 : Own V2 wr.heap.size 29 [.int .i64 qk, .slice fa fn fc, .string qs, .int .i64 qd, .int .i64 qn, .int .i64 qa, .int .i64 qb] := by rw [hV2]; exact Own.made wr 29 _
          have CD := hid (do_any p h V2 ⟨⟨qk, qF, qs, qd, qn, qa, qb⟩, ⟨fa, fn, fc⟩⟩ (HI.out.se.below g2) (hok.below g2))
          have HN := hid (And.intro hx g2)
          clear hq hb1 hok hx g2
          go_upto_region 11 with fail
          rw [← hV2]
          clear hV2 x0 x1 x2 x3 x4 x5 x6
          have z0 := o2.cell (i := 0) rfl
          have z1 := o2.cell (i := 1) rfl
          have z2 := o2.cell (i := 2) rfl
          have z3 := o2.cell (i := 3) rfl
          have z4 := o2.cell (i := 4) rfl
          have z5 := o2.cell (i := 5) rfl
          have z6 := o2.cell (i := 6) rfl
          clear o2
          go_wp2_with fail
          refine CD.out.mono ?_
          rintro _ V3 ⟨y, rfl, hr, hy, hyn, hs, hc⟩
          clear z0 z1 z2 z3 z4 z5 z6 CD
          obtain ⟨⟨LL, A3, hLL, hq3, fin⟩, hcells, hps⟩ := HI.out.next HN.out.1 HN.out.2 hr hy hyn hs hc
          have A3 := hid A3
          have HQ := hid (And.intro hq3 (And.intro fin (And.intro hcells (And.intro hps hLL))))
          obtain ⟨⟨yc, yd, yn, yt, yg⟩, ⟨na, nn, nc⟩, ⟨ga, gn, gc⟩⟩ := y
          clear hr hy hyn hs hc hq3 fin hcells hps hLL HI HN
          dsimp only [nxC] at A3 HQ
          unfold nxA
          dsimp only
          go_wp2_with (at_builtin; (refine wpList_appendR _ rfl (.tmp 34) (.tmp 37) rfl (p + 1) u10 LL ⟨⟨yc, yd, yn, yt, yg⟩, ⟨na, nn, nc⟩, ⟨ga, gn, gc⟩⟩ rfl A3.out HQ.out.1 ⟨V3.heap.size, 0, none⟩ rfl HQ.out.2.2.1 (by have := HQ.out.2.2.2.2; omega) HQ.out.2.2.2.1 ?_; intro g5 m5 cap5 w5 hm5 hown5 hgrow5 hkz5; (have J5 := hid (HQ.out.2.1 _ _ hown5 hgrow5 hkz5)); clear hown5 hgrow5 hkz5 hm5))
          go_roundw
          case rel => exact ⟨k + 1, _, by omega, by go_num, J5.out⟩
          case measure => simp [intOf]; omega
        · have hlt' : ¬ (k : Int) < m := by omega
          obtain rfl : k = m := by omega
          obtain ⟨b2, o2, c2, hd2, p1, p2, p3⟩ := HI.out.se.ex
          have d0 := p1.cell (i := 0) rfl
          have r0 := HI.out.rb.cell (i := 0) rfl
          have rf := HI.out.rb.free 0
          have K := hid (HI.out.out (by rw [acs_len]; exact HH.out.2.2.2) (by rw [acs_len, ← HH.out.2.2.2]; omega) b2 o2 c2 hd2 p2)
          have y0 := World.cell?_setCell_same _ ⟨w.heap.size, 0, none⟩ (.slice (some ⟨b2, o2, none⟩) 3 c2) r0
          clear p1 p2 p3 HI
          go_wp2_with fail
          go_region
          all_goals go_wp2
          all_goals refine bodyPost_ret (v := .tuple #[u10, .agg #[.slice (some ⟨b2, o2, none⟩) 3 c2], .int .i64 0]) (by simp [results, Tryz.results25, go_sem, y0]) rfl ?_
          all_goals rw [← HRA.out]
          all_goals exact OutRn.drew K.out
  · rw [if_neg e0]
    have e1 : (R.2 != 0) = true := bne_iff_ne.2 e0
    clear e0
    go_enter Tryz.func25, Tryz.ntmps25
    go_upto_region 1 with fail
    rw [← hW]
    clear hW
    go_wp2_with fail
    refine CN.out.mono ?_
    rintro _ v1 ⟨⟨a, n1, c1, rfl, _⟩, g1⟩
    have G1 := hid (bel3 HH.out.2.1 (bel3 g1 ((Below.refl _ v1).alloc (Nat.le_refl _) (.cells #[.slice a n1 c1] 35))))
    have q0 := (HH.out.2.2.1.below' (bel3 g1 ((Below.refl _ v1).alloc (Nat.le_refl _) (.cells #[.slice a n1 c1] 35)))).cell (i := 0) rfl
    have qf := (HH.out.2.2.1.below' (bel3 g1 ((Below.refl _ v1).alloc (Nat.le_refl _) (.cells #[.slice a n1 c1] 35)))).free 0
    clear g1 r0 rf CN
    go_upto_region 2 with fail
    generalize v1.alloc (.cells #[.slice a n1 c1] 35) = V at G1 q0 qf ⊢
    have y0 := World.cell?_setCell_same V ⟨w.heap.size, 0, none⟩ (.slice none 0 0) q0
    have K := hid (outRn_none (x := R.2) (G1.out.setCell (p := ⟨w.heap.size, 0, none⟩) (Nat.le_refl _) (.slice none 0 0)))
    go_wp2
    refine bodyPost_ret (v := .tuple #[.slice none 0 0, .agg #[.slice none 0 0], .int .i64 R.2]) (by simp [results, Tryz.results25, go_sem, y0]) rfl ?_
    exact K.out
end Go.Proofs.YtahoagbaadnihabGreatDoor
