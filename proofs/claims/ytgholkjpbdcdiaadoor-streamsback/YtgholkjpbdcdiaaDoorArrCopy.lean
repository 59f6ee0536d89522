/- What the program's array.Copy answers: the same array in memory of its own. -/
import Derived.Test.YtgholkjpbdcdiaaDoorArrStore
import Derived.Test.YtgholkjpbdcdiaaDoorDevCopy
import Derived.Deep.RegionWith
import Derived.Deep.RegionHeld3
import Derived.Deep.DeepCutAuto
namespace Go.Proofs.YtgholkjpbdcdiaaDoor
open Go.RowKit Go.Lib

theorem cqI_start (w : World) (v : Value) (n : Nat) (A : Ar) (hn : n ≤ maxLen) (W : World)
    (hW : W = (((w.alloc (.cells #[v] 25)).alloc (.cells #[.slice none 0 0] 25)).alloc (.cells (Array.replicate (n * 2) (.slice none 0 0)) 62)).alloc (.cells #[.slice (some ⟨w.heap.size + 1 + 1, 0, none⟩) n n] 25)) : Fill w (w.heap.size + 1) n A (fun _ => nilH) 0 W := by
  rw [← List.toArray_replicate] at hW
  subst hW
  have f0 := made_free ((w.alloc (.cells #[v] 25)).alloc (.cells #[.slice none 0 0] 25)) n hn
  have e : ((w.alloc (.cells #[v] 25)).alloc (.cells #[.slice none 0 0] 25)).heap.size = w.heap.size + 1 + 1 := by simp
  rw [e, ← upTo_none A n] at f0
  exact ⟨by simp [go_sem], by simp [go_sem], by simp [go_sem], f0.below ((Below.refl _ _).alloc (Nat.le_refl _) _), by simp, by omega, by go_grown⟩

set_option maxHeartbeats 1600000 in
set_option maxRecDepth 4000 in
theorem arcopy_any (a : Option Addr) (n c : Nat) (A : Ar) (w : World) (H : ArrAt w a n A) (hf : ArrFits n A) :
    Calls Tryd.prog 16 #[.agg #[.slice a n c]] w (OutC w n A) := by
  have hbig := hf.big
  have mk := make_devs n (by omega)
  have hnb := H.nb
  obtain ⟨W, hW⟩ : ∃ W, W = (((w.alloc (.cells #[.slice a n c] 25)).alloc (.cells #[.slice none 0 0] 25)).alloc (.cells (Array.replicate (n * 2) (.slice none 0 0)) 62)).alloc (.cells #[.slice (some ⟨w.heap.size + 1 + 1, 0, none⟩) n n] 25) := ⟨_, rfl⟩
  have HS := hid (cqI_start w (.slice a n c) n A hnb W hW)
  have ab : W.cell? ⟨w.heap.size, 0, none⟩ = some (.slice a n c) := by rw [hW]; simp [go_sem]
  unfold maxLen at hnb
  have HH := hid H
  have HF := hid hf
  clear H hf
  go_enter Tryd.func16, Tryd.ntmps16
  go_upto_region 2 with fail
  rw [← hW]
  clear hW mk
  go_wp2_with fail
  clear ab
  go_loopw [14] (fun i wr => ∃ (k : Nat) (h : Nat → Hd), k ≤ n ∧ i = .int .i64 k ∧ Fill w (w.heap.size + 1) n A h k wr) (fun i _ => n - (intOf i).toNat)
  case atStart => exact ⟨0, _, Nat.zero_le _, rfl, HS.out⟩
  case round =>
    obtain ⟨k, h, hk, rfl, hI⟩ := hrel
    clear HS
    by_cases hlt : k < n
    · have hlt' : (k : Int) < n := by omega
      rcases HH.out with ⟨h0, _⟩ | ⟨b, o, h2, rfl, HA⟩
      · omega
      have HA' := HA.below hI.below
      have d0 := HA'.c0 k hlt
      have d1 := HA'.c1 k hlt
      have sp := (HA'.dv k hlt).sn
      have sq := (HA'.dv k hlt).sm
      have sb := (HA'.dv k hlt).nb
      have sb' := (HA'.dv k hlt).mb
      have fit := HF.out.each k hlt
      have fs := HF.out.strs k hlt
      have C1 := hid (fun wx (g : Below w.heap.size w wx) => copy_any (h2 k).x (h2 k).p (h2 k).c (h2 k).y (h2 k).q (h2 k).d (dev A k) wx ((HA.below g).dv k hlt) (by rw [sp]; omega) (by rw [sq]; omega) (fun s hs => by have := fs s hs; omega))
      obtain ⟨V, hV⟩ : ∃ V, V = wr.alloc (.cells #[.slice (h2 k).x (h2 k).p (h2 k).c, .slice (h2 k).y (h2 k).q (h2 k).d] 62) := ⟨_, rfl⟩
      have bV : Below wr.heap.size wr V := by rw [hV]; exact (Below.refl _ wr).alloc (Nat.le_refl _) _
      have bx : Box2 V wr.heap.size (.slice (h2 k).x (h2 k).p (h2 k).c) (.slice (h2 k).y (h2 k).q (h2 k).d) := by rw [hV]; exact box2_of (Own.made wr 62 [.slice (h2 k).x (h2 k).p (h2 k).c, .slice (h2 k).y (h2 k).q (h2 k).d])
      have HI := hid (And.intro (hI.to bV) bx)
      have HQ := hid (And.intro sp (And.intro sq (And.intro sb (And.intro sb' HH.out.len))))
      clear hI HA HA' sp sq sb sb' fit fs bV bx
      go_wp2_with fail
      rw [← hV]
      clear hV d0 d1
      have x0 := HI.out.2.c0
      have x1 := HI.out.2.c1
      have cb := HI.out.1.cb
      go_region_with (go_at_call 36; refine (C1.out _ HI.out.1.below.drew).mono ?_; rintro _ w4 ⟨b1, b2, rfl, _, _, hne, o1, o2, g4⟩; (have I4 := HI.out.1.to (undrew g4)); (have D4 : DevAt w4 (some ⟨b1, 0, none⟩) (h2 k).p (some ⟨b2, 0, none⟩) (h2 k).q (dev A k) := ⟨HQ.out.1, HQ.out.2.1, o1.row, o2.row, HQ.out.2.2.1, HQ.out.2.2.2.1⟩); (have K4 := hid (I4.step HQ.out.2.2.2.2 hlt ⟨some ⟨b1, 0, none⟩, (h2 k).p, (h2 k).p, some ⟨b2, 0, none⟩, (h2 k).q, (h2 k).q⟩ D4)); (have z := (I4.fr.store0 k hlt ⟨some ⟨b1, 0, none⟩, (h2 k).p, (h2 k).p, some ⟨b2, 0, none⟩, (h2 k).q, (h2 k).q⟩ _ D4).1); (have z0 := z.1); (have z1 := z.2.1); (have z2 := z.2.2.1); (have z3 := z.2.2.2); (have c4 := I4.cb); clear I4 D4 z o1 o2 g4)
      all_goals clear x0 x1 cb z0 z1 z2 z3 c4
      all_goals go_wp2
      all_goals go_roundw
      all_goals (first | (case rel => exact ⟨k + 1, _, by omega, by go_num, K4.out⟩) | skip)
      all_goals (simp [intOf]; omega)
    · obtain rfl : k = n := by omega
      have hnl : ¬ (k : Int) < k := by omega
      have cb := hI.cb
      have rc := hI.rc
      have rf := hI.rf
      have y0 := World.cell?_setCell_same wr ⟨w.heap.size + 1, 0, none⟩ (.slice (some ⟨w.heap.size + 1 + 1, 0, none⟩) k k) rc
      have fr := hI.fr.box (p := w.heap.size + 1) (by omega) rc (.slice (some ⟨w.heap.size + 1 + 1, 0, none⟩) k k)
      rw [upTo_all A k HH.out.len] at fr
      have K := hid (show OutC w k A _ _ from ⟨_, k, rfl, .inr ⟨w.heap.size + 1 + 1, h, rfl, by omega, fr⟩, hI.below.setCell (p := ⟨w.heap.size + 1, 0, none⟩) (by show w.heap.size ≤ w.heap.size + 1; omega) _⟩)
      clear hI fr
      go_wp2
      refine bodyPost_ret (v := .agg #[.slice (some ⟨w.heap.size + 1 + 1, 0, none⟩) k k]) (by simp [results, Tryd.results16, go_sem, y0]) rfl ?_
      exact K.out
end Go.Proofs.YtgholkjpbdcdiaaDoor
