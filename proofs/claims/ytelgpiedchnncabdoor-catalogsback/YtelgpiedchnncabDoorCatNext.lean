/- The next sector that is free: the program's answer and the document's. -/
import Derived.Test.YtelgpiedchnncabDoorCatChkE
import Derived.Test.YtelgpiedchnncabDoorCatFault
namespace Go.Proofs.YtelgpiedchnncabDoor
open Go.RowKit Go.Lib

theorem ret_ii {k k' : IntKind} {a b : Int} {n : Int} (h : a = b) : Ending.returned (.tuple #[.int k a, .int k' n]) = .returned (.tuple #[.int k b, .int k' n]) := by rw [h]

set_option maxHeartbeats 1000000 in
theorem cnext_any (a : Option Addr) (n c : Nat) (a' : Option Addr) (m c' : Nat) (C : Ct) (w : World) (H : CatAt w a n c a' m C) :
    Calls Tryd.prog 12 #[.agg #[.slice a n c, .slice a' m c']] w fun e w' => e = .returned (.tuple #[.int .i64 (catNext C).1, .int .i64 (catNext C).2]) ∧ Below w.heap.size w w' := by
  obtain ⟨W, hW⟩ : ∃ W, W = w.alloc (.cells #[.slice a n c, .slice a' m c'] 25) := ⟨_, rfl⟩
  have hB : Below w.heap.size w W := by rw [hW]; exact (Below.refl _ w).alloc (Nat.le_refl _) _
  have bd : Box2 W w.heap.size (.slice a n c) (.slice a' m c') := by rw [hW]; exact box2_of (Own.made w 25 [.slice a n c, .slice a' m c'])
  have h1 := ccheck_any a n c a' m c' C W (H.below hB)
  rw [hW] at h1
  unfold catNext
  by_cases e : catChk C = 0
  · rw [if_pos e]
    rw [e] at h1
    obtain ⟨k1, k2, k3, k4⟩ := chk_ok C e
    have CB : Hid (∀ wx, Below W.heap.size W wx → Calls Tryd.prog 31 #[.slice a n c] wx fun e w' => e = .returned (.int .i64 (atB C.1 C.1.length)) ∧ Below wx.heap.size wx w') := by
      intro wx g
      have := behind_any a n c C.1 wx (((H.below hB).below g).B) (fun j hj => by
        have hl : C.1.length = j + 1 := by rw [← H.B.sn, hj]
        rw [hl] at k3
        obtain ⟨h1, h2, h3⟩ := blk_last C.1 j k3
        rw [atB_succ] at h3
        rw [h1]
        omega)
      rw [show behB C.1 = atB C.1 C.1.length by
        have := beh_take C.1 C.1.length (Nat.le_refl _) (blk_ok C.1 _ k3)
        rw [List.take_length] at this
        exact this] at this
      exact this
    generalize atB C.1 C.1.length = T at CB
    have HP := hid (And.intro hB (And.intro bd hW))
    have H1 := hid h1
    clear hB bd H h1 hW e k1 k2 k3 k4
    go_enter Tryd.func12, Tryd.ntmps12
    go_wp2_with fail
    refine H1.out.mono ?_
    rintro e w1 ⟨rfl, g1⟩
    rw [← HP.out.2.2] at g1
    have d0 := (HP.out.2.1.below g1).c0
    have d1 := (HP.out.2.1.below g1).c1
    have G1 := hid g1
    clear g1 H1
    go_wp2_with fail
    refine (CB.out _ G1.out).mono ?_
    rintro e w2 ⟨rfl, g2⟩
    go_wp2
    go_ret2
    exact ⟨rfl, HP.out.1.trans ((G1.out.trans (g2.mono G1.out.size)).mono HP.out.1.size)⟩
  · rw [if_neg e]
    generalize catChk C = T at h1 e
    have e' : (T != 0) = true := by rw [bne_iff_ne]; exact e
    have HP := hid (And.intro hB (And.intro bd hW))
    have H1 := hid h1
    clear hB bd H h1 hW e
    go_enter Tryd.func12, Tryd.ntmps12
    go_wp2_with fail
    refine H1.out.mono ?_
    rintro e w1 ⟨rfl, g1⟩
    rw [← HP.out.2.2] at g1
    go_wp2
    go_ret2
    exact ⟨rfl, HP.out.1.trans (g1.mono HP.out.1.size)⟩

end Go.Proofs.YtelgpiedchnncabDoor
