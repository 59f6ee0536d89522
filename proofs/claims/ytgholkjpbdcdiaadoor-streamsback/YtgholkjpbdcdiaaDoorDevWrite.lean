/- What the program's device.Write and device.Lose answer. -/
import Derived.Test.YtgholkjpbdcdiaaDoorDevChange
import Derived.Test.YtgholkjpbdcdiaaDoorSectorEnc
namespace Go.Proofs.YtgholkjpbdcdiaaDoor
open Go.RowKit Go.Lib

theorem write1_any (no : Int) (s0 s : ByteArray) (l0 : Bool) (pn ps : Nat) (w : World) (hn : w.cell? ⟨pn, 0, none⟩ = some (.int .i64 no)) (hs : w.cell? ⟨ps, 0, none⟩ = some (.string s)) :
    Calls Tryd.prog 59 #[.string s0, .bool l0, .pointer (some ⟨pn, 0, none⟩), .pointer (some ⟨ps, 0, none⟩)] w fun e w' => e = .returned (.tuple #[.string (str (encd no s.data.toList).1), .bool false, .int .i64 (encd no s.data.toList).2]) ∧ Below w.heap.size w w' := by
  have HE := hid (encode_any no s w)
  generalize encd no s.data.toList = r at HE
  go_enter Tryd.func59, Tryd.ntmps59
  go_wp2_with fail
  refine HE.out.mono ?_
  rintro _ w1 ⟨rfl, g1⟩
  go_wp2
  go_ret3
  exact ⟨rfl, g1⟩

theorem lose1_any (s : ByteArray) (l : Bool) (w : World) :
    Calls Tryd.prog 60 #[.string s, .bool l] w fun e w' => e = .returned (.tuple #[.string s, .bool true, .int .i64 0]) ∧ Below w.heap.size w w' := by
  go_enter Tryd.func60, Tryd.ntmps60
  go_wp2
  go_ret3
  exact ⟨rfl, Below.refl _ _⟩

theorem encd_size (no : Int) (l : List UInt8) : (str (encd no l).1).size ≤ 281474976710656 := by
  rw [str_size]
  unfold encd
  split
  · simp
  · split
    · simp
    · rename_i h2
      have : l.length ≤ 24 := by omega
      show (sealed (body no l)).length ≤ _
      rw [sealed_length, body_length no l this]
      omega

set_option maxHeartbeats 400000 in
theorem write_any (a : Option Addr) (n c : Nat) (a' : Option Addr) (m c' : Nat) (i no : Int) (s : ByteArray) (D : Dv) (w : World) (h : DevAt w a n a' m D) :
    Calls Tryd.prog 48 #[.agg #[.slice a n c, .slice a' m c'], .int .i64 i, .int .i64 no, .string s] w (OutE w (dvWrite D i no s.data.toList)) := by
  obtain ⟨W, hW⟩ : ∃ W, W = (((w.alloc (.cells #[.slice a n c, .slice a' m c'] 62)).alloc (.cells #[.int .i64 no] 3)).alloc (.cells #[.string s] 9)).alloc (.cells #[.slice none 0 0, .slice none 0 0] 62) := ⟨_, rfl⟩
  have hB : Below w.heap.size w W := by rw [hW]; go_grown
  have hz : W.heap.size = w.heap.size + 4 := by rw [hW]; simp
  have cn : W.cell? ⟨w.heap.size + 1, 0, none⟩ = some (.int .i64 no) := by rw [hW]; simp [go_sem]
  have cs : W.cell? ⟨w.heap.size + 1 + 1, 0, none⟩ = some (.string s) := by rw [hW]; simp [go_sem]
  have rb : Box2 W (w.heap.size + 1 + 1 + 1) (.slice none 0 0) (.slice none 0 0) := by rw [hW]; exact ⟨by simp [go_sem], by simp [go_sem], by simp [go_sem], by simp [go_sem], by simp⟩
  have hC := change_any a n c a' m c' i 59 #[.pointer (some ⟨w.heap.size + 1, 0, none⟩), .pointer (some ⟨w.heap.size + 1 + 1, 0, none⟩)] D (str (encd no s.data.toList).1, false, (encd no s.data.toList).2) W (h.below hB) (enters_of Tryd.func59 (by kernel_rfl) rfl) (encd_size no _)
    (fun _ w1 g1 => write1_any no _ s _ (w.heap.size + 1) (w.heap.size + 1 + 1) w1 ((g1.cell (p := ⟨w.heap.size + 1, 0, none⟩) (by show w.heap.size + 1 < W.heap.size; omega)).trans cn) ((g1.cell (p := ⟨w.heap.size + 1 + 1, 0, none⟩) (by show w.heap.size + 1 + 1 < W.heap.size; omega)).trans cs))
  change Calls _ _ _ _ (OutE W (dvWrite D i no s.data.toList)) at hC
  generalize dvWrite D i no s.data.toList = r at hC
  have HE := hid hW
  rw [hW] at hC
  have HC := hid hC
  have HP := hid (And.intro hB (And.intro hz rb))
  clear hC hW hB hz cn cs rb h
  go_enter Tryd.func48, Tryd.ntmps48
  go_wp2_with fail
  refine HC.out.mono ?_
  rintro _ w1 ⟨b, n1, c1, b', m1, c2, rfl, hD, hF, g1⟩
  rw [← HE.out] at hF g1
  have rb1 := HP.out.2.2.below g1
  have v0 := rb1.c0
  have v1 := rb1.c1
  have x0 := rb1.f0
  have x1 := rb1.f1
  obtain ⟨y0, y1⟩ := ret_box (.slice b n1 c1) (.slice b' m1 c2) v0 v1
  have K := hid (out_store (p := w.heap.size + 1 + 1 + 1) (c := c1) (c' := c2) hD hF (HP.out.1.trans (g1.mono HP.out.1.size)) (by omega) (by rw [HP.out.2.1]; omega) HP.out.1.size)
  clear hD hF g1 rb1
  go_wp2
  refine bodyPost_ret (v := .tuple #[.agg #[.slice b n1 c1, .slice b' m1 c2], .int .i64 r.2]) (by simp [results, Tryd.results48, go_sem, y0, y1]) rfl ?_
  exact ⟨_, _, _, _, _, _, rfl, K.out.1, K.out.2.1, K.out.2.2⟩

set_option maxHeartbeats 400000 in
theorem lose_any (a : Option Addr) (n c : Nat) (a' : Option Addr) (m c' : Nat) (i : Int) (D : Dv) (w : World) (h : DevAt w a n a' m D) :
    Calls Tryd.prog 49 #[.agg #[.slice a n c, .slice a' m c'], .int .i64 i] w (OutE w (dvLose D i)) := by
  obtain ⟨W, hW⟩ : ∃ W, W = (w.alloc (.cells #[.slice a n c, .slice a' m c'] 62)).alloc (.cells #[.slice none 0 0, .slice none 0 0] 62) := ⟨_, rfl⟩
  have hB : Below w.heap.size w W := by rw [hW]; go_grown
  have hz : W.heap.size = w.heap.size + 2 := by rw [hW]; simp
  have rb : Box2 W (w.heap.size + 1) (.slice none 0 0) (.slice none 0 0) := by rw [hW]; exact ⟨by simp [go_sem], by simp [go_sem], by simp [go_sem], by simp [go_sem], by simp⟩
  have hC : Calls Tryd.prog 58 #[.agg #[.slice a n c, .slice a' m c'], .int .i64 i, .func (.func 60) #[] #[]] W (OutE W (dvLose D i)) := by
    by_cases ht : dvTouch D i = 0
    · obtain ⟨hm, h0, h1, _⟩ := touch_ok D i ht
      exact change_any a n c a' m c' i 60 #[] D (sec D i.toNat, true, 0) W (h.below hB) (enters_of Tryd.func60 (by kernel_rfl) rfl) (by rw [sec_size D i.toNat hm (by omega)]; omega) (fun _ w1 _ => lose1_any _ _ w1)
    · have e : dvLose D i = dvChange D i (str [], true, 0) := by rw [dvLose, dvChange, dvChange, if_neg ht, if_neg ht]
      rw [e]
      exact change_any a n c a' m c' i 60 #[] D (str [], true, 0) W (h.below hB) (enters_of Tryd.func60 (by kernel_rfl) rfl) (by rw [str_size]; simp) (fun hh _ _ => absurd hh ht)
  generalize dvLose D i = r at hC
  have HE := hid hW
  rw [hW] at hC
  have HC := hid hC
  have HP := hid (And.intro hB (And.intro hz rb))
  clear hC hW hB hz rb h
  go_enter Tryd.func49, Tryd.ntmps49
  go_wp2_with fail
  refine HC.out.mono ?_
  rintro _ w1 ⟨b, n1, c1, b', m1, c2, rfl, hD, hF, g1⟩
  rw [← HE.out] at hF g1
  have rb1 := HP.out.2.2.below g1
  have v0 := rb1.c0
  have v1 := rb1.c1
  have x0 := rb1.f0
  have x1 := rb1.f1
  obtain ⟨y0, y1⟩ := ret_box (.slice b n1 c1) (.slice b' m1 c2) v0 v1
  have K := hid (out_store (p := w.heap.size + 1) (c := c1) (c' := c2) hD hF (HP.out.1.trans (g1.mono HP.out.1.size)) (by omega) (by rw [HP.out.2.1]; omega) HP.out.1.size)
  clear hD hF g1 rb1
  go_wp2
  refine bodyPost_ret (v := .tuple #[.agg #[.slice b n1 c1, .slice b' m1 c2], .int .i64 r.2]) (by simp [results, Tryd.results49, go_sem, y0, y1]) rfl ?_
  exact ⟨_, _, _, _, _, _, rfl, K.out.1, K.out.2.1, K.out.2.2⟩
end Go.Proofs.YtgholkjpbdcdiaaDoor
