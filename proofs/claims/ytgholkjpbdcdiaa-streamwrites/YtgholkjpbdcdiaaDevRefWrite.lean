/- What the document's own DeviceWritten and DeviceLost answer. -/
import Derived.Test.YtgholkjpbdcdiaaDevRefCopy
import Derived.Test.YtgholkjpbdcdiaaDevTouched
import Derived.Test.YtgholkjpbdcdiaaDevBox
import Derived.Deep.DeepCutAuto
namespace Go.Proofs.Ytgholkjpbdcdiaa
open Go.RowKit Go.Lib

/-- While the copy is changed: its box, the result's box, its two rows. -/
structure RefI (w : World) (po pr b b' n c1 m c2 : Nat) (V V' : List Value) (W : World) : Prop where
  o : Box2 W po (.slice (some ⟨b, 0, none⟩) n c1) (.slice (some ⟨b', 0, none⟩) m c2)
  r : Box2 W pr (.slice none 0 0) (.slice none 0 0)
  s : Own W b 9 V
  l : Own W b' 4 V'
  below : Below w.heap.size w W
  ge : w.heap.size ≤ pr ∧ w.heap.size ≤ b ∧ w.heap.size ≤ b'
  ne : po ≠ b ∧ po ≠ b' ∧ pr ≠ b ∧ pr ≠ b' ∧ b ≠ b'
section
variable {w W : World} {po pr b b' n c1 m c2 : Nat} {V V' : List Value}
theorem RefI.setS (h : RefI w po pr b b' n c1 m c2 V V' W) {k : Nat} (hk : k < V.length) (v : Value) : RefI w po pr b b' n c1 m c2 (V.set k v) V' (W.setCell ⟨b, k, none⟩ v) :=
  ⟨h.o.other h.ne.1 v, h.r.other h.ne.2.2.1 v, h.s.set hk v, h.l.other (fun e => h.ne.2.2.2.2 e.symm) v, h.below.setCell h.ge.2.1 v, h.ge, h.ne⟩
theorem RefI.setL (h : RefI w po pr b b' n c1 m c2 V V' W) {k : Nat} (hk : k < V'.length) (v : Value) : RefI w po pr b b' n c1 m c2 V (V'.set k v) (W.setCell ⟨b', k, none⟩ v) :=
  ⟨h.o.other h.ne.2.1 v, h.r.other h.ne.2.2.2.1 v, h.s.other h.ne.2.2.2.2 v, h.l.set hk v, h.below.setCell h.ge.2.2 v, h.ge, h.ne⟩
/-- Behind the store into the result's box. -/
theorem RefI.out (h : RefI w po pr b b' n c1 m c2 V V' W) (D : Dv) (hV : V = D.1.map .string) (hV' : V' = D.2.map .bool) (hn : n = D.1.length) (hm : m = D.2.length) (nb : n ≤ maxLen) (mb : m ≤ maxLen) :
    OutE w (D, 0) (.returned (.tuple #[.agg #[.slice (some ⟨b, 0, none⟩) n c1, .slice (some ⟨b', 0, none⟩) m c2], .int .i64 0])) ((W.setCell ⟨pr, 0, none⟩ (.slice (some ⟨b, 0, none⟩) n c1)).setCell ⟨pr, 1, none⟩ (.slice (some ⟨b', 0, none⟩) m c2)) := by
  subst hV; subst hV'
  have k1 := (h.s.other (p := ⟨pr, 0, none⟩) (fun e => h.ne.2.2.1 e.symm) (.slice (some ⟨b, 0, none⟩) n c1)).other (p := ⟨pr, 1, none⟩) (fun e => h.ne.2.2.1 e.symm) (.slice (some ⟨b', 0, none⟩) m c2)
  have k2 := (h.l.other (p := ⟨pr, 0, none⟩) (fun e => h.ne.2.2.2.1 e.symm) (.slice (some ⟨b, 0, none⟩) n c1)).other (p := ⟨pr, 1, none⟩) (fun e => h.ne.2.2.2.1 e.symm) (.slice (some ⟨b', 0, none⟩) m c2)
  exact ⟨_, n, c1, _, m, c2, rfl, ⟨hn, hm, k1.row, k2.row, nb, mb⟩, fresh_some h.ge.2.1 h.ge.2.2, (h.below.setCell h.ge.1 _).setCell h.ge.1 _⟩
end

/-- Behind DeviceCopy and the box that is laid for what it answers. -/
theorem refI_start {w W w2 : World} {pr n c1 m c2 : Nat} {ao ao' : Option Addr} {D : Dv} {B : Nat} (hN : DevNew B w2 ao ao' D) (hB : pr < B) (hpr : w.heap.size ≤ pr) (hb : Below w.heap.size w w2) (hr : Box2 w2 pr (.slice none 0 0) (.slice none 0 0)) (h1 : D.1 ≠ []) (h2 : D.2 ≠ []) (hW : W = w2.alloc (.cells #[.slice ao n c1, .slice ao' m c2] 40)) :
    ∃ b b', ao = some ⟨b, 0, none⟩ ∧ ao' = some ⟨b', 0, none⟩ ∧ RefI w w2.heap.size pr b b' n c1 m c2 (D.1.map .string) (D.2.map .bool) W := by
  rcases hN.S with e | ⟨b, rfl, gb, ob⟩
  · exact absurd e h1
  rcases hN.L with e | ⟨b', rfl, gb', ob'⟩
  · exact absurd e h2
  have hne := hN.apart h1 h2 b b' rfl rfl
  have l1 := ob.lt
  have l2 := ob'.lt
  have hbw : Below w2.heap.size w2 W := by rw [hW]; exact (Below.refl _ w2).alloc (Nat.le_refl _) _
  have l3 := hr.lt
  refine ⟨b, b', rfl, rfl, ⟨?_, hr.below hbw, ob.below' hbw, ob'.below' hbw, hb.trans (hbw.mono hb.size), ⟨hpr, by omega, by omega⟩, ⟨by omega, by omega, by omega, by omega, hne⟩⟩⟩
  rw [hW]
  exact box2_of (Own.made w2 40 [.slice (some ⟨b, 0, none⟩) n c1, .slice (some ⟨b', 0, none⟩) m c2])

/-- The two boxes that are laid first. -/
theorem ref_boxes (w : World) (d1 d2 : Value) : ∃ W, W = (w.alloc (.cells #[d1, d2] 40)).alloc (.cells #[.slice none 0 0, .slice none 0 0] 40) ∧ Below w.heap.size w W ∧ W.heap.size = w.heap.size + 2 ∧ Box2 W w.heap.size d1 d2 ∧ Box2 W (w.heap.size + 1) (.slice none 0 0) (.slice none 0 0) := by
  refine ⟨_, rfl, by go_grown, by simp, ?_, ?_⟩
  · exact ⟨by simp [go_sem], by simp [go_sem], by simp [go_sem], by simp [go_sem], by simp; omega⟩
  · exact ⟨by simp [go_sem], by simp [go_sem], by simp [go_sem], by simp [go_sem], by simp⟩

set_option maxHeartbeats 1600000 in
theorem refwritten_any (a : Option Addr) (n c : Nat) (a' : Option Addr) (m c' : Nat) (i no : Int) (s : ByteArray) (D : Dv) (w : World) (h : DevAt w a n a' m D) :
    Calls Try.prog 38 #[.agg #[.slice a n c, .slice a' m c'], .int .i64 i, .int .i64 no, .string s] w (OutE w (dvWrite D i no s.data.toList)) := by
  obtain ⟨W, hW, hB, hz, bd, br⟩ := ref_boxes w (.slice a n c) (.slice a' m c')
  have hT := touched_any a n c a' m c' i D W (h.below hB)
  have HP := hid (And.intro hW (And.intro hB (And.intro hz (And.intro bd br))))
  rw [hW] at hT
  by_cases ht : dvTouch D i = 0
  · obtain ⟨hmay, h0, h1, h2, h64⟩ := touch_ok D i ht
    obtain ⟨k, rfl⟩ : ∃ k : Nat, i = k := ⟨i.toNat, by omega⟩
    rw [ht] at hT
    have HT := hid hT
    have HY := hid (fun wx => bytes_any no s wx)
    rw [dvWrite, change_dv D k _ ht]
    generalize encd no s.data.toList = r at HY
    by_cases h3 : r.2 = 0
    · rw [if_pos h3]
      rw [h3] at HY
      have hkn : k < n := by rw [h.sn]; omega
      have hkm : k < m := by rw [h.sm]; omega
      have hkn' : (k : Int) < n := by omega
      have hkm' : (k : Int) < m := by omega
      have n64 : n ≤ 64 := by rw [h.sn]; exact h64
      have m64 : m ≤ 64 := by rw [h.sm]; omega
      have HC := hid (fun wx (g : Below W.heap.size W wx) => refcopy_any a n c a' m c' D wx ((h.below hB).below g) (by omega) (by omega))
      have HD := hid h
      have HK := hid (And.intro hkn hkm)
      clear hT hW hB hz bd br h ht hmay h0 h1 h2 h64 h3 hkn hkm n64 m64
      go_enter Try.func38, Try.ntmps38
      go_wp2_with fail
      refine HT.out.mono ?_
      rintro _ w1 ⟨rfl, g1⟩
      rw [← HP.out.1] at g1
      go_wp2_with fail
      refine (HY.out _).mono ?_
      rintro _ w2 ⟨rfl, g2⟩
      have g3 := g1.trans (g2.mono g1.size)
      have bd2 := HP.out.2.2.2.1.below g3
      have d0 := bd2.c0
      have d1 := bd2.c1
      have G3 := hid g3
      clear g1 g2 bd2 g3
      go_wp2_with fail
      refine (HC.out _ G3.out).mono ?_
      rintro _ w3 ⟨ao, c1, ao', c2, rfl, hN, g4⟩
      have g5 := G3.out.trans (g4.mono G3.out.size)
      obtain ⟨b, b', rfl, rfl, hI⟩ := refI_start (w := w) (W := w3.alloc (.cells #[.slice ao n c1, .slice ao' m c2] 40)) (pr := w.heap.size + 1) hN (by have := G3.out.size; rw [HP.out.2.2.1] at this; omega) (by omega) (HP.out.2.1.trans (g5.mono HP.out.2.1.size)) (HP.out.2.2.2.2.below g5) (by intro e; have := HD.out.sn; rw [e] at this; have := HK.out; simp at *; omega) (by intro e; have := HD.out.sm; rw [e] at this; have := HK.out; simp at *; omega) rfl
      clear hN g4 g5 d0 d1
      go_upto_region 8 with fail
      generalize w3.alloc (.cells #[.slice (some ⟨b, 0, none⟩) n c1, .slice (some ⟨b', 0, none⟩) m c2] 40) = W3 at hI
      have hI4 := hI.setS (k := k) (by rw [List.length_map, ← HD.out.sn]; exact HK.out.1) (.string (str r.1))
      have hI5 := hI4.setL (k := k) (by rw [List.length_map, ← HD.out.sm]; exact HK.out.2) (.bool false)
      have p0 := hI.o.c0
      obtain ⟨x, hx⟩ : ∃ x, (D.1.map Value.string)[k]? = some x := ⟨_, List.getElem?_eq_getElem (by rw [List.length_map, ← HD.out.sn]; exact HK.out.1)⟩
      obtain ⟨y, hy⟩ : ∃ y, (D.2.map Value.bool)[k]? = some y := ⟨_, List.getElem?_eq_getElem (by rw [List.length_map, ← HD.out.sm]; exact HK.out.2)⟩
      have p1 := hI.s.cell hx
      have p2 := hI.s.free k
      have p3 := hI4.o.c1
      have p4 := hI4.l.cell hy
      have p5 := hI4.l.free k
      have p6 := hI5.o.c0
      have p7 := hI5.o.c1
      have v0 := hI5.r.c0
      have v1 := hI5.r.c1
      have x0 := hI5.r.f0
      have x1 := hI5.r.f1
      obtain ⟨y0, y1⟩ := ret_box (.slice (some ⟨b, 0, none⟩) n c1) (.slice (some ⟨b', 0, none⟩) m c2) v0 v1
      have K := hid (hI5.out (dvPut D k (str r.1) false) (put_strs D k (str r.1) false).1 (put_strs D k (str r.1) false).2 (by rw [(put_len D k (str r.1) false).1]; exact HD.out.sn) (by rw [(put_len D k (str r.1) false).2]; exact HD.out.sm) HD.out.nb HD.out.mb)
      clear hI hI4 hI5 hx hy
      go_wp2
      refine bodyPost_ret (v := .tuple #[.agg #[.slice (some ⟨b, 0, none⟩) n c1, .slice (some ⟨b', 0, none⟩) m c2], .int .i64 0]) (by simp [results, Try.results38, go_sem, y0, y1]) rfl ?_
      exact K.out
    · rw [if_neg h3]
      have h3' : (r.2 != 0) = true := bne_iff_ne.2 h3
      clear hT hW hB hz bd br h ht hmay h0 h1 h2 h64 h3
      go_enter Try.func38, Try.ntmps38
      go_wp2_with fail
      refine HT.out.mono ?_
      rintro _ w1 ⟨rfl, g1⟩
      rw [← HP.out.1] at g1
      go_wp2_with fail
      refine (HY.out _).mono ?_
      rintro _ w2 ⟨rfl, g2⟩
      have g3 := g1.trans (g2.mono g1.size)
      clear g1 g2
      have rb := HP.out.2.2.2.2.below g3
      have v0 := rb.c0
      have v1 := rb.c1
      have x0 := rb.f0
      have x1 := rb.f1
      obtain ⟨y0, y1⟩ := ret_box (.slice none 0 0) (.slice none 0 0) v0 v1
      have K := hid (((HP.out.2.1.trans ((g3).mono HP.out.2.1.size)).setCell (p := ⟨w.heap.size + 1, 0, none⟩) (by show w.heap.size ≤ w.heap.size + 1; omega) (.slice none 0 0)).setCell (p := ⟨w.heap.size + 1, 1, none⟩) (by show w.heap.size ≤ w.heap.size + 1; omega) (.slice none 0 0))
      clear rb
      go_wp2
      refine bodyPost_ret (v := .tuple #[.agg #[.slice none 0 0, .slice none 0 0], .int .i64 r.2]) (by simp [results, Try.results38, go_sem, y0, y1]) rfl ?_
      exact ⟨none, 0, 0, none, 0, 0, rfl, devAt_none _, fresh_none _, K.out⟩
  · rw [dvWrite, dvChange, if_neg ht]
    have HT := hid hT
    clear hT hW hB hz bd br h
    generalize dvTouch D i = t at HT ht
    have ht' : (t != 0) = true := bne_iff_ne.2 ht
    clear ht
    go_enter Try.func38, Try.ntmps38
    go_wp2_with fail
    refine HT.out.mono ?_
    rintro _ w1 ⟨rfl, g1⟩
    rw [← HP.out.1] at g1
    have rb := HP.out.2.2.2.2.below g1
    have v0 := rb.c0
    have v1 := rb.c1
    have x0 := rb.f0
    have x1 := rb.f1
    obtain ⟨y0, y1⟩ := ret_box (.slice none 0 0) (.slice none 0 0) v0 v1
    have K := hid (((HP.out.2.1.trans ((g1).mono HP.out.2.1.size)).setCell (p := ⟨w.heap.size + 1, 0, none⟩) (by show w.heap.size ≤ w.heap.size + 1; omega) (.slice none 0 0)).setCell (p := ⟨w.heap.size + 1, 1, none⟩) (by show w.heap.size ≤ w.heap.size + 1; omega) (.slice none 0 0))
    clear rb
    go_wp2
    refine bodyPost_ret (v := .tuple #[.agg #[.slice none 0 0, .slice none 0 0], .int .i64 t]) (by simp [results, Try.results38, go_sem, y0, y1]) rfl ?_
    exact ⟨none, 0, 0, none, 0, 0, rfl, devAt_none _, fresh_none _, K.out⟩

set_option maxHeartbeats 1600000 in
theorem reflost_any (a : Option Addr) (n c : Nat) (a' : Option Addr) (m c' : Nat) (i : Int) (D : Dv) (w : World) (h : DevAt w a n a' m D) :
    Calls Try.prog 41 #[.agg #[.slice a n c, .slice a' m c'], .int .i64 i] w (OutE w (dvLose D i)) := by
  obtain ⟨W, hW, hB, hz, bd, br⟩ := ref_boxes w (.slice a n c) (.slice a' m c')
  have hT := touched_any a n c a' m c' i D W (h.below hB)
  have HP := hid (And.intro hW (And.intro hB (And.intro hz (And.intro bd br))))
  rw [hW] at hT
  by_cases ht : dvTouch D i = 0
  · obtain ⟨hmay, h0, h1, h2, h64⟩ := touch_ok D i ht
    obtain ⟨k, rfl⟩ : ∃ k : Nat, i = k := ⟨i.toNat, by omega⟩
    rw [ht] at hT
    have HT := hid hT
    rw [dvLose, change_dv D k _ ht]
    rw [if_pos rfl]
    have hto : (k : Int).toNat = k := by omega
    rw [hto]
    have hkn : k < n := by rw [h.sn]; omega
    have hkm : k < m := by rw [h.sm]; omega
    have hkn' : (k : Int) < n := by omega
    have hkm' : (k : Int) < m := by omega
    have n64 : n ≤ 64 := by rw [h.sn]; exact h64
    have m64 : m ≤ 64 := by rw [h.sm]; omega
    have HC := hid (fun wx (g : Below W.heap.size W wx) => refcopy_any a n c a' m c' D wx ((h.below hB).below g) (by omega) (by omega))
    have HD := hid h
    have HK := hid (And.intro hkn hkm)
    clear hT hW hB hz bd br h ht hmay h0 h1 h2 h64 hto hkn hkm n64 m64
    go_enter Try.func41, Try.ntmps41
    go_wp2_with fail
    refine HT.out.mono ?_
    rintro _ w1 ⟨rfl, g1⟩
    rw [← HP.out.1] at g1
    have g3 := g1
    have bd2 := HP.out.2.2.2.1.below g3
    have d0 := bd2.c0
    have d1 := bd2.c1
    have G3 := hid g3
    clear g1 bd2 g3
    go_wp2_with fail
    refine (HC.out _ G3.out).mono ?_
    rintro _ w3 ⟨ao, c1, ao', c2, rfl, hN, g4⟩
    have g5 := G3.out.trans (g4.mono G3.out.size)
    obtain ⟨b, b', rfl, rfl, hI⟩ := refI_start (w := w) (W := w3.alloc (.cells #[.slice ao n c1, .slice ao' m c2] 40)) (pr := w.heap.size + 1) hN (by have := G3.out.size; rw [HP.out.2.2.1] at this; omega) (by omega) (HP.out.2.1.trans (g5.mono HP.out.2.1.size)) (HP.out.2.2.2.2.below g5) (by intro e; have := HD.out.sn; rw [e] at this; have := HK.out; simp at *; omega) (by intro e; have := HD.out.sm; rw [e] at this; have := HK.out; simp at *; omega) rfl
    clear hN g4 g5 d0 d1
    go_upto_region 5 with fail
    generalize w3.alloc (.cells #[.slice (some ⟨b, 0, none⟩) n c1, .slice (some ⟨b', 0, none⟩) m c2] 40) = W3 at hI
    have hI5 := hI.setL (k := k) (by rw [List.length_map, ← HD.out.sm]; exact HK.out.2) (.bool true)
    obtain ⟨y, hy⟩ : ∃ y, (D.2.map Value.bool)[k]? = some y := ⟨_, List.getElem?_eq_getElem (by rw [List.length_map, ← HD.out.sm]; exact HK.out.2)⟩
    have p3 := hI.o.c1
    have p4 := hI.l.cell hy
    have p5 := hI.l.free k
    have p6 := hI5.o.c0
    have p7 := hI5.o.c1
    have v0 := hI5.r.c0
    have v1 := hI5.r.c1
    have x0 := hI5.r.f0
    have x1 := hI5.r.f1
    obtain ⟨y0, y1⟩ := ret_box (.slice (some ⟨b, 0, none⟩) n c1) (.slice (some ⟨b', 0, none⟩) m c2) v0 v1
    have K := hid (hI5.out (dvPut D k (sec D k) true) (by rw [dvPut_self D k true (by rw [← HD.out.sn]; exact HK.out.1)]) (put_strs D k (sec D k) true).2 (by rw [(put_len D k (sec D k) true).1]; exact HD.out.sn) (by rw [(put_len D k (sec D k) true).2]; exact HD.out.sm) HD.out.nb HD.out.mb)
    clear hI hI5 hy
    go_wp2
    refine bodyPost_ret (v := .tuple #[.agg #[.slice (some ⟨b, 0, none⟩) n c1, .slice (some ⟨b', 0, none⟩) m c2], .int .i64 0]) (by simp [results, Try.results41, go_sem, y0, y1]) rfl ?_
    exact K.out
  · rw [dvLose, dvChange, if_neg ht]
    have HT := hid hT
    clear hT hW hB hz bd br h
    generalize dvTouch D i = t at HT ht
    have ht' : (t != 0) = true := bne_iff_ne.2 ht
    clear ht
    go_enter Try.func41, Try.ntmps41
    go_wp2_with fail
    refine HT.out.mono ?_
    rintro _ w1 ⟨rfl, g1⟩
    rw [← HP.out.1] at g1
    have rb := HP.out.2.2.2.2.below g1
    have v0 := rb.c0
    have v1 := rb.c1
    have x0 := rb.f0
    have x1 := rb.f1
    obtain ⟨y0, y1⟩ := ret_box (.slice none 0 0) (.slice none 0 0) v0 v1
    have K := hid (((HP.out.2.1.trans ((g1).mono HP.out.2.1.size)).setCell (p := ⟨w.heap.size + 1, 0, none⟩) (by show w.heap.size ≤ w.heap.size + 1; omega) (.slice none 0 0)).setCell (p := ⟨w.heap.size + 1, 1, none⟩) (by show w.heap.size ≤ w.heap.size + 1; omega) (.slice none 0 0))
    clear rb
    go_wp2
    refine bodyPost_ret (v := .tuple #[.agg #[.slice none 0 0, .slice none 0 0], .int .i64 t]) (by simp [results, Try.results41, go_sem, y0, y1]) rfl ?_
    exact ⟨none, 0, 0, none, 0, 0, rfl, devAt_none _, fresh_none _, K.out⟩
end Go.Proofs.Ytgholkjpbdcdiaa
