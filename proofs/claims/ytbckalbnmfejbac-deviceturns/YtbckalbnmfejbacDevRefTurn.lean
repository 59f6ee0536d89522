/- What the document's own DeviceTurned answers. -/
import Derived.Test.YtbckalbnmfejbacDevRefWrite
import Derived.Deep.RegionHeld3
namespace Go.Proofs.Ytbckalbnmfejbac
open Go.RowKit Go.Lib

section
variable {w W W' : World} {po pr b b' n c1 m c2 : Nat} {V V' : List Value}
theorem RefI.to (h : RefI w po pr b b' n c1 m c2 V V' W) (g : Below W.heap.size W W') : RefI w po pr b b' n c1 m c2 V V' W' :=
  ⟨h.o.below g, h.r.below g, h.s.below' g, h.l.below' g, h.below.trans (g.mono h.below.size), h.ge, h.ne⟩
theorem RefI.drew (h : RefI w po pr b b' n c1 m c2 V V' W) : RefI w po pr b b' n c1 m c2 V V' W.drew := h.to ((Below.refl _ W).drew)
end

set_option maxHeartbeats 1600000 in
set_option maxRecDepth 4000 in
theorem refturned_any (a : Option Addr) (n c : Nat) (a' : Option Addr) (m c' : Nat) (i place by_ : Int) (D : Dv) (w : World) (h : DevAt w a n a' m D) :
    Calls Try.prog 17 #[.agg #[.slice a n c, .slice a' m c'], .int .i64 i, .int .i64 place, .int .i64 by_] w (OutE w (dvTurn D i place by_)) := by
  obtain ⟨W, hW, hB, hz, bd, br⟩ := ref_boxes w (.slice a n c) (.slice a' m c')
  have hT := touched_any a n c a' m c' i D W (h.below hB)
  have HP := hid (And.intro hW (And.intro hB (And.intro hz (And.intro bd br))))
  rw [hW] at hT
  by_cases ht : dvTouch D i = 0
  · obtain ⟨hmay, h0, h1, h2, h64⟩ := touch_ok D i ht
    obtain ⟨k, rfl⟩ : ∃ k : Nat, i = k := ⟨i.toNat, by omega⟩
    rw [ht] at hT
    have HT := hid hT
    have HT := hid hT
    rw [dvTurn, change_dv D k _ ht]
    have hto : (k : Int).toNat = k := by omega
    rw [hto]
    have i1 := fun wx => in_any place 0 29 wx
    have i2 := fun wx => in_any by_ 0 255 wx
    by_cases h3 : 0 ≤ place ∧ place < 30 ∧ 0 ≤ by_ ∧ by_ ≤ 255
    · rw [if_pos h3, if_pos rfl]
      rw [decide_eq_true (show 0 ≤ place ∧ place ≤ 29 by omega)] at i1
      rw [decide_eq_true (show 0 ≤ by_ ∧ by_ ≤ 255 by omega)] at i2
      have I1 := hid i1
      have I2 := hid i2
      obtain ⟨pl, rfl⟩ : ∃ pl : Nat, place = pl := ⟨place.toNat, by omega⟩
      have htp : (pl : Int).toNat = pl := by omega
      rw [htp]
      have hkn : k < n := by rw [h.sn]; omega
      have hkm : k < m := by rw [h.sm]; omega
      have hkn' : (k : Int) < n := by omega
      have hkm' : (k : Int) < m := by omega
      have n64 : n ≤ 64 := by rw [h.sn]; exact h64
      have m64 : m ≤ 64 := by rw [h.sm]; omega
      have HC := hid (fun wx (g : Below W.heap.size W wx) => refcopy_any a n c a' m c' D wx ((h.below hB).below g) (by omega) (by omega))
      have HD := hid h
      have HK := hid (And.intro hkn hkm)
      have hz30 := sec_size D k hmay (by omega)
      obtain ⟨q, o, rfl, hq, eq1⟩ := h.sector k hkn
      have HQ := hid (And.intro hq eq1)
      obtain ⟨U, hU⟩ : ∃ U, U = str (upBy (sec D k).data.toList pl by_) := ⟨_, rfl⟩
      have HU := hid hU
      rw [← hU]
      clear i1 i2 hT hW hB hz bd br h ht hmay h0 h1 h2 h64 hto htp hkn hkm n64 m64 hq eq1 hU
      go_enter Try.func17, Try.ntmps17
      go_wp2_with fail
      refine HT.out.mono ?_
      rintro _ w1 ⟨rfl, g1⟩
      rw [← HP.out.1] at g1
      have bd2 := HP.out.2.2.2.1.below g1
      have d0 := bd2.c0
      have d1 := bd2.c1
      have G3 := hid g1
      clear g1 bd2
      go_wp2_with (first | (go_at_call_of 33 (Value.int IntKind.i64 29); refine (I1.out _).mono ?_; rintro _ w9 ⟨rfl, h9⟩; subst h9) | (go_at_call_of 33 (Value.int IntKind.i64 255); refine (I2.out _).mono ?_; rintro _ w9 ⟨rfl, h9⟩; subst h9))
      refine (HC.out _ G3.out).mono ?_
      rintro _ w3 ⟨ao, c1, ao', c2, rfl, hN, g4⟩
      have g5 := G3.out.trans (g4.mono G3.out.size)
      obtain ⟨b, b', rfl, rfl, hI⟩ := refI_start (w := w) (W := w3.alloc (.cells #[.slice ao n c1, .slice ao' m c2] 25)) (pr := w.heap.size + 1) hN (by have := G3.out.size; rw [HP.out.2.2.1] at this; omega) (by omega) (HP.out.2.1.trans (g5.mono HP.out.2.1.size)) (HP.out.2.2.2.2.below g5) (by intro e; have := HD.out.sn; rw [e] at this; have := HK.out; simp at *; omega) (by intro e; have := HD.out.sm; rw [e] at this; have := HK.out; simp at *; omega) rfl
      have bd3 := (HP.out.2.2.2.1.below g5).below (w' := w3.alloc (.cells #[.slice (some ⟨b, 0, none⟩) n c1, .slice (some ⟨b', 0, none⟩) m c2] 25)) ((Below.refl _ w3).alloc (Nat.le_refl _) _)
      clear hN g4 g5 d0 d1
      go_upto_region 7 with fail
      generalize w3.alloc (.cells #[.slice (some ⟨b, 0, none⟩) n c1, .slice (some ⟨b', 0, none⟩) m c2] 25) = W3 at hI bd3
      generalize w3.heap.size = po at hI
      have d0 := bd3.c0
      have eq1 := (hI.below.cell (p := ⟨q, o + k, none⟩) HQ.out.1).trans HQ.out.2
      have HI := hid hI
      clear hI bd3
      obtain ⟨s, hs⟩ : ∃ s, s = sec D k := ⟨_, rfl⟩
      rw [← hs] at eq1 hz30 HU
      clear hs
      obtain ⟨l1, l2, l3, l4⟩ := h3
      have hpl : pl < s.size := by omega
      have l5 : (pl : Int) < s.size := by omega
      have l6 : (pl : Int) ≤ s.size := by omega
      have l7 : (pl : Int) + 1 ≤ s.size := by omega
      have bx := s[pl].toNat_lt
      have u1 : IntKind.i64.wrap (s[pl].toNat : Int) = (s[pl].toNat : Int) := IntWalk.i64_in _ (by omega)
      have u2 : IntKind.i64.wrap ((s[pl].toNat : Int) + by_) = (s[pl].toNat : Int) + by_ := IntWalk.i64_in _ (by omega)
      have u3 : ((s[pl].toNat : Int) + by_).tmod 256 = ((s[pl].toNat : Int) + by_) % 256 := Int.tmod_eq_emod_of_nonneg (by omega)
      have u4 : IntKind.i64.wrap (((s[pl].toNat : Int) + by_) % 256) = ((s[pl].toNat : Int) + by_) % 256 := IntWalk.i64_in _ (by omega)
      have u5 : IntKind.u8.wrap (((s[pl].toNat : Int) + by_) % 256) = ((s[pl].toNat : Int) + by_) % 256 := by rw [IntKind.wrap_u8]; omega
      have u6 : IntKind.i64.wrap ((pl : Int) + 1) = ((pl + 1 : Nat) : Int) := by rw [IntWalk.i64_in _ (by omega)]; omega
      have hup : s.extract 0 pl ++ str [byt (((s[pl].toNat : Int) + by_) % 256)] ++ s.extract (pl + 1) s.size = U := by
        rw [HU.out, ext_str, ext_str, str_app, str_app, upBy, bat_ba s pl hpl]
        congr 1
        have hl : pl < s.data.toList.length := by rw [ba_len]; exact hpl
        rw [cut, cut, List.drop_zero, List.take_of_length_le (show s.data.toList.length ≤ s.size by rw [ba_len]; exact Nat.le_refl _), List.set_eq_take_append_cons_drop, if_pos hl, List.append_assoc]
        rfl
      have z1 : (s.extract 0 pl).size = pl := by rw [ext_size _ _ _ (by omega)]; omega
      have z2 : (str [byt (((s[pl].toNat : Int) + by_) % 256)]).size = 1 := rfl
      have z3 : (s.extract (pl + 1) s.size).size = 30 - (pl + 1) := by rw [ext_size _ _ _ (Nat.le_refl _)]; omega
      have hcv := conv_at1 (((s[pl].toNat : Int) + by_) % 256) (by omega) (by omega) (W3.alloc (.cells #[.int .u8 (((s[pl].toNat : Int) + by_) % 256)] 5)).drew W3.heap.size (by simp)
      have p0 := HI.out.o.c0
      have p1 : ∃ x, W3.cell? ⟨b, k, none⟩ = some x := by
        obtain ⟨x, hx⟩ : ∃ x, (D.1.map Value.string)[k]? = some x := ⟨_, List.getElem?_eq_getElem (by rw [List.length_map, ← HD.out.sn]; exact HK.out.1)⟩
        exact ⟨x, HI.out.s.cell hx⟩
      obtain ⟨x, p1⟩ := p1
      have p2 := HI.out.s.free k
      have hA : Below W3.heap.size W3 (W3.alloc (.cells #[.int .u8 (((s[pl].toNat : Int) + by_) % 256)] 5)) := (Below.refl _ W3).alloc (Nat.le_refl _) _
      have p3 := (hA.cell (p := ⟨po, 0, none⟩) HI.out.o.lt).trans p0
      have p4 := (hA.cell (p := ⟨b, k, none⟩) HI.out.s.lt).trans p1
      have p5 := (hA.frozen (p := ⟨b, k, none⟩) HI.out.s.lt).trans p2
      have HA := hid hA
      clear hA hz30
      go_upto_region 8 with fail
      go_region
      have hI5 := ((HI.out.to HA.out).setS (k := k) (by rw [List.length_map, ← HD.out.sn]; exact HK.out.1) (.string U)).drew
      have p6 := hI5.o.c0
      have p7 := hI5.o.c1
      have v0 := hI5.r.c0
      have v1 := hI5.r.c1
      have x0 := hI5.r.f0
      have x1 := hI5.r.f1
      have K := hid (hI5.out (dvPut D k U (los D k)) (put_strs D k U (los D k)).1 (by rw [dvPut, los_lt D k (by rw [← HD.out.sm]; exact HK.out.2), List.set_getElem_self]) (by rw [(put_len D k U (los D k)).1]; exact HD.out.sn) (by rw [(put_len D k U (los D k)).2]; exact HD.out.sm) HD.out.nb HD.out.mb)
      obtain ⟨y0, y1⟩ := ret_box (.slice (some ⟨b, 0, none⟩) n c1) (.slice (some ⟨b', 0, none⟩) m c2) v0 v1
      clear p0 p1 p2 p3 p4 p5 hI5 eq1 d0 hcv hup
      generalize ((W3.alloc (.cells #[.int .u8 (((s[pl].toNat : Int) + by_) % 256)] 5)).setCell ⟨b, k, none⟩ (.string U)).drew = W4 at p6 p7 v0 v1 x0 x1 K y0 y1 ⊢
      go_wp2
      refine bodyPost_ret (v := .tuple #[.agg #[.slice (some ⟨b, 0, none⟩) n c1, .slice (some ⟨b', 0, none⟩) m c2], .int .i64 0]) (by simp [results, Try.results17, go_sem, y0, y1]) rfl ?_
      exact K.out
    · rw [if_neg h3, if_neg (by decide)]
      have HI := hid (And.intro i1 i2)
      clear hT hW hB hz bd br h ht hmay h0 h1 h2 h64 hto i1 i2
      by_cases h4 : 0 ≤ place ∧ place ≤ 29
      · have h5 : ¬ (0 ≤ by_ ∧ by_ ≤ 255) := by omega
        rw [decide_eq_true h4, decide_eq_false h5] at HI
        clear h3 h4 h5
        go_enter Try.func17, Try.ntmps17
        go_wp2_with fail
        refine HT.out.mono ?_
        rintro _ w1 ⟨rfl, g1⟩
        rw [← HP.out.1] at g1
        have rb := HP.out.2.2.2.2.below g1
        have v0 := rb.c0
        have v1 := rb.c1
        have x0 := rb.f0
        have x1 := rb.f1
        obtain ⟨y0, y1⟩ := ret_box (.slice none 0 0) (.slice none 0 0) v0 v1
        have K := hid (((HP.out.2.1.trans ((g1).mono HP.out.2.1.size)).setCell (p := ⟨w.heap.size + 1, 0, none⟩) (by show w.heap.size ≤ w.heap.size + 1; omega) (.slice none 0 0)).setCell (p := ⟨w.heap.size + 1, 1, none⟩) (by show w.heap.size ≤ w.heap.size + 1; omega) (.slice none 0 0))
        clear rb
        go_wp2_with (first | (go_at_call_of 33 (Value.int IntKind.i64 29); refine (HI.out.1 _).mono ?_; rintro _ w9 ⟨rfl, h9⟩; subst h9) | (go_at_call_of 33 (Value.int IntKind.i64 255); refine (HI.out.2 _).mono ?_; rintro _ w9 ⟨rfl, h9⟩; subst h9))
        refine bodyPost_ret (v := .tuple #[.agg #[.slice none 0 0, .slice none 0 0], .int .i64 2]) (by simp [results, Try.results17, go_sem, y0, y1]) rfl ?_
        exact ⟨none, 0, 0, none, 0, 0, rfl, devAt_none _, fresh_none _, K.out⟩
      · rw [decide_eq_false h4] at HI
        clear h3 h4
        go_enter Try.func17, Try.ntmps17
        go_wp2_with fail
        refine HT.out.mono ?_
        rintro _ w1 ⟨rfl, g1⟩
        rw [← HP.out.1] at g1
        have rb := HP.out.2.2.2.2.below g1
        have v0 := rb.c0
        have v1 := rb.c1
        have x0 := rb.f0
        have x1 := rb.f1
        obtain ⟨y0, y1⟩ := ret_box (.slice none 0 0) (.slice none 0 0) v0 v1
        have K := hid (((HP.out.2.1.trans ((g1).mono HP.out.2.1.size)).setCell (p := ⟨w.heap.size + 1, 0, none⟩) (by show w.heap.size ≤ w.heap.size + 1; omega) (.slice none 0 0)).setCell (p := ⟨w.heap.size + 1, 1, none⟩) (by show w.heap.size ≤ w.heap.size + 1; omega) (.slice none 0 0))
        clear rb
        go_wp2_with (go_at_call_of 33 (Value.int IntKind.i64 29); refine (HI.out.1 _).mono ?_; rintro _ w9 ⟨rfl, h9⟩; subst h9)
        refine bodyPost_ret (v := .tuple #[.agg #[.slice none 0 0, .slice none 0 0], .int .i64 2]) (by simp [results, Try.results17, go_sem, y0, y1]) rfl ?_
        exact ⟨none, 0, 0, none, 0, 0, rfl, devAt_none _, fresh_none _, K.out⟩
  · rw [dvTurn, dvChange, if_neg ht]
    have HT := hid hT
    clear hT hW hB hz bd br h
    generalize dvTouch D i = t at HT ht
    have ht' : (t != 0) = true := bne_iff_ne.2 ht
    have ht2 : (t == 0) = false := beq_eq_false_iff_ne.2 ht
    clear ht
    go_enter Try.func17, Try.ntmps17
    go_wp2_with fail
    refine HT.out.mono ?_
    rintro _ w1 ⟨rfl, g1⟩
    rw [← HP.out.1] at g1
    have rb := HP.out.2.2.2.2.below g1
    have v0 := rb.c0
    have v1 := rb.c1
    have x0 := rb.f0
    have x1 := rb.f1
    obtain ⟨y0, y1⟩ := ret_box (.slice none 0 0) (.slice none 0 0) v0 v1
    have K := hid (((HP.out.2.1.trans ((g1).mono HP.out.2.1.size)).setCell (p := ⟨w.heap.size + 1, 0, none⟩) (by show w.heap.size ≤ w.heap.size + 1; omega) (.slice none 0 0)).setCell (p := ⟨w.heap.size + 1, 1, none⟩) (by show w.heap.size ≤ w.heap.size + 1; omega) (.slice none 0 0))
    clear rb
    go_wp2
    refine bodyPost_ret (v := .tuple #[.agg #[.slice none 0 0, .slice none 0 0], .int .i64 t]) (by simp [results, Try.results17, go_sem, y0, y1]) rfl ?_
    exact ⟨none, 0, 0, none, 0, 0, rfl, devAt_none _, fresh_none _, K.out⟩
end Go.Proofs.Ytbckalbnmfejbac
