/- What the document's own DeviceRead answers. -/
import Derived.Test.YtgholkjpbdcdiaaDevTouched
import Derived.Test.YtgholkjpbdcdiaaSectorPay
namespace Go.Proofs.Ytgholkjpbdcdiaa
open Go.RowKit Go.Lib

theorem ret_two {s s' : ByteArray} {k : IntKind} {n n' : Int} (h : s = s') (h' : n = n') : Ending.returned (.tuple #[.string s, .int k n]) = .returned (.tuple #[.string s', .int k n']) := by rw [h, h']

set_option maxHeartbeats 400000 in
theorem refread_any (a : Option Addr) (n c : Nat) (a' : Option Addr) (m c' : Nat) (i no : Int) (D : Dv) (w : World) (h : DevAt w a n a' m D) :
    Calls Try.prog 47 #[.agg #[.slice a n c, .slice a' m c'], .int .i64 i, .int .i64 no] w fun e w' => e = .returned (.tuple #[.string (str (dvRead D i no).1), .int .i64 (dvRead D i no).2]) ∧ Below w.heap.size w w' := by
  obtain ⟨W, hW⟩ : ∃ W, W = w.alloc (.cells #[.slice a n c, .slice a' m c'] 40) := ⟨_, rfl⟩
  have hB : Below w.heap.size w W := by rw [hW]; go_grown
  have hz : W.heap.size = w.heap.size + 1 := by rw [hW]; simp
  have c0 : W.cell? ⟨w.heap.size, 0, none⟩ = some (.slice a n c) := by rw [hW]; simp
  have c1 : W.cell? ⟨w.heap.size, 1, none⟩ = some (.slice a' m c') := by rw [hW]; simp
  have hT := touched_any a n c a' m c' i D W (h.below hB)
  by_cases ht : dvTouch D i = 0
  · obtain ⟨_, h0, h1, h2, _⟩ := touch_ok D i ht
    obtain ⟨k, rfl⟩ : ∃ k : Nat, i = k := ⟨i.toNat, by omega⟩
    rw [ht] at hT
    have hkn : k < n := by rw [h.sn]; omega
    have hkm : k < m := by rw [h.sm]; omega
    obtain ⟨p, o, rfl, hp, e1⟩ := (h.below hB).sector k hkn
    obtain ⟨p', o', rfl, hp', e2⟩ := (h.below hB).lost k hkm
    have hkn' : (k : Int) < n := by omega
    have hkm' : (k : Int) < m := by omega
    rw [dvRead, if_pos ht]
    rw [hW] at hT
    have HT := hid hT
    have HE := hid hW
    have HP := hid (And.intro hB (And.intro hz (And.intro c0 (And.intro c1 (And.intro (And.intro hp e1) (And.intro hp' e2))))))
    have hto : (k : Int).toNat = k := by omega
    rw [hto]
    clear hB hz c0 c1 hp e1 hp' e2 hT hW h ht h0 h1 h2 hto hkn hkm
    generalize sec D k = s at HP
    generalize los D k = l at HP
    cases l with
    | true =>
      rw [if_pos rfl]
      go_enter Try.func47, Try.ntmps47
      go_wp2_with fail
      refine HT.out.mono ?_
      rintro _ w1 ⟨rfl, g1⟩
      rw [← HE.out] at g1
      have c1 := (g1.cell (p := ⟨w.heap.size, 1, none⟩) (by show w.heap.size < W.heap.size; rw [HP.out.2.1]; omega)).trans HP.out.2.2.2.1
      have e2 := (g1.cell (p := ⟨p', o' + k, none⟩) HP.out.2.2.2.2.2.1).trans HP.out.2.2.2.2.2.2
      have HG := hid (HP.out.1.trans (g1.mono HP.out.1.size))
      clear g1
      go_wp2
      go_ret2
      exact ⟨rfl, HG.out⟩
    | false =>
      rw [if_neg (by decide)]
      have HY := hid (fun wx => payload_any no s wx)
      generalize decd no s.data.toList = r at HY
      go_enter Try.func47, Try.ntmps47
      go_wp2_with fail
      refine HT.out.mono ?_
      rintro _ w1 ⟨rfl, g1⟩
      rw [← HE.out] at g1
      have c0 := (g1.cell (p := ⟨w.heap.size, 0, none⟩) (by show w.heap.size < W.heap.size; rw [HP.out.2.1]; omega)).trans HP.out.2.2.1
      have c1 := (g1.cell (p := ⟨w.heap.size, 1, none⟩) (by show w.heap.size < W.heap.size; rw [HP.out.2.1]; omega)).trans HP.out.2.2.2.1
      have e1 := (g1.cell (p := ⟨p, o + k, none⟩) HP.out.2.2.2.2.1.1).trans HP.out.2.2.2.2.1.2
      have e2 := (g1.cell (p := ⟨p', o' + k, none⟩) HP.out.2.2.2.2.2.1).trans HP.out.2.2.2.2.2.2
      have HG := hid (HP.out.1.trans (g1.mono HP.out.1.size))
      clear g1
      go_wp2_with fail
      refine (HY.out _).mono ?_
      rintro _ w2 ⟨rfl, g2⟩
      go_wp2
      go_ret2
      exact ⟨rfl, HG.out.trans (g2.mono HG.out.size)⟩
  · rw [dvRead, if_neg ht]
    rw [hW] at hT
    have HT := hid hT
    have HP := hid hB
    have HE := hid hW
    clear hB hz c0 c1 hT hW h
    generalize dvTouch D i = r at HT ht
    have hr : (r == 0) = false := beq_eq_false_iff_ne.2 ht
    have hr2 : (r != 0) = true := bne_iff_ne.2 ht
    clear ht
    go_enter Try.func47, Try.ntmps47
    go_wp2_with fail
    refine HT.out.mono ?_
    rintro _ w1 ⟨rfl, g1⟩
    rw [← HE.out] at g1
    have HG := hid (HP.out.trans (g1.mono HP.out.size))
    clear g1
    go_wp2
    go_ret2
    exact ⟨rfl, HG.out⟩
end Go.Proofs.Ytgholkjpbdcdiaa
