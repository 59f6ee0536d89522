/- What the program's device.Read answers. -/
import Derived.Test.YtgholkjpbdcdiaaDoorDevLook
import Derived.Test.YtgholkjpbdcdiaaDoorSectorDec
namespace Go.Proofs.YtgholkjpbdcdiaaDoor
open Go.RowKit Go.Lib

/-- What the closure tells. -/
def readE (no : Int) (s : ByteArray) (l : Bool) : List UInt8 × Int := if l = true then ([], 11) else decd no s.data.toList

/-- The closure: what it tells lies in its variable behind it. -/
theorem read1_any (no : Int) (s : ByteArray) (l : Bool) (pn pp : Nat) (w : World) (hn : w.cell? ⟨pn, 0, none⟩ = some (.int .i64 no)) (hp : w.cell? ⟨pp, 0, none⟩ = some (.string (str []))) (hf : w.frozen? ⟨pp, 0, none⟩ = false) (hlt : pp < w.heap.size) :
    Calls Tryd.prog 39 #[.string s, .bool l, .pointer (some ⟨pn, 0, none⟩), .pointer (some ⟨pp, 0, none⟩)] w fun e w' => ∃ x, e = .returned (.int .i64 x) ∧ (x = (readE no s l).2 ∧ w'.cell? ⟨pp, 0, none⟩ = some (.string (str (readE no s l).1)) ∧ Below pp w w') := by
  unfold readE
  cases l with
  | true =>
    rw [if_pos rfl]
    go_enter Tryd.func39, Tryd.ntmps39
    go_wp2
    go_ret
    exact ⟨11, rfl, rfl, hp, Below.refl _ _⟩
  | false =>
    rw [if_neg (by decide)]
    have HD := hid (decode_any no s w)
    generalize decd no s.data.toList = r at HD
    have HP := hid (And.intro hp (And.intro hf hlt))
    clear hp hf hlt
    go_enter Tryd.func39, Tryd.ntmps39
    go_wp2_with fail
    refine HD.out.mono ?_
    rintro _ w1 ⟨rfl, g1⟩
    have c1 := (g1.cell (p := ⟨pp, 0, none⟩) HP.out.2.2).trans HP.out.1
    have c2 := (g1.frozen (p := ⟨pp, 0, none⟩) HP.out.2.2).trans HP.out.2.1
    go_wp2
    go_ret
    exact ⟨r.2, rfl, rfl, World.cell?_setCell_same _ _ _ c1, (g1.mono (Nat.le_of_lt HP.out.2.2)).setCell (Nat.le_refl _) _⟩

theorem read_dv (D : Dv) (k : Nat) (no : Int) (h : dvTouch D k = 0) : dvRead D k no = readE no (sec D k) (los D k) := by
  rw [dvRead, if_pos h, readE]
  simp

set_option maxHeartbeats 400000 in
theorem read_any (a : Option Addr) (n c : Nat) (a' : Option Addr) (m c' : Nat) (i no : Int) (D : Dv) (w : World) (h : DevAt w a n a' m D) :
    Calls Tryd.prog 21 #[.agg #[.slice a n c, .slice a' m c'], .int .i64 i, .int .i64 no] w fun e w' => e = .returned (.tuple #[.string (str (dvRead D i no).1), .int .i64 (dvRead D i no).2]) ∧ Below w.heap.size w w' := by
  obtain ⟨W, hW⟩ : ∃ W, W = ((w.alloc (.cells #[.slice a n c, .slice a' m c'] 62)).alloc (.cells #[.int .i64 no] 3)).alloc (.cells #[.string ⟨#[]⟩] 9) := ⟨_, rfl⟩
  have hB : Below w.heap.size w W := by rw [hW]; go_grown
  have hz : W.heap.size = w.heap.size + 3 := by rw [hW]; simp
  have cn : W.cell? ⟨w.heap.size + 1, 0, none⟩ = some (.int .i64 no) := by rw [hW]; simp [go_sem]
  have cp : W.cell? ⟨w.heap.size + 1 + 1, 0, none⟩ = some (.string (str [])) := by rw [hW]; simp [go_sem, str]
  have cf : W.frozen? ⟨w.heap.size + 1 + 1, 0, none⟩ = false := by rw [hW]; simp [go_sem]
  have HE := hid hW
  have hD := h.below hB
  by_cases ht : dvTouch D i = 0
  · obtain ⟨_, h0, h1, _⟩ := touch_ok D i ht
    obtain ⟨k, rfl⟩ : ∃ k : Nat, i = k := ⟨i.toNat, by omega⟩
    rw [read_dv D k no ht]
    have hL := look_ok a n c a' m c' k 39 #[.pointer (some ⟨w.heap.size + 1, 0, none⟩), .pointer (some ⟨w.heap.size + 1 + 1, 0, none⟩)] D W hD ht (enters_of Tryd.func39 (by kernel_rfl) rfl)
      (fun x w' => x = (readE no (sec D k) (los D k)).2 ∧ w'.cell? ⟨w.heap.size + 1 + 1, 0, none⟩ = some (.string (str (readE no (sec D k) (los D k)).1)) ∧ Below w.heap.size w w') (fun w1 g1 => by
        refine (read1_any no (sec D k) (los D k) (w.heap.size + 1) (w.heap.size + 1 + 1) w1 ((g1.cell (p := ⟨w.heap.size + 1, 0, none⟩) (by show w.heap.size + 1 < W.heap.size; omega)).trans cn) ((g1.cell (p := ⟨w.heap.size + 1 + 1, 0, none⟩) (by show w.heap.size + 1 + 1 < W.heap.size; omega)).trans cp)
          ((g1.frozen (p := ⟨w.heap.size + 1 + 1, 0, none⟩) (by show w.heap.size + 1 + 1 < W.heap.size; omega)).trans cf) (by have := g1.size; omega)).mono ?_
        rintro e w2 ⟨x, hx, h2, h3, h4⟩
        exact ⟨x, hx, h2, h3, (hB.trans (g1.mono hB.size)).trans (h4.mono (by omega))⟩)
    rw [hW] at hL
    have HL := hid hL
    clear hL hW hB hz cn cp cf hD h ht h0 h1
    generalize readE no (sec D k) (los D k) = r at HL
    go_enter Tryd.func21, Tryd.ntmps21
    go_wp2_with fail
    refine HL.out.mono ?_
    rintro _ w1 ⟨x, rfl, rfl, q1, q2⟩
    go_wp2
    go_ret2
    exact ⟨rfl, q2⟩
  · have hr : dvRead D i no = ([], dvTouch D i) := by rw [dvRead, if_neg ht]
    rw [hr]
    have hL := look_bad a n c a' m c' i (.func (.func 39) #[] #[.pointer (some ⟨w.heap.size + 1, 0, none⟩), .pointer (some ⟨w.heap.size + 1 + 1, 0, none⟩)]) D W hD ht
    have HP := hid (And.intro hz (And.intro cp hB))
    rw [hW] at hL
    have HL := hid hL
    clear hL hW hB hz cn cp cf hD h ht hr
    generalize dvTouch D i = r at HL
    go_enter Tryd.func21, Tryd.ntmps21
    go_wp2_with fail
    refine HL.out.mono ?_
    rintro _ w1 ⟨rfl, g1⟩
    rw [← HE.out] at g1
    have c1 := (g1.cell (p := ⟨w.heap.size + 1 + 1, 0, none⟩) (by show w.heap.size + 1 + 1 < W.heap.size; rw [HP.out.1]; omega)).trans HP.out.2.1
    go_wp2
    go_ret2
    exact ⟨rfl, HP.out.2.2.trans (g1.mono HP.out.2.2.size)⟩
end Go.Proofs.YtgholkjpbdcdiaaDoor
