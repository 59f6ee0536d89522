/- A reader of bytes: what its take and number answer. -/
import Derived.Test.YtelgpiedchnncabDoorCatMem
import Derived.Test.YtelgpiedchnncabDoorChg
import Derived.Test.YtelgpiedchnncabDoorSectorDec
import Derived.Test.YtelgpiedchnncabDoorCatName
import Derived.Test.YtelgpiedchnncabDoorCatBox
import Derived.Handy
namespace Go.Proofs.YtelgpiedchnncabDoor
open Go.RowKit Go.Lib

/-- A reader lies there. -/
def Rdr (w : World) (p : Nat) (r : Rd) : Prop := Own w p 48 [.string (str r.1), .bool r.2]
theorem str_take (l : List UInt8) (n : Nat) : (str l).extract 0 n = str (l.take n) := by rw [ext_str, str_list, cut, List.drop_zero]
theorem str_drop (l : List UInt8) (n : Nat) : (str l).extract n l.length = str (l.drop n) := by rw [ext_str, str_list, cut, List.take_length]

set_option maxHeartbeats 1000000 in
theorem take_any (p n : Nat) (r : Rd) (w : World) (h : Rdr w p r) (_hn : n ≤ 65535) :
    Calls Tryd.prog 48 #[.pointer (some ⟨p, 0, none⟩), .int .i64 n] w fun e w' => e = .returned (.string (str (tk n r).1)) ∧ Rdr w' p (tk n r).2 ∧ Chg (fun k => k = p) w w' := by
  obtain ⟨l, b⟩ := r
  unfold Rdr at h
  dsimp only at h
  have c0 := h.cell (i := 0) rfl
  have c1 := h.cell (i := 1) rfl
  have f0 := h.free 0
  have f1 := h.free 1
  have hz : (str l).size = l.length := str_size l
  by_cases hl : n ≤ l.length
  · rw [tk_yes n (l, b) hl]
    dsimp only
    have hl' : ¬ (l.length : Int) < n := by omega
    have h1 : (n : Int) ≤ l.length := by omega
    have E1 := hid (str_take l n)
    have E2 := hid (str_drop l n)
    have HH := hid (h.set (i := 0) (by simp) (.string (str (l.drop n))))
    clear h hl
    generalize str l = S at c0 hz E1 E2
    go_enter Tryd.func48, Tryd.ntmps48
    go_wp2
    go_ret
    exact ⟨ret_str E1.out, by rw [E2.out]; exact HH.out, chg_set w p 0 _⟩
  · rw [tk_no n (l, b) (by simpa using hl)]
    dsimp only
    have hl' : (l.length : Int) < n := by omega
    have HH := hid ((h.set (i := 0) (by simp) (.string (str []))).set (i := 1) (by simp) (.bool true))
    clear h hl
    generalize str l = S at c0 hz
    go_enter Tryd.func48, Tryd.ntmps48
    go_wp2
    go_ret
    exact ⟨rfl, HH.out, (chg_set w p 0 _).set rfl 1 _⟩

theorem num_take (l : List UInt8) (k : Nat) (h : k < l.length) : numOf (l.take (k + 1)) = numOf (l.take k) * 256 + l[k].toNat := by
  rw [List.take_succ_eq_append_getElem h, num_snoc]

set_option maxHeartbeats 1000000 in
theorem number_rd (p n : Nat) (r : Rd) (w : World) (h : Rdr w p r) (hn : n ≤ 2) :
    Calls Tryd.prog 34 #[.pointer (some ⟨p, 0, none⟩), .int .i64 n] w fun e w' => e = .returned (.int .i64 (rnum n r).1) ∧ Rdr w' p (rnum n r).2 ∧ Chg (fun k => k = p) w w' := by
  have CT := hid (take_any p n r w h (by omega))
  have hl := tk_len n r
  unfold rnum
  dsimp only
  obtain ⟨R, hR⟩ : ∃ R, (tk n r).2 = R := ⟨_, rfl⟩
  rw [hR] at CT ⊢
  clear hR h
  generalize (tk n r).1 = l at CT hl
  have hz : (str l).size = l.length := str_size l
  have l2 : l.length ≤ 2 := by omega
  go_enter Tryd.func34, Tryd.ntmps34
  go_wp2_with fail
  refine CT.out.mono ?_
  rintro _ w1 ⟨rfl, r1, g1⟩
  have H1 := hid (And.intro r1 g1)
  clear r1 g1 CT
  go_wp2_with fail
  go_loop [6, 13] (fun v i => ∃ k : Nat, k ≤ l.length ∧ i = .int .i64 k ∧ v = .int .i64 (numOf (l.take k))) (fun _ i => l.length - (RowKit.intOf i).toNat)
  case atStart => exact ⟨0, Nat.zero_le _, rfl, rfl⟩
  case round =>
    obtain ⟨k, hk, rfl, rfl⟩ := hrel
    by_cases hlt : k < l.length
    · have hlt' : (k : Int) < l.length := by omega
      have N := hid (num_take l k hlt)
      have B := num_bd1 (l.take k) (by simp; omega)
      obtain ⟨x, hx⟩ : ∃ x : Nat, numOf (l.take k) = x := ⟨(numOf (l.take k)).toNat, by omega⟩
      rw [hx] at N B ⊢
      have b0 := B.2
      have hy := l[k].toNat_lt
      have e0 : (str l)[k]'(by rw [hz]; exact hlt) = l[k] := rfl
      have V := hid (show bits .or .i64 ((x : Int) * 256) (wrap64 (((str l)[k]'(by rw [hz]; exact hlt)).toNat : Int)) = numOf (l.take (k + 1)) by rw [N.out, wrap_byte, e0, or_bytes x _ (by omega) (by omega)]; omega)
      clear N B hx hy e0
      go_wp2
      go_round
      case rel => exact ⟨k + 1, by omega, by go_num, by rw [V.out]⟩
      case measure => simp [RowKit.intOf]; omega
    · obtain rfl : k = l.length := by omega
      have hlt' : ¬ (l.length : Int) < l.length := by omega
      go_wp2
      go_ret
      exact ⟨ret_int (by simp), H1.out.1, H1.out.2⟩

/-- One entry: its box while it is read. -/
theorem own4 {w : World} {p : Nat} {t : TypeId} {d0 d1 d2 d3 : Value} (h : Own w p t [d0, d1, d2, d3]) : (w.cell? ⟨p, 0, none⟩ = some d0 ∧ w.cell? ⟨p, 1, none⟩ = some d1 ∧ w.cell? ⟨p, 2, none⟩ = some d2 ∧ w.cell? ⟨p, 3, none⟩ = some d3) ∧ w.frozen? ⟨p, 0, none⟩ = false ∧ w.frozen? ⟨p, 1, none⟩ = false ∧ w.frozen? ⟨p, 2, none⟩ = false ∧ w.frozen? ⟨p, 3, none⟩ = false :=
  ⟨⟨h.cell rfl, h.cell rfl, h.cell rfl, h.cell rfl⟩, h.free 0, h.free 1, h.free 2, h.free 3⟩
/-- While an entry is read: the reader, the entry's box, the result's box. -/
structure EntI (w0 : World) (p : Nat) (r : Rd) (d0 d1 d2 d3 : Value) (w : World) : Prop where
  rd : Rdr w p r
  box : Own w (w0.heap.size + 1) 44 [d0, d1, d2, d3]
  res : Own w w0.heap.size 44 [.string ⟨#[]⟩, .int .i64 0, .int .i64 0, .int .i64 0]
  ch : Chg (fun k => k = p) w0 w
section
variable {w0 w w' : World} {p : Nat} {r r' : Rd} {d0 d1 d2 d3 : Value}
theorem EntI.read (h : EntI w0 p r d0 d1 d2 d3 w) (hp : p < w0.heap.size) (hr : Rdr w' p r') (hc : Chg (fun k => k = p) w w') : EntI w0 p r' d0 d1 d2 d3 w' :=
  ⟨hr, hc.own h.box (by omega), hc.own h.res (by omega), h.ch.step hc⟩
theorem EntI.to (h : EntI w0 p r d0 d1 d2 d3 w) (hp : p < w0.heap.size) (g : Below w.heap.size w w') : EntI w0 p r d0 d1 d2 d3 w' := h.read hp (Own.below' h.rd g) (chg_below _ g)
theorem EntI.set0 (h : EntI w0 p r d0 d1 d2 d3 w) (hp : p < w0.heap.size) (v : Value) : EntI w0 p r v d1 d2 d3 (w.setCell ⟨w0.heap.size + 1, 0, none⟩ v) :=
  ⟨h.rd.other (by show p ≠ w0.heap.size + 1; omega) v, h.box.set (i := 0) (by simp) v, h.res.other (by show w0.heap.size ≠ w0.heap.size + 1; omega) v, h.ch.fresh (by omega) 0 v⟩
theorem EntI.set1 (h : EntI w0 p r d0 d1 d2 d3 w) (hp : p < w0.heap.size) (v : Value) : EntI w0 p r d0 v d2 d3 (w.setCell ⟨w0.heap.size + 1, 1, none⟩ v) :=
  ⟨h.rd.other (by show p ≠ w0.heap.size + 1; omega) v, h.box.set (i := 1) (by simp) v, h.res.other (by show w0.heap.size ≠ w0.heap.size + 1; omega) v, h.ch.fresh (by omega) 1 v⟩
theorem EntI.set2 (h : EntI w0 p r d0 d1 d2 d3 w) (hp : p < w0.heap.size) (v : Value) : EntI w0 p r d0 d1 v d3 (w.setCell ⟨w0.heap.size + 1, 2, none⟩ v) :=
  ⟨h.rd.other (by show p ≠ w0.heap.size + 1; omega) v, h.box.set (i := 2) (by simp) v, h.res.other (by show w0.heap.size ≠ w0.heap.size + 1; omega) v, h.ch.fresh (by omega) 2 v⟩
theorem EntI.set3 (h : EntI w0 p r d0 d1 d2 d3 w) (hp : p < w0.heap.size) (v : Value) : EntI w0 p r d0 d1 d2 v (w.setCell ⟨w0.heap.size + 1, 3, none⟩ v) :=
  ⟨h.rd.other (by show p ≠ w0.heap.size + 1; omega) v, h.box.set (i := 3) (by simp) v, h.res.other (by show w0.heap.size ≠ w0.heap.size + 1; omega) v, h.ch.fresh (by omega) 3 v⟩
end

set_option maxHeartbeats 1600000 in
set_option maxRecDepth 4000 in
theorem entry_rd (p : Nat) (r : Rd) (w : World) (h : Rdr w p r) :
    Calls Tryd.prog 35 #[.pointer (some ⟨p, 0, none⟩)] w fun e w' => e = .returned (.agg #[.string (rent1 r).1.s, .int .i64 (rent1 r).1.b, .int .i64 (rent1 r).1.a, .int .i64 (rent1 r).1.n]) ∧ Rdr w' p (rent1 r).2 ∧ Chg (fun k => k = p) w w' := by
  have hp : p < w.heap.size := h.lt
  obtain ⟨W, hW⟩ : ∃ W, W = (w.alloc (.cells #[.string ⟨#[]⟩, .int .i64 0, .int .i64 0, .int .i64 0] 44)).alloc (.cells #[.string ⟨#[]⟩, .int .i64 0, .int .i64 0, .int .i64 0] 44) := ⟨_, rfl⟩
  have I0 : EntI w p r (.string ⟨#[]⟩) (.int .i64 0) (.int .i64 0) (.int .i64 0) W := by
    have k2 := Own.made (w.alloc (.cells #[.string ⟨#[]⟩, .int .i64 0, .int .i64 0, .int .i64 0] 44)) 44 [.string ⟨#[]⟩, .int .i64 0, .int .i64 0, .int .i64 0]
    rw [show (w.alloc (.cells #[.string ⟨#[]⟩, .int .i64 0, .int .i64 0, .int .i64 0] 44)).heap.size = w.heap.size + 1 by simp] at k2
    rw [hW]
    exact ⟨(Own.alloc h _).alloc _, k2, (Own.made w 44 [.string ⟨#[]⟩, .int .i64 0, .int .i64 0, .int .i64 0]).alloc _, ((Chg.refl _ w).alloc _).alloc _⟩
  have C1 := number_rd p 1 r W I0.rd (by omega)
  rw [hW] at C1
  have HC1 := hid C1
  have HI := hid (And.intro I0 hW)
  obtain ⟨m, hm⟩ : ∃ m : Nat, (rnum 1 r).1 = m := ⟨(rnum 1 r).1.toNat, by have := rnum_bd1 r; omega⟩
  have hm2 : m ≤ 255 := by have := rnum_bd1 r; omega
  rw [hm] at HC1
  have E1 := hid (show e1 r = tk m (rnum 1 r).2 by rw [e1, hm, Int.toNat_natCast])
  have L1 : (e1 r).1.length ≤ 255 := by rw [E1.out]; exact Nat.le_trans (tk_len _ _) hm2
  clear C1 I0 hW hm h
  go_enter Tryd.func35, Tryd.ntmps35
  go_wp2_with fail
  refine HC1.out.mono ?_
  rintro _ w1 ⟨rfl, r1, g1⟩
  rw [← HI.out.2] at g1
  have I1 := hid (HI.out.1.read hp r1 g1)
  have C2 := take_any p m (rnum 1 r).2 w1 r1 (by omega)
  rw [← E1.out] at C2
  have HC2 := hid C2
  clear r1 g1 C2 HC1 HI
  go_wp2_with fail
  refine HC2.out.mono ?_
  rintro _ w2 ⟨rfl, r2, g2⟩
  have I2 := hid (I1.out.read hp r2 g2)
  have C3 := hid (clone_any (str (e1 r).1) w2 (by rw [str_size]; omega))
  clear r2 g2 HC2 I1
  obtain ⟨S, hS⟩ : ∃ S, str (e1 r).1 = S := ⟨_, rfl⟩
  rw [hS] at C3 ⊢
  have HS := hid hS
  clear hS L1
  go_wp2_with fail
  refine C3.out.mono ?_
  rintro _ w3 ⟨rfl, g3⟩
  have I3 := hid (I2.out.to hp g3)
  have J3 := hid (I3.out.set0 hp (.string S))
  obtain ⟨⟨c0, _, _, _⟩, f0, _, _, _⟩ := own4 I3.out.box
  have C4 := number_rd p 1 (e1 r).2 _ J3.out.rd (by omega)
  have HC4 : Hid (Calls Tryd.prog 34 #[.pointer (some ⟨p, 0, none⟩), .int .i64 1] (w3.setCell ⟨w.heap.size + 1, 0, none⟩ (.string S)) fun e w' => e = .returned (.int .i64 (e2 r).1) ∧ Rdr w' p (e2 r).2 ∧ Chg (fun k => k = p) (w3.setCell ⟨w.heap.size + 1, 0, none⟩ (.string S)) w') := C4
  clear g3 C3 I2 C4
  go_wp2_with fail
  refine HC4.out.mono ?_
  rintro _ w4 ⟨rfl, r4, g4⟩
  have I4 := hid (J3.out.read hp r4 g4)
  have J4 := hid (I4.out.set1 hp (.int .i64 (e2 r).1))
  clear c0 f0
  obtain ⟨⟨_, c1, _, _⟩, _, f1, _, _⟩ := own4 I4.out.box
  have HC5 : Hid (Calls Tryd.prog 34 #[.pointer (some ⟨p, 0, none⟩), .int .i64 2] (w4.setCell ⟨w.heap.size + 1, 1, none⟩ (.int .i64 (e2 r).1)) fun e w' => e = .returned (.int .i64 (e3 r).1) ∧ Rdr w' p (e3 r).2 ∧ Chg (fun k => k = p) (w4.setCell ⟨w.heap.size + 1, 1, none⟩ (.int .i64 (e2 r).1)) w') := number_rd p 2 (e2 r).2 _ J4.out.rd (by omega)
  clear r4 g4 HC4 I3 J3
  go_wp2_with fail
  refine HC5.out.mono ?_
  rintro _ w5 ⟨rfl, r5, g5⟩
  have I5 := hid (J4.out.read hp r5 g5)
  have J5 := hid (I5.out.set2 hp (.int .i64 (e3 r).1))
  clear c1 f1
  obtain ⟨⟨_, _, c2, _⟩, _, _, f2, _⟩ := own4 I5.out.box
  have HC6 : Hid (Calls Tryd.prog 34 #[.pointer (some ⟨p, 0, none⟩), .int .i64 1] (w5.setCell ⟨w.heap.size + 1, 2, none⟩ (.int .i64 (e3 r).1)) fun e w' => e = .returned (.int .i64 (e4 r).1) ∧ Rdr w' p (e4 r).2 ∧ Chg (fun k => k = p) (w5.setCell ⟨w.heap.size + 1, 2, none⟩ (.int .i64 (e3 r).1)) w') := number_rd p 1 (e3 r).2 _ J5.out.rd (by omega)
  clear r5 g5 HC5 I4 J4
  go_wp2_with fail
  refine HC6.out.mono ?_
  rintro _ w6 ⟨rfl, r6, g6⟩
  have I6 := hid (J5.out.read hp r6 g6)
  have J6 := hid (I6.out.set3 hp (.int .i64 (e4 r).1))
  clear c2 f2
  obtain ⟨⟨_, _, _, c3⟩, _, _, _, f3⟩ := own4 I6.out.box
  obtain ⟨⟨b0, b1, b2, b3⟩, _, _, _, _⟩ := own4 J6.out.box
  obtain ⟨⟨a0, a1, a2, a3⟩, k0, k1, k2, k3⟩ := own4 J6.out.res
  have BB := box4_of J6.out.res
  clear r6 g6 HC6 I5 J5
  obtain ⟨y0, y1, y2, y3⟩ := BB.ret (.string S) (.int .i64 (e2 r).1) (.int .i64 (e3 r).1) (.int .i64 (e4 r).1)
  have HF := hid (And.intro (((((J6.out.rd.other (p := ⟨w.heap.size, 0, none⟩) (by show p ≠ w.heap.size; omega) (.string S)).other (p := ⟨w.heap.size, 1, none⟩) (by show p ≠ w.heap.size; omega) (.int .i64 (e2 r).1)).other (p := ⟨w.heap.size, 2, none⟩) (by show p ≠ w.heap.size; omega) (.int .i64 (e3 r).1)).other (p := ⟨w.heap.size, 3, none⟩) (by show p ≠ w.heap.size; omega) (.int .i64 (e4 r).1))) ((((J6.out.ch.fresh (Nat.le_refl _) 0 (.string S)).fresh (Nat.le_refl _) 1 (.int .i64 (e2 r).1)).fresh (Nat.le_refl _) 2 (.int .i64 (e3 r).1)).fresh (Nat.le_refl _) 3 (.int .i64 (e4 r).1)))
  clear BB
  go_wp2
  refine bodyPost_ret (v := .agg #[.string S, .int .i64 (e2 r).1, .int .i64 (e3 r).1, .int .i64 (e4 r).1]) (by simp [results, Tryd.results35, go_sem, y0, y1, y2, y3]) rfl ?_
  exact ⟨by rw [← HS.out]; rfl, HF.out.1, HF.out.2⟩
end Go.Proofs.YtelgpiedchnncabDoor
