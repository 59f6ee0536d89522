/- Joined texts: DevChange, DevWrite. -/
import Derived.Test.YtkhjmfngeidlcaaGreatDoorMem2
import Derived.Test.YtkhjmfngeidlcaaGreatDoorDevA
import Derived.Test.YtkhjmfngeidlcaaGreatDoorDevB
import Derived.Deep.RegionHeld3
import Derived.Test.YtkhjmfngeidlcaaGreatDoorSecA
/- What the program's device.change answers, whatever its closure makes of a sector. -/
namespace Go.Proofs.YtkhjmfngeidlcaaGreatDoor
open Go.RowKit Go.Lib

/-- What the change leaves: the device in its box, in memory of its own. -/
def Changed (w w' : World) (pc n m : Nat) (D : Dv) : Prop :=
  ∃ b b', Box2 w' pc (.slice (some ⟨b, 0, none⟩) n n) (.slice (some ⟨b', 0, none⟩) m m) ∧ pc < b ∧ pc < b' ∧ b ≠ b' ∧ Own w' b 9 (D.1.map .string) ∧ Own w' b' 4 (D.2.map .bool) ∧ Below pc w w'



set_option maxHeartbeats 1600000 in
theorem change1_bad (g : Nat) (lb : Array Value) (s s2 : ByteArray) (l l2 : Bool) (e2 : Int) (pi pd pc pn : Nat) (w : World) (eg : ∀ args w, (callFunc g args).run Tryz.prog w = .ok (.enter g args) w)
    (hi : w.cell? ⟨pi, 0, none⟩ = some (.func (.func g) #[] lb)) (he : e2 ≠ 0)
    (hc : Calls Tryz.prog g (#[.string s, .bool l] ++ lb) w fun e w' => e = .returned (.tuple #[.string s2, .bool l2, .int .i64 e2]) ∧ Below w.heap.size w w') :
    Calls Tryz.prog 175 #[.string s, .bool l, .pointer (some ⟨pi, 0, none⟩), .pointer (some ⟨pd, 0, none⟩), .pointer (some ⟨pc, 0, none⟩), .pointer (some ⟨pn, 0, none⟩)] w fun e w' => e = .returned (.int .i64 e2) ∧ Below w.heap.size w w' := by
  have hq : (e2 == 0) = false := beq_eq_false_iff_ne.2 he
  have HC := hid hc
  clear hc he
  go_enter Tryz.func175, Tryz.ntmps175
  go_wp2_with fail
  go_at_fn g
  refine HC.out.mono ?_
  rintro _ w1 ⟨rfl, g1⟩
  go_wp2
  go_ret
  exact ⟨rfl, g1⟩

/-- Behind the call that clones: what the two stores want, and what they leave. -/
theorem later4 {w W w4 : World} {pc pn b b' n m k : Nat} {D : Dv} {x y : Value} (h : Box2 W pc (.slice (some ⟨b, 0, none⟩) n n) (.slice (some ⟨b', 0, none⟩) m m) ∧ Own W b 9 (D.1.map .string) ∧ Own W b' 4 (D.2.map .bool) ∧ W.cell? ⟨pn, 0, none⟩ = some (.int .i64 k) ∧ Below pc w W ∧ (pc < b ∧ pc < b' ∧ b ≠ b') ∧ (pn ≠ b ∧ pn ≠ b'))
    (hx : (D.1.map Value.string)[k]? = some x ∧ (D.2.map Value.bool)[k]? = some y) (g : Below W.heap.size W w4) (s2 : ByteArray) (l2 : Bool) :
    w4.cell? ⟨pc, 0, none⟩ = some (.slice (some ⟨b, 0, none⟩) n n) ∧ w4.cell? ⟨pc, 1, none⟩ = some (.slice (some ⟨b', 0, none⟩) m m) ∧ w4.cell? ⟨pn, 0, none⟩ = some (.int .i64 k) ∧ w4.cell? ⟨b, k, none⟩ = some x ∧ w4.frozen? ⟨b, k, none⟩ = false ∧
    (w4.setCell ⟨b, k, none⟩ (.string s2)).cell? ⟨pc, 0, none⟩ = some (.slice (some ⟨b, 0, none⟩) n n) ∧ (w4.setCell ⟨b, k, none⟩ (.string s2)).cell? ⟨pc, 1, none⟩ = some (.slice (some ⟨b', 0, none⟩) m m) ∧ (w4.setCell ⟨b, k, none⟩ (.string s2)).cell? ⟨pn, 0, none⟩ = some (.int .i64 k) ∧
    (w4.setCell ⟨b, k, none⟩ (.string s2)).cell? ⟨b', k, none⟩ = some y ∧ (w4.setCell ⟨b, k, none⟩ (.string s2)).frozen? ⟨b', k, none⟩ = false ∧
    ((w4.setCell ⟨b, k, none⟩ (.string s2)).setCell ⟨b', k, none⟩ (.bool l2)).cell? ⟨pc, 0, none⟩ = some (.slice (some ⟨b, 0, none⟩) n n) ∧ ((w4.setCell ⟨b, k, none⟩ (.string s2)).setCell ⟨b', k, none⟩ (.bool l2)).cell? ⟨pc, 1, none⟩ = some (.slice (some ⟨b', 0, none⟩) m m) ∧ ((w4.setCell ⟨b, k, none⟩ (.string s2)).setCell ⟨b', k, none⟩ (.bool l2)).cell? ⟨pn, 0, none⟩ = some (.int .i64 k) ∧
    Changed w ((w4.setCell ⟨b, k, none⟩ (.string s2)).setCell ⟨b', k, none⟩ (.bool l2)) pc n m (dvPut D k s2 l2) := by
  obtain ⟨h1, h2, h3, h4, h5, ⟨h6, h7, h8⟩, h9, h10⟩ := h
  have B5 := h1.below g
  have N5 := (g.cell (p := ⟨pn, 0, none⟩) (cell_lt h4)).trans h4
  have O5 := h2.below' g
  have O6 := h3.below' g
  have B6 := B5.other (q := ⟨b, k, none⟩) (Nat.ne_of_lt h6) (.string s2)
  have N6 := (World.cell?_setCell_other w4 ⟨b, k, none⟩ ⟨pn, 0, none⟩ (.string s2) (fun e => h9 (congrArg Addr.block e).symm)).trans N5
  have O7 := O6.other (p := ⟨b, k, none⟩) (fun e => h8 e.symm) (.string s2)
  have hk : k < (D.1.map Value.string).length := by
    rcases Nat.lt_or_ge k (D.1.map Value.string).length with h | h
    · exact h
    · rw [List.getElem?_eq_none h] at hx; cases hx.1
  have hk' : k < (D.2.map Value.bool).length := by
    rcases Nat.lt_or_ge k (D.2.map Value.bool).length with h | h
    · exact h
    · rw [List.getElem?_eq_none h] at hx; cases hx.2
  have P6 := O5.set hk (.string s2)
  have B7 := B6.other (q := ⟨b', k, none⟩) (Nat.ne_of_lt h7) (.bool l2)
  have N7 := (World.cell?_setCell_other (w4.setCell ⟨b, k, none⟩ (.string s2)) ⟨b', k, none⟩ ⟨pn, 0, none⟩ (.bool l2) (fun e => h10 (congrArg Addr.block e).symm)).trans N6
  have P7 := P6.other (p := ⟨b', k, none⟩) h8 (.bool l2)
  have Q7 := O7.set hk' (.bool l2)
  rw [(put_strs D k s2 l2).1] at P7
  rw [(put_strs D k s2 l2).2] at Q7
  exact ⟨B5.c0, B5.c1, N5, O5.cell hx.1, O5.free k, B6.c0, B6.c1, N6, O7.cell hx.2, O7.free k, B7.c0, B7.c1, N7, b, b', B7, h6, h7, h8, P7, Q7, ((h5.trans (g.mono (Nat.le_of_lt h1.lt))).setCell (Nat.le_of_lt h6) _).setCell (Nat.le_of_lt h7) _⟩

set_option maxHeartbeats 1600000 in
set_option maxRecDepth 4000 in
theorem change1_ok (a : Option Addr) (n c : Nat) (a' : Option Addr) (m c' : Nat) (k : Nat) (g : Nat) (lb : Array Value) (D : Dv) (s s2 : ByteArray) (l l2 : Bool) (pi pd pc pn : Nat) (w : World) (eg : ∀ args w, (callFunc g args).run Tryz.prog w = .ok (.enter g args) w)
    (hi : w.cell? ⟨pi, 0, none⟩ = some (.func (.func g) #[] lb)) (hd : Box2 w pd (.slice a n c) (.slice a' m c')) (hp : Box2 w pc (.slice none 0 0) (.slice none 0 0)) (hn : w.cell? ⟨pn, 0, none⟩ = some (.int .i64 k)) (hnl : pn < w.heap.size) (hpn : pn ≠ pc) (h : DevAt w a n a' m D) (hk : k < n) (hm : m = n) (hn64 : n ≤ 64) (hs : ∀ s ∈ D.1, s.size = 30) (hs2 : s2.size ≤ 281474976710656)
    (hc : Calls Tryz.prog g (#[.string s, .bool l] ++ lb) w fun e w' => e = .returned (.tuple #[.string s2, .bool l2, .int .i64 0]) ∧ Below w.heap.size w w') :
    Calls Tryz.prog 175 #[.string s, .bool l, .pointer (some ⟨pi, 0, none⟩), .pointer (some ⟨pd, 0, none⟩), .pointer (some ⟨pc, 0, none⟩), .pointer (some ⟨pn, 0, none⟩)] w fun e w' => e = .returned (.int .i64 0) ∧ Changed w w' pc n m (dvPut D k s2 l2) := by
  have HC := hid hc
  have HK := hid (fun wx (g : Below w.heap.size w wx) => copy_any a n c a' m c' D wx (h.below g) (by omega) (by omega) (fun s hx => by rw [hs s hx]; omega))
  have HS := hid (fun wx => clone_any s2 wx hs2)
  have HB := hid (And.intro hd (And.intro hp (And.intro hn hnl)))
  have HD := hid h
  have hk' : (k : Int) < n := by omega
  have hk2 : (k : Int) < m := by omega
  have HM := hid (And.intro hk hm)
  clear hc hd hp hn hnl h hs hs2 hn64 hk hm
  go_enter Tryz.func175, Tryz.ntmps175
  go_wp2_with fail
  go_at_fn g
  refine HC.out.mono ?_
  rintro _ w1 ⟨rfl, g1⟩
  have b1 := HB.out.1.below g1
  have d0 := b1.c0
  have d1 := b1.c1
  clear b1
  have G1 := hid g1
  clear g1 hi
  go_wp2_with fail
  refine (HK.out _ G1.out).mono ?_
  rintro _ w2 ⟨b, b', rfl, q1, q2, q3, q4, q5, g2⟩
  have bb := (HB.out.2.1.below G1.out).below g2
  have hpc1 : pc < w1.heap.size := (HB.out.2.1.below G1.out).lt
  have e0 := bb.c0
  have e1 := bb.c1
  have f0 := bb.f0
  have f1 := bb.f1
  have b3 := bb.store (.slice (some ⟨b, 0, none⟩) n n) (.slice (some ⟨b', 0, none⟩) m m)
  have o3 := (q4.other (p := ⟨pc, 0, none⟩) (by show b ≠ pc; omega) (.slice (some ⟨b, 0, none⟩) n n)).other (p := ⟨pc, 1, none⟩) (by show b ≠ pc; omega) (.slice (some ⟨b', 0, none⟩) m m)
  have o3' := (q5.other (p := ⟨pc, 0, none⟩) (by show b' ≠ pc; omega) (.slice (some ⟨b, 0, none⟩) n n)).other (p := ⟨pc, 1, none⟩) (by show b' ≠ pc; omega) (.slice (some ⟨b', 0, none⟩) m m)
  have n3 : ((w2.setCell ⟨pc, 0, none⟩ (.slice (some ⟨b, 0, none⟩) n n)).setCell ⟨pc, 1, none⟩ (.slice (some ⟨b', 0, none⟩) m m)).cell? ⟨pn, 0, none⟩ = some (.int .i64 k) := by
    rw [World.cell?_setCell_other _ _ _ _ (by simp), World.cell?_setCell_other _ _ _ _ (by simp)]
    exact (g2.cell (p := ⟨pn, 0, none⟩) (by show pn < w1.heap.size; have := HB.out.2.2.2; have := G1.out.size; omega)).trans ((G1.out.cell (p := ⟨pn, 0, none⟩) HB.out.2.2.2).trans HB.out.2.2.1)
  have w3 : Below pc w ((w2.setCell ⟨pc, 0, none⟩ (.slice (some ⟨b, 0, none⟩) n n)).setCell ⟨pc, 1, none⟩ (.slice (some ⟨b', 0, none⟩) m m)) :=
    (((G1.out.mono (Nat.le_of_lt HB.out.2.1.lt)).trans (g2.mono (Nat.le_of_lt hpc1))).setCell (Nat.le_refl _) _).setCell (Nat.le_refl _) _
  have HQ := hid (And.intro b3 (And.intro o3 (And.intro o3' (And.intro n3 (And.intro w3 (And.intro (show pc < b ∧ pc < b' ∧ b ≠ b' by omega) (show pn ≠ b ∧ pn ≠ b' by have := HB.out.2.2.2; have := G1.out.size; omega)))))))
  clear bb b3 o3 o3' n3 w3 q1 q2 q3 q4 q5 g2 d0 d1 hpc1
  go_upto_region 4 with fail
  generalize (w2.setCell ⟨pc, 0, none⟩ (.slice (some ⟨b, 0, none⟩) n n)).setCell ⟨pc, 1, none⟩ (.slice (some ⟨b', 0, none⟩) m m) = W at HQ
  clear e0 e1 f0 f1
  obtain ⟨x, hx⟩ : ∃ x, (D.1.map Value.string)[k]? = some x := ⟨_, List.getElem?_eq_getElem (by rw [List.length_map, ← HD.out.sn]; exact HM.out.1)⟩
  obtain ⟨y, hy⟩ : ∃ y, (D.2.map Value.bool)[k]? = some y := ⟨_, List.getElem?_eq_getElem (by rw [List.length_map, ← HD.out.sm]; have := HM.out; omega)⟩
  have HX := hid (And.intro hx hy)
  clear hx hy HK HC
  go_cut [] (fun wx => Changed w wx pc n m (dvPut D k s2 l2))
  case rest =>
    go_wp2
    go_ret
    exact ⟨rfl, hcut⟩
  case first =>
    have e0 := HQ.out.1.c0
    have e1 := HQ.out.1.c1
    have en := HQ.out.2.2.2.1
    go_region_held3 (fun w' => w'.cell? ⟨pc, 0, none⟩ = some (.slice (some ⟨b, 0, none⟩) n n) ∧ w'.cell? ⟨pc, 1, none⟩ = some (.slice (some ⟨b', 0, none⟩) m m) ∧ w'.cell? ⟨pn, 0, none⟩ = some (.int .i64 k)) (go_keep)
      (first | (go_at_call 107; refine (HS.out _).mono ?_; rintro _ w4 ⟨rfl, g4⟩; (have g5 := undrew g4); clear g4; (have Z := later4 HQ.out HX.out g5 s2 l2); obtain ⟨i0, i1, i2, j0, j1, i3, i4, i5, j2, j3, i6, i7, i8, hz⟩ := Z; (have H5 := hid hz); clear hz g5))
    go_wp2_with fail
    go_meet
    case rel => exact H5.out

/-- The five boxes of change. -/
structure ChgD (w W : World) (d1 d2 fv : Value) (i : Int) : Prop where
  below : Below w.heap.size w W
  size : W.heap.size = w.heap.size + 5
  d : Box2 W w.heap.size d1 d2
  n : W.cell? ⟨w.heap.size + 1, 0, none⟩ = some (.int .i64 i)
  f : W.cell? ⟨w.heap.size + 1 + 1, 0, none⟩ = some fv
  r : Box2 W (w.heap.size + 1 + 1 + 1) (.slice none 0 0) (.slice none 0 0)
  c : Box2 W (w.heap.size + 1 + 1 + 1 + 1) (.slice none 0 0) (.slice none 0 0)
theorem chg_start (w : World) (d1 d2 fv : Value) (i : Int) (t1 t2 t3 t4 t5 : TypeId) : ChgD w (((((w.alloc (.cells #[d1, d2] t1)).alloc (.cells #[.int .i64 i] t2)).alloc (.cells #[fv] t3)).alloc (.cells #[.slice none 0 0, .slice none 0 0] t4)).alloc (.cells #[.slice none 0 0, .slice none 0 0] t5)) d1 d2 fv i := by
  have o1 : Own (w.alloc (.cells #[d1, d2] t1)) w.heap.size t1 [d1, d2] := Own.made w t1 [d1, d2]
  obtain ⟨w1, e1⟩ : ∃ w1, w1 = w.alloc (.cells #[d1, d2] t1) := ⟨_, rfl⟩
  have z1 : w1.heap.size = w.heap.size + 1 := by rw [e1]; simp
  have b1 : Below w.heap.size w w1 := by rw [e1]; exact (Below.refl _ w).alloc (Nat.le_refl _) _
  rw [← e1] at o1 ⊢
  clear e1
  have o2 : Own (w1.alloc (.cells #[.int .i64 i] t2)) w1.heap.size t2 [.int .i64 i] := Own.made w1 t2 [.int .i64 i]
  replace o1 := o1.alloc (.cells #[.int .i64 i] t2)
  obtain ⟨w2, e2⟩ : ∃ w2, w2 = w1.alloc (.cells #[.int .i64 i] t2) := ⟨_, rfl⟩
  have z2 : w2.heap.size = w.heap.size + 1 + 1 := by rw [e2]; simp [z1]
  have b2 : Below w.heap.size w w2 := by rw [e2]; exact b1.alloc b1.size _
  rw [← e2] at o1 o2 ⊢
  clear e2
  have o3 : Own (w2.alloc (.cells #[fv] t3)) w2.heap.size t3 [fv] := Own.made w2 t3 [fv]
  replace o1 := o1.alloc (.cells #[fv] t3)
  replace o2 := o2.alloc (.cells #[fv] t3)
  obtain ⟨w3, e3⟩ : ∃ w3, w3 = w2.alloc (.cells #[fv] t3) := ⟨_, rfl⟩
  have z3 : w3.heap.size = w.heap.size + 1 + 1 + 1 := by rw [e3]; simp [z2]
  have b3 : Below w.heap.size w w3 := by rw [e3]; exact b2.alloc b2.size _
  rw [← e3] at o1 o2 o3 ⊢
  clear e3
  have o4 : Own (w3.alloc (.cells #[.slice none 0 0, .slice none 0 0] t4)) w3.heap.size t4 [.slice none 0 0, .slice none 0 0] := Own.made w3 t4 [.slice none 0 0, .slice none 0 0]
  replace o1 := o1.alloc (.cells #[.slice none 0 0, .slice none 0 0] t4)
  replace o2 := o2.alloc (.cells #[.slice none 0 0, .slice none 0 0] t4)
  replace o3 := o3.alloc (.cells #[.slice none 0 0, .slice none 0 0] t4)
  obtain ⟨w4, e4⟩ : ∃ w4, w4 = w3.alloc (.cells #[.slice none 0 0, .slice none 0 0] t4) := ⟨_, rfl⟩
  have z4 : w4.heap.size = w.heap.size + 1 + 1 + 1 + 1 := by rw [e4]; simp [z3]
  have b4 : Below w.heap.size w w4 := by rw [e4]; exact b3.alloc b3.size _
  rw [← e4] at o1 o2 o3 o4 ⊢
  clear e4
  have o5 : Own (w4.alloc (.cells #[.slice none 0 0, .slice none 0 0] t5)) w4.heap.size t5 [.slice none 0 0, .slice none 0 0] := Own.made w4 t5 [.slice none 0 0, .slice none 0 0]
  replace o1 := o1.alloc (.cells #[.slice none 0 0, .slice none 0 0] t5)
  replace o2 := o2.alloc (.cells #[.slice none 0 0, .slice none 0 0] t5)
  replace o3 := o3.alloc (.cells #[.slice none 0 0, .slice none 0 0] t5)
  replace o4 := o4.alloc (.cells #[.slice none 0 0, .slice none 0 0] t5)
  rw [z1] at o2
  rw [z2] at o3
  rw [z3] at o4
  rw [z4] at o5
  exact ⟨b4.alloc b4.size _, by simp [z4], box2_of o1, o2.cell rfl, o3.cell rfl, box2_of o4, box2_of o5⟩

set_option maxHeartbeats 1600000 in
set_option maxRecDepth 4000 in
theorem change_any (a : Option Addr) (n c : Nat) (a' : Option Addr) (m c' : Nat) (i : Int) (g : Nat) (lb : Array Value) (D : Dv) (r : ByteArray × Bool × Int) (w : World) (h : DevAt w a n a' m D) (eg : ∀ args w, (callFunc g args).run Tryz.prog w = .ok (.enter g args) w)
    (hr : r.1.size ≤ 281474976710656)
    (hc : dvTouch D i = 0 → ∀ w1, Below w.heap.size w w1 → Calls Tryz.prog g (#[.string (sec D i.toNat), .bool (los D i.toNat)] ++ lb) w1 fun e w' => e = .returned (.tuple #[.string r.1, .bool r.2.1, .int .i64 r.2.2]) ∧ Below w1.heap.size w1 w') :
    Calls Tryz.prog 164 #[.agg #[.slice a n c, .slice a' m c'], .int .i64 i, .func (.func g) #[] lb] w (OutE w (dvChange D i r)) := by
  obtain ⟨W, hW⟩ : ∃ W, W = ((((w.alloc (.cells #[.slice a n c, .slice a' m c'] 35)).alloc (.cells #[.int .i64 i] 3)).alloc (.cells #[.func (.func g) #[] lb] 183)).alloc (.cells #[.slice none 0 0, .slice none 0 0] 35)).alloc (.cells #[.slice none 0 0, .slice none 0 0] 35) := ⟨_, rfl⟩
  have hS := chg_start w (.slice a n c) (.slice a' m c') (.func (.func g) #[] lb) i 35 3 183 35 35
  rw [← hW] at hS
  have hD := h.below hS.below
  have HE := hid hW
  by_cases ht : dvTouch D i = 0
  · obtain ⟨hmay, h0, h1, h2, h64⟩ := touch_ok D i ht
    obtain ⟨k, rfl⟩ : ∃ k : Nat, i = k := ⟨i.toNat, by omega⟩
    have hto : (k : Int).toNat = k := by omega
    rw [hto] at hc
    have hkn : k < n := by rw [h.sn]; omega
    have hmn : m = n := by rw [h.sn, h.sm]; exact h2
    have hn64 : n ≤ 64 := by rw [h.sn]; exact h64
    rw [change_dv D k r ht]
    by_cases h3 : r.2.2 = 0
    · rw [if_pos h3]
      rw [h3] at hc
      have hL := look_ok a n c a' m c' k 175 #[.pointer (some ⟨w.heap.size + 1 + 1, 0, none⟩), .pointer (some ⟨w.heap.size, 0, none⟩), .pointer (some ⟨w.heap.size + 1 + 1 + 1 + 1, 0, none⟩), .pointer (some ⟨w.heap.size + 1, 0, none⟩)] D W hD ht (enters_of Tryz.func175 (by kernel_rfl) rfl)
        (fun x w' => x = 0 ∧ Changed W w' (w.heap.size + 1 + 1 + 1 + 1) n m (dvPut D k r.1 r.2.1)) (fun w1 g1 => by
          have g2 := hS.below.trans (g1.mono hS.below.size)
          refine (change1_ok a n c a' m c' k g lb D (sec D k) r.1 (los D k) r.2.1 (w.heap.size + 1 + 1) w.heap.size (w.heap.size + 1 + 1 + 1 + 1) (w.heap.size + 1) w1 eg ((g1.cell (p := ⟨w.heap.size + 1 + 1, 0, none⟩) (by show w.heap.size + 1 + 1 < W.heap.size; rw [hS.size]; omega)).trans hS.f) (hS.d.below g1) (hS.c.below g1)
            ((g1.cell (p := ⟨w.heap.size + 1, 0, none⟩) (by show w.heap.size + 1 < W.heap.size; rw [hS.size]; omega)).trans hS.n) (by have := g1.size; rw [hS.size] at this; omega) (by omega) (hD.below g1) hkn hmn hn64 ((dvMay_iff D).1 hmay).2 hr (hc ht w1 g2)).mono ?_
          rintro e w2 ⟨he, b, b', q1, q2, q3, q4, q5, q6, q7⟩
          exact ⟨0, he, rfl, b, b', q1, q2, q3, q4, q5, q6, (g1.mono (by rw [hS.size]; omega)).trans q7⟩)
      rw [hW] at hL
      have HL := hid hL
      have HS := hid hS
      have HN := hid (And.intro h.sn (And.intro h.sm (And.intro h.nb h.mb)))
      clear hL hW hS hD hc ht h hto hkn hmn hn64 hmay h0 h1 h2 h64 h3 hr
      go_enter Tryz.func164, Tryz.ntmps164
      go_wp2_with fail
      refine HL.out.mono ?_
      rintro _ w1 ⟨x, rfl, rfl, b, b', q1, q2, q3, q4, q5, q6, q7⟩
      rw [← HE.out] at q7
      have rb := HS.out.r.below2 q7 (Nat.lt_succ_self _)
      have u0 := q1.c0
      have u1 := q1.c1
      have v0 := rb.c0
      have v1 := rb.c1
      have x0 := rb.f0
      have x1 := rb.f1
      obtain ⟨y0, y1⟩ := ret_box (.slice (some ⟨b, 0, none⟩) n n) (.slice (some ⟨b', 0, none⟩) m m) v0 v1
      have k1 := (q5.other (p := ⟨w.heap.size + 1 + 1 + 1, 0, none⟩) (by show b ≠ w.heap.size + 1 + 1 + 1; omega) (.slice (some ⟨b, 0, none⟩) n n)).other (p := ⟨w.heap.size + 1 + 1 + 1, 1, none⟩) (by show b ≠ w.heap.size + 1 + 1 + 1; omega) (.slice (some ⟨b', 0, none⟩) m m)
      have k2 := (q6.other (p := ⟨w.heap.size + 1 + 1 + 1, 0, none⟩) (by show b' ≠ w.heap.size + 1 + 1 + 1; omega) (.slice (some ⟨b, 0, none⟩) n n)).other (p := ⟨w.heap.size + 1 + 1 + 1, 1, none⟩) (by show b' ≠ w.heap.size + 1 + 1 + 1; omega) (.slice (some ⟨b', 0, none⟩) m m)
      have k3 : Below w.heap.size w w1 := HS.out.below.trans (q7.mono (by omega))
      have k4 := (k3.setCell (p := ⟨w.heap.size + 1 + 1 + 1, 0, none⟩) (by show w.heap.size ≤ w.heap.size + 1 + 1 + 1; omega) (.slice (some ⟨b, 0, none⟩) n n)).setCell (p := ⟨w.heap.size + 1 + 1 + 1, 1, none⟩) (by show w.heap.size ≤ w.heap.size + 1 + 1 + 1; omega) (.slice (some ⟨b', 0, none⟩) m m)
      have K := hid (And.intro k1 (And.intro k2 (And.intro (fresh_some (B := w.heap.size) (b := b) (b' := b') (by omega) (by omega)) k4)))
      clear q1 q2 q3 q4 q5 q6 q7 rb k1 k2 k3 k4
      go_wp2
      refine bodyPost_ret (v := .tuple #[.agg #[.slice (some ⟨b, 0, none⟩) n n, .slice (some ⟨b', 0, none⟩) m m], .int .i64 0]) (by simp [results, Tryz.results164, go_sem, y0, y1]) rfl ?_
      obtain ⟨z1, z2⟩ := put_len D k r.1 r.2.1
      exact ⟨_, n, n, _, m, m, rfl, ⟨by rw [z1]; exact HN.out.1, by rw [z2]; exact HN.out.2.1, K.out.1.row, K.out.2.1.row, HN.out.2.2.1, HN.out.2.2.2⟩, K.out.2.2.1, K.out.2.2.2⟩
    · rw [if_neg h3]
      have hL := look_ok a n c a' m c' k 175 #[.pointer (some ⟨w.heap.size + 1 + 1, 0, none⟩), .pointer (some ⟨w.heap.size, 0, none⟩), .pointer (some ⟨w.heap.size + 1 + 1 + 1 + 1, 0, none⟩), .pointer (some ⟨w.heap.size + 1, 0, none⟩)] D W hD ht (enters_of Tryz.func175 (by kernel_rfl) rfl)
        (fun x w' => x = r.2.2 ∧ Below W.heap.size W w') (fun w1 g1 => by
          have g2 := hS.below.trans (g1.mono hS.below.size)
          refine (change1_bad g lb (sec D k) r.1 (los D k) r.2.1 r.2.2 (w.heap.size + 1 + 1) w.heap.size (w.heap.size + 1 + 1 + 1 + 1) (w.heap.size + 1) w1 eg ((g1.cell (p := ⟨w.heap.size + 1 + 1, 0, none⟩) (by show w.heap.size + 1 + 1 < W.heap.size; rw [hS.size]; omega)).trans hS.f) h3 (hc ht w1 g2)).mono ?_
          rintro e w2 ⟨he, q⟩
          exact ⟨r.2.2, he, rfl, g1.trans (q.mono g1.size)⟩)
      rw [hW] at hL
      have HL := hid hL
      have HS := hid hS
      clear hL hW hS hD hc ht h hto hkn hmn hn64 hmay h0 h1 h2 h64 hr
      go_enter Tryz.func164, Tryz.ntmps164
      go_wp2_with fail
      refine HL.out.mono ?_
      rintro _ w1 ⟨x, rfl, rfl, q7⟩
      rw [← HE.out] at q7
      have rb := HS.out.r.below q7
      have cb := HS.out.c.below q7
      have u0 := cb.c0
      have u1 := cb.c1
      have v0 := rb.c0
      have v1 := rb.c1
      have x0 := rb.f0
      have x1 := rb.f1
      obtain ⟨y0, y1⟩ := ret_box (.slice none 0 0) (.slice none 0 0) v0 v1
      have k3 : Below w.heap.size w w1 := HS.out.below.trans (q7.mono HS.out.below.size)
      have k4 := (k3.setCell (p := ⟨w.heap.size + 1 + 1 + 1, 0, none⟩) (by show w.heap.size ≤ w.heap.size + 1 + 1 + 1; omega) (.slice none 0 0)).setCell (p := ⟨w.heap.size + 1 + 1 + 1, 1, none⟩) (by show w.heap.size ≤ w.heap.size + 1 + 1 + 1; omega) (.slice none 0 0)
      have K := hid k4
      clear q7 rb cb k3 k4
      go_wp2
      refine bodyPost_ret (v := .tuple #[.agg #[.slice none 0 0, .slice none 0 0], .int .i64 r.2.2]) (by simp [results, Tryz.results164, go_sem, y0, y1]) rfl ?_
      exact ⟨none, 0, 0, none, 0, 0, rfl, devAt_none _, fresh_none _, K.out⟩
  · rw [dvChange, if_neg ht]
    have hL := look_bad a n c a' m c' i (.func (.func 175) #[] #[.pointer (some ⟨w.heap.size + 1 + 1, 0, none⟩), .pointer (some ⟨w.heap.size, 0, none⟩), .pointer (some ⟨w.heap.size + 1 + 1 + 1 + 1, 0, none⟩), .pointer (some ⟨w.heap.size + 1, 0, none⟩)]) D W hD ht
    rw [hW] at hL
    have HL := hid hL
    have HS := hid hS
    clear hL hW hS hD hc ht h hr
    generalize dvTouch D i = t at HL
    go_enter Tryz.func164, Tryz.ntmps164
    go_wp2_with fail
    refine HL.out.mono ?_
    rintro _ w1 ⟨rfl, q7⟩
    rw [← HE.out] at q7
    have rb := HS.out.r.below q7
    have cb := HS.out.c.below q7
    have u0 := cb.c0
    have u1 := cb.c1
    have v0 := rb.c0
    have v1 := rb.c1
    have x0 := rb.f0
    have x1 := rb.f1
    obtain ⟨y0, y1⟩ := ret_box (.slice none 0 0) (.slice none 0 0) v0 v1
    have k3 : Below w.heap.size w w1 := HS.out.below.trans (q7.mono HS.out.below.size)
    have k4 := (k3.setCell (p := ⟨w.heap.size + 1 + 1 + 1, 0, none⟩) (by show w.heap.size ≤ w.heap.size + 1 + 1 + 1; omega) (.slice none 0 0)).setCell (p := ⟨w.heap.size + 1 + 1 + 1, 1, none⟩) (by show w.heap.size ≤ w.heap.size + 1 + 1 + 1; omega) (.slice none 0 0)
    have K := hid k4
    clear q7 rb cb k3 k4
    go_wp2
    refine bodyPost_ret (v := .tuple #[.agg #[.slice none 0 0, .slice none 0 0], .int .i64 t]) (by simp [results, Tryz.results164, go_sem, y0, y1]) rfl ?_
    exact ⟨none, 0, 0, none, 0, 0, rfl, devAt_none _, fresh_none _, K.out⟩
end Go.Proofs.YtkhjmfngeidlcaaGreatDoor

/- What the program's device.Write and device.Lose answer. -/
namespace Go.Proofs.YtkhjmfngeidlcaaGreatDoor
open Go.RowKit Go.Lib

theorem write1_any (no : Int) (s0 s : ByteArray) (l0 : Bool) (pn ps : Nat) (w : World) (hn : w.cell? ⟨pn, 0, none⟩ = some (.int .i64 no)) (hs : w.cell? ⟨ps, 0, none⟩ = some (.string s)) :
    Calls Tryz.prog 165 #[.string s0, .bool l0, .pointer (some ⟨pn, 0, none⟩), .pointer (some ⟨ps, 0, none⟩)] w fun e w' => e = .returned (.tuple #[.string (str (encd no s.data.toList).1), .bool false, .int .i64 (encd no s.data.toList).2]) ∧ Below w.heap.size w w' := by
  have HE := hid (encode_any no s w)
  generalize encd no s.data.toList = r at HE
  go_enter Tryz.func165, Tryz.ntmps165
  go_wp2_with fail
  refine HE.out.mono ?_
  rintro _ w1 ⟨rfl, g1⟩
  go_wp2
  go_ret3
  exact ⟨rfl, g1⟩

theorem lose1_any (s : ByteArray) (l : Bool) (w : World) :
    Calls Tryz.prog 167 #[.string s, .bool l] w fun e w' => e = .returned (.tuple #[.string s, .bool true, .int .i64 0]) ∧ Below w.heap.size w w' := by
  go_enter Tryz.func167, Tryz.ntmps167
  go_wp2
  go_ret3
  exact ⟨rfl, Below.refl _ _⟩

theorem encd_size (no : Int) (l : List UInt8) : (str (encd no l).1).size ≤ 281474976710656 := by
  rw [str_size]
  unfold encd
  split
  · simp
  · split
    · simp
    · rename_i h2
      have : l.length ≤ 24 := by omega
      show (sealed (body no l)).length ≤ _
      rw [sealed_length, body_length no l this]
      omega

set_option maxHeartbeats 400000 in
theorem write_any (a : Option Addr) (n c : Nat) (a' : Option Addr) (m c' : Nat) (i no : Int) (s : ByteArray) (D : Dv) (w : World) (h : DevAt w a n a' m D) :
    Calls Tryz.prog 148 #[.agg #[.slice a n c, .slice a' m c'], .int .i64 i, .int .i64 no, .string s] w (OutE w (dvWrite D i no s.data.toList)) := by
  obtain ⟨W, hW⟩ : ∃ W, W = (((w.alloc (.cells #[.slice a n c, .slice a' m c'] 35)).alloc (.cells #[.int .i64 no] 3)).alloc (.cells #[.string s] 9)).alloc (.cells #[.slice none 0 0, .slice none 0 0] 35) := ⟨_, rfl⟩
  have hB : Below w.heap.size w W := by rw [hW]; go_grown
  have hz : W.heap.size = w.heap.size + 4 := by rw [hW]; simp
  have cn : W.cell? ⟨w.heap.size + 1, 0, none⟩ = some (.int .i64 no) := by rw [hW]; simp [go_sem]
  have cs : W.cell? ⟨w.heap.size + 1 + 1, 0, none⟩ = some (.string s) := by rw [hW]; simp [go_sem]
  have rb : Box2 W (w.heap.size + 1 + 1 + 1) (.slice none 0 0) (.slice none 0 0) := by rw [hW]; exact ⟨by simp [go_sem], by simp [go_sem], by simp [go_sem], by simp [go_sem], by simp⟩
  have hC := change_any a n c a' m c' i 165 #[.pointer (some ⟨w.heap.size + 1, 0, none⟩), .pointer (some ⟨w.heap.size + 1 + 1, 0, none⟩)] D (str (encd no s.data.toList).1, false, (encd no s.data.toList).2) W (h.below hB) (enters_of Tryz.func165 (by kernel_rfl) rfl) (encd_size no _)
    (fun _ w1 g1 => write1_any no _ s _ (w.heap.size + 1) (w.heap.size + 1 + 1) w1 ((g1.cell (p := ⟨w.heap.size + 1, 0, none⟩) (by show w.heap.size + 1 < W.heap.size; omega)).trans cn) ((g1.cell (p := ⟨w.heap.size + 1 + 1, 0, none⟩) (by show w.heap.size + 1 + 1 < W.heap.size; omega)).trans cs))
  change Calls _ _ _ _ (OutE W (dvWrite D i no s.data.toList)) at hC
  generalize dvWrite D i no s.data.toList = r at hC
  have HE := hid hW
  rw [hW] at hC
  have HC := hid hC
  have HP := hid (And.intro hB (And.intro hz rb))
  clear hC hW hB hz cn cs rb h
  go_enter Tryz.func148, Tryz.ntmps148
  go_wp2_with fail
  refine HC.out.mono ?_
  rintro _ w1 ⟨b, n1, c1, b', m1, c2, rfl, hD, hF, g1⟩
  rw [← HE.out] at hF g1
  have rb1 := HP.out.2.2.below g1
  have v0 := rb1.c0
  have v1 := rb1.c1
  have x0 := rb1.f0
  have x1 := rb1.f1
  obtain ⟨y0, y1⟩ := ret_box (.slice b n1 c1) (.slice b' m1 c2) v0 v1
  have K := hid (out_store (p := w.heap.size + 1 + 1 + 1) (c := c1) (c' := c2) hD hF (HP.out.1.trans (g1.mono HP.out.1.size)) (by omega) (by rw [HP.out.2.1]; omega) HP.out.1.size)
  clear hD hF g1 rb1
  go_wp2
  refine bodyPost_ret (v := .tuple #[.agg #[.slice b n1 c1, .slice b' m1 c2], .int .i64 r.2]) (by simp [results, Tryz.results148, go_sem, y0, y1]) rfl ?_
  exact ⟨_, _, _, _, _, _, rfl, K.out.1, K.out.2.1, K.out.2.2⟩

set_option maxHeartbeats 400000 in
theorem lose_any (a : Option Addr) (n c : Nat) (a' : Option Addr) (m c' : Nat) (i : Int) (D : Dv) (w : World) (h : DevAt w a n a' m D) :
    Calls Tryz.prog 149 #[.agg #[.slice a n c, .slice a' m c'], .int .i64 i] w (OutE w (dvLose D i)) := by
  obtain ⟨W, hW⟩ : ∃ W, W = (w.alloc (.cells #[.slice a n c, .slice a' m c'] 35)).alloc (.cells #[.slice none 0 0, .slice none 0 0] 35) := ⟨_, rfl⟩
  have hB : Below w.heap.size w W := by rw [hW]; go_grown
  have hz : W.heap.size = w.heap.size + 2 := by rw [hW]; simp
  have rb : Box2 W (w.heap.size + 1) (.slice none 0 0) (.slice none 0 0) := by rw [hW]; exact ⟨by simp [go_sem], by simp [go_sem], by simp [go_sem], by simp [go_sem], by simp⟩
  have hC : Calls Tryz.prog 164 #[.agg #[.slice a n c, .slice a' m c'], .int .i64 i, .func (.func 167) #[] #[]] W (OutE W (dvLose D i)) := by
    by_cases ht : dvTouch D i = 0
    · obtain ⟨hm, h0, h1, _⟩ := touch_ok D i ht
      exact change_any a n c a' m c' i 167 #[] D (sec D i.toNat, true, 0) W (h.below hB) (enters_of Tryz.func167 (by kernel_rfl) rfl) (by rw [sec_size D i.toNat hm (by omega)]; omega) (fun _ w1 _ => lose1_any _ _ w1)
    · have e : dvLose D i = dvChange D i (str [], true, 0) := by rw [dvLose, dvChange, dvChange, if_neg ht, if_neg ht]
      rw [e]
      exact change_any a n c a' m c' i 167 #[] D (str [], true, 0) W (h.below hB) (enters_of Tryz.func167 (by kernel_rfl) rfl) (by rw [str_size]; simp) (fun hh _ _ => absurd hh ht)
  generalize dvLose D i = r at hC
  have HE := hid hW
  rw [hW] at hC
  have HC := hid hC
  have HP := hid (And.intro hB (And.intro hz rb))
  clear hC hW hB hz rb h
  go_enter Tryz.func149, Tryz.ntmps149
  go_wp2_with fail
  refine HC.out.mono ?_
  rintro _ w1 ⟨b, n1, c1, b', m1, c2, rfl, hD, hF, g1⟩
  rw [← HE.out] at hF g1
  have rb1 := HP.out.2.2.below g1
  have v0 := rb1.c0
  have v1 := rb1.c1
  have x0 := rb1.f0
  have x1 := rb1.f1
  obtain ⟨y0, y1⟩ := ret_box (.slice b n1 c1) (.slice b' m1 c2) v0 v1
  have K := hid (out_store (p := w.heap.size + 1) (c := c1) (c' := c2) hD hF (HP.out.1.trans (g1.mono HP.out.1.size)) (by omega) (by rw [HP.out.2.1]; omega) HP.out.1.size)
  clear hD hF g1 rb1
  go_wp2
  refine bodyPost_ret (v := .tuple #[.agg #[.slice b n1 c1, .slice b' m1 c2], .int .i64 r.2]) (by simp [results, Tryz.results149, go_sem, y0, y1]) rfl ?_
  exact ⟨_, _, _, _, _, _, rfl, K.out.1, K.out.2.1, K.out.2.2⟩
end Go.Proofs.YtkhjmfngeidlcaaGreatDoor
