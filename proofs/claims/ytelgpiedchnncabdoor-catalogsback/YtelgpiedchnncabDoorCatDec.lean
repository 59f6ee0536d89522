/- Bytes read as a catalog: the program's answer. -/
import Derived.Test.YtelgpiedchnncabDoorCatRdrs
import Derived.Test.YtelgpiedchnncabDoorCatChkE
import Derived.Test.YtelgpiedchnncabDoorShelf
namespace Go.Proofs.YtelgpiedchnncabDoor
open Go.RowKit Go.Lib

/-- A catalog that comes out of a call, with an error. -/
def OutCt (w : World) (r : Ct × Int) (e : Ending) (w' : World) : Prop := ∃ a n c a' m c', e = .returned (.tuple #[.agg #[.slice a n c, .slice a' m c'], .int .i64 r.2]) ∧ CatAt w' a n c a' m r.1 ∧ Below w.heap.size w w'

theorem zeros_trim (l : List UInt8) : (Lib.trimLeftB l 0).isEmpty = zeros l := by
  unfold Lib.trimLeftB zeros
  induction l with
  | nil => rfl
  | cons c l ih =>
    by_cases h : c = 0
    · subst h
      rw [List.dropWhile_cons_of_pos (by simp), ih]
      simp
    · rw [List.dropWhile_cons_of_neg (by simpa using h)]
      simp [h]

/-- While it is decoded: the reader, the result's box, the catalog's box. -/
structure DecI (w0 : World) (r : Rd) (v1 v2 : Value) (w : World) : Prop where
  rd : Rdr w (w0.heap.size + 1) r
  res : Own w w0.heap.size 25 [.slice none 0 0, .slice none 0 0]
  box : Own w (w0.heap.size + 1 + 1) 25 [v1, v2]
  below : Below w0.heap.size w0 w
section
variable {w0 w w' : World} {r r' : Rd} {v1 v2 : Value}
theorem DecI.read (h : DecI w0 r v1 v2 w) (hr : Rdr w' (w0.heap.size + 1) r') (hc : Chg (fun k => k = w0.heap.size + 1) w w') : DecI w0 r' v1 v2 w' :=
  ⟨hr, hc.own h.res (by omega), hc.own h.box (by omega), h.below.trans (hc.below (Nat.le_of_lt h.res.lt) (fun k hk => by omega))⟩
theorem DecI.to (h : DecI w0 r v1 v2 w) (g : Below w.heap.size w w') : DecI w0 r v1 v2 w' := h.read (Own.below' h.rd g) (chg_below _ g)
theorem DecI.set0 (h : DecI w0 r v1 v2 w) (v : Value) : DecI w0 r v v2 (w.setCell ⟨w0.heap.size + 1 + 1, 0, none⟩ v) :=
  ⟨h.rd.other (by show w0.heap.size + 1 ≠ w0.heap.size + 1 + 1; omega) v, h.res.other (by show w0.heap.size ≠ w0.heap.size + 1 + 1; omega) v, h.box.set (i := 0) (by simp) v, h.below.setCell (by show w0.heap.size ≤ w0.heap.size + 1 + 1; omega) v⟩
theorem DecI.set1 (h : DecI w0 r v1 v2 w) (v : Value) : DecI w0 r v1 v (w.setCell ⟨w0.heap.size + 1 + 1, 1, none⟩ v) :=
  ⟨h.rd.other (by show w0.heap.size + 1 ≠ w0.heap.size + 1 + 1; omega) v, h.res.other (by show w0.heap.size ≠ w0.heap.size + 1 + 1; omega) v, h.box.set (i := 1) (by simp) v, h.below.setCell (by show w0.heap.size ≤ w0.heap.size + 1 + 1; omega) v⟩
/-- A catalog's answer, stored into the result's box. -/
theorem Below.res2 {B : Nat} (g : Below B w w') {p : Nat} (hp : B ≤ p) (v0 v1 : Value) : Below B w ((w'.setCell ⟨p, 0, none⟩ v0).setCell ⟨p, 1, none⟩ v1) := (g.setCell (by exact hp) _).setCell (by exact hp) _
end

/-- Two rows make a catalog. -/
theorem rows_cat {w : World} {base base' : Nat} {ao ao' : Option Addr} {m cap m' cap' : Nat} {L : List Bk} {E : List En} (h : ownsK w base (.slice ao m cap) L) (h' : ownsE w base' (.slice ao' m' cap') E) (hb : L.length ≤ maxLen ∧ E.length ≤ maxLen ∧ ∀ i, i < E.length → (en E i).s.size ≤ maxLen) : CatAt w ao m cap ao' m' (L, E) := by
  obtain ⟨_, e2, e3⟩ := ownsK_at h hb.1
  obtain ⟨_, _, e6⟩ := ownsE_at h' hb.2.1 hb.2.2
  exact ⟨e2, e3, e6⟩
theorem str_empty (l : List UInt8) : (str (Lib.trimLeftB l 0)).toList.isEmpty = zeros l := by rw [ByteArray.toList_eq, str_list, zeros_trim]

set_option maxHeartbeats 1600000 in
set_option maxRecDepth 4000 in
theorem cdec_any (s : ByteArray) (w : World) :
    Calls Tryd.prog 5 #[.string s] w fun e w' => OutCt w (decC s.data.toList) e w' := by
  obtain ⟨W1, hW1⟩ : ∃ W1, W1 = w.alloc (.cells #[.slice none 0 0, .slice none 0 0] 25) := ⟨_, rfl⟩
  obtain ⟨W2, hW2⟩ : ∃ W2, W2 = W1.alloc (.cells #[.string s, .bool false] 48) := ⟨_, rfl⟩
  obtain ⟨W, hW⟩ : ∃ W, W = W2.alloc (.cells #[.slice none 0 0, .slice none 0 0] 25) := ⟨_, rfl⟩
  have z1 : W1.heap.size = w.heap.size + 1 := by rw [hW1]; simp
  have z2 : W2.heap.size = w.heap.size + 1 + 1 := by rw [hW2]; simp [z1]
  have z3 : W.heap.size = w.heap.size + 1 + 1 + 1 := by rw [hW]; simp [z2]
  have I0 : DecI w (s.data.toList, false) (.slice none 0 0) (.slice none 0 0) W := by
    have k1 := Own.made w 25 [.slice none 0 0, .slice none 0 0]
    have k2 := Own.made W1 48 [.string s, .bool false]
    have k3 := Own.made W2 25 [.slice none 0 0, .slice none 0 0]
    rw [z1] at k2
    rw [z2] at k3
    refine ⟨?_, ?_, ?_, ?_⟩
    · show Own W (w.heap.size + 1) _ [.string (str s.data.toList), .bool false]
      rw [str_of, hW]
      have : Own W2 (w.heap.size + 1) 48 [.string s, .bool false] := by rw [hW2]; exact k2
      exact this.alloc _
    · rw [hW, hW2, hW1]; exact (k1.alloc _).alloc _
    · rw [hW]; exact k3
    · rw [hW, hW2, hW1]; go_grown
  have C1 := blocks_rd (w.heap.size + 1) (s.data.toList, false) W I0.rd
  have HI0 := hid (And.intro I0 (And.intro z3 (And.intro hW (And.intro hW2 hW1))))
  rw [hW, hW2, hW1] at C1
  have HC1 := hid C1
  clear C1 I0 hW hW2 hW1 z1 z2 z3
  go_enter Tryd.func5, Tryd.ntmps5
  go_wp2_with fail
  refine HC1.out.mono ?_
  rintro _ w1 ⟨ao, m, cap, rfl, J1⟩
  rw [← HI0.out.2.2.2.2, ← HI0.out.2.2.2.1, ← HI0.out.2.2.1] at J1
  have I1 := HI0.out.1.read J1.rd J1.ch
  have z1 := J1.ch.size
  have K1 : ownsK (w1.setCell ⟨w.heap.size + 1 + 1, 0, none⟩ (.slice ao m cap)) (w.heap.size + 1 + 1 + 1) (.slice ao m cap) (c1 (s.data.toList, false)).1 := by
    have := J1.own
    rw [HI0.out.2.1] at this
    exact (chg_set w1 (w.heap.size + 1 + 1) 0 (.slice ao m cap)).row this (fun g hg => by omega)
  have H1 := hid (And.intro (I1.set0 (.slice ao m cap)) K1)
  have b0 := I1.box.cell (i := 0) rfl
  have b1 := I1.box.free 0
  have zz : w.heap.size + 1 + 1 + 1 ≤ (w1.setCell ⟨w.heap.size + 1 + 1, 0, none⟩ (.slice ao m cap)).heap.size := by
    rw [HI0.out.2.1] at z1
    simpa [World.setCell] using z1
  have C2 := hid (entries_rd (w.heap.size + 1) (c1 (s.data.toList, false)).2 _ H1.out.1.rd)
  have ZZ := hid zz
  clear HC1 J1 I1 K1 z1 zz HI0
  go_wp2_with fail
  refine C2.out.mono ?_
  rintro _ w2 ⟨ao2, m2, cap2, rfl, J2⟩
  have I2 := H1.out.1.read J2.rd J2.ch
  have K2 := (chg_set w2 (w.heap.size + 1 + 1) 1 (.slice ao2 m2 cap2)).row (J2.ch.row H1.out.2 (fun g hg => by omega)) (fun g hg => by omega)
  have E2 := (chg_set w2 (w.heap.size + 1 + 1) 1 (.slice ao2 m2 cap2)).row J2.own (fun g hg => by have := ZZ.out; omega)
  clear b0 b1
  have b0 := I2.box.cell (i := 1) rfl
  have b1 := I2.box.free 1
  have I3 := I2.set1 (.slice ao2 m2 cap2)
  have ER : (rcat s.data.toList) = (((c1 (s.data.toList, false)).1, (rent (rnum 1 (c1 (s.data.toList, false)).2).1.toNat (rnum 1 (c1 (s.data.toList, false)).2).2).1), (rent (rnum 1 (c1 (s.data.toList, false)).2).1.toNat (rnum 1 (c1 (s.data.toList, false)).2).2).2) := rfl
  have hb := rnum_bd1 (c1 (s.data.toList, false)).2
  have hbk : (c1 (s.data.toList, false)).1.length ≤ 255 := by rw [c1, rblk_len]; have := rnum_bd1 (s.data.toList, false); omega
  have hnm := rent_nm (rnum 1 (c1 (s.data.toList, false)).2).2 (rnum 1 (c1 (s.data.toList, false)).2).1.toNat
  have hln := rent_len (rnum 1 (c1 (s.data.toList, false)).2).2 (rnum 1 (c1 (s.data.toList, false)).2).1.toNat
  generalize (c1 (s.data.toList, false)).1 = L at K2 ER hbk
  generalize rent (rnum 1 (c1 (s.data.toList, false)).2).1.toNat (rnum 1 (c1 (s.data.toList, false)).2).2 = X at I3 E2 ER hnm hln
  obtain ⟨E, r⟩ := X
  dsimp only at I3 E2 ER hnm hln
  have bd : L.length ≤ maxLen ∧ E.length ≤ maxLen ∧ ∀ i, i < E.length → (en E i).s.size ≤ maxLen := ⟨by unfold maxLen; omega, by rw [hln]; unfold maxLen; omega, fun i hi => Nat.le_trans (hnm i (by omega)) (by unfold maxLen; omega)⟩
  have CT := rows_cat K2 E2 bd
  have HH := hid (And.intro I3 (And.intro CT (And.intro K2 (And.intro E2 (And.intro bd ZZ.out)))))
  clear C2 J2 I2 K2 E2 H1 hb hbk hnm hln ZZ bd
  obtain ⟨l, sh⟩ := r
  cases sh with
  | true =>
    have F := hid (dec_short s.data.toList (by rw [ER]))
    have c0 := I3.rd.cell (i := 1) rfl
    have r0 := box2_of I3.res
    obtain ⟨y0, y1⟩ := ret_box (.slice none 0 0) (.slice none 0 0) r0.c0 r0.c1
    obtain ⟨q0, q1, q2, q3, _⟩ := r0
    clear I3 CT ER
    go_wp2
    refine bodyPost_ret (v := .tuple #[.agg #[.slice none 0 0, .slice none 0 0], .int .i64 5]) (by simp [results, Tryd.results5, go_sem, y0, y1]) rfl ?_
    refine ⟨none, 0, 0, none, 0, 0, by rw [F.out], ?_, Below.res2 HH.out.1.below (Nat.le_refl _) _ _⟩
    rw [F.out]; exact catAt_none _ _ _ _
  | false =>
    have c0 := I3.rd.cell (i := 0) rfl
    have c1' := I3.rd.cell (i := 1) rfl
    have r0 := box2_of I3.res
    have x0 := I3.box.cell (i := 0) rfl
    have x1 := I3.box.cell (i := 1) rfl
    have TL : Hid (∀ wx, Calls Tryd.prog 18 #[.string (str l), .string ⟨#[0]⟩] wx fun e w' => e = .returned (.string (str (Lib.trimLeftB l 0))) ∧ w' = wx) := fun wx => by
      have := Tryd.strings_TrimLeft_one (str l) 0 (by decide) wx
      rw [str_list] at this
      exact this
    have TE := str_empty l
    generalize str (Lib.trimLeftB l 0) = TT at TL TE
    cases hz : zeros l with
    | false =>
      have F := hid (dec_rest s.data.toList (by rw [ER]) (by rw [ER]; exact hz))
      rw [hz] at TE
      obtain ⟨y0, y1⟩ := ret_box (.slice none 0 0) (.slice none 0 0) r0.c0 r0.c1
      obtain ⟨q0, q1, q2, q3, _⟩ := r0
      clear I3 CT ER hz
      go_wp2_with (go_at_call 18; refine (TL.out _).mono ?_; rintro _ w9 ⟨rfl, h9⟩; (have h8 := h9.symm); subst h8)
      refine bodyPost_ret (v := .tuple #[.agg #[.slice none 0 0, .slice none 0 0], .int .i64 4]) (by simp [results, Tryd.results5, go_sem, y0, y1]) rfl ?_
      refine ⟨none, 0, 0, none, 0, 0, by rw [F.out], ?_, Below.res2 HH.out.1.below (Nat.le_refl _) _ _⟩
      rw [F.out]; exact catAt_none _ _ _ _
    | true =>
      rw [hz] at TE
      have CC := ccheck_any ao m cap ao2 m2 cap2 (L, E) _ CT
      by_cases ck : catChk (L, E) = 0
      · have F := hid (dec_ok s.data.toList (by rw [ER]) (by rw [ER]; exact hz) (by rw [ER]; exact ck))
        rw [ER] at F
        rw [ck] at CC
        have HC := hid CC
        clear I3 CT ER hz CC ck r0
        go_wp2_with (go_at_call 18; refine (TL.out _).mono ?_; rintro _ w9 ⟨rfl, h9⟩; (have h8 := h9.symm); subst h8)
        refine HC.out.mono ?_
        rintro _ w3 ⟨rfl, g3⟩
        have I4 := hid (HH.out.1.to g3)
        have K4 := hid (And.intro ((chg_below (fun _ => False) g3).row HH.out.2.2.1 (fun _ _ h => h)) ((chg_below (fun _ => False) g3).row HH.out.2.2.2.1 (fun _ _ h => h)))
        clear c0 c1' x0 x1
        have x0 := I4.out.box.cell (i := 0) rfl
        have x1 := I4.out.box.cell (i := 1) rfl
        have r0 := box2_of I4.out.res
        obtain ⟨y0, y1⟩ := ret_box (.slice ao m cap) (.slice ao2 m2 cap2) r0.c0 r0.c1
        obtain ⟨q0, q1, q2, q3, _⟩ := r0
        clear g3 HC
        go_wp2
        refine bodyPost_ret (v := .tuple #[.agg #[.slice ao m cap, .slice ao2 m2 cap2], .int .i64 0]) (by simp [results, Tryd.results5, go_sem, y0, y1]) rfl ?_
        refine ⟨ao, m, cap, ao2, m2, cap2, by rw [F.out], ?_, Below.res2 I4.out.below (Nat.le_refl _) _ _⟩
        rw [F.out]
        have z0 := chg_set w3 w.heap.size 0 (.slice ao m cap)
        have z1 := chg_set (w3.setCell ⟨w.heap.size, 0, none⟩ (.slice ao m cap)) w.heap.size 1 (.slice ao2 m2 cap2)
        exact rows_cat (z1.row (z0.row K4.out.1 (fun g hg => by omega)) (fun g hg => by omega)) (z1.row (z0.row K4.out.2 (fun g hg => by have := HH.out.2.2.2.2.2; omega)) (fun g hg => by have := HH.out.2.2.2.2.2; omega)) HH.out.2.2.2.2.1
      · have F := hid (dec_chk s.data.toList (by rw [ER]) (by rw [ER]; exact hz) (by rw [ER]; exact ck))
        rw [ER] at F
        dsimp only at F
        generalize catChk (L, E) = T at CC ck F
        have ck' : (T != 0) = true := by rw [bne_iff_ne]; exact ck
        have HC := hid CC
        clear I3 CT ER hz CC ck r0
        go_wp2_with (go_at_call 18; refine (TL.out _).mono ?_; rintro _ w9 ⟨rfl, h9⟩; (have h8 := h9.symm); subst h8)
        refine HC.out.mono ?_
        rintro _ w3 ⟨rfl, g3⟩
        have I4 := hid (HH.out.1.to g3)
        have r0 := box2_of I4.out.res
        obtain ⟨y0, y1⟩ := ret_box (.slice none 0 0) (.slice none 0 0) r0.c0 r0.c1
        obtain ⟨q0, q1, q2, q3, _⟩ := r0
        clear g3 HC c0 c1' x0 x1
        go_wp2
        refine bodyPost_ret (v := .tuple #[.agg #[.slice none 0 0, .slice none 0 0], .int .i64 T]) (by simp [results, Tryd.results5, go_sem, y0, y1]) rfl ?_
        refine ⟨none, 0, 0, none, 0, 0, by rw [F.out], ?_, Below.res2 I4.out.below (Nat.le_refl _) _ _⟩
        rw [F.out]; exact catAt_none _ _ _ _
end Go.Proofs.YtelgpiedchnncabDoor
