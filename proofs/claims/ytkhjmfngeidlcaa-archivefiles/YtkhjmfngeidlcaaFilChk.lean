/- Which files may be added together: the program's answer. -/
import Derived.Test.YtkhjmfngeidlcaaFilLook
import Derived.Test.YtkhjmfngeidlcaaCatName
import Derived.Test.YtkhjmfngeidlcaaChg
namespace Go.Proofs.Ytkhjmfngeidlcaa
open Go.RowKit Go.Lib

set_option maxHeartbeats 400000 in
theorem ftells_any (x : Fi) (q : Nat) (s : ByteArray) (w : World) (hq : w.cell? ⟨q, 0, none⟩ = some (.string s)) :
    Calls Try.prog 23 #[.agg #[.string x.s, .string x.d], .pointer (some ⟨q, 0, none⟩)] w fun e w' => e = .returned (.bool (x.s.toList == s.toList)) ∧ Below w.heap.size w w' := by
  have hl : q < w.heap.size := cell_lt hq
  go_enter Try.func23, Try.ntmps23
  go_wp2
  go_ret
  exact ⟨rfl, by go_grown⟩

/-- What is wrong with one file, where h tells whether one ahead has its name. -/
def fileV (s d : ByteArray) (h : Bool) : Int := if nameMay s = true then (if 200 < d.size then 1 else if h = true then 7 else 0) else 4
theorem fileV_one (F : List Fi) (k : Nat) : fileV (fi F k).s (fi F k).d (hasF F (fi F k).s k) = filOne F k := rfl

set_option maxHeartbeats 1000000 in
set_option maxRecDepth 4000 in
theorem checkfile_any (a : Option Addr) (n c : Nat) (F : List Fi) (s d : ByteArray) (w : World) (H : FilAt w a n F) (hd : d.size ≤ maxLen) :
    Calls Try.prog 16 #[.slice a n c, .agg #[.string s, .string d]] w fun e w' => e = .returned (.int .i64 (fileV s d (hasF F s n))) ∧ Below w.heap.size w w' := by
  obtain ⟨W, hW⟩ : ∃ W, W = w.alloc (.cells #[.string s, .string d] 43) := ⟨_, rfl⟩
  have hB : Below w.heap.size w W := by rw [hW]; go_grown
  have hz : W.heap.size = w.heap.size + 1 := by rw [hW]; simp
  have c0 : W.cell? ⟨w.heap.size, 0, none⟩ = some (.string s) := by rw [hW]; simp
  have CN := hid (fun wx => name_any s wx)
  have CH := hid (fcontains_gen a n c F (fun x => x.s.toList == s.toList) 23 #[.pointer (some ⟨w.heap.size, 0, none⟩)] W (H.below hB) (enters_of Try.func23 (by kernel_rfl) rfl) (fun x wx _ g => ftells_any x w.heap.size s wx ((g.cell (p := ⟨w.heap.size, 0, none⟩) (by show w.heap.size < W.heap.size; omega)).trans c0)))
  rw [hasF_any] at CH
  unfold fileV
  have HP := hid (And.intro hB hW)
  rw [hW] at CH
  unfold maxLen at hd
  clear H hB hz c0 hW
  generalize nameMay s = r at CN
  generalize hasF F s n = h at CH
  cases r with
  | false =>
    go_enter Try.func16, Try.ntmps16
    go_wp2_with (go_at_call 21; refine (CN.out _).mono ?_; rintro _ w9 ⟨rfl, h9⟩; (have h8 := h9.symm); subst h8)
    go_ret
    exact ⟨rfl, by go_grown⟩
  | true =>
    rw [if_pos rfl]
    by_cases h2 : 200 < d.size
    · have h2' : (200 : Int) < d.size := by omega
      rw [if_pos h2]
      go_enter Try.func16, Try.ntmps16
      go_wp2_with (go_at_call 21; refine (CN.out _).mono ?_; rintro _ w9 ⟨rfl, h9⟩; (have h8 := h9.symm); subst h8)
      go_ret
      exact ⟨rfl, by go_grown⟩
    · have h2' : ¬ (200 : Int) < d.size := by omega
      rw [if_neg h2]
      cases h with
      | true =>
        go_enter Try.func16, Try.ntmps16
        go_wp2_with (go_at_call 21; refine (CN.out _).mono ?_; rintro _ w9 ⟨rfl, h9⟩; (have h8 := h9.symm); subst h8)
        refine CH.out.mono ?_
        rintro _ w5 ⟨rfl, g5⟩
        rw [← HP.out.2] at g5
        go_wp2
        go_ret
        exact ⟨rfl, HP.out.1.trans (g5.mono HP.out.1.size)⟩
      | false =>
        go_enter Try.func16, Try.ntmps16
        go_wp2_with (go_at_call 21; refine (CN.out _).mono ?_; rintro _ w9 ⟨rfl, h9⟩; (have h8 := h9.symm); subst h8)
        refine CH.out.mono ?_
        rintro _ w5 ⟨rfl, g5⟩
        rw [← HP.out.2] at g5
        go_wp2
        go_ret
        exact ⟨rfl, HP.out.1.trans (g5.mono HP.out.1.size)⟩

/-- A cell stays where another one of other content is stored over. -/
theorem cell_keep {w : World} {p q : Addr} {x y : Value} (h : w.cell? q = some x) (hp : w.cell? p = some y) (hne : x ≠ y) (v : Value) : (w.setCell p v).cell? q = some x := by
  rw [World.cell?_setCell_other]
  · exact h
  · intro e
    rw [← e, hp] at h
    exact hne (Option.some.inj h).symm
theorem FilAt.keep {w : World} {a : Option Addr} {n : Nat} {F : List Fi} (h : FilAt w a n F) {p : Addr} {k : Int} (hp : w.cell? p = some (.int .i64 k)) (v : Value) : FilAt (w.setCell p v) a n F := by
  refine ⟨h.sn, h.nb, h.nm, fun i hi => ?_⟩
  obtain ⟨b, o, e, hb, c0, c1⟩ := h.c i hi
  exact ⟨b, o, e, by simpa [World.setCell] using hb, cell_keep c0 hp (by simp) v, cell_keep c1 hp (by simp) v⟩

set_option maxHeartbeats 1000000 in
set_option maxRecDepth 4000 in
theorem seefile_any (a : Option Addr) (n c : Nat) (F : List Fi) (s d : ByteArray) (p : Nat) (S : Int) (w : World) (H : FilAt w a n F) (hd : d.size ≤ maxLen) (hp : Own w p 3 [.int .i64 S]) (V : Int) (hV : IntKind.i64.wrap (S + (d.size : Int)) = V) :
    Calls Try.prog 15 #[.slice a n c, .agg #[.string s, .string d], .pointer (some ⟨p, 0, none⟩)] w fun e w' => e = .returned (.int .i64 (fileV s d (hasF F s n))) ∧ Own w' p 3 [.int .i64 V] ∧ Chg (fun k => k = p) w w' := by
  obtain ⟨W, hW⟩ : ∃ W, W = w.alloc (.cells #[.string s, .string d] 43) := ⟨_, rfl⟩
  have hB : Below w.heap.size w W := by rw [hW]; go_grown
  have hl := hp.lt
  have hpW := hp.below' hB
  have c0 := hpW.cell (i := 0) rfl
  have f0 := hpW.free 0
  have HW := (H.below hB).keep c0 (.int .i64 V)
  have k0 : (W.setCell ⟨p, 0, none⟩ (.int .i64 V)).cell? ⟨w.heap.size, 0, none⟩ = some (.string s) := cell_keep (by rw [hW]; simp) c0 (by simp) _
  have k1 : (W.setCell ⟨p, 0, none⟩ (.int .i64 V)).cell? ⟨w.heap.size, 1, none⟩ = some (.string d) := cell_keep (by rw [hW]; simp) c0 (by simp) _
  have m0 : W.cell? ⟨w.heap.size, 1, none⟩ = some (.string d) := by rw [hW]; simp
  have OW := hpW.set (i := 0) (by simp) (.int .i64 V)
  have GW : Chg (fun k => k = p) w (W.setCell ⟨p, 0, none⟩ (.int .i64 V)) := (chg_below (fun k => k = p) hB).set (p := p) rfl 0 _
  have CC := hid (checkfile_any a n c F s d _ HW hd)
  have HP := hid (And.intro OW GW)
  unfold maxLen at hd
  clear H HW hB hp hpW OW GW
  generalize fileV s d (hasF F s n) = R at CC
  go_enter Try.func15, Try.ntmps15
  go_upto_region 1 with fail
  rw [← hW]
  clear hW
  go_wp2_with fail
  refine CC.out.mono ?_
  rintro _ w5 ⟨rfl, g5⟩
  go_wp2
  go_ret
  exact ⟨rfl, HP.out.1.below' g5, HP.out.2.to g5⟩

/-- While the files are looked at: the sum's box p. -/
structure FilI (w : World) (a : Option Addr) (n : Nat) (F : List Fi) (p k : Nat) (wx : World) : Prop where
  fil : FilAt w a n F
  box : Own wx p 3 [.int .i64 (sumF F k)]
  ok : filN F k = 0
  new : w.heap.size ≤ p
  below : Below w.heap.size w wx
theorem sumF_bd (F : List Fi) (k : Nat) (h : filN F k = 0) : sumF F k ≤ 200 * k := by
  have q : ∀ j, j ≤ k → sumF F j ≤ 200 * j := by
    intro j
    induction j with
    | zero => intro _; exact Nat.zero_le _
    | succ j ih =>
      intro hj
      have h1 := ih (by omega)
      have h2 := (filOne_ok F j (fil_ok F k h j (by omega))).2.1
      rw [sumF]; omega
  exact q k (Nat.le_refl _)

set_option maxHeartbeats 1000000 in
set_option maxRecDepth 4000 in
theorem checkfiles_any (a : Option Addr) (n c : Nat) (F : List Fi) (w : World) (H : FilAt w a n F) (hc : n ≤ c) :
    Calls Try.prog 8 #[.slice a n c] w fun e w' => e = .returned (.int .i64 (filChk F)) ∧ Below w.heap.size w w' := by
  have hsn := H.sn
  have hnb := H.nb
  unfold maxLen at hnb
  unfold filChk
  rw [← hsn]
  by_cases h1 : n < 1
  · have h1' : (n : Int) < 1 := by omega
    rw [if_neg (by omega)]
    clear H hsn
    go_enter Try.func8, Try.ntmps8
    go_wp2
    go_ret
    exact ⟨rfl, Below.refl _ _⟩
  · have h1' : ¬ (n : Int) < 1 := by omega
    by_cases h10 : 10 < n
    · have h10' : (10 : Int) < n := by omega
      rw [if_neg (by omega)]
      clear H hsn
      go_enter Try.func8, Try.ntmps8
      go_wp2
      go_ret
      exact ⟨rfl, Below.refl _ _⟩
    · have h10' : ¬ (10 : Int) < n := by omega
      rw [if_pos (by omega)]
      obtain ⟨T, hT⟩ : ∃ T : Int, T = if filN F n = 0 then (if 600 < sumF F n then 1 else 0) else filN F n := ⟨_, rfl⟩
      rw [← hT]
      have HT := hid hT
      clear hT
      obtain ⟨W, hW⟩ : ∃ W, W = w.alloc (.cells #[.int .i64 0] 3) := ⟨_, rfl⟩
      have hB : Below w.heap.size w W := by rw [hW]; go_grown
      have hI : FilI w a n F w.heap.size 0 W := ⟨H, by rw [hW]; exact Own.made w _ [.int .i64 0], rfl, Nat.le_refl _, hB⟩
      have CL := flook_gen a n c F 15 #[.pointer (some ⟨w.heap.size, 0, none⟩)] W (FilI w a n F w.heap.size) (fun x wx => x = filN F n ∧ Below w.heap.size w wx) hc (enters_of Try.func15 (by kernel_rfl) rfl)
        (fun k wx h => h.fil.below h.below) (fun k wx w' h g => ⟨h.fil, h.box.below' g, h.ok, h.new, h.below.trans (g.mono h.below.size)⟩)
        (fun k wx hk h => by
          have hs := sumF_bd F k h.ok
          refine (seefile_any a k c (F.take k) (fi F k).s (fi F k).d w.heap.size (sumF F k) wx ((h.fil.below h.below).take k (by omega)) (H.nm k hk).2 h.box _ rfl).mono ?_
          rintro e w' ⟨rfl, h2, h3⟩
          rw [hasF_take F _ k k (Nat.le_refl _), fileV_one]
          refine ⟨filOne F k, rfl, fun q => ?_, fun q => ⟨(fil_fail F k h.ok q n hk).symm, ?_⟩⟩
          · have hd := (filOne_ok F k q).2.1
            rw [IntWalk.i64_in _ (by omega)] at h2
            exact ⟨h.fil, by rw [sumF]; simpa using h2, by rw [fil_succ F k h.ok]; exact q, h.new, h.below.trans (h3.below h.below.size (fun j hj => by omega))⟩
          · exact h.below.trans (h3.below h.below.size (fun j hj => by omega))) hI
      have HL := hid CL
      have HW := hid hW
      rw [hW] at HL
      clear CL hI hB hW H hsn
      have hs0 : (0 : Int) ≤ sumF F n := by omega
      go_enter Try.func8, Try.ntmps8
      go_wp2_with fail
      refine HL.out.mono ?_
      rintro _ w5 ⟨x, rfl, k1, k2⟩
      by_cases hx : x = 0
      · subst hx
        have e0 : ((0 : Int) != 0) = false := rfl
        have K := k1 rfl
        have x0 := K.box.cell (i := 0) rfl
        have KO := hid K.ok
        have KB := hid K.below
        clear k1 k2 K HL
        by_cases h6 : 600 < sumF F n
        · have h6' : (600 : Int) < sumF F n := by omega
          go_wp2
          go_ret
          exact ⟨by rw [HT.out, if_pos KO.out, if_pos h6]; rfl, KB.out⟩
        · have h6' : ¬ (600 : Int) < sumF F n := by omega
          go_wp2
          go_ret
          exact ⟨by rw [HT.out, if_pos KO.out, if_neg h6]; rfl, KB.out⟩
      · have e0 : (x != 0) = true := by rw [bne_iff_ne]; exact hx
        have K := hid (k2 hx)
        have HX := hid hx
        clear k1 k2 HL hx
        go_wp2
        go_ret
        obtain ⟨q1, q2⟩ := K.out
        exact ⟨by rw [HT.out, ← q1, if_neg HX.out]; rfl, q2⟩
end Go.Proofs.Ytkhjmfngeidlcaa
