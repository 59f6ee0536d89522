/- A file's bytes: the program's answer and the document's. -/
import Derived.Test.YtkhjmfngeidlcabGreatDoorArcNO
import Derived.Test.YtkhjmfngeidlcabGreatDoorCatDecs
import Derived.Test.YtkhjmfngeidlcabGreatDoorPressU
import Derived.Deep.RegionHeld3
import Derived.Deep.DeepCutAuto
namespace Go.Proofs.YtkhjmfngeidlcabGreatDoor
open Go.RowKit Go.Lib

theorem stRead_len2 (A : Ar) (x n : Int) : (stRead A x n).1.length ≤ 1536 := by
  unfold stRead
  split
  · rename_i h
    have := (stChk_ok A x n h).2.1
    simp; omega
  · simp
/-- What is found is an entry of a catalog that may be. -/
theorem find_ok (C : Ct) (s : ByteArray) (h : (catFind C s).2 = 0) : catChk C = 0 ∧ ∃ i, i < C.2.length ∧ (catFind C s).1 = en C.2 i ∧ enOk (en C.2 i) C.1.length = true ∧ findN C.2 s C.2.length = some i := by
  unfold catFind at h ⊢
  by_cases hc : catChk C = 0
  · rw [if_pos hc] at h ⊢
    refine ⟨hc, ?_⟩
    cases hf : findN C.2 s C.2.length with
    | none => rw [hf] at h; cases h
    | some i =>
      have hi := findN_some _ _ _ _ hf
      obtain ⟨_, _, _, h4⟩ := chk_ok C hc
      exact ⟨i, hi, rfl, ent_ok C.2 _ _ h4 i hi, rfl⟩
  · rw [if_neg hc] at h
    exact absurd h hc

set_option maxHeartbeats 1000000 in
set_option maxRecDepth 4000 in
theorem unpacked_any (a : Option Addr) (n c : Nat) (A : Ar) (b : Bk) (w : World) (H : ArrAt w a n A) :
    Calls Tryz.prog 25 #[.agg #[.slice a n c], .agg #[.int .i64 b.f, .int .i64 b.n]] w fun e w' => e = .returned (.tuple #[.string (str (getU A b).1), .int .i64 (getU A b).2]) ∧ Below w.heap.size w w' := by
  obtain ⟨W, hW⟩ : ∃ W, W = (w.alloc (.cells #[.slice a n c] 25)).alloc (.cells #[.int .i64 b.f, .int .i64 b.n] 68) := ⟨_, rfl⟩
  have hB : Below w.heap.size w W := by rw [hW]; go_grown
  have CR := stread_any a n c b.f b.n A W (H.below hB)
  rw [hW] at CR
  have hl := stRead_len2 A b.f b.n
  unfold getU
  obtain ⟨R, hR⟩ : ∃ R, stRead A b.f b.n = R := ⟨_, rfl⟩
  rw [hR] at CR hl ⊢
  obtain ⟨S, E⟩ := R
  dsimp only at CR hl ⊢
  have H1 := hid CR
  have HP := hid (And.intro hB hW)
  clear CR hR hB hW H
  by_cases e : E = 0
  · rw [if_pos e]
    subst e
    have e0 : ((0 : Int) != 0) = false := rfl
    have CU := hid (fun wx => unpack_any (str S) wx (by rw [str_size]; unfold maxLen; omega))
    rw [str_list] at CU
    generalize unp [] S = r at CU
    generalize str S = Z at H1 CU
    clear hl
    go_enter Tryz.func25, Tryz.ntmps25
    go_wp2_with fail
    refine H1.out.mono ?_
    rintro _ w1 ⟨rfl, g1⟩
    rw [← HP.out.2] at g1
    go_wp2_with fail
    refine (CU.out _).mono ?_
    rintro _ w2 ⟨rfl, g2⟩
    go_wp2
    go_ret2
    exact ⟨rfl, bel3 (bel3 HP.out.1 g1) g2⟩
  · rw [if_neg e]
    have e0 : (E != 0) = true := by rw [bne_iff_ne]; exact e
    generalize str S = Z at H1
    go_enter Tryz.func25, Tryz.ntmps25
    go_wp2_with fail
    refine H1.out.mono ?_
    rintro _ w1 ⟨rfl, g1⟩
    rw [← HP.out.2] at g1
    go_wp2
    go_ret2
    exact ⟨rfl, bel3 HP.out.1 g1⟩

theorem enb (x : En) (m : Nat) (h : enOk x m = true) : ∃ B P N : Nat, x.b = B ∧ x.a = P ∧ x.n = N ∧ B < m ∧ P ≤ 600 ∧ N ≤ 200 := by
  obtain ⟨_, h1, h2, h3⟩ := (enOk_iff x m).1 h
  exact ⟨x.b.toNat, x.a.toNat, x.n.toNat, by omega, by omega, by omega, by omega, by omega, by omega⟩

set_option maxHeartbeats 1600000 in
set_option maxRecDepth 4000 in
theorem get_any (a : Option Addr) (n c : Nat) (A : Ar) (s : ByteArray) (w : World) (H : ArrAt w a n A) :
    Calls Tryz.prog 9 #[.agg #[.slice a n c], .string s] w fun e w' => e = .returned (.tuple #[.string (str (getA A s).1), .int .i64 (getA A s).2]) ∧ Below w.heap.size w w' := by
  obtain ⟨W, hW⟩ : ∃ W, W = w.alloc (.cells #[.slice a n c] 25) := ⟨_, rfl⟩
  have hB : Below w.heap.size w W := by rw [hW]; go_grown
  have k0 : Own W w.heap.size 25 [.slice a n c] := by rw [hW]; exact Own.made w _ _
  have CA := aopen_any a n c A W (H.below hB)
  rw [hW] at CA
  have HP := hid (And.intro hB (And.intro hW (And.intro k0 (H.below hB))))
  unfold getA
  obtain ⟨R, hR⟩ : ∃ R, opn A = R := ⟨_, rfl⟩
  rw [hR] at CA ⊢
  obtain ⟨C, T⟩ := R
  dsimp only at CA ⊢
  have H1 := hid CA
  clear CA hR hB hW H k0
  by_cases e : T = 0
  · rw [if_pos e]
    subst e
    have e0 : ((0 : Int) != 0) = false := rfl
    unfold getC
    have FK := find_ok C s
    have CF := hid (fun x n1 d x' m d' wx (h : CatAt wx x n1 d x' m C) => cfind_any x n1 d x' m d' C s wx h)
    obtain ⟨R, hR⟩ : ∃ R, catFind C s = R := ⟨_, rfl⟩
    rw [hR] at FK CF ⊢
    obtain ⟨X, F⟩ := R
    dsimp only at FK CF ⊢
    change Hid (∀ (x : Option Addr) (n1 d : Nat) (x' : Option Addr) (m d' : Nat) (wx : World), CatAt wx x n1 d x' m C → Calls Tryz.prog _ _ wx fun e w' => e = .returned (.tuple #[.agg #[.string X.s, .int .i64 X.b, .int .i64 X.a, .int .i64 X.n], .int .i64 F]) ∧ Below wx.heap.size wx w') at CF
    clear hR
    by_cases f : F = 0
    · rw [if_pos f]
      obtain ⟨_, i, hi, hX, hok, _⟩ := FK f
      rw [← hX] at hok
      subst f
      obtain ⟨B, P, N, b1, b2, b3, b4, b5, b6⟩ := enb X _ hok
      rw [b1]
      have FB : Hid (getB X = fun r => if r.2 = 0 then (if r.1.length < P + N then ([], 9) else (cut r.1 P (P + N), 0)) else ([], r.2)) := by
        show _ = _
        funext r
        rw [getB, b2, b3]; rfl
      rw [FB.out]
      rw [b1, b2, b3] at CF
      have CU := hid (fun wx (g : Below W.heap.size W wx) => unpacked_any a n c A (bk C.1 B) wx (HP.out.2.2.2.below g))
      obtain ⟨R, hR⟩ : ∃ R, getU A (bk C.1 (B : Int).toNat) = R := ⟨_, rfl⟩
      rw [hR]
      rw [Int.toNat_natCast] at hR
      rw [hR] at CU
      obtain ⟨U, V⟩ := R
      dsimp only at CU ⊢
      have hB0 : (0 : Int) ≤ B := by omega
      obtain ⟨O, hO⟩ : ∃ O : List UInt8 × Int, O = if V = 0 then (if U.length < P + N then ([], 9) else (cut U P (P + N), 0)) else ([], V) := ⟨_, rfl⟩
      rw [← hO]
      have HO := hid hO
      clear hO hR FK FB hX hok b1 b2 b3 hi
      generalize X.s = xs at CF
      go_enter Tryz.func9, Tryz.ntmps9
      go_wp2_with fail
      refine H1.out.mono ?_
      rintro _ w1 ⟨x, n1, d, x', m, d', rfl, hX, g1⟩
      rw [← HP.out.2.1] at g1
      dsimp only at hX
      obtain ⟨W2, hW2⟩ : ∃ W2, W2 = w1.alloc (.cells #[.slice x n1 d, .slice x' m d'] 51) := ⟨_, rfl⟩
      have b2 : Below w1.heap.size w1 W2 := by rw [hW2]; go_grown
      have k2 : Own W2 w1.heap.size 51 [.slice x n1 d, .slice x' m d'] := by rw [hW2]; exact Own.made w1 _ _
      have C2 := hid (CF.out x n1 d x' m d' W2 (hX.below b2))
      have hn1 := hid (show n1 = C.1.length from hX.B.sn)
      have K2 := hid (And.intro (g1.trans (b2.mono g1.size)) (And.intro k2 (hX.below b2)))
      have c0 := k2.cell (i := 0) rfl
      have c1 := k2.cell (i := 1) rfl
      clear k2 b2 g1 hX CF H1
      go_upto_region 2 with fail
      rw [← hW2]
      clear hW2
      generalize w1.heap.size = p2 at K2 c0 c1 ⊢
      go_wp2_with fail
      refine C2.out.mono ?_
      rintro _ w3 ⟨rfl, g3⟩
      obtain ⟨W3, hW3⟩ : ∃ W3, W3 = w3.alloc (.cells #[.string xs, .int .i64 B, .int .i64 P, .int .i64 N] 63) := ⟨_, rfl⟩
      have b3 : Below w3.heap.size w3 W3 := by rw [hW3]; go_grown
      have k3 : Own W3 w3.heap.size 63 [.string xs, .int .i64 B, .int .i64 P, .int .i64 N] := by rw [hW3]; exact Own.made w3 _ _
      have g4 := bel3 g3 b3
      have G4 := K2.out.1.trans (g4.mono K2.out.1.size)
      clear c0 c1
      have c0 := (K2.out.2.1.below' g4).cell (i := 0) rfl
      have z0 := (HP.out.2.2.1.below' G4).cell (i := 0) rfl
      have t1 := k3.cell (i := 1) rfl
      have hB1 : (B : Int) < n1 := by have := hn1.out; omega
      obtain ⟨bb, oo, rfl, hbb, y0, y1⟩ := (K2.out.2.2.below g4).B.c B (by omega)
      have K3 := hid (And.intro G4 k3)
      clear C2 k3 b3 g3 g4 G4
      go_upto_region 5 with fail
      rw [← hW3]
      clear hW3
      generalize w3.heap.size = p3 at K3 t1 ⊢
      generalize (bk C.1 B).f = bf at y0 CU
      generalize (bk C.1 B).n = bn at y1 CU
      obtain ⟨Z, hZ⟩ : ∃ Z, str U = Z := ⟨_, rfl⟩
      have hz : Z.size = U.length := by rw [← hZ, str_size]
      have HZ := hid (show ∀ p q, Z.extract p q = str (cut U p q) by intro p q; rw [ext_str, ← hZ, str_list])
      rw [hZ] at CU
      clear hZ
      go_upto_region 7 with fail
      go_cut [7, 9] (fun s7 s9 wx => s7 = .int .i64 V ∧ s9 = .string Z ∧ Below W3.heap.size W3 wx)
      case first =>
        go_region_with (go_at_call 25; refine (CU.out _ (K3.out.1.drew)).mono ?_; rintro _ w5 ⟨rfl, g5⟩)
        all_goals (go_wp2_with fail; go_meet)
        all_goals exact ⟨rfl, rfl, undrew g5⟩
      case rest =>
        obtain ⟨rfl, rfl, g6⟩ := hcut
        have t2 := (K3.out.2.below' g6).cell (i := 2) rfl
        have t3 := (K3.out.2.below' g6).cell (i := 3) rfl
        have G6 := hid (HP.out.1.trans ((K3.out.1.trans (g6.mono K3.out.1.size)).mono HP.out.1.size))
        clear g6 c0 z0 t1 y0 y1 CU K3 K2
        by_cases v : V = 0
        · subst v
          by_cases q : U.length < P + N
          · have q' : (Z.size : Int) < (P : Int) + N := by omega
            have E := hid (show O = ([], 9) by rw [HO.out, if_pos rfl, if_pos q])
            go_wp2
            go_ret2
            exact ⟨by rw [E.out]; rfl, G6.out⟩
          · have q' : ¬ (Z.size : Int) < (P : Int) + N := by omega
            have q2 : (P : Int) + N ≤ Z.size := by omega
            have q3 : (0 : Int) ≤ P := by omega
            have q4 : (0 : Int) ≤ N := by omega
            have q5 : (P : Int) ≤ (P : Int) + N := by omega
            have E := hid (show O = (cut U P (P + N), 0) by rw [HO.out, if_pos rfl, if_neg q])
            clear hz
            go_wp2_with fail
            go_ret2
            refine ⟨?_, G6.out⟩
            rw [E.out]
            show _ = Ending.returned (.tuple #[.string (str (cut U P (P + N))), .int .i64 0])
            rw [← HZ.out]
            rfl
        · have v0 : (V != 0) = true := by rw [bne_iff_ne]; exact v
          have E := hid (show O = ([], V) by rw [HO.out, if_neg v])
          clear v
          go_wp2
          go_ret2
          exact ⟨by rw [E.out]; rfl, G6.out⟩
    · rw [if_neg f]
      have f0 : (F != 0) = true := by rw [bne_iff_ne]; exact f
      clear FK f
      go_enter Tryz.func9, Tryz.ntmps9
      go_wp2_with fail
      refine H1.out.mono ?_
      rintro _ w1 ⟨x, n1, d, x', m, d', rfl, hX, g1⟩
      rw [← HP.out.2.1] at g1
      dsimp only at hX
      obtain ⟨W2, hW2⟩ : ∃ W2, W2 = w1.alloc (.cells #[.slice x n1 d, .slice x' m d'] 51) := ⟨_, rfl⟩
      have b2 : Below w1.heap.size w1 W2 := by rw [hW2]; go_grown
      have k2 : Own W2 w1.heap.size 51 [.slice x n1 d, .slice x' m d'] := by rw [hW2]; exact Own.made w1 _ _
      have C2 := hid (CF.out x n1 d x' m d' W2 (hX.below b2))
      have K2 := hid (bel3 HP.out.1 (g1.trans (b2.mono g1.size)))
      have c0 := k2.cell (i := 0) rfl
      have c1 := k2.cell (i := 1) rfl
      clear k2 b2 g1 hX CF H1
      go_upto_region 2 with fail
      rw [← hW2]
      clear hW2
      generalize w1.heap.size = p2 at c0 c1 ⊢
      go_wp2_with fail
      refine C2.out.mono ?_
      rintro _ w3 ⟨rfl, g3⟩
      have G := hid ((bel3 K2.out g3).alloc (bel3 K2.out g3).size (.cells #[.string X.s, .int .i64 X.b, .int .i64 X.a, .int .i64 X.n] 63))
      clear c0 c1 g3 C2
      go_wp2
      go_ret2
      exact ⟨rfl, G.out⟩
  · rw [if_neg e]
    have e0 : (T != 0) = true := by rw [bne_iff_ne]; exact e
    go_enter Tryz.func9, Tryz.ntmps9
    go_wp2_with fail
    refine H1.out.mono ?_
    rintro _ w1 ⟨x, n1, d, x', m, d', rfl, hX, g1⟩
    rw [← HP.out.2.1] at g1
    have G := hid ((bel3 HP.out.1 g1).alloc (bel3 HP.out.1 g1).size (.cells #[.slice x n1 d, .slice x' m d'] 51))
    clear hX g1 H1
    go_wp2
    go_ret2
    exact ⟨rfl, G.out⟩
end Go.Proofs.YtkhjmfngeidlcabGreatDoor
