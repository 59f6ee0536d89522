/- Joined texts: ArcGet, DevRefNew, ArcNames. -/
import Derived.Test.YtahoagbaadnihabGreatDoorArcNO
import Derived.Test.YtahoagbaadnihabGreatDoorCatDecs
import Derived.Test.YtahoagbaadnihabGreatDoorPressP
import Derived.Deep.RegionHeld3
import Derived.Deep.DeepCutAuto
import Derived.Test.YtahoagbaadnihabGreatDoorMem2
import Derived.Test.YtahoagbaadnihabGreatDoorSecA
import Derived.OneCell
/- A file's bytes: the program's answer and the document's. -/
namespace Go.Proofs.YtahoagbaadnihabGreatDoor
open Go.RowKit Go.Lib

theorem stRead_len2 (A : Ar) (x n : Int) : (stRead A x n).1.length ≤ 1536 := by
  unfold stRead
  split
  · rename_i h
    have := (stChk_ok A x n h).2.1
    simp; omega
  · simp
/-- What is found is an entry of a catalog that may be. -/
theorem find_ok (C : Ct) (s : ByteArray) (h : (catFind C s).2 = 0) : catChk C = 0 ∧ ∃ i, i < C.2.length ∧ (catFind C s).1 = en C.2 i ∧ enOk (en C.2 i) C.1.length = true ∧ findN C.2 s C.2.length = some i := by
  unfold catFind at h ⊢
  by_cases hc : catChk C = 0
  · rw [if_pos hc] at h ⊢
    refine ⟨hc, ?_⟩
    cases hf : findN C.2 s C.2.length with
    | none => rw [hf] at h; cases h
    | some i =>
      have hi := findN_some _ _ _ _ hf
      obtain ⟨_, _, _, h4⟩ := chk_ok C hc
      exact ⟨i, hi, rfl, ent_ok C.2 _ _ h4 i hi, rfl⟩
  · rw [if_neg hc] at h
    exact absurd h hc

set_option maxHeartbeats 1000000 in
set_option maxRecDepth 4000 in
theorem unpacked_any (a : Option Addr) (n c : Nat) (A : Ar) (b : Bk) (w : World) (H : ArrAt w a n A) :
    Calls Tryz.prog 85 #[.agg #[.slice a n c], .agg #[.int .i64 b.f, .int .i64 b.n]] w fun e w' => e = .returned (.tuple #[.string (str (getU A b).1), .int .i64 (getU A b).2]) ∧ Below w.heap.size w w' := by
  obtain ⟨W, hW⟩ : ∃ W, W = (w.alloc (.cells #[.slice a n c] 35)).alloc (.cells #[.int .i64 b.f, .int .i64 b.n] 156) := ⟨_, rfl⟩
  have hB : Below w.heap.size w W := by rw [hW]; go_grown
  have CR := stread_any a n c b.f b.n A W (H.below hB)
  rw [hW] at CR
  have hl := stRead_len2 A b.f b.n
  unfold getU
  obtain ⟨R, hR⟩ : ∃ R, stRead A b.f b.n = R := ⟨_, rfl⟩
  rw [hR] at CR hl ⊢
  obtain ⟨S, E⟩ := R
  dsimp only at CR hl ⊢
  have H1 := hid CR
  have HP := hid (And.intro hB hW)
  clear CR hR hB hW H
  by_cases e : E = 0
  · rw [if_pos e]
    subst e
    have e0 : ((0 : Int) != 0) = false := rfl
    have CU := hid (fun wx => unpack_any (str S) wx (by rw [str_size]; unfold maxLen; omega))
    rw [str_list] at CU
    generalize unp [] S = r at CU
    generalize str S = Z at H1 CU
    clear hl
    go_enter Tryz.func85, Tryz.ntmps85
    go_wp2_with fail
    refine H1.out.mono ?_
    rintro _ w1 ⟨rfl, g1⟩
    rw [← HP.out.2] at g1
    go_wp2_with fail
    refine (CU.out _).mono ?_
    rintro _ w2 ⟨rfl, g2⟩
    go_wp2
    go_ret2
    exact ⟨rfl, bel3 (bel3 HP.out.1 g1) g2⟩
  · rw [if_neg e]
    have e0 : (E != 0) = true := by rw [bne_iff_ne]; exact e
    generalize str S = Z at H1
    go_enter Tryz.func85, Tryz.ntmps85
    go_wp2_with fail
    refine H1.out.mono ?_
    rintro _ w1 ⟨rfl, g1⟩
    rw [← HP.out.2] at g1
    go_wp2
    go_ret2
    exact ⟨rfl, bel3 HP.out.1 g1⟩

theorem enb (x : En) (m : Nat) (h : enOk x m = true) : ∃ B P N : Nat, x.b = B ∧ x.a = P ∧ x.n = N ∧ B < m ∧ P ≤ 600 ∧ N ≤ 200 := by
  obtain ⟨_, h1, h2, h3⟩ := (enOk_iff x m).1 h
  exact ⟨x.b.toNat, x.a.toNat, x.n.toNat, by omega, by omega, by omega, by omega, by omega, by omega⟩

set_option maxHeartbeats 1600000 in
set_option maxRecDepth 4000 in
theorem get_any (a : Option Addr) (n c : Nat) (A : Ar) (s : ByteArray) (w : World) (H : ArrAt w a n A) :
    Calls Tryz.prog 51 #[.agg #[.slice a n c], .string s] w fun e w' => e = .returned (.tuple #[.string (str (getA A s).1), .int .i64 (getA A s).2]) ∧ Below w.heap.size w w' := by
  obtain ⟨W, hW⟩ : ∃ W, W = w.alloc (.cells #[.slice a n c] 35) := ⟨_, rfl⟩
  have hB : Below w.heap.size w W := by rw [hW]; go_grown
  have k0 : Own W w.heap.size 35 [.slice a n c] := by rw [hW]; exact Own.made w _ _
  have CA := aopen_any a n c A W (H.below hB)
  rw [hW] at CA
  have HP := hid (And.intro hB (And.intro hW (And.intro k0 (H.below hB))))
  unfold getA
  obtain ⟨R, hR⟩ : ∃ R, opn A = R := ⟨_, rfl⟩
  rw [hR] at CA ⊢
  obtain ⟨C, T⟩ := R
  dsimp only at CA ⊢
  have H1 := hid CA
  clear CA hR hB hW H k0
  by_cases e : T = 0
  · rw [if_pos e]
    subst e
    have e0 : ((0 : Int) != 0) = false := rfl
    unfold getC
    have FK := find_ok C s
    have CF := hid (fun x n1 d x' m d' wx (h : CatAt wx x n1 d x' m C) => cfind_any x n1 d x' m d' C s wx h)
    obtain ⟨R, hR⟩ : ∃ R, catFind C s = R := ⟨_, rfl⟩
    rw [hR] at FK CF ⊢
    obtain ⟨X, F⟩ := R
    dsimp only at FK CF ⊢
    change Hid (∀ (x : Option Addr) (n1 d : Nat) (x' : Option Addr) (m d' : Nat) (wx : World), CatAt wx x n1 d x' m C → Calls Tryz.prog _ _ wx fun e w' => e = .returned (.tuple #[.agg #[.string X.s, .int .i64 X.b, .int .i64 X.a, .int .i64 X.n], .int .i64 F]) ∧ Below wx.heap.size wx w') at CF
    clear hR
    by_cases f : F = 0
    · rw [if_pos f]
      obtain ⟨_, i, hi, hX, hok, _⟩ := FK f
      rw [← hX] at hok
      subst f
      obtain ⟨B, P, N, b1, b2, b3, b4, b5, b6⟩ := enb X _ hok
      rw [b1]
      have FB : Hid (getB X = fun r => if r.2 = 0 then (if r.1.length < P + N then ([], 9) else (cut r.1 P (P + N), 0)) else ([], r.2)) := by
        show _ = _
        funext r
        rw [getB, b2, b3]; rfl
      rw [FB.out]
      rw [b1, b2, b3] at CF
      have CU := hid (fun wx (g : Below W.heap.size W wx) => unpacked_any a n c A (bk C.1 B) wx (HP.out.2.2.2.below g))
      obtain ⟨R, hR⟩ : ∃ R, getU A (bk C.1 (B : Int).toNat) = R := ⟨_, rfl⟩
      rw [hR]
      rw [Int.toNat_natCast] at hR
      rw [hR] at CU
      obtain ⟨U, V⟩ := R
      dsimp only at CU ⊢
      have hB0 : (0 : Int) ≤ B := by omega
      obtain ⟨O, hO⟩ : ∃ O : List UInt8 × Int, O = if V = 0 then (if U.length < P + N then ([], 9) else (cut U P (P + N), 0)) else ([], V) := ⟨_, rfl⟩
      rw [← hO]
      have HO := hid hO
      clear hO hR FK FB hX hok b1 b2 b3 hi
      generalize X.s = xs at CF
      go_enter Tryz.func51, Tryz.ntmps51
      go_wp2_with fail
      refine H1.out.mono ?_
      rintro _ w1 ⟨x, n1, d, x', m, d', rfl, hX, g1⟩
      rw [← HP.out.2.1] at g1
      dsimp only at hX
      obtain ⟨W2, hW2⟩ : ∃ W2, W2 = w1.alloc (.cells #[.slice x n1 d, .slice x' m d'] 139) := ⟨_, rfl⟩
      have b2 : Below w1.heap.size w1 W2 := by rw [hW2]; go_grown
      have k2 : Own W2 w1.heap.size 139 [.slice x n1 d, .slice x' m d'] := by rw [hW2]; exact Own.made w1 _ _
      have C2 := hid (CF.out x n1 d x' m d' W2 (hX.below b2))
      have hn1 := hid (show n1 = C.1.length from hX.B.sn)
      have K2 := hid (And.intro (g1.trans (b2.mono g1.size)) (And.intro k2 (hX.below b2)))
      have c0 := k2.cell (i := 0) rfl
      have c1 := k2.cell (i := 1) rfl
      clear k2 b2 g1 hX CF H1
      go_upto_region 2 with fail
      rw [← hW2]
      clear hW2
      generalize w1.heap.size = p2 at K2 c0 c1 ⊢
      go_wp2_with fail
      refine C2.out.mono ?_
      rintro _ w3 ⟨rfl, g3⟩
      obtain ⟨W3, hW3⟩ : ∃ W3, W3 = w3.alloc (.cells #[.string xs, .int .i64 B, .int .i64 P, .int .i64 N] 151) := ⟨_, rfl⟩
      have b3 : Below w3.heap.size w3 W3 := by rw [hW3]; go_grown
      have k3 : Own W3 w3.heap.size 151 [.string xs, .int .i64 B, .int .i64 P, .int .i64 N] := by rw [hW3]; exact Own.made w3 _ _
      have g4 := bel3 g3 b3
      have G4 := K2.out.1.trans (g4.mono K2.out.1.size)
      clear c0 c1
      have c0 := (K2.out.2.1.below' g4).cell (i := 0) rfl
      have z0 := (HP.out.2.2.1.below' G4).cell (i := 0) rfl
      have t1 := k3.cell (i := 1) rfl
      have hB1 : (B : Int) < n1 := by have := hn1.out; omega
      obtain ⟨bb, oo, rfl, hbb, y0, y1⟩ := (K2.out.2.2.below g4).B.c B (by omega)
      have K3 := hid (And.intro G4 k3)
      clear C2 k3 b3 g3 g4 G4
      go_upto_region 5 with fail
      rw [← hW3]
      clear hW3
      generalize w3.heap.size = p3 at K3 t1 ⊢
      generalize (bk C.1 B).f = bf at y0 CU
      generalize (bk C.1 B).n = bn at y1 CU
      obtain ⟨Z, hZ⟩ : ∃ Z, str U = Z := ⟨_, rfl⟩
      have hz : Z.size = U.length := by rw [← hZ, str_size]
      have HZ := hid (show ∀ p q, Z.extract p q = str (cut U p q) by intro p q; rw [ext_str, ← hZ, str_list])
      rw [hZ] at CU
      clear hZ
      go_upto_region 7 with fail
      go_cut [7, 9] (fun s7 s9 wx => s7 = .int .i64 V ∧ s9 = .string Z ∧ Below W3.heap.size W3 wx)
      case first =>
        go_region_with (go_at_call 85; refine (CU.out _ (K3.out.1.drew)).mono ?_; rintro _ w5 ⟨rfl, g5⟩)
        all_goals (go_wp2_with fail; go_meet)
        all_goals exact ⟨rfl, rfl, undrew g5⟩
      case rest =>
        obtain ⟨rfl, rfl, g6⟩ := hcut
        have t2 := (K3.out.2.below' g6).cell (i := 2) rfl
        have t3 := (K3.out.2.below' g6).cell (i := 3) rfl
        have G6 := hid (HP.out.1.trans ((K3.out.1.trans (g6.mono K3.out.1.size)).mono HP.out.1.size))
        clear g6 c0 z0 t1 y0 y1 CU K3 K2
        by_cases v : V = 0
        · subst v
          by_cases q : U.length < P + N
          · have q' : (Z.size : Int) < (P : Int) + N := by omega
            have E := hid (show O = ([], 9) by rw [HO.out, if_pos rfl, if_pos q])
            go_wp2
            go_ret2
            exact ⟨by rw [E.out]; rfl, G6.out⟩
          · have q' : ¬ (Z.size : Int) < (P : Int) + N := by omega
            have q2 : (P : Int) + N ≤ Z.size := by omega
            have q3 : (0 : Int) ≤ P := by omega
            have q4 : (0 : Int) ≤ N := by omega
            have q5 : (P : Int) ≤ (P : Int) + N := by omega
            have E := hid (show O = (cut U P (P + N), 0) by rw [HO.out, if_pos rfl, if_neg q])
            clear hz
            go_wp2_with fail
            go_ret2
            refine ⟨?_, G6.out⟩
            rw [E.out]
            show _ = Ending.returned (.tuple #[.string (str (cut U P (P + N))), .int .i64 0])
            rw [← HZ.out]
            rfl
        · have v0 : (V != 0) = true := by rw [bne_iff_ne]; exact v
          have E := hid (show O = ([], V) by rw [HO.out, if_neg v])
          clear v
          go_wp2
          go_ret2
          exact ⟨by rw [E.out]; rfl, G6.out⟩
    · rw [if_neg f]
      have f0 : (F != 0) = true := by rw [bne_iff_ne]; exact f
      clear FK f
      go_enter Tryz.func51, Tryz.ntmps51
      go_wp2_with fail
      refine H1.out.mono ?_
      rintro _ w1 ⟨x, n1, d, x', m, d', rfl, hX, g1⟩
      rw [← HP.out.2.1] at g1
      dsimp only at hX
      obtain ⟨W2, hW2⟩ : ∃ W2, W2 = w1.alloc (.cells #[.slice x n1 d, .slice x' m d'] 139) := ⟨_, rfl⟩
      have b2 : Below w1.heap.size w1 W2 := by rw [hW2]; go_grown
      have k2 : Own W2 w1.heap.size 139 [.slice x n1 d, .slice x' m d'] := by rw [hW2]; exact Own.made w1 _ _
      have C2 := hid (CF.out x n1 d x' m d' W2 (hX.below b2))
      have K2 := hid (bel3 HP.out.1 (g1.trans (b2.mono g1.size)))
      have c0 := k2.cell (i := 0) rfl
      have c1 := k2.cell (i := 1) rfl
      clear k2 b2 g1 hX CF H1
      go_upto_region 2 with fail
      rw [← hW2]
      clear hW2
      generalize w1.heap.size = p2 at c0 c1 ⊢
      go_wp2_with fail
      refine C2.out.mono ?_
      rintro _ w3 ⟨rfl, g3⟩
      have G := hid ((bel3 K2.out g3).alloc (bel3 K2.out g3).size (.cells #[.string X.s, .int .i64 X.b, .int .i64 X.a, .int .i64 X.n] 151))
      clear c0 c1 g3 C2
      go_wp2
      go_ret2
      exact ⟨rfl, G.out⟩
  · rw [if_neg e]
    have e0 : (T != 0) = true := by rw [bne_iff_ne]; exact e
    go_enter Tryz.func51, Tryz.ntmps51
    go_wp2_with fail
    refine H1.out.mono ?_
    rintro _ w1 ⟨x, n1, d, x', m, d', rfl, hX, g1⟩
    rw [← HP.out.2.1] at g1
    have G := hid ((bel3 HP.out.1 g1).alloc (bel3 HP.out.1 g1).size (.cells #[.slice x n1 d, .slice x' m d'] 139))
    clear hX g1 H1
    go_wp2
    go_ret2
    exact ⟨rfl, G.out⟩
end Go.Proofs.YtahoagbaadnihabGreatDoor

/- What the document's own DeviceOf answers. -/
namespace Go.Proofs.YtahoagbaadnihabGreatDoor
open Go.RowKit Go.Lib

theorem info_strN : (Tryz.prog.info? 9).map (fun i => (i.zero, i.size, i.bytes)) = some (some (.string ⟨#[]⟩), 1, 16) := by kernel_rfl
theorem grown_of_below {w w' : World} (g : Below w.heap.size w w') : w.grownBy w' none := ⟨g.os, g.tape, g.output, g.size, fun k hk _ => g.block k hk⟩

/-- append of one cell onto a row of the call's own: what it answers, written out. -/
theorem wpList_append1 (w : World) {ops : Array Oper} {rest : List Oper} {o : Oper} {a : Act} {Q : Exit → Act → World → Prop} (hgd : o.guard = none) (s x : Operand) (t e : TypeId) (z : Value) (bytes : Nat)
    (ho : o.op = .call { callee := .builtin .append, args := #[s, x], argTypes := #[t, t] }) (ht : Tryz.prog.underlying t = some (.slice e)) (hinfo : (Tryz.prog.info? e).map (fun i => (i.zero, i.size, i.bytes)) = some (some z, 1, bytes)) (hz : z.cells.size = 1)
    (base : Nat) (v : Value) (n : Nat) (xs : List Value) (hs : a.eval s = v) (hown : w.ownsRow base e 1 v n xs)
    (ad : Addr) (u : Value) (hx : a.eval x = .slice (some ad) 1 1) (hu : w.cell? ad = some u) (h1 : u.oneCell' = true) (h63 : n + 1 ≤ maxLen) (hb : (n + 1) * bytes ≤ 140737488355328) (hbase : base ≤ w.heap.size)
    (h : ∀ g m cap w', Hid (m = n + 1) → base ≤ g → w'.ownsRow base e 1 (.slice (some ⟨g, 0, none⟩) m cap) m (xs ++ [u]) → w.grownBy w' v.ownBlock → wpList Tryz.prog ops Q rest (a.put o.dst (.slice (some ⟨g, 0, none⟩) m cap)) w') :
    wpList Tryz.prog ops Q (o :: rest) a w := by
  obtain ⟨i0, hi, hz0, hz1, hz2⟩ := info_parts hinfo
  refine wpList_append_own w hgd s x t ho base e i0 z 1 bytes ht hi hz0 hz1 hz2 hz (by decide) v n xs hs hown ad 1 1 [u] hx rfl (fun j y hj => ?_) (by simpa using h1) h63 hb hbase ?_
  · match j, hj with
    | 0, hj => simp at hj; subst hj; exact hu
  · intro v' w' r1 r2 _
    obtain ⟨g, cap, rfl, hg⟩ := owns_form r1 (by omega)
    exact h g _ cap w' rfl hg r1 r2

section
variable {w W W' : World} {a a' : Option Addr} {n c n' c' : Nat} {V V' : List Value}
theorem below_grown {base e : Nat} {v : Value} {xs : List Value} {k : Nat} (h : Below w.heap.size w W) (hv : W.ownsRow base e 1 v k xs) (hb : w.heap.size ≤ base) (g : W.grownBy W' v.ownBlock) : Below w.heap.size w W' :=
  h.grown g h.size (fun k hk => by have := (hv.lt k hk).1; omega)
end
/-- A row of an append is a row of cells. -/
theorem row_owns {w : World} {base e : Nat} {a : Option Addr} {n c : Nat} {V : List Value} (h : w.ownsRow base e 1 (.slice a n c) n V) : RowAt w a V ∧ ∀ b o, a = some ⟨b, o, none⟩ → base ≤ b := by
  rcases h.2 with ⟨hv, h0⟩ | ⟨g, cap, cur, hv, hg, _⟩
  · cases hv
    have : V = [] := List.eq_nil_of_length_eq_zero (by have := h.1; omega)
    exact ⟨by rw [this]; exact RowAt.nil, fun b o e => by cases e⟩
  · cases hv
    exact ⟨(own_row h).1.row, fun b o e => by cases e; exact hg⟩

end Go.Proofs.YtahoagbaadnihabGreatDoor

/- The names of all files: the program's answer and the document's. -/
namespace Go.Proofs.YtahoagbaadnihabGreatDoor
open Go.RowKit Go.Lib

def nam (E : List En) (k : Nat) : List Value := (E.take k).map fun x => Value.string x.s
theorem nam_succ (E : List En) (k : Nat) (h : k < E.length) : nam E (k + 1) = nam E k ++ [.string (en E k).s] := by rw [nam, en_take E k h, List.map_append]; rfl
theorem nam_all (E : List En) : nam E E.length = (namesE E).map .string := by rw [nam, List.take_length, namesE, List.map_map]; rfl
theorem opn_err (A : Ar) (h : (opn A).2 ≠ 0) : (opn A).1 = nilC := by
  unfold opn at h ⊢
  split
  · rename_i h0
    rw [if_pos h0] at h
    unfold decC at h ⊢
    split
    · rfl
    · split
      · rfl
      · split
        · rename_i q1 q2 q3
          rw [if_neg q1, if_neg q2, if_pos q3] at h
          exact absurd rfl h
        · rfl
  · rfl
theorem opn_len (A : Ar) : (opn A).1.2.length ≤ 10 := by
  by_cases h : (opn A).2 = 0
  · exact (chk_ok _ (opn_chk A h).1).2.1
  · rw [opn_err A h]; exact Nat.zero_le _

/-- A list of texts that comes out of a call in new memory, with an error. -/
def OutTx (w : World) (S : List ByteArray) (T : Int) (e : Ending) (w' : World) : Prop := ∃ a n c, e = .returned (.tuple #[.slice a n c, .int .i64 T]) ∧ (RowAt w' a (S.map .string) ∧ n = S.length ∧ n ≤ maxLen) ∧ Below w.heap.size w w'

/-- .. in rows that are new. -/
def OutTxN (w : World) (S : List ByteArray) (T : Int) (e : Ending) (w' : World) : Prop := ∃ a n c, e = .returned (.tuple #[.slice a n c, .int .i64 T]) ∧ (RowAt w' a (S.map .string) ∧ n = S.length ∧ n ≤ maxLen) ∧ NewS w.heap.size a n ∧ Below w.heap.size w w'
theorem OutTxN.out {w w' : World} {S : List ByteArray} {T : Int} {e : Ending} (h : OutTxN w S T e w') : OutTx w S T e w' := by
  obtain ⟨a, n, c, h1, h2, _, h4⟩ := h
  exact ⟨a, n, c, h1, h2, h4⟩

/-- While names are laid one behind the other. -/
structure NamI (w : World) (v : Value) (E : List En) (k : Nat) (wr : World) : Prop where
  own : wr.ownsRow w.heap.size 9 1 v k (nam E k)
  below : Below w.heap.size w wr
theorem NamI.out {w0 w wr : World} {a : Option Addr} {n c k : Nat} {E : List En} {T : Int} (h : NamI w (.slice a n c) E k wr) (hk : k = E.length) (hn : n = k) (hm : E.length ≤ 10) (h0 : Below w0.heap.size w0 w) : OutTxN w0 (namesE E) T (.returned (.tuple #[.slice a n c, .int .i64 T])) wr := by
  subst hk hn
  refine ⟨a, E.length, c, rfl, ⟨?_, by simp [namesE], by unfold maxLen; omega⟩, (newS_own h.own).less h0.size, h0.trans (h.below.mono h0.size)⟩
  have := (row_owns h.own).1
  rw [nam_all] at this
  exact this
theorem NamI.append {w w1 w' : World} {v v' : Value} {E : List En} {k m : Nat} (h : NamI w v E k w1) (ho : w'.ownsRow w.heap.size 9 1 v' m (nam E k ++ [.string (en E k).s])) (hm : m = k + 1) (hk : k < E.length) (g : w1.grownBy w' v.ownBlock) : NamI w v' E (k + 1) w' := by
  subst hm
  exact ⟨by rw [nam_succ E k hk]; exact ho, below_grown h.below h.own (Nat.le_refl _) g⟩
theorem NamI.to {w wr w' : World} {v : Value} {E : List En} {k : Nat} (h : NamI w v E k wr) (g : Below wr.heap.size wr w') : NamI w v E k w' := by
  refine ⟨h.own.kept (grown_of_below g) ?_, h.below.trans (g.mono h.below.size)⟩
  cases hv : v.ownBlock
  · exact .inl rfl
  · exact .inr (by simp)

set_option maxHeartbeats 1600000 in
set_option maxRecDepth 4000 in
theorem names_new (a : Option Addr) (n c : Nat) (A : Ar) (w : World) (H : ArrAt w a n A) :
    Calls Tryz.prog 52 #[.agg #[.slice a n c]] w fun e w' => OutTxN w (namesE (opn A).1.2) (opn A).2 e w' := by
  obtain ⟨W, hW⟩ : ∃ W, W = w.alloc (.cells #[.slice a n c] 35) := ⟨_, rfl⟩
  have hB : Below w.heap.size w W := by rw [hW]; go_grown
  have CA := aopen_any a n c A W (H.below hB)
  rw [hW] at CA
  have HL := opn_len A
  have HE := hid (opn_err A)
  have HP := hid (And.intro hB hW)
  obtain ⟨R, hR⟩ : ∃ R, opn A = R := ⟨_, rfl⟩
  rw [hR] at CA HL HE ⊢
  obtain ⟨C, T⟩ := R
  dsimp only at CA HL HE ⊢
  have H1 := hid CA
  clear CA hR hB hW H
  by_cases e : T = 0
  · subst e
    have e0 : ((0 : Int) != 0) = false := rfl
    go_enter Tryz.func52, Tryz.ntmps52
    go_wp2_with fail
    refine H1.out.mono ?_
    rintro _ w1 ⟨x, n1, d, x', m, d', rfl, hX, g1⟩
    rw [← HP.out.2] at g1
    have hm := hid (show m = C.2.length from hX.E.sn)
    dsimp only at hX
    obtain ⟨W2, hW2⟩ : ∃ W2, W2 = w1.alloc (.cells #[.slice x n1 d, .slice x' m d'] 139) := ⟨_, rfl⟩
    have b2 : Below w1.heap.size w1 W2 := by rw [hW2]; go_grown
    have N0 : NamI W2 (.slice none 0 0) C.2 0 W2 := ⟨World.ownsRow_nil _ _ _ _, Below.refl _ _⟩
    have G2 := HP.out.1.trans ((g1.trans (b2.mono g1.size)).mono HP.out.1.size)
    have k1 : Own W2 w1.heap.size 139 [.slice x n1 d, .slice x' m d'] := by rw [hW2]; exact Own.made w1 _ _
    have c1 := k1.cell (i := 1) rfl
    have HX := hid (And.intro (hX.E.below b2) (And.intro N0 G2))
    clear G2 hX g1 H1 N0 k1 b2
    go_upto_region 2 with fail
    rw [← hW2]
    clear hW2
    go_wp2_with fail
    clear c1
    go_loopw [6, 20] (fun v i wr => ∃ (k : Nat) (a6 : Option Addr) (n6 c6 : Nat), k ≤ m ∧ v = .slice a6 n6 c6 ∧ i = .int .i64 k ∧ Hid (n6 = k ∧ NamI W2 (.slice a6 n6 c6) C.2 k wr)) (fun _ i _ => m - (RowKit.intOf i).toNat)
    case atStart => exact ⟨0, none, 0, 0, Nat.zero_le _, rfl, rfl, rfl, HX.out.2.1⟩
    case round =>
      obtain ⟨k, a6, n6, c6, hk, rfl, rfl, HI⟩ := hrel
      by_cases hlt : k < m
      · have hlt' : (k : Int) < m := by omega
        obtain ⟨b, o, rfl, hb, x0, x1, x2, x3⟩ := (HX.out.1.below HI.out.2.below).c k hlt
        have hk10 : k < C.2.length := by have := hm.out; omega
        obtain ⟨y, hy⟩ : ∃ y, en C.2 k = y := ⟨_, rfl⟩
        rw [hy] at x0 x1 x2 x3
        have HY := hid hy
        clear hy
        have J := hid (HI.out.2.to (show Below wr.heap.size wr ((wr.alloc (.cells #[.string y.s, .int .i64 y.b, .int .i64 y.a, .int .i64 y.n] 151)).alloc (.cells #[.string y.s] 9)) by go_grown))
        have HN := hid HI.out.1
        clear HI HX
        go_wp2_with (at_builtin; (refine wpList_append1 _ rfl (.tmp 24) (.tmp 27) 39 9 (.string ⟨#[]⟩) 16 rfl Tryz.underlying39 info_strN rfl W2.heap.size (.slice a6 n6 c6) k (nam C.2 k) rfl J.out.own ⟨wr.heap.size + 1, 0, none⟩ (.string y.s) rfl ?_ rfl ?_ ?_ ?_ ?_; (simp [go_sem]); (unfold maxLen; omega); (omega); (exact J.out.below.size); intro g5 m5 cap5 w5 hm5 hg5 hown5 hgrow5; (have K5 := hid (And.intro hm5.out (J.out.append (by rw [HY.out]; exact hown5) hm5.out hk10 hgrow5))); clear hown5 hgrow5 hm5))
        go_roundw
        case rel => exact ⟨k + 1, _, m5, cap5, by omega, rfl, by go_num, K5.out.1, K5.out.2⟩
        case measure => simp [RowKit.intOf]; omega
      · have hlt' : ¬ (k : Int) < m := by omega
        obtain rfl : k = m := by omega
        have K := hid (HI.out.2.out (T := 0) hm.out HI.out.1 HL HX.out.2.2)
        clear HI
        go_wp2
        go_ret2
        exact K.out
  · have e0 : (T != 0) = true := by rw [bne_iff_ne]; exact e
    have EC := HE.out e
    go_enter Tryz.func52, Tryz.ntmps52
    go_wp2_with fail
    refine H1.out.mono ?_
    rintro _ w1 ⟨x, n1, d, x', m, d', rfl, hX, g1⟩
    rw [← HP.out.2] at g1
    have K := hid (show OutTxN w (namesE C.2) T (.returned (.tuple #[.slice none 0 0, .int .i64 T])) (w1.alloc (.cells #[.slice x n1 d, .slice x' m d'] 139)) by
      rw [EC]
      exact ⟨none, 0, 0, rfl, ⟨RowAt.nil, rfl, Nat.zero_le _⟩, newS_nil _ _, (HP.out.1.trans (g1.mono HP.out.1.size)).alloc (Nat.le_trans HP.out.1.size g1.size) _⟩)
    clear hX g1 H1 EC
    go_wp2
    go_ret2
    exact K.out

end Go.Proofs.YtahoagbaadnihabGreatDoor
