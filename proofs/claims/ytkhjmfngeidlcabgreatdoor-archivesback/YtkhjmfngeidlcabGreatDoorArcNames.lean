/- The names of all files: the program's answer and the document's. -/
import Derived.Test.YtkhjmfngeidlcabGreatDoorArcNO
import Derived.Test.YtkhjmfngeidlcabGreatDoorDevRefNew
namespace Go.Proofs.YtkhjmfngeidlcabGreatDoor
open Go.RowKit Go.Lib

def nam (E : List En) (k : Nat) : List Value := (E.take k).map fun x => Value.string x.s
theorem nam_succ (E : List En) (k : Nat) (h : k < E.length) : nam E (k + 1) = nam E k ++ [.string (en E k).s] := by rw [nam, en_take E k h, List.map_append]; rfl
theorem nam_all (E : List En) : nam E E.length = (namesE E).map .string := by rw [nam, List.take_length, namesE, List.map_map]; rfl
theorem opn_err (A : Ar) (h : (opn A).2 ≠ 0) : (opn A).1 = nilC := by
  unfold opn at h ⊢
  split
  · rename_i h0
    rw [if_pos h0] at h
    unfold decC at h ⊢
    split
    · rfl
    · split
      · rfl
      · split
        · rename_i q1 q2 q3
          rw [if_neg q1, if_neg q2, if_pos q3] at h
          exact absurd rfl h
        · rfl
  · rfl
theorem opn_len (A : Ar) : (opn A).1.2.length ≤ 10 := by
  by_cases h : (opn A).2 = 0
  · exact (chk_ok _ (opn_chk A h).1).2.1
  · rw [opn_err A h]; exact Nat.zero_le _

/-- A list of texts that comes out of a call in new memory, with an error. -/
def OutTx (w : World) (S : List ByteArray) (T : Int) (e : Ending) (w' : World) : Prop := ∃ a n c, e = .returned (.tuple #[.slice a n c, .int .i64 T]) ∧ (RowAt w' a (S.map .string) ∧ n = S.length ∧ n ≤ maxLen) ∧ Below w.heap.size w w'

/-- While names are laid one behind the other. -/
structure NamI (w : World) (v : Value) (E : List En) (k : Nat) (wr : World) : Prop where
  own : wr.ownsRow w.heap.size 9 1 v k (nam E k)
  below : Below w.heap.size w wr
theorem NamI.out {w0 w wr : World} {a : Option Addr} {n c k : Nat} {E : List En} {T : Int} (h : NamI w (.slice a n c) E k wr) (hk : k = E.length) (hn : n = k) (hm : E.length ≤ 10) (h0 : Below w0.heap.size w0 w) : OutTx w0 (namesE E) T (.returned (.tuple #[.slice a n c, .int .i64 T])) wr := by
  subst hk hn
  refine ⟨a, E.length, c, rfl, ⟨?_, by simp [namesE], by unfold maxLen; omega⟩, h0.trans (h.below.mono h0.size)⟩
  have := (row_owns h.own).1
  rw [nam_all] at this
  exact this
theorem NamI.append {w w1 w' : World} {v v' : Value} {E : List En} {k m : Nat} (h : NamI w v E k w1) (ho : w'.ownsRow w.heap.size 9 1 v' m (nam E k ++ [.string (en E k).s])) (hm : m = k + 1) (hk : k < E.length) (g : w1.grownBy w' v.ownBlock) : NamI w v' E (k + 1) w' := by
  subst hm
  exact ⟨by rw [nam_succ E k hk]; exact ho, below_grown h.below h.own (Nat.le_refl _) g⟩
theorem NamI.to {w wr w' : World} {v : Value} {E : List En} {k : Nat} (h : NamI w v E k wr) (g : Below wr.heap.size wr w') : NamI w v E k w' := by
  refine ⟨h.own.kept (grown_of_below g) ?_, h.below.trans (g.mono h.below.size)⟩
  cases hv : v.ownBlock
  · exact .inl rfl
  · exact .inr (by simp)

set_option maxHeartbeats 1600000 in
set_option maxRecDepth 4000 in
theorem names_any (a : Option Addr) (n c : Nat) (A : Ar) (w : World) (H : ArrAt w a n A) :
    Calls Tryz.prog 8 #[.agg #[.slice a n c]] w fun e w' => OutTx w (namesE (opn A).1.2) (opn A).2 e w' := by
  obtain ⟨W, hW⟩ : ∃ W, W = w.alloc (.cells #[.slice a n c] 25) := ⟨_, rfl⟩
  have hB : Below w.heap.size w W := by rw [hW]; go_grown
  have CA := aopen_any a n c A W (H.below hB)
  rw [hW] at CA
  have HL := opn_len A
  have HE := hid (opn_err A)
  have HP := hid (And.intro hB hW)
  obtain ⟨R, hR⟩ : ∃ R, opn A = R := ⟨_, rfl⟩
  rw [hR] at CA HL HE ⊢
  obtain ⟨C, T⟩ := R
  dsimp only at CA HL HE ⊢
  have H1 := hid CA
  clear CA hR hB hW H
  by_cases e : T = 0
  · subst e
    have e0 : ((0 : Int) != 0) = false := rfl
    go_enter Tryz.func8, Tryz.ntmps8
    go_wp2_with fail
    refine H1.out.mono ?_
    rintro _ w1 ⟨x, n1, d, x', m, d', rfl, hX, g1⟩
    rw [← HP.out.2] at g1
    have hm := hid (show m = C.2.length from hX.E.sn)
    dsimp only at hX
    obtain ⟨W2, hW2⟩ : ∃ W2, W2 = w1.alloc (.cells #[.slice x n1 d, .slice x' m d'] 51) := ⟨_, rfl⟩
    have b2 : Below w1.heap.size w1 W2 := by rw [hW2]; go_grown
    have N0 : NamI W2 (.slice none 0 0) C.2 0 W2 := ⟨World.ownsRow_nil _ _ _ _, Below.refl _ _⟩
    have G2 := HP.out.1.trans ((g1.trans (b2.mono g1.size)).mono HP.out.1.size)
    have k1 : Own W2 w1.heap.size 51 [.slice x n1 d, .slice x' m d'] := by rw [hW2]; exact Own.made w1 _ _
    have c1 := k1.cell (i := 1) rfl
    have HX := hid (And.intro (hX.E.below b2) (And.intro N0 G2))
    clear G2 hX g1 H1 N0 k1 b2
    go_upto_region 2 with fail
    rw [← hW2]
    clear hW2
    go_wp2_with fail
    clear c1
    go_loopw [6, 20] (fun v i wr => ∃ (k : Nat) (a6 : Option Addr) (n6 c6 : Nat), k ≤ m ∧ v = .slice a6 n6 c6 ∧ i = .int .i64 k ∧ Hid (n6 = k ∧ NamI W2 (.slice a6 n6 c6) C.2 k wr)) (fun _ i _ => m - (RowKit.intOf i).toNat)
    case atStart => exact ⟨0, none, 0, 0, Nat.zero_le _, rfl, rfl, rfl, HX.out.2.1⟩
    case round =>
      obtain ⟨k, a6, n6, c6, hk, rfl, rfl, HI⟩ := hrel
      by_cases hlt : k < m
      · have hlt' : (k : Int) < m := by omega
        obtain ⟨b, o, rfl, hb, x0, x1, x2, x3⟩ := (HX.out.1.below HI.out.2.below).c k hlt
        have hk10 : k < C.2.length := by have := hm.out; omega
        obtain ⟨y, hy⟩ : ∃ y, en C.2 k = y := ⟨_, rfl⟩
        rw [hy] at x0 x1 x2 x3
        have HY := hid hy
        clear hy
        have J := hid (HI.out.2.to (show Below wr.heap.size wr ((wr.alloc (.cells #[.string y.s, .int .i64 y.b, .int .i64 y.a, .int .i64 y.n] 63)).alloc (.cells #[.string y.s] 9)) by go_grown))
        have HN := hid HI.out.1
        clear HI HX
        go_wp2_with (at_builtin; (refine wpList_append1 _ rfl (.tmp 24) (.tmp 27) 33 9 (.string ⟨#[]⟩) 16 rfl Tryz.underlying33 info_strN rfl W2.heap.size (.slice a6 n6 c6) k (nam C.2 k) rfl J.out.own ⟨wr.heap.size + 1, 0, none⟩ (.string y.s) rfl ?_ rfl ?_ ?_ ?_ ?_; (simp [go_sem]); (unfold maxLen; omega); (omega); (exact J.out.below.size); intro g5 m5 cap5 w5 hm5 hg5 hown5 hgrow5; (have K5 := hid (And.intro hm5.out (J.out.append (by rw [HY.out]; exact hown5) hm5.out hk10 hgrow5))); clear hown5 hgrow5 hm5))
        go_roundw
        case rel => exact ⟨k + 1, _, m5, cap5, by omega, rfl, by go_num, K5.out.1, K5.out.2⟩
        case measure => simp [RowKit.intOf]; omega
      · have hlt' : ¬ (k : Int) < m := by omega
        obtain rfl : k = m := by omega
        have K := hid (HI.out.2.out (T := 0) hm.out HI.out.1 HL HX.out.2.2)
        clear HI
        go_wp2
        go_ret2
        exact K.out
  · have e0 : (T != 0) = true := by rw [bne_iff_ne]; exact e
    have EC := HE.out e
    go_enter Tryz.func8, Tryz.ntmps8
    go_wp2_with fail
    refine H1.out.mono ?_
    rintro _ w1 ⟨x, n1, d, x', m, d', rfl, hX, g1⟩
    rw [← HP.out.2] at g1
    have K := hid (show OutTx w (namesE C.2) T (.returned (.tuple #[.slice none 0 0, .int .i64 T])) (w1.alloc (.cells #[.slice x n1 d, .slice x' m d'] 51)) by
      rw [EC]
      exact ⟨none, 0, 0, rfl, ⟨RowAt.nil, rfl, Nat.zero_le _⟩, (HP.out.1.trans (g1.mono HP.out.1.size)).alloc (Nat.le_trans HP.out.1.size g1.size) _⟩)
    clear hX g1 H1 EC
    go_wp2
    go_ret2
    exact K.out

end Go.Proofs.YtkhjmfngeidlcabGreatDoor
