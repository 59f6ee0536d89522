/- The document's reading of bytes, one at a time. -/
import Derived.Test.YtelgpiedchnncabDoorCatRows
import Derived.Test.YtelgpiedchnncabDoorCatDec
import Derived.Test.YtelgpiedchnncabDoorCatFault
namespace Go.Proofs.YtelgpiedchnncabDoor
open Go.RowKit Go.Lib

/-- One byte more is read at I: what is told, where it is then, whether the bytes ended too early. -/
def NX (S : ByteArray) (I : Nat) (b : Bool) (x : Int) (I' : Nat) (b' : Bool) : Prop := (∃ h : I < S.size, x = (S[I]'h).toNat ∧ I' = I + 1 ∧ b' = b) ∨ (S.size ≤ I ∧ x = 0 ∧ I' = I ∧ b' = true)
theorem NX.bd {S : ByteArray} {I I' : Nat} {b b' : Bool} {x : Int} (h : NX S I b x I' b') : 0 ≤ x ∧ x ≤ 255 := by
  rcases h with ⟨h, rfl, _⟩ | ⟨_, rfl, _⟩
  · have := (S[I]'h).toNat_lt; omega
  · omega
theorem NX.le {S : ByteArray} {I I' : Nat} {b b' : Bool} {x : Int} (h : NX S I b x I' b') (hI : I ≤ S.size) : I' ≤ S.size := by
  rcases h with ⟨h, _, rfl, _⟩ | ⟨_, _, rfl, _⟩ <;> omega
/-- The rest of the bytes from a place on. -/
def rst (S : ByteArray) (I : Nat) (b : Bool) : Rd := (S.data.toList.drop I, b)
theorem rst_len (S : ByteArray) (I : Nat) (b : Bool) : (rst S I b).1.length = S.size - I := by simp [rst]
theorem rst_cons (S : ByteArray) (I : Nat) (h : I < S.size) : S.data.toList.drop I = S[I] :: S.data.toList.drop (I + 1) := by
  rw [List.drop_eq_getElem_cons (by simpa using h)]; rfl
/-- It is as reading a number of one byte. -/
theorem NX.num {S : ByteArray} {I I' : Nat} {b b' : Bool} {x : Int} (h : NX S I b x I' b') (hI : I ≤ S.size) : rnum 1 (rst S I b) = (x, rst S I' b') := by
  rcases h with ⟨h, rfl, rfl, rfl⟩ | ⟨h, rfl, rfl, rfl⟩
  · rw [rnum, tk_yes _ _ (by rw [rst_len]; omega)]
    unfold rst
    rw [rst_cons S I h]
    simp [num_one]
  · rw [rnum, tk_no _ _ (by rw [rst_len]; omega)]
    simp only [rst, num_nil, List.drop_eq_nil_of_le (show S.data.toList.length ≤ I' by rw [ba_len]; omega)]
/-- Two of them. -/
theorem NX.two {S : ByteArray} {I I1 I2 : Nat} {b1 b2 : Bool} {x y : Int} (h : NX S I false x I1 b1) (h' : NX S I1 b1 y I2 b2) (hI : I ≤ S.size) :
    (b2 = false → rnum 2 (rst S I false) = (256 * x + y, rst S I2 false)) ∧ (b2 = true → (rnum 2 (rst S I false)).2.2 = true) := by
  rcases h with ⟨g, rfl, rfl, rfl⟩ | ⟨g, rfl, rfl, rfl⟩
  · rcases h' with ⟨g', rfl, rfl, rfl⟩ | ⟨g', rfl, rfl, rfl⟩
    · refine ⟨fun _ => ?_, fun h => by cases h⟩
      rw [rnum, tk_yes _ _ (by rw [rst_len]; omega)]
      unfold rst
      rw [rst_cons S I g, rst_cons S (I + 1) g']
      simp only [List.take_succ_cons, List.take_zero, List.drop_succ_cons, List.drop_zero, num_two]
      rw [Int.mul_comm]
    · refine ⟨fun h => (by cases h), fun _ => ?_⟩
      rw [rnum, tk_no _ _ (by rw [rst_len]; omega)]
  · have hb : b2 = true := by
      rcases h' with ⟨_, _, _, h⟩ | ⟨_, _, _, h⟩ <;> exact h
    refine ⟨fun h => (by rw [hb] at h; cases h), fun _ => ?_⟩
    rw [rnum, tk_no _ _ (by rw [rst_len]; omega)]

/-- What a byte more leaves. -/
def OutNx (S : ByteArray) (I : Nat) (b : Bool) (pi pb : Nat) (w : World) (e : Ending) (w' : World) : Prop := ∃ x I' b', e = .returned (.int .i64 x) ∧ NX S I b x I' b' ∧ Own w' pi 3 [.int .i64 (I' : Nat)] ∧ Own w' pb 4 [.bool b'] ∧ Chg (fun k => k = pi ∨ k = pb) w w'
set_option maxHeartbeats 1000000 in
theorem next_any (pi ps pb : Nat) (S : ByteArray) (I : Nat) (b : Bool) (w : World) (hi : Own w pi 3 [.int .i64 I]) (hs : Own w ps 9 [.string S]) (hb : Own w pb 4 [.bool b]) (hne : pi ≠ ps) (hne2 : pi ≠ pb) (hS : S.size ≤ maxLen) :
    Calls Tryd.prog 19 #[.pointer (some ⟨pi, 0, none⟩), .pointer (some ⟨ps, 0, none⟩), .pointer (some ⟨pb, 0, none⟩)] w fun e w' => OutNx S I b pi pb w e w' := by
  have c0 := hi.cell (i := 0) rfl
  have c1 := hs.cell (i := 0) rfl
  have c2 := hb.cell (i := 0) rfl
  have f0 := hi.free 0
  have f2 := hb.free 0
  unfold maxLen at hS
  by_cases h : I < S.size
  · have h1 : ¬ (S.size : Int) ≤ I := by omega
    have HH := hid (And.intro (hi.set (i := 0) (by simp) (.int .i64 ((I : Int) + 1))) (hb.other (p := ⟨pi, 0, none⟩) (by show pb ≠ pi; omega) (.int .i64 ((I : Int) + 1))))
    have k0 := World.cell?_setCell_same w ⟨pi, 0, none⟩ (.int .i64 ((I : Int) + 1)) c0
    have k1 : (w.setCell ⟨pi, 0, none⟩ (.int .i64 ((I : Int) + 1))).cell? ⟨ps, 0, none⟩ = some (.string S) := (hs.other (p := ⟨pi, 0, none⟩) (by show ps ≠ pi; omega) _).cell rfl
    have CH := hid (chg_set w pi 0 (.int .i64 ((I : Int) + 1)))
    have HX := hid (show NX S I b ((S[I]'h).toNat : Int) (I + 1) b from .inl ⟨h, rfl, rfl, rfl⟩)
    have u1 : wrap64 ((S[I]'h).toNat : Int) = ((S[I]'h).toNat : Int) := wrap_byte _
    have h3 : (I : Int) < S.size := by omega
    clear hi hs hb
    go_enter Tryd.func19, Tryd.ntmps19
    go_wp2
    go_ret
    exact ⟨_, I + 1, b, rfl, HX.out, HH.out.1, HH.out.2, ⟨CH.out.os, CH.out.tape, CH.out.output, CH.out.size, fun k hk hp => CH.out.block k hk (fun e => hp (.inl e))⟩⟩
  · have h1 : (S.size : Int) ≤ I := by omega
    have HH := hid (And.intro (hi.other (p := ⟨pb, 0, none⟩) (by show pi ≠ pb; omega) (.bool true)) (hb.set (i := 0) (by simp) (.bool true)))
    have CH := hid (chg_set w pb 0 (.bool true))
    have HX := hid (show NX S I b 0 I true from .inr ⟨by omega, rfl, rfl, rfl⟩)
    clear hi hs hb
    go_enter Tryd.func19, Tryd.ntmps19
    go_wp2
    go_ret
    exact ⟨0, I, true, rfl, HX.out, HH.out.1, HH.out.2, ⟨CH.out.os, CH.out.tape, CH.out.output, CH.out.size, fun k hk hp => CH.out.block k hk (fun e => hp (.inr e))⟩⟩
end Go.Proofs.YtelgpiedchnncabDoor
