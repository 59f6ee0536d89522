/- Joined texts: CatRefRd, CatRefMem, CatRefDec. -/
import Derived.Test.YtahoagbaadnihabGreatDoorMem2
import Derived.Test.YtahoagbaadnihabGreatDoorCatDecs
import Derived.Test.YtahoagbaadnihabGreatDoorCatChk
import Derived.Deep.RegionWith
import Derived.Deep.DeepCutAuto
/- The document's reading of bytes, one at a time. -/
namespace Go.Proofs.YtahoagbaadnihabGreatDoor
open Go.RowKit Go.Lib

/-- One byte more is read at I: what is told, where it is then, whether the bytes ended too early. -/
def NX (S : ByteArray) (I : Nat) (b : Bool) (x : Int) (I' : Nat) (b' : Bool) : Prop := (∃ h : I < S.size, x = (S[I]'h).toNat ∧ I' = I + 1 ∧ b' = b) ∨ (S.size ≤ I ∧ x = 0 ∧ I' = I ∧ b' = true)
theorem NX.bd {S : ByteArray} {I I' : Nat} {b b' : Bool} {x : Int} (h : NX S I b x I' b') : 0 ≤ x ∧ x ≤ 255 := by
  rcases h with ⟨h, rfl, _⟩ | ⟨_, rfl, _⟩
  · have := (S[I]'h).toNat_lt; omega
  · omega
theorem NX.le {S : ByteArray} {I I' : Nat} {b b' : Bool} {x : Int} (h : NX S I b x I' b') (hI : I ≤ S.size) : I' ≤ S.size := by
  rcases h with ⟨h, _, rfl, _⟩ | ⟨_, _, rfl, _⟩ <;> omega
/-- The rest of the bytes from a place on. -/
def rst (S : ByteArray) (I : Nat) (b : Bool) : Rd := (S.data.toList.drop I, b)
theorem rst_len (S : ByteArray) (I : Nat) (b : Bool) : (rst S I b).1.length = S.size - I := by simp [rst]
theorem rst_cons (S : ByteArray) (I : Nat) (h : I < S.size) : S.data.toList.drop I = S[I] :: S.data.toList.drop (I + 1) := by
  rw [List.drop_eq_getElem_cons (by simpa using h)]; rfl
/-- Two of them. -/
theorem NX.two {S : ByteArray} {I I1 I2 : Nat} {b1 b2 : Bool} {x y : Int} (h : NX S I false x I1 b1) (h' : NX S I1 b1 y I2 b2) (hI : I ≤ S.size) :
    (b2 = false → rnum 2 (rst S I false) = (256 * x + y, rst S I2 false)) ∧ (b2 = true → (rnum 2 (rst S I false)).2.2 = true) := by
  rcases h with ⟨g, rfl, rfl, rfl⟩ | ⟨g, rfl, rfl, rfl⟩
  · rcases h' with ⟨g', rfl, rfl, rfl⟩ | ⟨g', rfl, rfl, rfl⟩
    · refine ⟨fun _ => ?_, fun h => by cases h⟩
      rw [rnum, tk_yes _ _ (by rw [rst_len]; omega)]
      unfold rst
      rw [rst_cons S I g, rst_cons S (I + 1) g']
      simp only [List.take_succ_cons, List.take_zero, List.drop_succ_cons, List.drop_zero, num_two]
      rw [Int.mul_comm]
    · refine ⟨fun h => (by cases h), fun _ => ?_⟩
      rw [rnum, tk_no _ _ (by rw [rst_len]; omega)]
  · have hb : b2 = true := by
      rcases h' with ⟨_, _, _, h⟩ | ⟨_, _, _, h⟩ <;> exact h
    refine ⟨fun h => (by rw [hb] at h; cases h), fun _ => ?_⟩
    rw [rnum, tk_no _ _ (by rw [rst_len]; omega)]

end Go.Proofs.YtahoagbaadnihabGreatDoor

/- While the document reads bytes as a catalog: its memory, and what is read so far. -/
namespace Go.Proofs.YtahoagbaadnihabGreatDoor
open Go.RowKit Go.Lib

theorem NX.mono {S : ByteArray} {I I' : Nat} {b b' : Bool} {x : Int} (h : NX S I b x I' b') (hb : b' = false) : b = false := by
  rcases h with ⟨_, _, _, rfl⟩ | ⟨_, _, _, rfl⟩
  · exact hb
  · cases hb
section
variable {w0 w w' : World} {S : ByteArray} {I I' : Nat} {b b' : Bool} {v1 v2 v' : Value} {L L' : List Bk} {E E' : List En}
end


end Go.Proofs.YtahoagbaadnihabGreatDoor

/- Bytes read as a catalog: the document's answer. -/
namespace Go.Proofs.YtahoagbaadnihabGreatDoor
open Go.RowKit Go.Lib

end Go.Proofs.YtahoagbaadnihabGreatDoor
