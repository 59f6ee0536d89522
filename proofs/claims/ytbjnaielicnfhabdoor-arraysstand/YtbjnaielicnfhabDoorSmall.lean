/- Small facts of bytes and texts, used everywhere. -/
import Derived.Test.YtbjnaielicnfhabDoorSumMath
import Derived.WalkKit
namespace Go.Proofs.YtbjnaielicnfhabDoor
open Go.RowKit

theorem ret_si {a b : ByteArray} {k : IntKind} {n : Int} (h : a = b) : Ending.returned (.tuple #[.string a, .int k n]) = .returned (.tuple #[.string b, .int k n]) := by rw [h]

/-- The byte at a place. -/
def bat (l : List UInt8) (j : Nat) : UInt8 := l[j]?.getD 0
theorem bat_lt (l : List UInt8) (j : Nat) (h : j < l.length) : bat l j = l[j] := by simp [bat, h]
theorem bat_app (a b : List UInt8) (j : Nat) (h : j < a.length) : bat (a ++ b) j = bat a j := by simp [bat, List.getElem?_append_left h]
theorem bat_app_r (a b : List UInt8) (j : Nat) (h : a.length ≤ j) : bat (a ++ b) j = bat b (j - a.length) := by simp [bat, List.getElem?_append_right h]
theorem bat_take (l : List UInt8) (n j : Nat) (h : j < n) : bat (l.take n) j = bat l j := by simp [bat, h]
theorem bat_ba (s : ByteArray) (j : Nat) (h : j < s.size) : bat s.data.toList j = s[j] := by
  rw [bat_lt _ _ (by simpa using h)]; rfl

/-- The bytes from one place up to another. -/
def cut (l : List UInt8) (f i : Nat) : List UInt8 := (l.take i).drop f
theorem cut_length (l : List UInt8) (f i : Nat) (h : i ≤ l.length) : (cut l f i).length = i - f := by simp [cut]; omega
theorem cut_self (l : List UInt8) (i : Nat) : cut l i i = [] := by simp [cut]
theorem cut_app (a b : List UInt8) (f i : Nat) (h : i ≤ a.length) : cut (a ++ b) f i = cut a f i := by simp [cut, List.take_append_of_le_length h]

theorem hid {p : Prop} (h : p) : Hid p := h
theorem byte_eq (a b : UInt8) : ((a.toNat : Int) == (b.toNat : Int)) = decide (a = b) := by
  rw [Bool.eq_iff_iff]; simp only [beq_iff_eq, decide_eq_true_eq, Int.natCast_inj, UInt8.toNat_inj]

theorem ba_len (s : ByteArray) : s.data.toList.length = s.size := by simp

theorem ext_list (s : ByteArray) (a b : Nat) : (s.extract a b).data.toList = cut s.data.toList a b := by
  rw [cut, ByteArray.data_extract, Array.toList_extract, List.extract_eq_drop_take', List.drop_take]
theorem str_of (s : ByteArray) : str s.data.toList = s := by simp [str]
theorem ext_str (s : ByteArray) (a b : Nat) : s.extract a b = str (cut s.data.toList a b) := by rw [← ext_list, str_of]
theorem ext_size (s : ByteArray) (a b : Nat) (h : b ≤ s.size) : (s.extract a b).size = b - a := by
  rw [ByteArray.size_extract]; omega

theorem bcell {W w1 : World} (hb : Below W.heap.size W w1) : (∀ b o, b < W.heap.size → w1.cell? ⟨b, o, none⟩ = W.cell? ⟨b, o, none⟩) ∧ (∀ b o, b < W.heap.size → w1.frozen? ⟨b, o, none⟩ = W.frozen? ⟨b, o, none⟩) :=
  ⟨fun b o h => hb.cell (p := ⟨b, o, none⟩) h, fun b o h => hb.frozen (p := ⟨b, o, none⟩) h⟩
end Go.Proofs.YtbjnaielicnfhabDoor
