/- Unpacking from a place on: one step each way. -/
import Derived.Test.YtlndioefemdpjaaPressMath
namespace Go.Proofs.Ytlndioefemdpjaa

/-- What is unpacked from place i on. -/
def unpAt (O l : List UInt8) (i : Nat) : List UInt8 × Int := unp O (l.drop i)
theorem unpAt_end (O l : List UInt8) (i : Nat) (h : l.length ≤ i) : unpAt O l i = (O, 0) := by rw [unpAt, List.drop_eq_nil_of_le h, unp_nil]
theorem bat_drop (l : List UInt8) (i : Nat) : bat (l.drop i) 0 = bat l i := by simp [bat]
theorem bat_drop1 (l : List UInt8) (i : Nat) : bat (l.drop i) 1 = bat l (i + 1) := by simp [bat]
theorem cut_from (l : List UInt8) (i n : Nat) : cut l i (i + n) = (l.drop i).take n := by rw [cut, List.take_drop]
theorem unpAt_short (O l : List UInt8) (i : Nat) (h : i < l.length) (hc : (bat l i).toNat < 128) (hs : l.length < i + 2 + (bat l i).toNat) : unpAt O l i = ([], 5) := by
  rw [unpAt, unp_eq _ _ (by simp; omega), bat_drop, if_pos hc, if_pos (by simp; omega)]
theorem unpAt_size (O l : List UInt8) (i : Nat) (h : i < l.length) (hc : (bat l i).toNat < 128) (hs : i + 2 + (bat l i).toNat ≤ l.length) (h6 : 600 < O.length + ((bat l i).toNat + 1)) : unpAt O l i = ([], 1) := by
  rw [unpAt, unp_eq _ _ (by simp; omega), bat_drop, if_pos hc, if_neg (by simp; omega), if_pos h6]
theorem unpAt_plain (O l : List UInt8) (i : Nat) (h : i < l.length) (hc : (bat l i).toNat < 128) (hs : i + 2 + (bat l i).toNat ≤ l.length) (h6 : O.length + ((bat l i).toNat + 1) ≤ 600) :
    unpAt O l i = unpAt (O ++ cut l (i + 1) (i + 2 + (bat l i).toNat)) l (i + 2 + (bat l i).toNat) := by
  rw [unpAt, unp_eq _ _ (by simp; omega), bat_drop, if_pos hc, if_neg (by simp; omega), if_neg (by omega), unpAt, List.drop_drop, List.drop_drop, ← cut_from]
  rw [show i + 1 + ((bat l i).toNat + 1) = i + 2 + (bat l i).toNat by omega, show i + ((bat l i).toNat + 2) = i + 2 + (bat l i).toNat by omega]
theorem unpAt_short2 (O l : List UInt8) (i : Nat) (h : i < l.length) (hc : 128 ≤ (bat l i).toNat) (hs : l.length < i + 2) : unpAt O l i = ([], 5) := by
  rw [unpAt, unp_eq _ _ (by simp; omega), bat_drop, if_neg (by omega), if_pos (by simp; omega)]
theorem unpAt_form (O l : List UInt8) (i : Nat) (hc : 128 ≤ (bat l i).toNat) (hs : i + 2 ≤ l.length) (hf : (bat l (i + 1)).toNat = 0 ∨ O.length < (bat l (i + 1)).toNat) : unpAt O l i = ([], 4) := by
  rw [unpAt, unp_eq _ _ (by simp; omega), bat_drop, bat_drop1, if_neg (by omega), if_neg (by simp; omega), if_pos hf]
theorem unpAt_size2 (O l : List UInt8) (i : Nat) (hc : 128 ≤ (bat l i).toNat) (hs : i + 2 ≤ l.length) (hf : ¬ ((bat l (i + 1)).toNat = 0 ∨ O.length < (bat l (i + 1)).toNat)) (h6 : 600 < O.length + ((bat l i).toNat - 124)) : unpAt O l i = ([], 1) := by
  rw [unpAt, unp_eq _ _ (by simp; omega), bat_drop, bat_drop1, if_neg (by omega), if_neg (by simp; omega), if_neg hf, if_pos h6]
theorem unpAt_piece (O l : List UInt8) (i : Nat) (hc : 128 ≤ (bat l i).toNat) (hs : i + 2 ≤ l.length) (hf : ¬ ((bat l (i + 1)).toNat = 0 ∨ O.length < (bat l (i + 1)).toNat)) (h6 : O.length + ((bat l i).toNat - 124) ≤ 600) :
    unpAt O l i = unpAt (piece O (bat l (i + 1)).toNat ((bat l i).toNat - 124)) l (i + 2) := by
  rw [unpAt, unp_eq _ _ (by simp; omega), bat_drop, bat_drop1, if_neg (by omega), if_neg (by simp; omega), if_neg hf, if_neg (by omega), unpAt, List.drop_drop]
end Go.Proofs.Ytlndioefemdpjaa
