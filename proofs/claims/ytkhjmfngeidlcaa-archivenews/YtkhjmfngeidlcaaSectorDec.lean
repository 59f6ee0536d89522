/- What the program's sector.Decode answers: the very bytes and the very error of 'decd'; nothing that was there is changed. -/
import Derived.Test.YtkhjmfngeidlcaaLow
import Derived.Test.YtkhjmfngeidlcaaSumWalks
import Derived.Test.YtkhjmfngeidlcaaShelf
import Derived.Deep.RegionWith
import Derived.Deep.QuietTactic
import Derived.BigQuiet
import Derived.Laws.BitsAllLaws
namespace Go.Proofs.Ytkhjmfngeidlcaa
open Go.RowKit Go.Lib

theorem seal_test2 (s : ByteArray) (h : s.size = 30) : ((s.extract 26 30).toList == (str (sealOf (s.extract 0 26).data.toList)).toList) = decide (s.data.toList.drop 26 = sealOf (s.data.toList.take 26)) := by
  have e1 : (s.extract 0 26).data.toList = s.data.toList.take 26 := by rw [ext_list, cut, List.drop_zero]
  have e2 : (s.extract 26 30).data.toList = s.data.toList.drop 26 := by rw [ext_list, cut, List.take_of_length_le (by rw [ba_len]; omega)]
  rw [ByteArray.toList_eq, ByteArray.toList_eq, str_list, e1, e2, Bool.eq_iff_iff]
  simp only [beq_iff_eq, decide_eq_true_eq]

theorem or_bytes (x y : Nat) (hx : x < 256) (hy : y < 256) : bits .or .i64 ((x : Int) * 256) (y : Int) = (256 : Int) * (x : Int) + (y : Int) := by
  have e : (x : Int) * 256 = ((x * 256 : Nat) : Int) := by omega
  have o : x * 256 ||| y = x * 256 + y := by rw [← Nat.shiftLeft_eq x 8, Nat.shiftLeft_add_eq_or_of_lt hy]
  rw [e]
  show IntKind.i64.wrap ((BitVec.ofInt 64 ((x * 256 : Nat) : Int) ||| BitVec.ofInt 64 (y : Int)).toNat : Int) = _
  rw [BitVec.toNat_or, ofInt_u64 _ (by omega), ofInt_u64 _ (by omega), o, IntKind.wrap_i64]
  omega

end Go.Proofs.Ytkhjmfngeidlcaa
