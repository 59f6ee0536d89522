/- Two and four bytes as a text. -/
import Derived.Test.YtkhjmfngeidlcaaRows
import Derived.Test.YtkhjmfngeidlcaaLow
import Derived.WalkKit
import Derived.WalkLawsBesides
import Derived.Laws.IdiomStrings
namespace Go.Proofs.Ytkhjmfngeidlcaa
open Go.RowKit

theorem conv_two (n m : Int) (h0 : 0 ≤ n) (h1 : n < 256) (g0 : 0 ≤ m) (g1 : m < 256) (w : World) :
    (convert 52 9 (.slice (some ⟨w.heap.size, 0, none⟩) 2 2)).run Try.prog (w.alloc (.cells #[.int .u8 n, .int .u8 m] 5))
      = .ok (.string (str [byt n, byt m])) (w.alloc (.cells #[.int .u8 n, .int .u8 m] 5)) := by
  have h := run_convert_bytes_back (P := Try.prog) (w.alloc (.cells #[.int .u8 n, .int .u8 m] 5)) 52 9 5 ⟨w.heap.size, 0, none⟩ 2 [byt n, byt m] Try.underlying52 Try.underlying5 Try.underlying9 (by
    intro j hj
    match j, hj with
    | 0, _ => simp [Addr.add, World.cell?_alloc_mark, byt_nat n h0 h1]
    | 1, _ => simp [Addr.add, World.cell?_alloc_mark, byt_nat m g0 g1])
  exact h
theorem conv_four (n m k l : Int) (h0 : 0 ≤ n) (h1 : n < 256) (g0 : 0 ≤ m) (g1 : m < 256) (i0 : 0 ≤ k) (i1 : k < 256) (j0 : 0 ≤ l) (j1 : l < 256) (w : World) :
    (convert 52 9 (.slice (some ⟨w.heap.size, 0, none⟩) 4 4)).run Try.prog (w.alloc (.cells #[.int .u8 n, .int .u8 m, .int .u8 k, .int .u8 l] 5))
      = .ok (.string (str [byt n, byt m, byt k, byt l])) (w.alloc (.cells #[.int .u8 n, .int .u8 m, .int .u8 k, .int .u8 l] 5)) := by
  have h := run_convert_bytes_back (P := Try.prog) (w.alloc (.cells #[.int .u8 n, .int .u8 m, .int .u8 k, .int .u8 l] 5)) 52 9 5 ⟨w.heap.size, 0, none⟩ 4 [byt n, byt m, byt k, byt l] Try.underlying52 Try.underlying5 Try.underlying9 (by
    intro j hj
    match j, hj with
    | 0, _ => simp [Addr.add, World.cell?_alloc_mark, byt_nat n h0 h1]
    | 1, _ => simp [Addr.add, World.cell?_alloc_mark, byt_nat m g0 g1]
    | 2, _ => simp [Addr.add, World.cell?_alloc_mark, byt_nat k i0 i1]
    | 3, _ => simp [Addr.add, World.cell?_alloc_mark, byt_nat l j0 j1])
  exact h
end Go.Proofs.Ytkhjmfngeidlcaa
