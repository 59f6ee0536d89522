/- How many sectors so many bytes need, purely. -/
import Derived.Test.YtkhjmfngeidlcaaLow
namespace Go.Proofs.Ytkhjmfngeidlcaa

/-- Sectors that so many bytes need. -/
def secs (n : Nat) : Nat := (n + 23) / 24
theorem secs_le (n : Nat) : n ≤ 24 * secs n := by unfold secs; omega
theorem secs_lt (n i : Nat) (h : i < secs n) : 24 * i < n := by unfold secs at h; omega
theorem secs_ge (n i : Nat) (h : n ≤ 24 * i) : secs n ≤ i := by unfold secs; omega
theorem secs_64 (n : Nat) (h : n ≤ 1536) : secs n ≤ 64 := by unfold secs; omega
end Go.Proofs.Ytkhjmfngeidlcaa
