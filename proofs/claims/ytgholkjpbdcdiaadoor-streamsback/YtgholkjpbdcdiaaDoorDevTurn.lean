/- What the program's device.Turn answers. -/
import Derived.Test.YtgholkjpbdcdiaaDoorDevWrite
import Derived.Test.YtgholkjpbdcdiaaDoorTurned
namespace Go.Proofs.YtgholkjpbdcdiaaDoor
open Go.RowKit Go.Lib

/-- What the closure makes of a sector. -/
def turnE (s : ByteArray) (l : Bool) (place by_ : Int) : ByteArray × Bool × Int := if 0 ≤ place ∧ place < 30 ∧ 0 ≤ by_ ∧ by_ ≤ 255 then (str (upBy s.data.toList place.toNat by_), l, 0) else (str [], false, 2)

/-- The bytes with one of them turned come back as a text, in whatever world has those cells. -/
theorem conv_back2 (w wx : World) {v : Int} {k : Nat} {C : Array Value} (hx : ∀ a, wx.cell? a = ((w.alloc (.cells C 5 (C.size, C.size + 1))).setCell ⟨w.heap.size, k, none⟩ (.int .u8 v)).cell? a) (s : ByteArray) (cap : Nat) (hk : k < s.size) (v0 : 0 ≤ v) (v1 : v < 256) (hcell : ∀ j (hj : j < s.size), C[j]? = some (.int .u8 (s[j].toNat : Int))) :
    (convert 48 9 (.slice (some ⟨w.heap.size, 0, none⟩) s.size cap)).run Tryd.prog wx = .ok (.string (str (s.data.toList.set k (byt v)))) wx := by
  have hlen : (s.data.toList.set k (byt v)).length = s.size := by rw [List.length_set, Array.length_toList]; rfl
  have h := run_convert_bytes_back (P := Tryd.prog) wx 48 9 5 ⟨w.heap.size, 0, none⟩ cap (s.data.toList.set k (byt v)) Tryd.underlying48 Tryd.underlying5 Tryd.underlying9 (by
    intro j hj
    have hj' : j < s.size := by rw [hlen] at hj; exact hj
    rw [hx, Addr.add_lit, Nat.zero_add, List.getElem_set]
    by_cases e : k = j
    · subst e
      rw [World.cell?_setCell_same _ _ _ (u := .int .u8 (s[k].toNat : Int)) (by rw [World.cell?_alloc_mark]; exact hcell k hk)]
      simp [byt_nat v v0 v1]
    · rw [World.cell?_setCell_other _ _ _ _ (fun x => e (congrArg Addr.off x)), World.cell?_alloc_mark, hcell j hj', if_neg e]
      rfl)
  rw [hlen] at h
  exact h

theorem turnE_size (s : ByteArray) (l : Bool) (place by_ : Int) (hs : s.size = 30) : (turnE s l place by_).1.size ≤ 281474976710656 := by
  unfold turnE
  split
  · show (str _).size ≤ _
    rw [str_size, upBy, List.length_set, ba_len]; omega
  · show (str _).size ≤ _
    rw [str_size]; simp

end Go.Proofs.YtgholkjpbdcdiaaDoor
