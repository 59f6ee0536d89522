/- What the document's own ArrayCopy answers: the same array in memory of its own. -/
import Derived.Test.YtahoagbaadnihabGreatDoorMem2
import Derived.Test.YtahoagbaadnihabGreatDoorMem
import Derived.Test.YtahoagbaadnihabGreatDoorSecA
import Derived.Handy
import Derived.Deep.RegionLaw
import Derived.BigRegion
import Derived.Test.YtahoagbaadnihabGreatDoorLow
import Derived.Deep.RegionWith
import Derived.Deep.DeepCutAuto
namespace Go.Proofs.YtahoagbaadnihabGreatDoor
open Go.RowKit Go.Lib

/-- A device's own rows stay where a row of devices grows. -/
theorem DevNew.grown {B : Nat} {w w' : World} {x y : Option Addr} {D : Dv} (h : DevNew B w x y D) {base k : Nat} {v : Value} {xs : List Value} (hv : w.ownsRow base 65 2 v k xs) (g : w.grownBy w' v.ownBlock) : DevNew B w' x y D := by
  have keep : ∀ {b t : Nat} {V : List Value}, Own w b t V → t ≠ 65 → Own w' b t V := by
    intro b t V ho ht
    refine ho.of_block (g.block b ho.lt (fun e => ?_))
    rcases hv.2 with ⟨rfl, _⟩ | ⟨g', cap, cur, rfl, _, hg, _⟩
    · simp [Value.ownBlock] at e
    · have : b = g' := by simpa [Value.ownBlock] using e
      subst this
      obtain ⟨R, hR⟩ := ho
      rw [hg] at hR
      cases hR
      exact ht rfl
  refine ⟨?_, ?_, h.apart⟩
  · rcases h.S with e | ⟨b, h1, h2, h3⟩
    · exact .inl e
    · exact .inr ⟨b, h1, h2, keep h3 (by decide)⟩
  · rcases h.L with e | ⟨b, h1, h2, h3⟩
    · exact .inl e
    · exact .inr ⟨b, h1, h2, keep h3 (by decide)⟩
section
variable {w W W' : World} {a : Option Addr} {n c : Nat} {A : Ar} {h : Nat → Hd} {k : Nat} {v : Value}
end
end Go.Proofs.YtahoagbaadnihabGreatDoor
