/- Joined texts: KeepFill, KeepHurt. -/
import Derived.Test.YtahoagbaadnihabGreatDoorKeepData
import Derived.Test.YtahoagbaadnihabGreatDoorDevB
import Derived.Test.YtahoagbaadnihabGreatDoorShelf
import Derived.Deep.RegionLaw
import Derived.Test.YtahoagbaadnihabGreatDoorArrA
import Derived.Test.YtahoagbaadnihabGreatDoorArrB
import Derived.Test.YtahoagbaadnihabGreatDoorHigh
import Derived.Test.YtahoagbaadnihabGreatDoorArrN
import Derived.Test.YtahoagbaadnihabGreatDoorDevC
/- What 'filled' answers: a whole array and its payloads. -/
namespace Go.Proofs.YtahoagbaadnihabGreatDoor
open Go.RowKit Go.Lib

/-- Cells stay where something is stored over what none of them is. -/
theorem RowAt.but {w : World} {x : Option Addr} {V : List Value} (h : RowAt w x V) {p : Addr} {c : Value} (hp : w.cell? p = some c) (hV : c ∉ V) (u : Value) : RowAt (w.setCell p u) x V := by
  intro i v hv
  obtain ⟨b, o, e, hlt, hc⟩ := h i v hv
  refine ⟨b, o, e, by simpa [World.setCell] using hlt, ?_⟩
  rw [World.cell?_setCell_other _ _ _ _ (fun e2 => ?_)]
  · exact hc
  · rw [e2, hc] at hp
    exact hV (Option.some.inj hp ▸ List.mem_of_getElem? hv)
section
variable {w W W' : World} {pr pa b2 N : Nat} {aa al : List (List UInt8)}
end

end Go.Proofs.YtahoagbaadnihabGreatDoor

/- What 'hurt' answers: the array with all that was done to its devices. -/
namespace Go.Proofs.YtahoagbaadnihabGreatDoor
open Go.RowKit Go.Lib

def nilAct : Hact := ⟨0, 0, 0, 0, 0⟩
def act (L : List Hact) (i : Nat) : Hact := L[i]?.getD nilAct
/-- Acts stand from a place of a block on. -/
structure Acts (w : World) (b o n : Nat) (L : List Hact) : Prop where
  sn : n = L.length
  nb : n ≤ maxLen
  lt : b < w.heap.size
  c0 : ∀ i, i < n → w.cell? ⟨b, o + i * 7, none⟩ = some (.int .i64 (act L i).kind)
  c1 : ∀ i, i < n → w.cell? ⟨b, o + i * 7 + 1, none⟩ = some (.slice none 0 0)
  c2 : ∀ i, i < n → w.cell? ⟨b, o + i * 7 + 2, none⟩ = some (.string ⟨#[]⟩)
  c3 : ∀ i, i < n → w.cell? ⟨b, o + i * 7 + 3, none⟩ = some (.int .i64 (act L i).d)
  c4 : ∀ i, i < n → w.cell? ⟨b, o + i * 7 + 4, none⟩ = some (.int .i64 (act L i).n)
  c5 : ∀ i, i < n → w.cell? ⟨b, o + i * 7 + 5, none⟩ = some (.int .i64 (act L i).at_)
  c6 : ∀ i, i < n → w.cell? ⟨b, o + i * 7 + 6, none⟩ = some (.int .i64 (act L i).by_)
def ActsAt (w : World) (a : Option Addr) (n : Nat) (L : List Hact) : Prop := (n = 0 ∧ L = []) ∨ ∃ b o, a = some ⟨b, o, none⟩ ∧ Acts w b o n L
section
variable {w w' : World} {a : Option Addr} {b o n : Nat} {L : List Hact}
theorem Acts.below (H : Acts w b o n L) (g : Below w.heap.size w w') : Acts w' b o n L :=
  ⟨H.sn, H.nb, Nat.lt_of_lt_of_le H.lt g.size, fun i hi => (g.cell (p := ⟨b, o + i * 7, none⟩) H.lt).trans (H.c0 i hi), fun i hi => (g.cell (p := ⟨b, o + i * 7 + 1, none⟩) H.lt).trans (H.c1 i hi),
    fun i hi => (g.cell (p := ⟨b, o + i * 7 + 2, none⟩) H.lt).trans (H.c2 i hi), fun i hi => (g.cell (p := ⟨b, o + i * 7 + 3, none⟩) H.lt).trans (H.c3 i hi),
    fun i hi => (g.cell (p := ⟨b, o + i * 7 + 4, none⟩) H.lt).trans (H.c4 i hi), fun i hi => (g.cell (p := ⟨b, o + i * 7 + 5, none⟩) H.lt).trans (H.c5 i hi), fun i hi => (g.cell (p := ⟨b, o + i * 7 + 6, none⟩) H.lt).trans (H.c6 i hi)⟩
theorem ActsAt.below (H : ActsAt w a n L) (g : Below w.heap.size w w') : ActsAt w' a n L := by
  rcases H with H | ⟨b, o, e, H⟩
  · exact .inl H
  · exact .inr ⟨b, o, e, H.below g⟩
theorem ActsAt.len (H : ActsAt w a n L) : n = L.length := by
  rcases H with ⟨h1, h2⟩ | ⟨b, o, e, H⟩
  · rw [h1, h2]; rfl
  · exact H.sn
theorem ActsAt.nb (H : ActsAt w a n L) : n ≤ maxLen := by
  rcases H with ⟨h1, _⟩ | ⟨b, o, e, H⟩
  · rw [h1]; exact Nat.zero_le _
  · exact H.nb
end

theorem Arr.box {w : World} {b o n p : Nat} {h : Nat → Hd} {A : Ar} (H : Arr w b o n h A) (hp : p ≠ b) {a : Option Addr} {k c : Nat} (hc : w.cell? ⟨p, 0, none⟩ = some (.slice a k c)) (v : Value) : Arr (w.setCell ⟨p, 0, none⟩ v) b o n h A := by
  refine ⟨H.sn, H.nb, by have := H.lt; simpa [World.setCell] using this, fun i hi => ?_, fun i hi => ?_, fun i hi => (H.dv i hi).slices hc v⟩
  · rw [World.cell?_setCell_other _ _ _ _ (fun e => hp (congrArg Addr.block e))]; exact H.c0 i hi
  · rw [World.cell?_setCell_other _ _ _ _ (fun e => hp (congrArg Addr.block e))]; exact H.c1 i hi

section
variable {w W W' : World} {A A' : Ar}
end
end Go.Proofs.YtahoagbaadnihabGreatDoor
