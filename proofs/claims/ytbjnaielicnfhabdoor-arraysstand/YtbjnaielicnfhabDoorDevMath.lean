/- Devices, purely: what may be, what is read, written, lost, turned. -/
import Derived.Test.YtbjnaielicnfhabDoorSectorMath
import Derived.Test.YtbjnaielicnfhabDoorSmall
namespace Go.Proofs.YtbjnaielicnfhabDoor
open Go.RowKit

/-- A device: its sectors, and which of them are lost. -/
abbrev Dv := List ByteArray × List Bool
def sec (D : Dv) (k : Nat) : ByteArray := D.1[k]?.getD (str [])
def los (D : Dv) (k : Nat) : Bool := D.2[k]?.getD false
def nil2 : Dv := ([], [])
def dvMay (D : Dv) : Bool := decide (1 ≤ D.1.length ∧ D.1.length ≤ 64 ∧ D.2.length = D.1.length) && D.1.all fun s => s.size == 30
def dvChk (D : Dv) : Int := if dvMay D = true then 0 else 9
def dvTouch (D : Dv) (n : Int) : Int := if dvMay D = true then (if 0 ≤ n ∧ n < D.1.length then 0 else 6) else 9
def dvPut (D : Dv) (k : Nat) (s : ByteArray) (l : Bool) : Dv := (D.1.set k s, D.2.set k l)
/-- A sector changed into what f makes of it. -/
def dvChange (D : Dv) (n : Int) (r : ByteArray × Bool × Int) : Dv × Int :=
  if dvTouch D n = 0 then (if r.2.2 = 0 then (dvPut D n.toNat r.1 r.2.1, 0) else (nil2, r.2.2)) else (nil2, dvTouch D n)
def dvRead (D : Dv) (n no : Int) : List UInt8 × Int :=
  if dvTouch D n = 0 then (if los D n.toNat = true then ([], 11) else decd no (sec D n.toNat).data.toList) else ([], dvTouch D n)
def dvWrite (D : Dv) (n no : Int) (s : List UInt8) : Dv × Int := dvChange D n (str (encd no s).1, false, (encd no s).2)
def dvLose (D : Dv) (n : Int) : Dv × Int := dvChange D n (sec D n.toNat, true, 0)
/-- A text with one byte more by so much. -/
def upBy (l : List UInt8) (k : Nat) (c : Int) : List UInt8 := l.set k (byt (((bat l k).toNat + c) % 256))
def dvTurn (D : Dv) (n place by_ : Int) : Dv × Int :=
  dvChange D n (if 0 ≤ place ∧ place < 30 ∧ 0 ≤ by_ ∧ by_ ≤ 255 then (str (upBy (sec D n.toNat).data.toList place.toNat by_), los D n.toNat, 0) else (str [], false, 2))
def dvNew (many start : Int) : Dv × Int :=
  if 1 ≤ many ∧ many ≤ 64 ∧ 0 ≤ start ∧ start ≤ 512 then (((List.range many.toNat).map fun (i : Nat) => str (encd (start + i) []).1, List.replicate many.toNat false), 0) else (nil2, 2)

theorem dvMay_iff (D : Dv) : dvMay D = true ↔ (1 ≤ D.1.length ∧ D.1.length ≤ 64 ∧ D.2.length = D.1.length) ∧ ∀ s ∈ D.1, s.size = 30 := by
  simp [dvMay]
theorem sec_lt (D : Dv) (k : Nat) (h : k < D.1.length) : sec D k = D.1[k] := by simp [sec, h]
theorem los_lt (D : Dv) (k : Nat) (h : k < D.2.length) : los D k = D.2[k] := by simp [los, h]
theorem sec_size (D : Dv) (k : Nat) (h : dvMay D = true) (hk : k < D.1.length) : (sec D k).size = 30 := by
  rw [sec_lt D k hk]; exact ((dvMay_iff D).1 h).2 _ (List.getElem_mem hk)
theorem touch_ok (D : Dv) (n : Int) (h : dvTouch D n = 0) : dvMay D = true ∧ 0 ≤ n ∧ n < D.1.length ∧ D.2.length = D.1.length ∧ D.1.length ≤ 64 := by
  unfold dvTouch at h
  split at h
  · rename_i hm
    split at h
    · rename_i hn
      have := ((dvMay_iff D).1 hm).1
      exact ⟨hm, hn.1, hn.2, this.2.2, this.2.1⟩
    · cases h
  · cases h
theorem dvPut_self (D : Dv) (k : Nat) (l : Bool) (h : k < D.1.length) : dvPut D k (sec D k) l = (D.1, D.2.set k l) := by
  rw [dvPut, sec_lt D k h, List.set_getElem_self]
theorem change_dv (D : Dv) (k : Nat) (r : ByteArray × Bool × Int) (h : dvTouch D k = 0) : dvChange D k r = if r.2.2 = 0 then (dvPut D k r.1 r.2.1, 0) else (nil2, r.2.2) := by
  rw [dvChange, if_pos h]; simp
theorem put_len (D : Dv) (k : Nat) (s : ByteArray) (l : Bool) : (dvPut D k s l).1.length = D.1.length ∧ (dvPut D k s l).2.length = D.2.length := by simp [dvPut]
end Go.Proofs.YtbjnaielicnfhabDoor
