/- Arrays of devices, purely: what may be, what is read, written, replaced. -/
import Derived.Test.YtbjnaielicnfhabDoorDevMath
namespace Go.Proofs.YtbjnaielicnfhabDoor
open Go.RowKit

/-- An array: its devices. -/
abbrev Ar := List Dv
def dev (A : Ar) (i : Nat) : Dv := A[i]?.getD nil2
def many (A : Ar) : Nat := (dev A 0).1.length
def arMay (A : Ar) : Bool := decide (A.length = 3) && A.all dvMay && decide (16 ≤ many A ∧ many A ≤ 64 ∧ many A % 2 = 0 ∧ (dev A 1).1.length = many A ∧ (dev A 2).1.length = many A / 2)
def arChk (A : Ar) : Int := if arMay A = true then 0 else 9
def arTouch (A : Ar) (n : Int) : Int := if arMay A = true then (if 0 ≤ n ∧ n < many A then 0 else 6) else 9
/-- The other one of a sector's two. -/
def part (n : Nat) : Nat := if n % 2 = 0 then n + 1 else n - 1
/-- What the mirrors tell of a sector, and how. -/
def mirr (A : Ar) (n : Nat) : List UInt8 × Int :=
  if (dvRead (dev A 0) n n).2 = 0 then ((dvRead (dev A 0) n n).1, 1) else if (dvRead (dev A 1) n n).2 = 0 then ((dvRead (dev A 1) n n).1, 2) else ([], 0)
def xors (s t : List UInt8) : List UInt8 := List.zipWith (fun x y => x ^^^ y) s t
/-- What the third device tells. -/
def pari (A : Ar) (n : Nat) : List UInt8 × Int := dvRead (dev A 2) ((n / 2 : Nat) : Int) ((512 + n / 2 : Nat) : Int)
/-- What is read of a sector that there is. -/
def tell (A : Ar) (n : Nat) : List UInt8 × Int × Int :=
  if 0 < (mirr A n).2 then ((mirr A n).1, (mirr A n).2, 0) else if (mirr A (part n)).2 = 0 ∨ (pari A n).2 ≠ 0 then ([], 0, 11) else (xors (pari A n).1 (mirr A (part n)).1, 3, 0)
def arRead (A : Ar) (n : Int) : List UInt8 × Int × Int := if arTouch A n = 0 then tell A n.toNat else ([], 0, arTouch A n)
/-- A sector on both mirrors. -/
def both (A : Ar) (n : Nat) (s : List UInt8) : Ar := (A.set 0 (dvWrite (dev A 0) n n s).1).set 1 (dvWrite (dev A 1) n n s).1
/-- A sector written, that there is. -/
def put (A : Ar) (n : Nat) (s : List UInt8) : Ar :=
  let r := tell A (part n)
  let B := both (if r.2.2 = 0 ∧ r.2.1 = 3 then both A (part n) r.1 else A) n s
  if r.2.2 = 0 then B.set 2 (dvWrite (dev B 2) ((n / 2 : Nat) : Int) ((512 + n / 2 : Nat) : Int) (xors (pad s) r.1)).1 else B.set 2 (dvLose (dev B 2) ((n / 2 : Nat) : Int)).1
def arWrite (A : Ar) (n : Int) (s : List UInt8) : Ar × Int := if arTouch A n = 0 then (if 24 < s.length then ([], 1) else (put A n.toNat s, 0)) else ([], arTouch A n)
def arNew (n : Int) : Ar × Int := if 16 ≤ n ∧ n ≤ 64 ∧ n % 2 = 0 then ([(dvNew n 0).1, (dvNew n 0).1, (dvNew (n / 2) 512).1], 0) else ([], 2)
/-- A new device of which all is lost. -/
def blank (D : Dv) : Dv := (D.1, List.replicate D.2.length true)
def arReplace (A : Ar) (d : Int) : Ar × Int := if arMay A = true then (if 0 ≤ d ∧ d ≤ 2 then (A.set d.toNat (blank (dev (arNew (many A)).1 d.toNat)), 0) else ([], 2)) else ([], 9)

theorem arMay_iff (A : Ar) : arMay A = true ↔ A.length = 3 ∧ (∀ D ∈ A, dvMay D = true) ∧ 16 ≤ many A ∧ many A ≤ 64 ∧ many A % 2 = 0 ∧ (dev A 1).1.length = many A ∧ (dev A 2).1.length = many A / 2 := by
  simp [arMay, and_assoc]
theorem arTouch_ok (A : Ar) (n : Int) (h : arTouch A n = 0) : arMay A = true ∧ 0 ≤ n ∧ n < many A := by
  unfold arTouch at h
  split at h
  · rename_i hm
    split at h
    · rename_i hn
      exact ⟨hm, hn.1, hn.2⟩
    · cases h
  · cases h
theorem dev_mem (A : Ar) (i : Nat) (h : i < A.length) : dev A i ∈ A := by simp [dev, h]
theorem dev_lt (A : Ar) (i : Nat) (h : i < A.length) : dev A i = A[i] := by simp [dev, h]
theorem part_lt (n m : Nat) (h : n < m) (hm : m % 2 = 0) : part n < m := by unfold part; split <;> omega
theorem part_part (n : Nat) : part (part n) = n := by unfold part; split <;> split <;> omega
theorem part_half (n : Nat) : part n / 2 = n / 2 := by unfold part; split <;> omega
theorem part_ne (n : Nat) : part n ≠ n := by unfold part; split <;> omega
end Go.Proofs.YtbjnaielicnfhabDoor
