/- Sectors as plain mathematics: a number's two bytes, a payload with 0s behind it, a seal; what is read of bytes; that what was written is read, and that spoilt bytes are not. -/
import Derived.Test.YtbjnaielicnfhabDoorSmall
namespace Go.Proofs.YtbjnaielicnfhabDoor

/-- A payload with 0s behind it. -/
def pad (l : List UInt8) : List UInt8 := l ++ List.replicate (24 - l.length) 0
theorem pad_length (l : List UInt8) (h : l.length ≤ 24) : (pad l).length = 24 := by simp [pad]; omega
/-- All of a sector ahead of its seal. -/
def body (no : Int) (l : List UInt8) : List UInt8 := be2 no ++ pad l
theorem body_length (no : Int) (l : List UInt8) (h : l.length ≤ 24) : (body no l).length = 26 := by rw [body, List.length_append, pad_length l h]; rfl
/-- Bytes with their seal behind them. -/
def sealed (l : List UInt8) : List UInt8 := l ++ sealOf l
theorem sealed_length (l : List UInt8) : (sealed l).length = l.length + 4 := by rw [sealed, List.length_append, sealOf_length]
/-- A sector as it stands on a device, and the error. -/
def encd (no : Int) (l : List UInt8) : List UInt8 × Int :=
  if no < 0 ∨ 65535 < no then ([], 2) else if 24 < l.length then ([], 1) else (sealed (body no l), 0)
/-- The number of a sector's bytes. -/
def numb (l : List UInt8) : Int := 256 * (bat l 0).toNat + (bat l 1).toNat
/-- What is read of bytes, and the error. -/
def decd (no : Int) (l : List UInt8) : List UInt8 × Int :=
  if l.length ≠ 30 then ([], 1) else if l.drop 26 ≠ sealOf (l.take 26) then ([], 10) else if numb l ≠ no then ([], 4) else (cut l 2 26, 0)

theorem encd_ok (no : Int) (l : List UInt8) (h0 : 0 ≤ no) (h1 : no ≤ 65535) (hl : l.length ≤ 24) : encd no l = (sealed (body no l), 0) := by
  rw [encd, if_neg (by omega), if_neg (by omega)]
theorem numb_be2 (no : Int) (r : List UInt8) (h0 : 0 ≤ no) (h1 : no ≤ 65535) : numb (be2 no ++ r) = no := by
  have e1 : bat (be2 no ++ r) 0 = byt (no / 256) := rfl
  have e2 : bat (be2 no ++ r) 1 = byt (no % 256) := rfl
  rw [numb, e1, e2, byt_nat _ (by omega) (by omega), byt_nat _ (by omega) (by omega)]
  omega
/-- Sealed bytes, read. -/
theorem decd_sealed (no k : Int) (p : List UInt8) (h0 : 0 ≤ no) (h1 : no ≤ 65535) (hp : p.length = 24) :
    decd k (sealed (be2 no ++ p)) = if no ≠ k then ([], 4) else (p, 0) := by
  have hb : (be2 no ++ p).length = 26 := by rw [List.length_append, hp]; rfl
  have ht : (sealed (be2 no ++ p)).take 26 = be2 no ++ p := by rw [sealed, ← hb]; exact List.take_left
  have hd : (sealed (be2 no ++ p)).drop 26 = sealOf (be2 no ++ p) := by rw [sealed, ← hb]; exact List.drop_left
  have hn : numb (sealed (be2 no ++ p)) = no := by rw [sealed, List.append_assoc]; exact numb_be2 no _ h0 h1
  have hc : cut (sealed (be2 no ++ p)) 2 26 = p := by rw [cut, ht]; rfl
  rw [decd, if_neg (by rw [sealed_length, hb]; simp), ht, hd, if_neg (by simp), hn, hc]
theorem decd_encd (no : Int) (l : List UInt8) (h0 : 0 ≤ no) (h1 : no ≤ 65535) (hl : l.length ≤ 24) : decd no (encd no l).1 = (pad l, 0) := by
  rw [encd_ok no l h0 h1 hl, body, decd_sealed no no (pad l) h0 h1 (pad_length l hl), if_neg (by simp)]
theorem decd_other (no k : Int) (l : List UInt8) (h0 : 0 ≤ no) (h1 : no ≤ 65535) (hl : l.length ≤ 24) (hk : no ≠ k) : decd k (encd no l).1 = ([], 4) := by
  rw [encd_ok no l h0 h1 hl, body, decd_sealed no k (pad l) h0 h1 (pad_length l hl), if_pos hk]

/-- A seal of which one byte is another one is another seal. -/
theorem decd_spoilt (no : Int) (b : List UInt8) (hb : b.length = 26) (k : Nat) (hk : k < 30) (d : UInt8) (hd : d ≠ bat (sealed b) k) : decd no ((sealed b).set k d) = ([], 10) := by
  have hl : (sealed b).length = 30 := by rw [sealed_length, hb]
  rw [decd, if_neg (by rw [List.length_set, hl]; simp), if_pos]
  by_cases h : k < 26
  · have e : (sealed b).set k d = b.set k d ++ sealOf b := by rw [sealed, List.set_append_left _ _ (by omega)]
    have hl' : (b.set k d).length = 26 := by rw [List.length_set, hb]
    rw [e, List.drop_left' hl', List.take_left' hl']
    rw [sealed, bat_app _ _ _ (by omega), bat_lt _ _ (by omega)] at hd
    exact fun x => sealOf_other b k (by omega) d hd x.symm
  · have e : (sealed b).set k d = b ++ (sealOf b).set (k - 26) d := by rw [sealed, List.set_append_right _ _ (by omega), hb]
    rw [e, List.drop_left' hb, List.take_left' hb]
    rw [sealed, bat_app_r _ _ _ (by omega), hb, bat_lt _ _ (by rw [sealOf_length]; omega)] at hd
    intro x
    have hj : k - 26 < (sealOf b).length := by rw [sealOf_length]; omega
    have := congrArg (fun l => l[k - 26]?) x
    simp [hj] at this
    exact hd this
end Go.Proofs.YtbjnaielicnfhabDoor
